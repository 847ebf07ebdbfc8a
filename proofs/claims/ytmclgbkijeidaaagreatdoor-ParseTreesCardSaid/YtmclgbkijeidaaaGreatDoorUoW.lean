import Derived.Test.YtmclgbkijeidaaaGreatDoorUoQaG
import Derived.Test.YtmclgbkijeidaaaGreatDoorUoV
import Derived.Test.YtmclgbkijeidaaaGreatDoorUoU
namespace Go.Proofs.YtmclgbkijeidaaaGreatDoor
set_option maxRecDepth 100000
set_option maxHeartbeats 4000000
open Go.RowKit
section
variable {T:Nat}{w w':World}{g:Nat}{st:Option Addr}{cap:Nat}{ts:List Tok}{p q:Nat}{bad bd:Bool}
def TkQ (T:Nat) (w:World) (g:Nat) (st:Option Addr) (cap:Nat) (ts:List Tok) (s:ByteArray) (q:Qs) (e:Ending) (w':World):Prop :=
 e=.returned (.agg (takT ts s q).cells)∧w.grownBy w' (some g)∧QdS T w' g st cap ts (takS ts s q)
theorem zfc {s:ByteArray}{q:Qs}{W:World}(h:(q.bad || !okQ ts q.p s)=true)(hg:w.grownBy W (some g))(hr:Qdr T W g st cap ts q.p true):TkQ T w g st cap ts s q (.returned (.agg tokZ.cells)) W:=by
 unfold TkQ takT takS;rw[h];exact⟨rfl,hg,hr⟩
theorem zi8 {s:ByteArray}{q:Qs}{W:World}(h:(q.bad || !okQ ts q.p s)=false)(hg:w.grownBy W (some g))(hr:Qdr T W g st cap ts (q.p+1) false):TkQ T w g st cap ts s q (.returned (.agg (nxQ ts q.p).cells)) W:=by
 unfold TkQ takT takS;rw[h];exact⟨rfl,hg,hr⟩
theorem zmw {s:ByteArray}(h:okQ ts p s=true):p<ts.length:=by
 by_cases hp:p<ts.length
 ·exact hp
 ·exfalso
  have e:nxT ts p=tokZ:=zib hp;unfold okQ isQ at h;rw[zgt,zk5,e] at h
  revert h
  split
  ·exact fun h=>by cases h
  split
  ·exact fun h=>by cases h
  split
  ·exact fun h=>by cases h
  split
  ·exact fun h=>by cases h
  ·intro h;rw[Bool.and_eq_true] at h
   cases h.2
theorem Qdr.sets {b:Nat}{cs:Array Value}{ty:TypeId}{i:Nat}{v:Value}{W:World}(hB:Below w.heap.size w W)(hg:g<w.heap.size)(hb:w.heap.size<=b)(hr:W.heap[b]?=some (.cells cs ty (0,0))):(W.setCell ⟨g,i,none⟩ v).heap[b]?=some (.cells cs ty (0,0))∧w.grownBy (W.setCell ⟨g,i,none⟩ v) (some g):=by
 have y:=(Yb 0 W).setCell (p:=⟨g,i,none⟩) (Yk _) v;exact⟨(Ye _ _ _ _ (show b≠g by omega)).trans hr,zab (zae hB) ⟨y.os,y.tape,y.output,y.size,fun k C A=>Ye _ _ _ _ fun e=>A (by rw[show k=g from e])⟩⟩
theorem zuw (hR:Qdr T w g st cap ts p bad):Calls Tryz.prog 45 #[.pointer (some ⟨g,0,none⟩),.string ⟨#[110,97,109,101]⟩] w (TkQ T w g st cap ts ⟨#[110,97,109,101]⟩ ⟨p,bad⟩):=by
 have HR:=J hR;have I:=hR.lt;have ae:=hR.hT;have az:=hR.le;have aA:=hR.few;clear hR;obtain⟨Z,ak⟩:∃ Z,okQ ts p ⟨#[110,97,109,101]⟩=Z:=⟨_,rfl⟩;have ac:=J ak;have au:Z=true->p<ts.length:=fun e=>zmw (ak.trans e);have hx:(((nxQ ts p).kind == 1) && !kepB (nxQ ts p).text)=Z:=ak;have HX:=J hx;clear ak hx;obtain⟨t,ht⟩:∃ t,nxQ ts p=t:=⟨_,rfl⟩;have HT:=J ht;clear ht
 go_enter Tryz.func45,Tryz.ntmps45
 go_wp2_with fail
 refine zag (fun W=>Below w.heap.size w W∧W.heap[w.heap.size]?=some (.cells tokZ.cells 38 (0,0))) ⟨(Yb _ _).alloc (Ya _) _,Yd _ _⟩ ?_;rintro W ⟨hB,hz⟩;refine(zbk (HR.out.low hB)).mono ?_;rintro e W1 ⟨rfl,b1⟩;rw[HT.out];obtain⟨W2,av,an,aq⟩:=zgu W1 t;have ah:Below w.heap.size w W1:=hB.trans (b1.mono hB.size);have aj:Hid (Below w.heap.size w W2):=ah.trans (an.mono ah.size);have am:Hid (W2.heap[w.heap.size]?=some (.cells tokZ.cells 38 (0,0))):=(an.block _ (Yg (zaa hz) b1.size)).trans ((b1.block _ (zaa hz)).trans hz);have ao:=J aq;have aw:=ah.size;clear hB hz b1 an aq ah
 go_wp2_with fail
 clear av;refine(zas ⟨#[110,97,109,101]⟩ (HR.out.low aj)).mono ?_;rintro e W3 ⟨rfl,b3⟩;have Y:=J (aj.out.trans (b3.mono aj.out.size));have ab:Hid (W3.heap[w.heap.size]?=some (.cells tokZ.cells 38 (0,0))):=(b3.block _ (zaa am)).trans am;have ag:Hid (W3.heap[W1.heap.size]?=some (.cells t.cells 38 (0,0))):=(b3.block _ (zaa ao)).trans ao;clear b3 aj am ao;obtain⟨X,M,tp⟩:=t;have HK:Hid ((X == 1 && !kepB M)=Z):=by have h:=HX.out;rw[HT.out] at h;exact h
 clear HX;have k0:W3.cell? ⟨W1.heap.size,0,none⟩=some (.int .i64 X):=Yp 0 ag rfl;have k1:W3.cell? ⟨W1.heap.size,1,none⟩=some (.string M):=Yp 1 ag rfl;obtain⟨b1,ar⟩:∃ b,(X == 1)=b:=⟨_,rfl⟩
 cases b1
 ·have HF:Hid (Z=false):=by have h:=HK.out;rw[ar] at h;exact h.symm
  have K:=J (HR.out.low Y);have c1:=K.out.c1;have c2:=K.out.c2;have z:=K.out.z;clear k1 HK;obtain rfl:=HF.out
  cases bad
  ·skip
   obtain⟨y,af,E,C,A⟩:∃ y,W3.setCell ⟨g,2,none⟩ (.bool true)=y∧y.heap[w.heap.size]?=some (.cells tokZ.cells 38 (0,0))∧w.grownBy y (some g)∧Qdr T y g st cap ts p true:=⟨_,rfl,(Qdr.sets Y I (Ya _) ab.out).1,(Qdr.sets Y I (Ya _) ab.out).2,K.out.wrong⟩;have D:=J E;have U:=J C;have N:=J A;clear E C A
   go_wp2_with (refine zcc (by rfl) (.tmp 4) (.tmp 49) (by rfl) (t:=tokZ) (z:=tokZ) (by rfl) (by rfl) D.out ?_)
   have F:Below w.heap.size y (y.setRow w.heap.size tokZ.cells):=zak (Yb _ _) (Ya _) _;exact zbz Tryz.results45 rfl (zad D) (zfc (by show(_ || !okQ ts p ⟨#[110,97,109,101]⟩)=true;rw[ac.out];rfl) (zaw U F) (N.out.below ae F))
  ·skip
   obtain⟨y,af,E,C,A⟩:∃ y,W3.setCell ⟨g,2,none⟩ (.bool true)=y∧y.heap[w.heap.size]?=some (.cells tokZ.cells 38 (0,0))∧w.grownBy y (some g)∧Qdr T y g st cap ts p true:=⟨_,rfl,(Qdr.sets Y I (Ya _) ab.out).1,(Qdr.sets Y I (Ya _) ab.out).2,K.out.wrong⟩;have D:=J E;have U:=J C;have N:=J A;clear E C A
   go_wp2_with (refine zcc (by rfl) (.tmp 4) (.tmp 49) (by rfl) (t:=tokZ) (z:=tokZ) (by rfl) (by rfl) D.out ?_)
   have F:Below w.heap.size y (y.setRow w.heap.size tokZ.cells):=zak (Yb _ _) (Ya _) _;exact zbz Tryz.results45 rfl (zad D) (zfc (by show(_ || !okQ ts p ⟨#[110,97,109,101]⟩)=true;rw[ac.out];rfl) (zaw U F) (N.out.below ae F))
 ·have ap:Hid ((!kepB M)=Z):=by have h:=HK.out;rw[ar] at h;exact h
  clear HK
  go_wp2_with fail
  refine(zhs M W3).mono ?_;rintro e W4 ⟨rfl,b4⟩;have V:=J (Y.out.trans (b4.mono Y.out.size));have aa:Hid (W4.heap[w.heap.size]?=some (.cells tokZ.cells 38 (0,0))):=(b4.block _ (zaa ab)).trans ab;have ay:Hid (W4.heap[W1.heap.size]?=some (.cells (⟨X,M,tp⟩:Tok).cells 38 (0,0))):=(b4.block _ (zaa ag)).trans ag;have K:=J (HR.out.low V);have c1:=K.out.c1;have c2:=K.out.c2;have z:=K.out.z;clear b4 Y ab ag k0 k1;obtain⟨kb,al⟩:∃ kb,kepB M=kb:=⟨_,rfl⟩;obtain rfl:Z = !kb:=by rw[<-ap.out,al]
  rw[al];clear al ap
  cases kb
  ·cases bad
   ·skip
    have ax:=au rfl;obtain⟨y,af,E,ai,C,A⟩:∃ y,W4.setCell ⟨g,1,none⟩ (.int .i64 ((p:Int)+1))=y∧y.heap[w.heap.size]?=some (.cells tokZ.cells 38 (0,0))∧y.heap[W1.heap.size]?=some (.cells (⟨X,M,tp⟩:Tok).cells 38 (0,0))∧w.grownBy y (some g)∧Qdr T y g st cap ts (p+1) false:=⟨_,rfl,(Qdr.sets V I (Ya _) aa.out).1,(Qdr.sets V I aw ay).1,(Qdr.sets V I (Ya _) aa.out).2,K.out.go (q:=p+1) ax⟩;have D:=J E;have U:=J C;have N:=J A;have j0:y.cell? ⟨W1.heap.size,0,none⟩=some (.int .i64 (⟨X,M,tp⟩:Tok).kind):=Yp 0 ai rfl;have j1:y.cell? ⟨W1.heap.size,1,none⟩=some (.string (⟨X,M,tp⟩:Tok).text):=Yp 1 ai rfl;have j2:y.cell? ⟨W1.heap.size,2,none⟩=some (.int .i64 (⟨X,M,tp⟩:Tok).pos):=Yp 2 ai rfl;clear E C A ai
    go_wp2_with (refine zcc (by rfl) (.tmp 4) (.tmp 58) (by rfl) (t:=⟨X,M,tp⟩) (z:=tokZ) (by rfl) (by rfl) D.out ?_)
    have F:Below w.heap.size y (y.setRow w.heap.size (⟨X,M,tp⟩:Tok).cells):=zak (Yb _ _) (Ya _) _;have h:=zi8 (q:=⟨p,false⟩) (s:=⟨#[110,97,109,101]⟩) (by show(_ || !okQ ts p ⟨#[110,97,109,101]⟩)=false;rw[ac.out];rfl) (zaw U F) (N.out.below ae F);rw[HT.out] at h;exact zbz Tryz.results45 rfl (zad D) h
   ·skip
    obtain⟨y,af,E,C,A⟩:∃ y,W4.setCell ⟨g,2,none⟩ (.bool true)=y∧y.heap[w.heap.size]?=some (.cells tokZ.cells 38 (0,0))∧w.grownBy y (some g)∧Qdr T y g st cap ts p true:=⟨_,rfl,(Qdr.sets V I (Ya _) aa.out).1,(Qdr.sets V I (Ya _) aa.out).2,K.out.wrong⟩;have D:=J E;have U:=J C;have N:=J A;clear E C A
    go_wp2_with (refine zcc (by rfl) (.tmp 4) (.tmp 49) (by rfl) (t:=tokZ) (z:=tokZ) (by rfl) (by rfl) D.out ?_)
    have F:Below w.heap.size y (y.setRow w.heap.size tokZ.cells):=zak (Yb _ _) (Ya _) _;exact zbz Tryz.results45 rfl (zad D) (zfc (by show(_ || !okQ ts p ⟨#[110,97,109,101]⟩)=true;rw[ac.out];rfl) (zaw U F) (N.out.below ae F))
  ·cases bad
   ·skip
    obtain⟨y,af,E,C,A⟩:∃ y,W4.setCell ⟨g,2,none⟩ (.bool true)=y∧y.heap[w.heap.size]?=some (.cells tokZ.cells 38 (0,0))∧w.grownBy y (some g)∧Qdr T y g st cap ts p true:=⟨_,rfl,(Qdr.sets V I (Ya _) aa.out).1,(Qdr.sets V I (Ya _) aa.out).2,K.out.wrong⟩;have D:=J E;have U:=J C;have N:=J A;clear E C A
    go_wp2_with (refine zcc (by rfl) (.tmp 4) (.tmp 49) (by rfl) (t:=tokZ) (z:=tokZ) (by rfl) (by rfl) D.out ?_)
    have F:Below w.heap.size y (y.setRow w.heap.size tokZ.cells):=zak (Yb _ _) (Ya _) _;exact zbz Tryz.results45 rfl (zad D) (zfc (by show(_ || !okQ ts p ⟨#[110,97,109,101]⟩)=true;rw[ac.out];rfl) (zaw U F) (N.out.below ae F))
   ·skip
    obtain⟨y,af,E,C,A⟩:∃ y,W4.setCell ⟨g,2,none⟩ (.bool true)=y∧y.heap[w.heap.size]?=some (.cells tokZ.cells 38 (0,0))∧w.grownBy y (some g)∧Qdr T y g st cap ts p true:=⟨_,rfl,(Qdr.sets V I (Ya _) aa.out).1,(Qdr.sets V I (Ya _) aa.out).2,K.out.wrong⟩;have D:=J E;have U:=J C;have N:=J A;clear E C A
    go_wp2_with (refine zcc (by rfl) (.tmp 4) (.tmp 49) (by rfl) (t:=tokZ) (z:=tokZ) (by rfl) (by rfl) D.out ?_)
    have F:Below w.heap.size y (y.setRow w.heap.size tokZ.cells):=zak (Yb _ _) (Ya _) _;exact zbz Tryz.results45 rfl (zad D) (zfc (by show(_ || !okQ ts p ⟨#[110,97,109,101]⟩)=true;rw[ac.out];rfl) (zaw U F) (N.out.below ae F))
theorem zn0 (hR:Qdr T w g st cap ts p bad):Calls Tryz.prog 45 #[.pointer (some ⟨g,0,none⟩),.string ⟨#[110,117,109,98,101,114]⟩] w (TkQ T w g st cap ts ⟨#[110,117,109,98,101,114]⟩ ⟨p,bad⟩):=by
 have HR:=J hR;have K:=hR.lt;have af:=hR.hT;have aq:=hR.le;have ar:=hR.few;clear hR;obtain⟨U,ac⟩:∃ U,okQ ts p ⟨#[110,117,109,98,101,114]⟩=U:=⟨_,rfl⟩;have ae:=J ac;have am:U=true->p<ts.length:=fun e=>zmw (ac.trans e);have hx:((nxQ ts p).kind == 2)=U:=ac;have HX:=J hx;clear ac hx;obtain⟨t,ht⟩:∃ t,nxQ ts p=t:=⟨_,rfl⟩;have HT:=J ht;clear ht
 go_enter Tryz.func45,Tryz.ntmps45
 go_wp2_with fail
 refine zag (fun W=>Below w.heap.size w W∧W.heap[w.heap.size]?=some (.cells tokZ.cells 38 (0,0))) ⟨(Yb _ _).alloc (Ya _) _,Yd _ _⟩ ?_;rintro W ⟨hB,hz⟩;refine(zbk (HR.out.low hB)).mono ?_;rintro e W1 ⟨rfl,b1⟩;rw[HT.out];obtain⟨W2,an,ah,al⟩:=zgu W1 t;have Z:Below w.heap.size w W1:=hB.trans (b1.mono hB.size);have ab:Hid (Below w.heap.size w W2):=Z.trans (ah.mono Z.size);have ag:Hid (W2.heap[w.heap.size]?=some (.cells tokZ.cells 38 (0,0))):=(ah.block _ (Yg (zaa hz) b1.size)).trans ((b1.block _ (zaa hz)).trans hz);have ai:=J al;have ao:=Z.size;clear hB hz b1 ah al Z
 go_wp2_with fail
 clear an;refine(zas ⟨#[110,117,109,98,101,114]⟩ (HR.out.low ab)).mono ?_;rintro e N ⟨rfl,b3⟩;have C:=J (ab.out.trans (b3.mono ab.out.size));have M:Hid (N.heap[w.heap.size]?=some (.cells tokZ.cells 38 (0,0))):=(b3.block _ (zaa ag)).trans ag;have ak:Hid (N.heap[W1.heap.size]?=some (.cells t.cells 38 (0,0))):=(b3.block _ (zaa ai)).trans ai;clear b3 ab ag ai;have V:=J (HR.out.low C);have c1:=V.out.c1;have c2:=V.out.c2;have z:=V.out.z;have k0:N.cell? ⟨W1.heap.size,0,none⟩=some (.int .i64 t.kind):=Yp 0 ak rfl;have hk:(t.kind == 2)=U:=by have h:=HX.out;rw[HT.out] at h;exact h
 clear HX
 cases bad
 ·cases U
  ·skip
   obtain⟨y,aj,F,D,A⟩:∃ y,N.setCell ⟨g,2,none⟩ (.bool true)=y∧y.heap[w.heap.size]?=some (.cells tokZ.cells 38 (0,0))∧w.grownBy y (some g)∧Qdr T y g st cap ts p true:=⟨_,rfl,(Qdr.sets C K (Ya _) M.out).1,(Qdr.sets C K (Ya _) M.out).2,V.out.wrong⟩;have E:=J F;have Y:=J D;have X:=J A;clear F D A
   go_wp2_with (refine zcc (by rfl) (.tmp 4) (.tmp 49) (by rfl) (t:=tokZ) (z:=tokZ) (by rfl) (by rfl) E.out ?_)
   have I:Below w.heap.size y (y.setRow w.heap.size tokZ.cells):=zak (Yb _ _) (Ya _) _;exact zbz Tryz.results45 rfl (zad E) (zfc (by show(_ || !okQ ts p ⟨#[110,117,109,98,101,114]⟩)=true;rw[ae.out];rfl) (zaw Y I) (X.out.below af I))
  ·skip
   have ap:=am rfl;obtain⟨y,aj,F,aa,D,A⟩:∃ y,N.setCell ⟨g,1,none⟩ (.int .i64 ((p:Int)+1))=y∧y.heap[w.heap.size]?=some (.cells tokZ.cells 38 (0,0))∧y.heap[W1.heap.size]?=some (.cells (t:Tok).cells 38 (0,0))∧w.grownBy y (some g)∧Qdr T y g st cap ts (p+1) false:=⟨_,rfl,(Qdr.sets C K (Ya _) M.out).1,(Qdr.sets C K ao ak).1,(Qdr.sets C K (Ya _) M.out).2,V.out.go (q:=p+1) ap⟩;have E:=J F;have Y:=J D;have X:=J A;have j0:y.cell? ⟨W1.heap.size,0,none⟩=some (.int .i64 (t:Tok).kind):=Yp 0 aa rfl;have j1:y.cell? ⟨W1.heap.size,1,none⟩=some (.string (t:Tok).text):=Yp 1 aa rfl;have j2:y.cell? ⟨W1.heap.size,2,none⟩=some (.int .i64 (t:Tok).pos):=Yp 2 aa rfl;clear F D A aa
   go_wp2_with (refine zcc (by rfl) (.tmp 4) (.tmp 58) (by rfl) (t:=t) (z:=tokZ) (by rfl) (by rfl) E.out ?_)
   have I:Below w.heap.size y (y.setRow w.heap.size (t:Tok).cells):=zak (Yb _ _) (Ya _) _;have h:=zi8 (q:=⟨p,false⟩) (s:=⟨#[110,117,109,98,101,114]⟩) (by show(_ || !okQ ts p ⟨#[110,117,109,98,101,114]⟩)=false;rw[ae.out];rfl) (zaw Y I) (X.out.below af I);rw[HT.out] at h;exact zbz Tryz.results45 rfl (zad E) h
 ·skip
  obtain⟨y,aj,F,D,A⟩:∃ y,N.setCell ⟨g,2,none⟩ (.bool true)=y∧y.heap[w.heap.size]?=some (.cells tokZ.cells 38 (0,0))∧w.grownBy y (some g)∧Qdr T y g st cap ts p true:=⟨_,rfl,(Qdr.sets C K (Ya _) M.out).1,(Qdr.sets C K (Ya _) M.out).2,V.out.wrong⟩;have E:=J F;have Y:=J D;have X:=J A;clear F D A
  go_wp2_with (refine zcc (by rfl) (.tmp 4) (.tmp 49) (by rfl) (t:=tokZ) (z:=tokZ) (by rfl) (by rfl) E.out ?_)
  have I:Below w.heap.size y (y.setRow w.heap.size tokZ.cells):=zak (Yb _ _) (Ya _) _;exact zbz Tryz.results45 rfl (zad E) (zfc (by show(_ || !okQ ts p ⟨#[110,117,109,98,101,114]⟩)=true;rw[ae.out];rfl) (zaw Y I) (X.out.below af I))
theorem zux (hR:Qdr T w g st cap ts p bad):Calls Tryz.prog 45 #[.pointer (some ⟨g,0,none⟩),.string ⟨#[116,101,120,116]⟩] w (TkQ T w g st cap ts ⟨#[116,101,120,116]⟩ ⟨p,bad⟩):=by
 have HR:=J hR;have K:=hR.lt;have af:=hR.hT;have aq:=hR.le;have ar:=hR.few;clear hR;obtain⟨U,ac⟩:∃ U,okQ ts p ⟨#[116,101,120,116]⟩=U:=⟨_,rfl⟩;have ae:=J ac;have am:U=true->p<ts.length:=fun e=>zmw (ac.trans e);have hx:((nxQ ts p).kind == 3)=U:=ac;have HX:=J hx;clear ac hx;obtain⟨t,ht⟩:∃ t,nxQ ts p=t:=⟨_,rfl⟩;have HT:=J ht;clear ht
 go_enter Tryz.func45,Tryz.ntmps45
 go_wp2_with fail
 refine zag (fun W=>Below w.heap.size w W∧W.heap[w.heap.size]?=some (.cells tokZ.cells 38 (0,0))) ⟨(Yb _ _).alloc (Ya _) _,Yd _ _⟩ ?_;rintro W ⟨hB,hz⟩;refine(zbk (HR.out.low hB)).mono ?_;rintro e W1 ⟨rfl,b1⟩;rw[HT.out];obtain⟨W2,an,ah,al⟩:=zgu W1 t;have Z:Below w.heap.size w W1:=hB.trans (b1.mono hB.size);have ab:Hid (Below w.heap.size w W2):=Z.trans (ah.mono Z.size);have ag:Hid (W2.heap[w.heap.size]?=some (.cells tokZ.cells 38 (0,0))):=(ah.block _ (Yg (zaa hz) b1.size)).trans ((b1.block _ (zaa hz)).trans hz);have ai:=J al;have ao:=Z.size;clear hB hz b1 ah al Z
 go_wp2_with fail
 clear an;refine(zas ⟨#[116,101,120,116]⟩ (HR.out.low ab)).mono ?_;rintro e N ⟨rfl,b3⟩;have C:=J (ab.out.trans (b3.mono ab.out.size));have M:Hid (N.heap[w.heap.size]?=some (.cells tokZ.cells 38 (0,0))):=(b3.block _ (zaa ag)).trans ag;have ak:Hid (N.heap[W1.heap.size]?=some (.cells t.cells 38 (0,0))):=(b3.block _ (zaa ai)).trans ai;clear b3 ab ag ai;have V:=J (HR.out.low C);have c1:=V.out.c1;have c2:=V.out.c2;have z:=V.out.z;have k0:N.cell? ⟨W1.heap.size,0,none⟩=some (.int .i64 t.kind):=Yp 0 ak rfl;have hk:(t.kind == 3)=U:=by have h:=HX.out;rw[HT.out] at h;exact h
 clear HX
 cases bad
 ·cases U
  ·skip
   obtain⟨y,aj,F,D,A⟩:∃ y,N.setCell ⟨g,2,none⟩ (.bool true)=y∧y.heap[w.heap.size]?=some (.cells tokZ.cells 38 (0,0))∧w.grownBy y (some g)∧Qdr T y g st cap ts p true:=⟨_,rfl,(Qdr.sets C K (Ya _) M.out).1,(Qdr.sets C K (Ya _) M.out).2,V.out.wrong⟩;have E:=J F;have Y:=J D;have X:=J A;clear F D A
   go_wp2_with (refine zcc (by rfl) (.tmp 4) (.tmp 49) (by rfl) (t:=tokZ) (z:=tokZ) (by rfl) (by rfl) E.out ?_)
   have I:Below w.heap.size y (y.setRow w.heap.size tokZ.cells):=zak (Yb _ _) (Ya _) _;exact zbz Tryz.results45 rfl (zad E) (zfc (by show(_ || !okQ ts p ⟨#[116,101,120,116]⟩)=true;rw[ae.out];rfl) (zaw Y I) (X.out.below af I))
  ·skip
   have ap:=am rfl;obtain⟨y,aj,F,aa,D,A⟩:∃ y,N.setCell ⟨g,1,none⟩ (.int .i64 ((p:Int)+1))=y∧y.heap[w.heap.size]?=some (.cells tokZ.cells 38 (0,0))∧y.heap[W1.heap.size]?=some (.cells (t:Tok).cells 38 (0,0))∧w.grownBy y (some g)∧Qdr T y g st cap ts (p+1) false:=⟨_,rfl,(Qdr.sets C K (Ya _) M.out).1,(Qdr.sets C K ao ak).1,(Qdr.sets C K (Ya _) M.out).2,V.out.go (q:=p+1) ap⟩;have E:=J F;have Y:=J D;have X:=J A;have j0:y.cell? ⟨W1.heap.size,0,none⟩=some (.int .i64 (t:Tok).kind):=Yp 0 aa rfl;have j1:y.cell? ⟨W1.heap.size,1,none⟩=some (.string (t:Tok).text):=Yp 1 aa rfl;have j2:y.cell? ⟨W1.heap.size,2,none⟩=some (.int .i64 (t:Tok).pos):=Yp 2 aa rfl;clear F D A aa
   go_wp2_with (refine zcc (by rfl) (.tmp 4) (.tmp 58) (by rfl) (t:=t) (z:=tokZ) (by rfl) (by rfl) E.out ?_)
   have I:Below w.heap.size y (y.setRow w.heap.size (t:Tok).cells):=zak (Yb _ _) (Ya _) _;have h:=zi8 (q:=⟨p,false⟩) (s:=⟨#[116,101,120,116]⟩) (by show(_ || !okQ ts p ⟨#[116,101,120,116]⟩)=false;rw[ae.out];rfl) (zaw Y I) (X.out.below af I);rw[HT.out] at h;exact zbz Tryz.results45 rfl (zad E) h
 ·skip
  obtain⟨y,aj,F,D,A⟩:∃ y,N.setCell ⟨g,2,none⟩ (.bool true)=y∧y.heap[w.heap.size]?=some (.cells tokZ.cells 38 (0,0))∧w.grownBy y (some g)∧Qdr T y g st cap ts p true:=⟨_,rfl,(Qdr.sets C K (Ya _) M.out).1,(Qdr.sets C K (Ya _) M.out).2,V.out.wrong⟩;have E:=J F;have Y:=J D;have X:=J A;clear F D A
  go_wp2_with (refine zcc (by rfl) (.tmp 4) (.tmp 49) (by rfl) (t:=tokZ) (z:=tokZ) (by rfl) (by rfl) E.out ?_)
  have I:Below w.heap.size y (y.setRow w.heap.size tokZ.cells):=zak (Yb _ _) (Ya _) _;exact zbz Tryz.results45 rfl (zad E) (zfc (by show(_ || !okQ ts p ⟨#[116,101,120,116]⟩)=true;rw[ae.out];rfl) (zaw Y I) (X.out.below af I))
theorem zw5 (hR:Qdr T w g st cap ts p bad):Calls Tryz.prog 45 #[.pointer (some ⟨g,0,none⟩),.string ⟨#[101,110,100]⟩] w (TkQ T w g st cap ts ⟨#[101,110,100]⟩ ⟨p,bad⟩):=by
 have HR:=J hR;have K:=hR.lt;have af:=hR.hT;have aq:=hR.le;have ar:=hR.few;clear hR;obtain⟨U,ac⟩:∃ U,okQ ts p ⟨#[101,110,100]⟩=U:=⟨_,rfl⟩;have ae:=J ac;have am:U=true->p<ts.length:=fun e=>zmw (ac.trans e);have hx:((nxQ ts p).kind == 5)=U:=ac;have HX:=J hx;clear ac hx;obtain⟨t,ht⟩:∃ t,nxQ ts p=t:=⟨_,rfl⟩;have HT:=J ht;clear ht
 go_enter Tryz.func45,Tryz.ntmps45
 go_wp2_with fail
 refine zag (fun W=>Below w.heap.size w W∧W.heap[w.heap.size]?=some (.cells tokZ.cells 38 (0,0))) ⟨(Yb _ _).alloc (Ya _) _,Yd _ _⟩ ?_;rintro W ⟨hB,hz⟩;refine(zbk (HR.out.low hB)).mono ?_;rintro e W1 ⟨rfl,b1⟩;rw[HT.out];obtain⟨W2,an,ah,al⟩:=zgu W1 t;have Z:Below w.heap.size w W1:=hB.trans (b1.mono hB.size);have ab:Hid (Below w.heap.size w W2):=Z.trans (ah.mono Z.size);have ag:Hid (W2.heap[w.heap.size]?=some (.cells tokZ.cells 38 (0,0))):=(ah.block _ (Yg (zaa hz) b1.size)).trans ((b1.block _ (zaa hz)).trans hz);have ai:=J al;have ao:=Z.size;clear hB hz b1 ah al Z
 go_wp2_with fail
 clear an;refine(zas ⟨#[101,110,100]⟩ (HR.out.low ab)).mono ?_;rintro e N ⟨rfl,b3⟩;have C:=J (ab.out.trans (b3.mono ab.out.size));have M:Hid (N.heap[w.heap.size]?=some (.cells tokZ.cells 38 (0,0))):=(b3.block _ (zaa ag)).trans ag;have ak:Hid (N.heap[W1.heap.size]?=some (.cells t.cells 38 (0,0))):=(b3.block _ (zaa ai)).trans ai;clear b3 ab ag ai;have V:=J (HR.out.low C);have c1:=V.out.c1;have c2:=V.out.c2;have z:=V.out.z;have k0:N.cell? ⟨W1.heap.size,0,none⟩=some (.int .i64 t.kind):=Yp 0 ak rfl;have hk:(t.kind == 5)=U:=by have h:=HX.out;rw[HT.out] at h;exact h
 clear HX
 cases bad
 ·cases U
  ·skip
   obtain⟨y,aj,F,D,A⟩:∃ y,N.setCell ⟨g,2,none⟩ (.bool true)=y∧y.heap[w.heap.size]?=some (.cells tokZ.cells 38 (0,0))∧w.grownBy y (some g)∧Qdr T y g st cap ts p true:=⟨_,rfl,(Qdr.sets C K (Ya _) M.out).1,(Qdr.sets C K (Ya _) M.out).2,V.out.wrong⟩;have E:=J F;have Y:=J D;have X:=J A;clear F D A
   go_wp2_with (refine zcc (by rfl) (.tmp 4) (.tmp 49) (by rfl) (t:=tokZ) (z:=tokZ) (by rfl) (by rfl) E.out ?_)
   have I:Below w.heap.size y (y.setRow w.heap.size tokZ.cells):=zak (Yb _ _) (Ya _) _;exact zbz Tryz.results45 rfl (zad E) (zfc (by show(_ || !okQ ts p ⟨#[101,110,100]⟩)=true;rw[ae.out];rfl) (zaw Y I) (X.out.below af I))
  ·skip
   have ap:=am rfl;obtain⟨y,aj,F,aa,D,A⟩:∃ y,N.setCell ⟨g,1,none⟩ (.int .i64 ((p:Int)+1))=y∧y.heap[w.heap.size]?=some (.cells tokZ.cells 38 (0,0))∧y.heap[W1.heap.size]?=some (.cells (t:Tok).cells 38 (0,0))∧w.grownBy y (some g)∧Qdr T y g st cap ts (p+1) false:=⟨_,rfl,(Qdr.sets C K (Ya _) M.out).1,(Qdr.sets C K ao ak).1,(Qdr.sets C K (Ya _) M.out).2,V.out.go (q:=p+1) ap⟩;have E:=J F;have Y:=J D;have X:=J A;have j0:y.cell? ⟨W1.heap.size,0,none⟩=some (.int .i64 (t:Tok).kind):=Yp 0 aa rfl;have j1:y.cell? ⟨W1.heap.size,1,none⟩=some (.string (t:Tok).text):=Yp 1 aa rfl;have j2:y.cell? ⟨W1.heap.size,2,none⟩=some (.int .i64 (t:Tok).pos):=Yp 2 aa rfl;clear F D A aa
   go_wp2_with (refine zcc (by rfl) (.tmp 4) (.tmp 58) (by rfl) (t:=t) (z:=tokZ) (by rfl) (by rfl) E.out ?_)
   have I:Below w.heap.size y (y.setRow w.heap.size (t:Tok).cells):=zak (Yb _ _) (Ya _) _;have h:=zi8 (q:=⟨p,false⟩) (s:=⟨#[101,110,100]⟩) (by show(_ || !okQ ts p ⟨#[101,110,100]⟩)=false;rw[ae.out];rfl) (zaw Y I) (X.out.below af I);rw[HT.out] at h;exact zbz Tryz.results45 rfl (zad E) h
 ·skip
  obtain⟨y,aj,F,D,A⟩:∃ y,N.setCell ⟨g,2,none⟩ (.bool true)=y∧y.heap[w.heap.size]?=some (.cells tokZ.cells 38 (0,0))∧w.grownBy y (some g)∧Qdr T y g st cap ts p true:=⟨_,rfl,(Qdr.sets C K (Ya _) M.out).1,(Qdr.sets C K (Ya _) M.out).2,V.out.wrong⟩;have E:=J F;have Y:=J D;have X:=J A;clear F D A
  go_wp2_with (refine zcc (by rfl) (.tmp 4) (.tmp 49) (by rfl) (t:=tokZ) (z:=tokZ) (by rfl) (by rfl) E.out ?_)
  have I:Below w.heap.size y (y.setRow w.heap.size tokZ.cells):=zak (Yb _ _) (Ya _) _;exact zbz Tryz.results45 rfl (zad E) (zfc (by show(_ || !okQ ts p ⟨#[101,110,100]⟩)=true;rw[ae.out];rfl) (zaw Y I) (X.out.below af I))
theorem zuy (s:ByteArray)(hs:spc s=false)(hR:Qdr T w g st cap ts p bad):Calls Tryz.prog 45 #[.pointer (some ⟨g,0,none⟩),.string s] w (TkQ T w g st cap ts s ⟨p,bad⟩):=by
 have HR:=J hR;have K:=hR.lt;have af:=hR.hT;have aq:=hR.le;have ar:=hR.few;clear hR;obtain⟨s1,s2,s3,s4⟩:(s.toList == [110,97,109,101])=false∧(s.toList == [110,117,109,98,101,114])=false∧(s.toList == [116,101,120,116])=false∧(s.toList == [101,110,100])=false:=by
  have h:=hs;unfold spc at h;simp only[Bool.or_eq_false_iff] at h;rw[ByteArray.toList_eq];exact⟨h.2,h.1.2,h.1.1.2,h.1.1.1⟩
 obtain⟨Y,ac⟩:∃ Y,okQ ts p s=Y:=⟨_,rfl⟩;have ae:=J ac;have al:Y=true->p<ts.length:=fun e=>zmw (ac.trans e);have hx:isQ ts p s=Y:=(zox hs).symm.trans ac;have HX:=J hx;clear ac hx;obtain⟨t,ht⟩:∃ t,nxQ ts p=t:=⟨_,rfl⟩;have HT:=J ht;clear ht
 go_enter Tryz.func45,Tryz.ntmps45
 go_wp2_with fail
 refine zag (fun W=>Below w.heap.size w W∧W.heap[w.heap.size]?=some (.cells tokZ.cells 38 (0,0))) ⟨(Yb _ _).alloc (Ya _) _,Yd _ _⟩ ?_;rintro W ⟨hB,hz⟩;refine(zbk (HR.out.low hB)).mono ?_;rintro e W1 ⟨rfl,b1⟩;rw[HT.out];obtain⟨W2,am,ah,ak⟩:=zgu W1 t;have Z:Below w.heap.size w W1:=hB.trans (b1.mono hB.size);have ab:Hid (Below w.heap.size w W2):=Z.trans (ah.mono Z.size);have ag:Hid (W2.heap[w.heap.size]?=some (.cells tokZ.cells 38 (0,0))):=(ah.block _ (Yg (zaa hz) b1.size)).trans ((b1.block _ (zaa hz)).trans hz);have ai:=J ak;have an:=Z.size;clear hB hz b1 ah ak Z
 go_wp2_with fail
 clear am;refine(zas s (HR.out.low ab)).mono ?_;rintro e V ⟨rfl,b3⟩;have C:=J (ab.out.trans (b3.mono ab.out.size));have M:Hid (V.heap[w.heap.size]?=some (.cells tokZ.cells 38 (0,0))):=(b3.block _ (zaa ag)).trans ag;have ap:Hid (V.heap[W1.heap.size]?=some (.cells t.cells 38 (0,0))):=(b3.block _ (zaa ai)).trans ai;clear b3 ab ag ai;have N:=J (HR.out.low C);have c1:=N.out.c1;have c2:=N.out.c2;have z:=N.out.z;rw[HX.out];clear HX
 cases bad
 ·cases Y
  ·skip
   obtain⟨y,aj,F,D,A⟩:∃ y,V.setCell ⟨g,2,none⟩ (.bool true)=y∧y.heap[w.heap.size]?=some (.cells tokZ.cells 38 (0,0))∧w.grownBy y (some g)∧Qdr T y g st cap ts p true:=⟨_,rfl,(Qdr.sets C K (Ya _) M.out).1,(Qdr.sets C K (Ya _) M.out).2,N.out.wrong⟩;have E:=J F;have X:=J D;have U:=J A;clear F D A
   go_wp2_with (refine zcc (by rfl) (.tmp 4) (.tmp 49) (by rfl) (t:=tokZ) (z:=tokZ) (by rfl) (by rfl) E.out ?_)
   have I:Below w.heap.size y (y.setRow w.heap.size tokZ.cells):=zak (Yb _ _) (Ya _) _;exact zbz Tryz.results45 rfl (zad E) (zfc (by show(_ || !okQ ts p s)=true;rw[ae.out];rfl) (zaw X I) (U.out.below af I))
  ·skip
   have ao:=al rfl;obtain⟨y,aj,F,aa,D,A⟩:∃ y,V.setCell ⟨g,1,none⟩ (.int .i64 ((p:Int)+1))=y∧y.heap[w.heap.size]?=some (.cells tokZ.cells 38 (0,0))∧y.heap[W1.heap.size]?=some (.cells (t:Tok).cells 38 (0,0))∧w.grownBy y (some g)∧Qdr T y g st cap ts (p+1) false:=⟨_,rfl,(Qdr.sets C K (Ya _) M.out).1,(Qdr.sets C K an ap).1,(Qdr.sets C K (Ya _) M.out).2,N.out.go (q:=p+1) ao⟩;have E:=J F;have X:=J D;have U:=J A;have j0:y.cell? ⟨W1.heap.size,0,none⟩=some (.int .i64 (t:Tok).kind):=Yp 0 aa rfl;have j1:y.cell? ⟨W1.heap.size,1,none⟩=some (.string (t:Tok).text):=Yp 1 aa rfl;have j2:y.cell? ⟨W1.heap.size,2,none⟩=some (.int .i64 (t:Tok).pos):=Yp 2 aa rfl;clear F D A aa
   go_wp2_with (refine zcc (by rfl) (.tmp 4) (.tmp 58) (by rfl) (t:=t) (z:=tokZ) (by rfl) (by rfl) E.out ?_)
   have I:Below w.heap.size y (y.setRow w.heap.size (t:Tok).cells):=zak (Yb _ _) (Ya _) _;have h:=zi8 (q:=⟨p,false⟩) (s:=s) (by show(_ || !okQ ts p s)=false;rw[ae.out];rfl) (zaw X I) (U.out.below af I);rw[HT.out] at h;exact zbz Tryz.results45 rfl (zad E) h
 ·skip
  obtain⟨y,aj,F,D,A⟩:∃ y,V.setCell ⟨g,2,none⟩ (.bool true)=y∧y.heap[w.heap.size]?=some (.cells tokZ.cells 38 (0,0))∧w.grownBy y (some g)∧Qdr T y g st cap ts p true:=⟨_,rfl,(Qdr.sets C K (Ya _) M.out).1,(Qdr.sets C K (Ya _) M.out).2,N.out.wrong⟩;have E:=J F;have X:=J D;have U:=J A;clear F D A
  go_wp2_with (refine zcc (by rfl) (.tmp 4) (.tmp 49) (by rfl) (t:=tokZ) (z:=tokZ) (by rfl) (by rfl) E.out ?_)
  have I:Below w.heap.size y (y.setRow w.heap.size tokZ.cells):=zak (Yb _ _) (Ya _) _;exact zbz Tryz.results45 rfl (zad E) (zfc (by show(_ || !okQ ts p s)=true;rw[ae.out];rfl) (zaw X I) (U.out.below af I))
theorem zah (s:ByteArray)(hR:Qdr T w g st cap ts p bad):Calls Tryz.prog 45 #[.pointer (some ⟨g,0,none⟩),.string s] w (TkQ T w g st cap ts s ⟨p,bad⟩):=by
 cases h:spc s
 ·exact zuy s h hR
 ·unfold spc at h;simp only[Bool.or_eq_true] at h;rcases h with((h|h) | h) | h
  ·rw[show s=⟨#[101,110,100]⟩ from zgi (eq_of_beq h)];exact zw5 hR
  ·rw[show s=⟨#[116,101,120,116]⟩ from zgi (eq_of_beq h)];exact zux hR
  ·rw[show s=⟨#[110,117,109,98,101,114]⟩ from zgi (eq_of_beq h)];exact zn0 hR
  ·rw[show s=⟨#[110,97,109,101]⟩ from zgi (eq_of_beq h)];exact zuw hR
end
def LtQ (q s:Qs):Prop:=q.p<=s.p∧(s.bad=true∨(q.bad=false∧q.p<s.p))
def LeQ (q s:Qs):Prop:=q.p<=s.p∧(s.bad=true∨q.bad=false)
theorem LtQ.le {q s:Qs}(h:LtQ q s):LeQ q s:=⟨h.1,h.2.elim .inl fun h=>.inr h.1⟩
theorem LeQ.rfl (q:Qs):LeQ q q:=⟨Ya _,by cases q.bad <;> simp⟩
theorem LeQ.trans {a b c:Qs}(h:LeQ a b)(h':LeQ b c):LeQ a c:=by
 refine⟨Yo h.1 h'.1,?_⟩;rcases h'.2 with h' | h'
 ·exact .inl h'
 ·rcases h.2 with h|h
  ·rw[h'] at h;cases h
  ·exact .inr h
theorem LtQ.trans {a b c:Qs}(h:LtQ a b)(h':LeQ b c):LtQ a c:=by
 have y:=h'.1;refine⟨Yo h.1 h'.1,?_⟩;rcases h'.2 with h' | h'
 ·exact .inl h'
 ·rcases h.2 with h|⟨h,h2⟩
  ·rw[h'] at h;cases h
  ·exact .inr ⟨h,by omega⟩
section
variable {ts:List Tok}
theorem zam (s:ByteArray)(q:Qs):LtQ q (takS ts s q):=by
 unfold takS
 cases h:q.bad
 ·cases okQ ts q.p s
  ·exact⟨Ya _,.inl rfl⟩
  ·exact⟨Nat.le_succ _,.inr ⟨h,Nat.lt_succ_self _⟩⟩
 ·exact⟨Ya _,.inl rfl⟩
theorem zqv (b:Bool)(q:Qs):LeQ q (wrQ b q):=by
 cases b
 ·exact LeQ.rfl q
 ·exact⟨Ya _,.inl rfl⟩
def Oq {α:Type}(R:Qs->Prop) (d:Option (α × Qs)):Prop:=∀ v s,d=some (v,s)->R s
theorem zbw {α:Type}{R:Qs->Prop}{v:α}{s:Qs}(h:R s):Oq R (some (v,s)):=fun _ _ e=>by cases e;exact h
theorem z3h {α:Type}{R:Qs->Prop}{d:α × Qs}(h:R d.2):Oq R (some d):=fun _ _ e=>by cases e;exact h
theorem zch {α β:Type}{R R':Qs->Prop}{d:Option (α × Qs)}{k:α × Qs->Option (β × Qs)}(h:Oq R d)(hk:∀ v s,R s->Oq R' (k (v,s))):Oq R' (d.bind k):=by
 cases d with
 | none=>intro _ _ e;cases e
 | some r=>exact hk _ _ (h _ _ rfl)
theorem zcp {α:Type}{R:Qs->Prop}{c:Prop} [Decidable c] {a b:Option (α × Qs)}(h:Oq R a)(h':Oq R b):Oq R (if c then a else b):=by
 split
 ·exact h
 ·exact h'
theorem zes {α:Type}{R R':Qs->Prop}{d:Option (α × Qs)}(h:Oq R d)(hR:∀ s,R s->R' s):Oq R' d:=fun v s e=>hR _ (h v s e)
theorem zn1 {α:Type}{R:Qs->Prop}{c:Prop} [Decidable c] {a b:α × Qs}(h:R a.2)(h':R b.2):R (if c then a else b).2:=by
 split
 ·exact h
 ·exact h'
theorem zpj (k:Int)(w:ByteArray)(q:Qs):LtQ q (worD ts k w q).2:=(zam _ _).trans (zam _ _).le
theorem zuz (q:Qs):LtQ q (litD ts q).2:=by
 unfold litD;exact zn1 (zam _ _) (zn1 (zam _ _) (zn1 (zam _ _) (zam _ _)))
theorem z3i (q:Qs):LtQ q (valD ts q).2:=by
 unfold valD;exact zn1 ((zam _ _).trans ((zqv _ _).trans (zuz _).le)) (zuz _)
theorem zpk (q:Qs):LtQ q (kinD ts q).2:=by
 unfold kinD;refine zn1 (zam _ _) ?_;show LtQ q (if _ then _ else _:Qv × Qs).2;exact zn1 ((zam _ _).trans ((zam _ _).trans (zam _ _).le).le) (zam _ _)
theorem zmx (k:Int)(q:Qs):LtQ q (tydD ts k q).2:=(zam _ _).trans (zpk _).le
theorem z3j (q:Qs):LtQ q (impD ts q).2:=(zam _ _).trans (zam _ _).le
theorem z3k (q:Qs):LtQ q (conD ts q).2:=(zpj _ _ _).trans ((zam _ _).trans (z3i _).le).le
theorem z3l (q:Qs):LeQ q (recD ts q).2:=by
 unfold recD;exact zn1 (((zam _ _).trans ((zam _ _).trans ((zam _ _).trans (zam _ _).le).le).le).le) (LeQ.rfl q)
structure Lst (d:Dns):Prop where
 row:∀ k q,Oq (LtQ q) (d.row k q)
 rowL:∀ k v q,Oq (LeQ q) (d.rowL k v q)
 una:∀ q,Oq (LtQ q) (d.una q)
 post:∀ q,Oq (LtQ q) (d.post q)
 posL:∀ v q,Oq (LeQ q) (d.posL v q)
 prim:∀ q,Oq (LtQ q) (d.prim q)
 argL:∀ l q,Oq (LeQ q) (d.argL l q)
 parL:∀ l q,Oq (LeQ q) (d.parL l q)
 fieL:∀ l q,Oq (LeQ q) (d.fieL l q)
 stmt:∀ q,Oq (LtQ q) (d.stmt q)
 bran:∀ q,Oq (LtQ q) (d.bran q)
 stmL:∀ l q,Oq (LeQ q) (d.stmL l q)
 impL:∀ l q,Oq (LeQ q) (d.impL l q)
 decL:∀ l q,Oq (LeQ q) (d.decL l q)
section
variable {d:Dns}(h:Lst d)
include h
theorem zj2 (q:Qs):Oq (LtQ q) (bloD ts d q):=by
 unfold bloD tak;exact zch (h.stmL _ _) fun v s y=>zbw ((zam _ _).trans (y.trans (zam _ _).le))
theorem zyj (q:Qs):Oq (LtQ q) (varD ts d q):=by
 unfold varD tak
 dsimp only
 exact zcp (zch (h.row _ _) fun v s y=>zbw ((zpj _ _ _).trans ((zpk _).trans ((zam _ _).trans y.le).le).le)) (zbw ((zpj _ _ _).trans (zpk _).le))
theorem z3m (q:Qs):Oq (LtQ q) (looD ts d q):=by
 unfold looD;unfold tak;exact zch (h.row _ _) fun v s y=>zch (zj2 h _) fun u s' A=>zbw ((zam _ _).trans (y.trans A.le).le)
theorem z3n (q:Qs):Oq (LtQ q) (resD ts d q):=by
 unfold resD tak;exact zcp (zch (h.row _ _) fun v s y=>zbw ((zam _ _).trans y.le)) (zbw (zam _ _))
theorem z3o (q:Qs):Oq (LtQ q) (shoD ts d q):=by
 unfold shoD tak;exact zch (h.row _ _) fun v s y=>zbw ((zam _ _).trans ((zam _ _).trans y.le).le)
theorem z3p (q:Qs):Oq (LtQ q) (simD ts d q):=by
 unfold simD tak;exact zch (h.row _ _) fun v s y=>zcp (zch (h.row _ _) fun u s' A=>zbw (y.trans ((zam _ _).trans A.le).le)) (zbw y)
theorem z3q (q:Qs):Oq (LtQ q) (strD ts d q):=by
 unfold strD tak;exact zch (h.fieL _ _) fun v s y=>zbw ((zpj _ _ _).trans ((zam _ _).trans ((zam _ _).trans (y.trans (zam _ _).le)).le).le)
theorem z3r (q:Qs):Oq (LtQ q) (funD ts d q):=by
 unfold funD tak
 dsimp only
 refine zch (h.parL _ _) fun v s C=>?_;have A:LtQ q (takS ts ⟨#[41]⟩ s):=(zam _ _).trans ((z3l _).trans ((zam _ _).trans ((zam _ _).trans (C.trans (zam _ _).le)).le).le);exact zcp (zch (zj2 h _) fun u s' y=>zbw (A.trans y.le)) (zch (zj2 h _) fun u s' y=>zbw (A.trans ((zpk _).trans y.le).le))
theorem zyk (q:Qs):Oq (LtQ q) (decD ts d q):=by
 unfold decD;exact zcp (z3h (z3k _)) (zcp (zyj h _) (zcp (z3q h _) (z3r h _)))
end
theorem lst (n:Nat):Lst (dns ts n):=by
 induction n with
 | zero=>constructor <;> (intros;intro _ _ e;cases e)
 | succ n ih=>
  constructor
  ·intro k q;exact zcp (ih.una _) (zch (ih.row _ _) fun v s y=>zes (ih.rowL _ _ _) fun s' A=>y.trans A)
  ·intro k v q;unfold dns
   dsimp only[tak]
   exact zcp (zch (ih.row _ _) fun u s y=>zcp (zbw ((zam _ _).trans y.le).le) (zes (ih.rowL _ _ _) fun s' A=>(((zam _ _).trans y.le).trans A).le)) (zbw (LeQ.rfl _))
  ·intro q;unfold dns
   dsimp only[tak]
   exact zcp (zch (ih.una _) fun u s y=>zbw ((zam _ _).trans y.le)) (ih.post _)
  ·intro q;exact zch (ih.prim _) fun v s y=>zes (ih.posL _ _) fun s' A=>y.trans A
  ·intro v q;unfold dns
   dsimp only[tak]
   exact zcp (zcp (zes (ih.posL _ _) fun s y=>((zam _ _).trans ((zam _ _).trans y).le).le) (zch (ih.argL _ _) fun l s y=>zes (ih.posL _ _) fun s' A=>((zam _ _).trans (y.trans ((zam _ _).trans A).le)).le)) (zbw (LeQ.rfl _))
  ·intro q;unfold dns
   dsimp only[tak]
   exact zcp (zch (ih.row _ _) fun u s y=>zbw ((zam _ _).trans (y.trans (zam _ _).le).le)) (zcp (z3h (zuz _)) (zbw (zam _ _)))
  ·intro l q;unfold dns
   dsimp only[tak]
   exact zcp (zch (ih.row _ _) fun u s y=>zcp (zbw y.le) (zes (ih.argL _ _) fun s' A=>(y.trans ((zam _ _).trans ((zqv _ _).trans A)).le).le)) (zbw (LeQ.rfl _))
  ·intro l q;unfold dns
   dsimp only[tak]
   exact zcp (zcp (zbw (zmx _ _).le) (zes (ih.parL _ _) fun s' A=>((zmx _ _).trans ((zam _ _).trans ((zqv _ _).trans A)).le).le)) (zbw (LeQ.rfl _))
  ·intro l q;unfold dns
   dsimp only
   refine zcp (zes (ih.fieL _ _) fun s' A=>((zmx (ts:=ts) 6 q).trans (LeQ.trans ?_ A)).le) (zbw (LeQ.rfl _))
   split
   ·exact LeQ.rfl _
   ·exact(zam _ _).le
  ·intro q;exact zcp (zj2 ih _) (zcp (zyj ih _) (zcp (ih.bran _) (zcp (z3m ih _) (zcp (z3n ih _) (zcp (z3o ih _) (z3p ih _))))))
  ·intro q;unfold dns
   dsimp only[tak]
   refine zch (ih.row _ _) fun e s y=>zch (zj2 ih _) fun b C F=>?_;have D:LtQ q C:=(zam _ _).trans (y.trans F.le).le;exact zcp (zch (R:=LtQ (takS ts ⟨#[101,108,115,101]⟩ C)) (zcp (ih.bran _) (zj2 ih _)) fun c I E=>zbw (D.trans ((zam _ _).trans E.le).le)) (zbw D)
  ·intro l q;unfold dns
   dsimp only
   refine zcp (zch (ih.stmt _) fun u s y=>zes (ih.stmL _ _) fun s' A=>(y.trans (LeQ.trans ?_ A)).le) (zbw (LeQ.rfl _))
   dsimp only
   split
   ·exact LeQ.rfl _
   ·exact(zam _ _).le
  ·intro l q;unfold dns
   dsimp only
   exact zcp (zes (ih.impL _ _) fun s' A=>((z3j q).trans ((zam _ _).trans A).le).le) (zbw (LeQ.rfl _))
  ·intro l q;unfold dns
   dsimp only
   exact zcp (zch (zyk ih _) fun u s y=>zes (ih.decL _ _) fun s' A=>(y.trans ((zam _ _).trans A).le).le) (zbw (LeQ.rfl _))
end
def muS (ts:List Tok) (s:Qs):Nat:=if s.bad then 0 else ts.length+1 - s.p
theorem ze5 {ts:List Tok}{q s:Qs}(hq:q.bad=false)(hp:q.p<=ts.length)(hs:s.p<=ts.length)(h:LtQ q s):muS ts s<muS ts q:=by
 unfold muS;rw[hq];rcases h.2 with h|⟨-,h⟩
 ·rw[h];simp;omega
 ·cases s.bad
  ·simp;omega
  ·simp;omega
section
variable {ts:List Tok}
theorem zu0 (m k:Nat)(q:Qs):(dns ts (m+1)).row k q=if k=6 then(dns ts m).una q else((dns ts m).row (k+1) q).bind fun v=>(dns ts m).rowL k v.1 v.2:=rfl
theorem zqw (m k:Nat)(v:Qv)(q:Qs):(dns ts (m+1)).rowL k v q=if !q.bad && (((nxQ ts q.p).kind == 4) && (rowQ (nxQ ts q.p).text == k)) then
    ((dns ts m).row (k+1) (takS ts (nxQ ts q.p).text q)).bind fun u=>if k=3 then some ((⟨27,(nxQ ts q.p).text,0,(nxQ ts q.p).pos,v.bg,behI ts u.2.p,v.bg,[v.pt,u.1.pt]⟩:Qv),u.2) else(dns ts m).rowL k ⟨27,(nxQ ts q.p).text,0,(nxQ ts q.p).pos,v.bg,behI ts u.2.p,v.bg,[v.pt,u.1.pt]⟩ u.2
   else some (v,q):=rfl
theorem zmy (m:Nat)(q:Qs):(dns ts (m+1)).una q=if !q.bad && (isQ ts q.p ⟨#[45]⟩ || isQ ts q.p ⟨#[33]⟩) then
    ((dns ts m).una (takS ts (nxQ ts q.p).text q)).bind fun u=>some ((⟨26,(nxQ ts q.p).text,0,(nxQ ts q.p).pos,(nxQ ts q.p).pos,behI ts u.2.p,(nxQ ts q.p).pos,[u.1.pt]⟩:Qv),u.2)
   else(dns ts m).post q:=rfl
theorem zj3 (m:Nat)(q:Qs):(dns ts (m+1)).post q=((dns ts m).prim q).bind fun v=>(dns ts m).posL v.1 v.2:=rfl
theorem zj4 (m:Nat)(v:Qv)(q:Qs):(dns ts (m+1)).posL v q=if !q.bad && (isQ ts q.p ⟨#[46]⟩ || isQ ts q.p ⟨#[40]⟩) then
    (if isQ ts q.p ⟨#[46]⟩ then(dns ts m).posL ⟨24,(takT ts ⟨#[110,97,109,101]⟩ (takS ts ⟨#[46]⟩ q)).text,0,(takT ts ⟨#[110,97,109,101]⟩ (takS ts ⟨#[46]⟩ q)).pos,v.bg,behI ts (takS ts ⟨#[110,97,109,101]⟩ (takS ts ⟨#[46]⟩ q)).p,v.bg,[v.pt]⟩ (takS ts ⟨#[110,97,109,101]⟩ (takS ts ⟨#[46]⟩ q))
    else((dns ts m).argL [v.pt] (takS ts ⟨#[40]⟩ q)).bind fun l=>(dns ts m).posL ⟨25,⟨#[]⟩,0,v.bg,v.bg,behI ts (takS ts ⟨#[41]⟩ l.2).p,v.bg,l.1⟩ (takS ts ⟨#[41]⟩ l.2))
   else some (v,q):=rfl
theorem zqx (m:Nat)(q:Qs):(dns ts (m+1)).prim q=if !q.bad && isQ ts q.p ⟨#[40]⟩ then
    ((dns ts m).row 1 (takS ts ⟨#[40]⟩ q)).bind fun v=>some ((⟨v.1.k,v.1.x,v.1.n,v.1.a,v.1.f,v.1.t,(nxQ ts q.p).pos,v.1.l⟩:Qv),takS ts ⟨#[41]⟩ v.2)
   else if (((nxQ ts q.p).kind == 2) || ((nxQ ts q.p).kind == 3)) || (isQ ts q.p ⟨#[116,114,117,101]⟩ || isQ ts q.p ⟨#[102,97,108,115,101]⟩) then some (litD ts q)
   else some ((⟨23,(nxQ ts q.p).text,0,(nxQ ts q.p).pos,(nxQ ts q.p).pos,behI ts (takS ts ⟨#[110,97,109,101]⟩ q).p,(nxQ ts q.p).pos,[]⟩:Qv),takS ts ⟨#[110,97,109,101]⟩ q):=rfl
theorem zj5 (m:Nat)(l:List Pt)(q:Qs):(dns ts (m+1)).argL l q=if !q.bad && !isQ ts q.p ⟨#[41]⟩ then((dns ts m).row 1 q).bind fun u=>
    if isQ ts u.2.p ⟨#[41]⟩ then some (l++[u.1.pt],u.2) else(dns ts m).argL (l++[u.1.pt]) (wrQ (isQ ts (takS ts ⟨#[44]⟩ u.2).p ⟨#[41]⟩) (takS ts ⟨#[44]⟩ u.2))
   else some (l,q):=rfl
theorem zqy (m:Nat)(l:List Pt)(q:Qs):(dns ts (m+1)).parL l q=if !q.bad && !isQ ts q.p ⟨#[41]⟩ then
    (if isQ ts (tydD ts 9 q).2.p ⟨#[41]⟩ then some (l++[(tydD ts 9 q).1.pt],(tydD ts 9 q).2) else(dns ts m).parL (l++[(tydD ts 9 q).1.pt]) (wrQ (isQ ts (takS ts ⟨#[44]⟩ (tydD ts 9 q).2).p ⟨#[41]⟩) (takS ts ⟨#[44]⟩ (tydD ts 9 q).2)))
   else some (l,q):=rfl
theorem zqz (m:Nat)(l:List Pt)(q:Qs):(dns ts (m+1)).fieL l q=if !q.bad && !isQ ts q.p ⟨#[125]⟩ then
    (dns ts m).fieL (l++[(tydD ts 6 q).1.pt]) (if isQ ts (tydD ts 6 q).2.p ⟨#[125]⟩ then(tydD ts 6 q).2 else takS ts ⟨#[101,110,100]⟩ (tydD ts 6 q).2)
   else some (l,q):=rfl
theorem zq0 (m:Nat)(l:List Pt)(q:Qs):(dns ts (m+1)).stmL l q=if !q.bad && !isQ ts q.p ⟨#[125]⟩ then((dns ts m).stmt q).bind fun u=>(dns ts m).stmL (l++[u.1.pt]) (if isQ ts u.2.p ⟨#[125]⟩ then u.2 else takS ts ⟨#[101,110,100]⟩ u.2) else some (l,q):=rfl
theorem zq1 (m:Nat)(l:List Pt)(q:Qs):(dns ts (m+1)).impL l q=if !q.bad && isQ ts q.p ⟨#[105,109,112,111,114,116]⟩ then(dns ts m).impL (l++[(impD ts q).1.pt]) (takS ts ⟨#[101,110,100]⟩ (impD ts q).2) else some (l,q):=rfl
theorem zq2 (m:Nat)(l:List Pt)(q:Qs):(dns ts (m+1)).decL l q=if !q.bad && decide (q.p<ts.length) then(decD ts (dns ts m) q).bind fun u=>(dns ts m).decL (l++[u.1.pt]) (takS ts ⟨#[101,110,100]⟩ u.2) else some (l,q):=rfl
theorem zq3 (m:Nat)(q:Qs):(dns ts (m+1)).stmt q=
   if isQ ts q.p ⟨#[123]⟩ then bloD ts (dns ts m) q else if isQ ts q.p ⟨#[118,97,114]⟩ then varD ts (dns ts m) q else if isQ ts q.p ⟨#[105,102]⟩ then(dns ts m).bran q
   else if isQ ts q.p ⟨#[102,111,114]⟩ then looD ts (dns ts m) q else if isQ ts q.p ⟨#[114,101,116,117,114,110]⟩ then resD ts (dns ts m) q
   else if (((nxQ ts q.p).kind == 1) && !kepB (nxQ ts q.p).text) && (decide (q.p+1<ts.length) && (((nxT ts (q.p+1)).kind == 4) && isT ts (q.p+1) [58,61])) then shoD ts (dns ts m) q else simD ts (dns ts m) q:=rfl
theorem zq4 (m:Nat)(q:Qs):(dns ts (m+1)).bran q=((dns ts m).row 1 (takS ts ⟨#[105,102]⟩ q)).bind fun e=>(bloD ts (dns ts m) e.2).bind fun b=>
   if isQ ts b.2.p ⟨#[101,108,115,101]⟩ then(if isQ ts (takS ts ⟨#[101,108,115,101]⟩ b.2).p ⟨#[105,102]⟩ then(dns ts m).bran (takS ts ⟨#[101,108,115,101]⟩ b.2) else bloD ts (dns ts m) (takS ts ⟨#[101,108,115,101]⟩ b.2)).bind fun c=>some ((⟨14,⟨#[]⟩,0,(takT ts ⟨#[105,102]⟩ q).pos,(takT ts ⟨#[105,102]⟩ q).pos,behI ts c.2.p,(takT ts ⟨#[105,102]⟩ q).pos,[e.1.pt,b.1.pt,c.1.pt]⟩:Qv),c.2)
   else some ((⟨14,⟨#[]⟩,0,(takT ts ⟨#[105,102]⟩ q).pos,(takT ts ⟨#[105,102]⟩ q).pos,behI ts b.2.p,(takT ts ⟨#[105,102]⟩ q).pos,[e.1.pt,b.1.pt]⟩:Qv),b.2):=rfl
end
end Go.Proofs.YtmclgbkijeidaaaGreatDoor
