import Derived.Test.YtmclgbkijeidaaaGreatDoorUnG
import Derived.Test.YtmclgbkijeidaaaGreatDoorUnF
namespace Go.Proofs.YtmclgbkijeidaaaGreatDoor
set_option maxRecDepth 100000
set_option maxHeartbeats 4000000
open Go.RowKit
section
variable {T:Nat}{w w':World}{g:Nat}{st:Option Addr}{cap:Nat}{ts:List Tok}{p q:Nat}{bad bd:Bool}
def TkQ (T:Nat) (w:World) (g:Nat) (st:Option Addr) (cap:Nat) (ts:List Tok) (s:ByteArray) (q:Qs) (e:Ending) (w':World):Prop :=
 e=.returned (.agg (takT ts s q).cells)∧w.grownBy w' (some g)∧QdS T w' g st cap ts (takS ts s q)
theorem zd9 {s:ByteArray}{q:Qs}{W:World}(h:(q.bad || !okQ ts q.p s)=true)(hg:w.grownBy W (some g))(hr:Qdr T W g st cap ts q.p true):TkQ T w g st cap ts s q (.returned (.agg tokZ.cells)) W:=by
 unfold TkQ takT takS;rw[h];exact⟨rfl,hg,hr⟩
theorem zg4 {s:ByteArray}{q:Qs}{W:World}(h:(q.bad || !okQ ts q.p s)=false)(hg:w.grownBy W (some g))(hr:Qdr T W g st cap ts (q.p+1) false):TkQ T w g st cap ts s q (.returned (.agg (nxQ ts q.p).cells)) W:=by
 unfold TkQ takT takS;rw[h];exact⟨rfl,hg,hr⟩
theorem zjg {s:ByteArray}(h:okQ ts p s=true):p<ts.length:=by
 by_cases hp:p<ts.length
 ·exact hp
 ·exfalso
  have e:nxT ts p=tokZ:=zgo hp;unfold okQ isQ at h;rw[zfb,zij,e] at h
  revert h
  split
  ·exact fun h=>by cases h
  split
  ·exact fun h=>by cases h
  split
  ·exact fun h=>by cases h
  split
  ·exact fun h=>by cases h
  ·intro h;rw[Bool.and_eq_true] at h
   cases h.2
theorem Qdr.sets {b:Nat}{cs:Array Value}{ty:TypeId}{i:Nat}{v:Value}{W:World}(hB:Below w.heap.size w W)(hg:g<w.heap.size)(hb:w.heap.size<=b)(hr:W.heap[b]?=some (.cells cs ty (0,0))):(W.setCell ⟨g,i,none⟩ v).heap[b]?=some (.cells cs ty (0,0))∧w.grownBy (W.setCell ⟨g,i,none⟩ v) (some g):=by
 have hs:=(Below.refl 0 W).setCell (p:=⟨g,i,none⟩) (Nat.zero_le _) v;exact⟨(heap_setCell_other _ _ _ _ (show b≠g by omega)).trans hr,zab (zae hB) ⟨hs.os,hs.tape,hs.output,hs.size,fun k hk hkg=>heap_setCell_other _ _ _ _ fun e=>hkg (by rw[show k=g from e])⟩⟩
theorem zm8 (hR:Qdr T w g st cap ts p bad):Calls Tryz.prog 45 #[.pointer (some ⟨g,0,none⟩),.string ⟨#[110,97,109,101]⟩] w (TkQ T w g st cap ts ⟨#[110,97,109,101]⟩ ⟨p,bad⟩):=by
 have HR:=hid hR;have hgl:=hR.lt;have hTl:=hR.hT;have hle:=hR.le;have hfe:=hR.few;clear hR;obtain⟨bo,hbo⟩:∃ bo,okQ ts p ⟨#[110,97,109,101]⟩=bo:=⟨_,rfl⟩;have HBO:=hid hbo;have hlt:bo=true->p<ts.length:=fun e=>zjg (hbo.trans e);have hx:(((nxQ ts p).kind == 1) && !kepB (nxQ ts p).text)=bo:=hbo;have HX:=hid hx;clear hbo hx;obtain⟨t,ht⟩:∃ t,nxQ ts p=t:=⟨_,rfl⟩;have HT:=hid ht;clear ht
 go_enter Tryz.func45,Tryz.ntmps45
 go_wp2_with fail
 refine zaf (fun W=>Below w.heap.size w W∧W.heap[w.heap.size]?=some (.cells tokZ.cells 38 (0,0))) ⟨(Below.refl _ _).alloc (Nat.le_refl _) _,heap_alloc_new _ _⟩ ?_;rintro W ⟨hB,hz⟩;refine(zbe (HR.out.low hB)).mono ?_;rintro e W1 ⟨rfl,b1⟩;rw[HT.out];obtain⟨W2,hst,hb2,ht2⟩:=zfc W1 t;have hB1:Below w.heap.size w W1:=hB.trans (b1.mono hB.size);have HB2:Hid (Below w.heap.size w W2):=hB1.trans (hb2.mono hB1.size);have HZ2:Hid (W2.heap[w.heap.size]?=some (.cells tokZ.cells 38 (0,0))):=(hb2.block _ (Nat.lt_of_lt_of_le (zaa hz) b1.size)).trans ((b1.block _ (zaa hz)).trans hz);have HT2:=hid ht2;have hl1:=hB1.size;clear hB hz b1 hb2 ht2 hB1
 go_wp2_with fail
 clear hst;refine(zar ⟨#[110,97,109,101]⟩ (HR.out.low HB2.out)).mono ?_;rintro e W3 ⟨rfl,b3⟩;have HB3:=hid (HB2.out.trans (b3.mono HB2.out.size));have HZ3:Hid (W3.heap[w.heap.size]?=some (.cells tokZ.cells 38 (0,0))):=(b3.block _ (zaa HZ2.out)).trans HZ2.out;have HT3:Hid (W3.heap[W1.heap.size]?=some (.cells t.cells 38 (0,0))):=(b3.block _ (zaa HT2.out)).trans HT2.out;clear b3 HB2 HZ2 HT2;obtain⟨tk,tx,tp⟩:=t;have HK:Hid ((tk == 1 && !kepB tx)=bo):=by have h:=HX.out;rw[HT.out] at h;exact h
 clear HX;have k0:W3.cell? ⟨W1.heap.size,0,none⟩=some (.int .i64 tk):=(cell_of_row _ _ 0 _ _ _ HT3.out).trans rfl;have k1:W3.cell? ⟨W1.heap.size,1,none⟩=some (.string tx):=(cell_of_row _ _ 1 _ _ _ HT3.out).trans rfl;obtain⟨b1,hb1⟩:∃ b,(tk == 1)=b:=⟨_,rfl⟩
 cases b1
 ·have HF:Hid (bo=false):=by have h:=HK.out;rw[hb1] at h;exact h.symm
  have HR3:=hid (HR.out.low HB3.out);have c1:=HR3.out.c1;have c2:=HR3.out.c2;have z:=HR3.out.z;clear k1 HK;obtain rfl:=HF.out
  cases bad
  ·skip
   obtain⟨W5,hw5,hZ5,hG5,hR5⟩:∃ W5,W3.setCell ⟨g,2,none⟩ (.bool true)=W5∧W5.heap[w.heap.size]?=some (.cells tokZ.cells 38 (0,0))∧w.grownBy W5 (some g)∧Qdr T W5 g st cap ts p true:=⟨_,rfl,(Qdr.sets HB3.out hgl (Nat.le_refl _) HZ3.out).1,(Qdr.sets HB3.out hgl (Nat.le_refl _) HZ3.out).2,HR3.out.wrong⟩;have HZ5:=hid hZ5;have HG5:=hid hG5;have HR5:=hid hR5;clear hZ5 hG5 hR5
   go_wp2_with (refine zb0 (by rfl) (.tmp 4) (.tmp 49) (by rfl) (t:=tokZ) (z:=tokZ) (by rfl) (by rfl) HZ5.out ?_)
   have hb:Below w.heap.size W5 (W5.setRow w.heap.size tokZ.cells):=zai (Below.refl _ _) (Nat.le_refl _) _;exact zbq Tryz.results45 rfl (zad HZ5.out) (zd9 (by show(_ || !okQ ts p ⟨#[110,97,109,101]⟩)=true;rw[HBO.out];rfl) (zav HG5.out hb) (HR5.out.below hTl hb))
  ·skip
   obtain⟨W5,hw5,hZ5,hG5,hR5⟩:∃ W5,W3.setCell ⟨g,2,none⟩ (.bool true)=W5∧W5.heap[w.heap.size]?=some (.cells tokZ.cells 38 (0,0))∧w.grownBy W5 (some g)∧Qdr T W5 g st cap ts p true:=⟨_,rfl,(Qdr.sets HB3.out hgl (Nat.le_refl _) HZ3.out).1,(Qdr.sets HB3.out hgl (Nat.le_refl _) HZ3.out).2,HR3.out.wrong⟩;have HZ5:=hid hZ5;have HG5:=hid hG5;have HR5:=hid hR5;clear hZ5 hG5 hR5
   go_wp2_with (refine zb0 (by rfl) (.tmp 4) (.tmp 49) (by rfl) (t:=tokZ) (z:=tokZ) (by rfl) (by rfl) HZ5.out ?_)
   have hb:Below w.heap.size W5 (W5.setRow w.heap.size tokZ.cells):=zai (Below.refl _ _) (Nat.le_refl _) _;exact zbq Tryz.results45 rfl (zad HZ5.out) (zd9 (by show(_ || !okQ ts p ⟨#[110,97,109,101]⟩)=true;rw[HBO.out];rfl) (zav HG5.out hb) (HR5.out.below hTl hb))
 ·have HKB:Hid ((!kepB tx)=bo):=by have h:=HK.out;rw[hb1] at h;exact h
  clear HK
  go_wp2_with fail
  refine(zey tx W3).mono ?_;rintro e W4 ⟨rfl,b4⟩;have HB4:=hid (HB3.out.trans (b4.mono HB3.out.size));have HZ4:Hid (W4.heap[w.heap.size]?=some (.cells tokZ.cells 38 (0,0))):=(b4.block _ (zaa HZ3.out)).trans HZ3.out;have HT4:Hid (W4.heap[W1.heap.size]?=some (.cells (⟨tk,tx,tp⟩:Tok).cells 38 (0,0))):=(b4.block _ (zaa HT3.out)).trans HT3.out;have HR3:=hid (HR.out.low HB4.out);have c1:=HR3.out.c1;have c2:=HR3.out.c2;have z:=HR3.out.z;clear b4 HB3 HZ3 HT3 k0 k1;obtain⟨kb,hkb⟩:∃ kb,kepB tx=kb:=⟨_,rfl⟩;obtain rfl:bo = !kb:=by rw[<-HKB.out,hkb]
  rw[hkb];clear hkb HKB
  cases kb
  ·cases bad
   ·skip
    have hpl:=hlt rfl;obtain⟨W5,hw5,hZ5,hT5,hG5,hR5⟩:∃ W5,W4.setCell ⟨g,1,none⟩ (.int .i64 ((p:Int)+1))=W5∧W5.heap[w.heap.size]?=some (.cells tokZ.cells 38 (0,0))∧W5.heap[W1.heap.size]?=some (.cells (⟨tk,tx,tp⟩:Tok).cells 38 (0,0))∧w.grownBy W5 (some g)∧Qdr T W5 g st cap ts (p+1) false:=⟨_,rfl,(Qdr.sets HB4.out hgl (Nat.le_refl _) HZ4.out).1,(Qdr.sets HB4.out hgl hl1 HT4.out).1,(Qdr.sets HB4.out hgl (Nat.le_refl _) HZ4.out).2,HR3.out.go (q:=p+1) hpl⟩;have HZ5:=hid hZ5;have HG5:=hid hG5;have HR5:=hid hR5;have j0:W5.cell? ⟨W1.heap.size,0,none⟩=some (.int .i64 (⟨tk,tx,tp⟩:Tok).kind):=(cell_of_row _ _ 0 _ _ _ hT5).trans rfl;have j1:W5.cell? ⟨W1.heap.size,1,none⟩=some (.string (⟨tk,tx,tp⟩:Tok).text):=(cell_of_row _ _ 1 _ _ _ hT5).trans rfl;have j2:W5.cell? ⟨W1.heap.size,2,none⟩=some (.int .i64 (⟨tk,tx,tp⟩:Tok).pos):=(cell_of_row _ _ 2 _ _ _ hT5).trans rfl;clear hZ5 hG5 hR5 hT5
    go_wp2_with (refine zb0 (by rfl) (.tmp 4) (.tmp 58) (by rfl) (t:=⟨tk,tx,tp⟩) (z:=tokZ) (by rfl) (by rfl) HZ5.out ?_)
    have hb:Below w.heap.size W5 (W5.setRow w.heap.size (⟨tk,tx,tp⟩:Tok).cells):=zai (Below.refl _ _) (Nat.le_refl _) _;have h:=zg4 (q:=⟨p,false⟩) (s:=⟨#[110,97,109,101]⟩) (by show(_ || !okQ ts p ⟨#[110,97,109,101]⟩)=false;rw[HBO.out];rfl) (zav HG5.out hb) (HR5.out.below hTl hb);rw[HT.out] at h;exact zbq Tryz.results45 rfl (zad HZ5.out) h
   ·skip
    obtain⟨W5,hw5,hZ5,hG5,hR5⟩:∃ W5,W4.setCell ⟨g,2,none⟩ (.bool true)=W5∧W5.heap[w.heap.size]?=some (.cells tokZ.cells 38 (0,0))∧w.grownBy W5 (some g)∧Qdr T W5 g st cap ts p true:=⟨_,rfl,(Qdr.sets HB4.out hgl (Nat.le_refl _) HZ4.out).1,(Qdr.sets HB4.out hgl (Nat.le_refl _) HZ4.out).2,HR3.out.wrong⟩;have HZ5:=hid hZ5;have HG5:=hid hG5;have HR5:=hid hR5;clear hZ5 hG5 hR5
    go_wp2_with (refine zb0 (by rfl) (.tmp 4) (.tmp 49) (by rfl) (t:=tokZ) (z:=tokZ) (by rfl) (by rfl) HZ5.out ?_)
    have hb:Below w.heap.size W5 (W5.setRow w.heap.size tokZ.cells):=zai (Below.refl _ _) (Nat.le_refl _) _;exact zbq Tryz.results45 rfl (zad HZ5.out) (zd9 (by show(_ || !okQ ts p ⟨#[110,97,109,101]⟩)=true;rw[HBO.out];rfl) (zav HG5.out hb) (HR5.out.below hTl hb))
  ·cases bad
   ·skip
    obtain⟨W5,hw5,hZ5,hG5,hR5⟩:∃ W5,W4.setCell ⟨g,2,none⟩ (.bool true)=W5∧W5.heap[w.heap.size]?=some (.cells tokZ.cells 38 (0,0))∧w.grownBy W5 (some g)∧Qdr T W5 g st cap ts p true:=⟨_,rfl,(Qdr.sets HB4.out hgl (Nat.le_refl _) HZ4.out).1,(Qdr.sets HB4.out hgl (Nat.le_refl _) HZ4.out).2,HR3.out.wrong⟩;have HZ5:=hid hZ5;have HG5:=hid hG5;have HR5:=hid hR5;clear hZ5 hG5 hR5
    go_wp2_with (refine zb0 (by rfl) (.tmp 4) (.tmp 49) (by rfl) (t:=tokZ) (z:=tokZ) (by rfl) (by rfl) HZ5.out ?_)
    have hb:Below w.heap.size W5 (W5.setRow w.heap.size tokZ.cells):=zai (Below.refl _ _) (Nat.le_refl _) _;exact zbq Tryz.results45 rfl (zad HZ5.out) (zd9 (by show(_ || !okQ ts p ⟨#[110,97,109,101]⟩)=true;rw[HBO.out];rfl) (zav HG5.out hb) (HR5.out.below hTl hb))
   ·skip
    obtain⟨W5,hw5,hZ5,hG5,hR5⟩:∃ W5,W4.setCell ⟨g,2,none⟩ (.bool true)=W5∧W5.heap[w.heap.size]?=some (.cells tokZ.cells 38 (0,0))∧w.grownBy W5 (some g)∧Qdr T W5 g st cap ts p true:=⟨_,rfl,(Qdr.sets HB4.out hgl (Nat.le_refl _) HZ4.out).1,(Qdr.sets HB4.out hgl (Nat.le_refl _) HZ4.out).2,HR3.out.wrong⟩;have HZ5:=hid hZ5;have HG5:=hid hG5;have HR5:=hid hR5;clear hZ5 hG5 hR5
    go_wp2_with (refine zb0 (by rfl) (.tmp 4) (.tmp 49) (by rfl) (t:=tokZ) (z:=tokZ) (by rfl) (by rfl) HZ5.out ?_)
    have hb:Below w.heap.size W5 (W5.setRow w.heap.size tokZ.cells):=zai (Below.refl _ _) (Nat.le_refl _) _;exact zbq Tryz.results45 rfl (zad HZ5.out) (zd9 (by show(_ || !okQ ts p ⟨#[110,97,109,101]⟩)=true;rw[HBO.out];rfl) (zav HG5.out hb) (HR5.out.below hTl hb))
theorem zj8 (hR:Qdr T w g st cap ts p bad):Calls Tryz.prog 45 #[.pointer (some ⟨g,0,none⟩),.string ⟨#[110,117,109,98,101,114]⟩] w (TkQ T w g st cap ts ⟨#[110,117,109,98,101,114]⟩ ⟨p,bad⟩):=by
 have HR:=hid hR;have hgl:=hR.lt;have hTl:=hR.hT;have hle:=hR.le;have hfe:=hR.few;clear hR;obtain⟨bo,hbo⟩:∃ bo,okQ ts p ⟨#[110,117,109,98,101,114]⟩=bo:=⟨_,rfl⟩;have HBO:=hid hbo;have hlt:bo=true->p<ts.length:=fun e=>zjg (hbo.trans e);have hx:((nxQ ts p).kind == 2)=bo:=hbo;have HX:=hid hx;clear hbo hx;obtain⟨t,ht⟩:∃ t,nxQ ts p=t:=⟨_,rfl⟩;have HT:=hid ht;clear ht
 go_enter Tryz.func45,Tryz.ntmps45
 go_wp2_with fail
 refine zaf (fun W=>Below w.heap.size w W∧W.heap[w.heap.size]?=some (.cells tokZ.cells 38 (0,0))) ⟨(Below.refl _ _).alloc (Nat.le_refl _) _,heap_alloc_new _ _⟩ ?_;rintro W ⟨hB,hz⟩;refine(zbe (HR.out.low hB)).mono ?_;rintro e W1 ⟨rfl,b1⟩;rw[HT.out];obtain⟨W2,hst,hb2,ht2⟩:=zfc W1 t;have hB1:Below w.heap.size w W1:=hB.trans (b1.mono hB.size);have HB2:Hid (Below w.heap.size w W2):=hB1.trans (hb2.mono hB1.size);have HZ2:Hid (W2.heap[w.heap.size]?=some (.cells tokZ.cells 38 (0,0))):=(hb2.block _ (Nat.lt_of_lt_of_le (zaa hz) b1.size)).trans ((b1.block _ (zaa hz)).trans hz);have HT2:=hid ht2;have hl1:=hB1.size;clear hB hz b1 hb2 ht2 hB1
 go_wp2_with fail
 clear hst;refine(zar ⟨#[110,117,109,98,101,114]⟩ (HR.out.low HB2.out)).mono ?_;rintro e W3 ⟨rfl,b3⟩;have HB3:=hid (HB2.out.trans (b3.mono HB2.out.size));have HZ3:Hid (W3.heap[w.heap.size]?=some (.cells tokZ.cells 38 (0,0))):=(b3.block _ (zaa HZ2.out)).trans HZ2.out;have HT3:Hid (W3.heap[W1.heap.size]?=some (.cells t.cells 38 (0,0))):=(b3.block _ (zaa HT2.out)).trans HT2.out;clear b3 HB2 HZ2 HT2;have HR3:=hid (HR.out.low HB3.out);have c1:=HR3.out.c1;have c2:=HR3.out.c2;have z:=HR3.out.z;have k0:W3.cell? ⟨W1.heap.size,0,none⟩=some (.int .i64 t.kind):=(cell_of_row _ _ 0 _ _ _ HT3.out).trans rfl;have hk:(t.kind == 2)=bo:=by have h:=HX.out;rw[HT.out] at h;exact h
 clear HX
 cases bad
 ·cases bo
  ·skip
   obtain⟨W5,hw5,hZ5,hG5,hR5⟩:∃ W5,W3.setCell ⟨g,2,none⟩ (.bool true)=W5∧W5.heap[w.heap.size]?=some (.cells tokZ.cells 38 (0,0))∧w.grownBy W5 (some g)∧Qdr T W5 g st cap ts p true:=⟨_,rfl,(Qdr.sets HB3.out hgl (Nat.le_refl _) HZ3.out).1,(Qdr.sets HB3.out hgl (Nat.le_refl _) HZ3.out).2,HR3.out.wrong⟩;have HZ5:=hid hZ5;have HG5:=hid hG5;have HR5:=hid hR5;clear hZ5 hG5 hR5
   go_wp2_with (refine zb0 (by rfl) (.tmp 4) (.tmp 49) (by rfl) (t:=tokZ) (z:=tokZ) (by rfl) (by rfl) HZ5.out ?_)
   have hb:Below w.heap.size W5 (W5.setRow w.heap.size tokZ.cells):=zai (Below.refl _ _) (Nat.le_refl _) _;exact zbq Tryz.results45 rfl (zad HZ5.out) (zd9 (by show(_ || !okQ ts p ⟨#[110,117,109,98,101,114]⟩)=true;rw[HBO.out];rfl) (zav HG5.out hb) (HR5.out.below hTl hb))
  ·skip
   have hpl:=hlt rfl;obtain⟨W5,hw5,hZ5,hT5,hG5,hR5⟩:∃ W5,W3.setCell ⟨g,1,none⟩ (.int .i64 ((p:Int)+1))=W5∧W5.heap[w.heap.size]?=some (.cells tokZ.cells 38 (0,0))∧W5.heap[W1.heap.size]?=some (.cells (t:Tok).cells 38 (0,0))∧w.grownBy W5 (some g)∧Qdr T W5 g st cap ts (p+1) false:=⟨_,rfl,(Qdr.sets HB3.out hgl (Nat.le_refl _) HZ3.out).1,(Qdr.sets HB3.out hgl hl1 HT3.out).1,(Qdr.sets HB3.out hgl (Nat.le_refl _) HZ3.out).2,HR3.out.go (q:=p+1) hpl⟩;have HZ5:=hid hZ5;have HG5:=hid hG5;have HR5:=hid hR5;have j0:W5.cell? ⟨W1.heap.size,0,none⟩=some (.int .i64 (t:Tok).kind):=(cell_of_row _ _ 0 _ _ _ hT5).trans rfl;have j1:W5.cell? ⟨W1.heap.size,1,none⟩=some (.string (t:Tok).text):=(cell_of_row _ _ 1 _ _ _ hT5).trans rfl;have j2:W5.cell? ⟨W1.heap.size,2,none⟩=some (.int .i64 (t:Tok).pos):=(cell_of_row _ _ 2 _ _ _ hT5).trans rfl;clear hZ5 hG5 hR5 hT5
   go_wp2_with (refine zb0 (by rfl) (.tmp 4) (.tmp 58) (by rfl) (t:=t) (z:=tokZ) (by rfl) (by rfl) HZ5.out ?_)
   have hb:Below w.heap.size W5 (W5.setRow w.heap.size (t:Tok).cells):=zai (Below.refl _ _) (Nat.le_refl _) _;have h:=zg4 (q:=⟨p,false⟩) (s:=⟨#[110,117,109,98,101,114]⟩) (by show(_ || !okQ ts p ⟨#[110,117,109,98,101,114]⟩)=false;rw[HBO.out];rfl) (zav HG5.out hb) (HR5.out.below hTl hb);rw[HT.out] at h;exact zbq Tryz.results45 rfl (zad HZ5.out) h
 ·skip
  obtain⟨W5,hw5,hZ5,hG5,hR5⟩:∃ W5,W3.setCell ⟨g,2,none⟩ (.bool true)=W5∧W5.heap[w.heap.size]?=some (.cells tokZ.cells 38 (0,0))∧w.grownBy W5 (some g)∧Qdr T W5 g st cap ts p true:=⟨_,rfl,(Qdr.sets HB3.out hgl (Nat.le_refl _) HZ3.out).1,(Qdr.sets HB3.out hgl (Nat.le_refl _) HZ3.out).2,HR3.out.wrong⟩;have HZ5:=hid hZ5;have HG5:=hid hG5;have HR5:=hid hR5;clear hZ5 hG5 hR5
  go_wp2_with (refine zb0 (by rfl) (.tmp 4) (.tmp 49) (by rfl) (t:=tokZ) (z:=tokZ) (by rfl) (by rfl) HZ5.out ?_)
  have hb:Below w.heap.size W5 (W5.setRow w.heap.size tokZ.cells):=zai (Below.refl _ _) (Nat.le_refl _) _;exact zbq Tryz.results45 rfl (zad HZ5.out) (zd9 (by show(_ || !okQ ts p ⟨#[110,117,109,98,101,114]⟩)=true;rw[HBO.out];rfl) (zav HG5.out hb) (HR5.out.below hTl hb))
theorem zm9 (hR:Qdr T w g st cap ts p bad):Calls Tryz.prog 45 #[.pointer (some ⟨g,0,none⟩),.string ⟨#[116,101,120,116]⟩] w (TkQ T w g st cap ts ⟨#[116,101,120,116]⟩ ⟨p,bad⟩):=by
 have HR:=hid hR;have hgl:=hR.lt;have hTl:=hR.hT;have hle:=hR.le;have hfe:=hR.few;clear hR;obtain⟨bo,hbo⟩:∃ bo,okQ ts p ⟨#[116,101,120,116]⟩=bo:=⟨_,rfl⟩;have HBO:=hid hbo;have hlt:bo=true->p<ts.length:=fun e=>zjg (hbo.trans e);have hx:((nxQ ts p).kind == 3)=bo:=hbo;have HX:=hid hx;clear hbo hx;obtain⟨t,ht⟩:∃ t,nxQ ts p=t:=⟨_,rfl⟩;have HT:=hid ht;clear ht
 go_enter Tryz.func45,Tryz.ntmps45
 go_wp2_with fail
 refine zaf (fun W=>Below w.heap.size w W∧W.heap[w.heap.size]?=some (.cells tokZ.cells 38 (0,0))) ⟨(Below.refl _ _).alloc (Nat.le_refl _) _,heap_alloc_new _ _⟩ ?_;rintro W ⟨hB,hz⟩;refine(zbe (HR.out.low hB)).mono ?_;rintro e W1 ⟨rfl,b1⟩;rw[HT.out];obtain⟨W2,hst,hb2,ht2⟩:=zfc W1 t;have hB1:Below w.heap.size w W1:=hB.trans (b1.mono hB.size);have HB2:Hid (Below w.heap.size w W2):=hB1.trans (hb2.mono hB1.size);have HZ2:Hid (W2.heap[w.heap.size]?=some (.cells tokZ.cells 38 (0,0))):=(hb2.block _ (Nat.lt_of_lt_of_le (zaa hz) b1.size)).trans ((b1.block _ (zaa hz)).trans hz);have HT2:=hid ht2;have hl1:=hB1.size;clear hB hz b1 hb2 ht2 hB1
 go_wp2_with fail
 clear hst;refine(zar ⟨#[116,101,120,116]⟩ (HR.out.low HB2.out)).mono ?_;rintro e W3 ⟨rfl,b3⟩;have HB3:=hid (HB2.out.trans (b3.mono HB2.out.size));have HZ3:Hid (W3.heap[w.heap.size]?=some (.cells tokZ.cells 38 (0,0))):=(b3.block _ (zaa HZ2.out)).trans HZ2.out;have HT3:Hid (W3.heap[W1.heap.size]?=some (.cells t.cells 38 (0,0))):=(b3.block _ (zaa HT2.out)).trans HT2.out;clear b3 HB2 HZ2 HT2;have HR3:=hid (HR.out.low HB3.out);have c1:=HR3.out.c1;have c2:=HR3.out.c2;have z:=HR3.out.z;have k0:W3.cell? ⟨W1.heap.size,0,none⟩=some (.int .i64 t.kind):=(cell_of_row _ _ 0 _ _ _ HT3.out).trans rfl;have hk:(t.kind == 3)=bo:=by have h:=HX.out;rw[HT.out] at h;exact h
 clear HX
 cases bad
 ·cases bo
  ·skip
   obtain⟨W5,hw5,hZ5,hG5,hR5⟩:∃ W5,W3.setCell ⟨g,2,none⟩ (.bool true)=W5∧W5.heap[w.heap.size]?=some (.cells tokZ.cells 38 (0,0))∧w.grownBy W5 (some g)∧Qdr T W5 g st cap ts p true:=⟨_,rfl,(Qdr.sets HB3.out hgl (Nat.le_refl _) HZ3.out).1,(Qdr.sets HB3.out hgl (Nat.le_refl _) HZ3.out).2,HR3.out.wrong⟩;have HZ5:=hid hZ5;have HG5:=hid hG5;have HR5:=hid hR5;clear hZ5 hG5 hR5
   go_wp2_with (refine zb0 (by rfl) (.tmp 4) (.tmp 49) (by rfl) (t:=tokZ) (z:=tokZ) (by rfl) (by rfl) HZ5.out ?_)
   have hb:Below w.heap.size W5 (W5.setRow w.heap.size tokZ.cells):=zai (Below.refl _ _) (Nat.le_refl _) _;exact zbq Tryz.results45 rfl (zad HZ5.out) (zd9 (by show(_ || !okQ ts p ⟨#[116,101,120,116]⟩)=true;rw[HBO.out];rfl) (zav HG5.out hb) (HR5.out.below hTl hb))
  ·skip
   have hpl:=hlt rfl;obtain⟨W5,hw5,hZ5,hT5,hG5,hR5⟩:∃ W5,W3.setCell ⟨g,1,none⟩ (.int .i64 ((p:Int)+1))=W5∧W5.heap[w.heap.size]?=some (.cells tokZ.cells 38 (0,0))∧W5.heap[W1.heap.size]?=some (.cells (t:Tok).cells 38 (0,0))∧w.grownBy W5 (some g)∧Qdr T W5 g st cap ts (p+1) false:=⟨_,rfl,(Qdr.sets HB3.out hgl (Nat.le_refl _) HZ3.out).1,(Qdr.sets HB3.out hgl hl1 HT3.out).1,(Qdr.sets HB3.out hgl (Nat.le_refl _) HZ3.out).2,HR3.out.go (q:=p+1) hpl⟩;have HZ5:=hid hZ5;have HG5:=hid hG5;have HR5:=hid hR5;have j0:W5.cell? ⟨W1.heap.size,0,none⟩=some (.int .i64 (t:Tok).kind):=(cell_of_row _ _ 0 _ _ _ hT5).trans rfl;have j1:W5.cell? ⟨W1.heap.size,1,none⟩=some (.string (t:Tok).text):=(cell_of_row _ _ 1 _ _ _ hT5).trans rfl;have j2:W5.cell? ⟨W1.heap.size,2,none⟩=some (.int .i64 (t:Tok).pos):=(cell_of_row _ _ 2 _ _ _ hT5).trans rfl;clear hZ5 hG5 hR5 hT5
   go_wp2_with (refine zb0 (by rfl) (.tmp 4) (.tmp 58) (by rfl) (t:=t) (z:=tokZ) (by rfl) (by rfl) HZ5.out ?_)
   have hb:Below w.heap.size W5 (W5.setRow w.heap.size (t:Tok).cells):=zai (Below.refl _ _) (Nat.le_refl _) _;have h:=zg4 (q:=⟨p,false⟩) (s:=⟨#[116,101,120,116]⟩) (by show(_ || !okQ ts p ⟨#[116,101,120,116]⟩)=false;rw[HBO.out];rfl) (zav HG5.out hb) (HR5.out.below hTl hb);rw[HT.out] at h;exact zbq Tryz.results45 rfl (zad HZ5.out) h
 ·skip
  obtain⟨W5,hw5,hZ5,hG5,hR5⟩:∃ W5,W3.setCell ⟨g,2,none⟩ (.bool true)=W5∧W5.heap[w.heap.size]?=some (.cells tokZ.cells 38 (0,0))∧w.grownBy W5 (some g)∧Qdr T W5 g st cap ts p true:=⟨_,rfl,(Qdr.sets HB3.out hgl (Nat.le_refl _) HZ3.out).1,(Qdr.sets HB3.out hgl (Nat.le_refl _) HZ3.out).2,HR3.out.wrong⟩;have HZ5:=hid hZ5;have HG5:=hid hG5;have HR5:=hid hR5;clear hZ5 hG5 hR5
  go_wp2_with (refine zb0 (by rfl) (.tmp 4) (.tmp 49) (by rfl) (t:=tokZ) (z:=tokZ) (by rfl) (by rfl) HZ5.out ?_)
  have hb:Below w.heap.size W5 (W5.setRow w.heap.size tokZ.cells):=zai (Below.refl _ _) (Nat.le_refl _) _;exact zbq Tryz.results45 rfl (zad HZ5.out) (zd9 (by show(_ || !okQ ts p ⟨#[116,101,120,116]⟩)=true;rw[HBO.out];rfl) (zav HG5.out hb) (HR5.out.below hTl hb))
theorem zo7 (hR:Qdr T w g st cap ts p bad):Calls Tryz.prog 45 #[.pointer (some ⟨g,0,none⟩),.string ⟨#[101,110,100]⟩] w (TkQ T w g st cap ts ⟨#[101,110,100]⟩ ⟨p,bad⟩):=by
 have HR:=hid hR;have hgl:=hR.lt;have hTl:=hR.hT;have hle:=hR.le;have hfe:=hR.few;clear hR;obtain⟨bo,hbo⟩:∃ bo,okQ ts p ⟨#[101,110,100]⟩=bo:=⟨_,rfl⟩;have HBO:=hid hbo;have hlt:bo=true->p<ts.length:=fun e=>zjg (hbo.trans e);have hx:((nxQ ts p).kind == 5)=bo:=hbo;have HX:=hid hx;clear hbo hx;obtain⟨t,ht⟩:∃ t,nxQ ts p=t:=⟨_,rfl⟩;have HT:=hid ht;clear ht
 go_enter Tryz.func45,Tryz.ntmps45
 go_wp2_with fail
 refine zaf (fun W=>Below w.heap.size w W∧W.heap[w.heap.size]?=some (.cells tokZ.cells 38 (0,0))) ⟨(Below.refl _ _).alloc (Nat.le_refl _) _,heap_alloc_new _ _⟩ ?_;rintro W ⟨hB,hz⟩;refine(zbe (HR.out.low hB)).mono ?_;rintro e W1 ⟨rfl,b1⟩;rw[HT.out];obtain⟨W2,hst,hb2,ht2⟩:=zfc W1 t;have hB1:Below w.heap.size w W1:=hB.trans (b1.mono hB.size);have HB2:Hid (Below w.heap.size w W2):=hB1.trans (hb2.mono hB1.size);have HZ2:Hid (W2.heap[w.heap.size]?=some (.cells tokZ.cells 38 (0,0))):=(hb2.block _ (Nat.lt_of_lt_of_le (zaa hz) b1.size)).trans ((b1.block _ (zaa hz)).trans hz);have HT2:=hid ht2;have hl1:=hB1.size;clear hB hz b1 hb2 ht2 hB1
 go_wp2_with fail
 clear hst;refine(zar ⟨#[101,110,100]⟩ (HR.out.low HB2.out)).mono ?_;rintro e W3 ⟨rfl,b3⟩;have HB3:=hid (HB2.out.trans (b3.mono HB2.out.size));have HZ3:Hid (W3.heap[w.heap.size]?=some (.cells tokZ.cells 38 (0,0))):=(b3.block _ (zaa HZ2.out)).trans HZ2.out;have HT3:Hid (W3.heap[W1.heap.size]?=some (.cells t.cells 38 (0,0))):=(b3.block _ (zaa HT2.out)).trans HT2.out;clear b3 HB2 HZ2 HT2;have HR3:=hid (HR.out.low HB3.out);have c1:=HR3.out.c1;have c2:=HR3.out.c2;have z:=HR3.out.z;have k0:W3.cell? ⟨W1.heap.size,0,none⟩=some (.int .i64 t.kind):=(cell_of_row _ _ 0 _ _ _ HT3.out).trans rfl;have hk:(t.kind == 5)=bo:=by have h:=HX.out;rw[HT.out] at h;exact h
 clear HX
 cases bad
 ·cases bo
  ·skip
   obtain⟨W5,hw5,hZ5,hG5,hR5⟩:∃ W5,W3.setCell ⟨g,2,none⟩ (.bool true)=W5∧W5.heap[w.heap.size]?=some (.cells tokZ.cells 38 (0,0))∧w.grownBy W5 (some g)∧Qdr T W5 g st cap ts p true:=⟨_,rfl,(Qdr.sets HB3.out hgl (Nat.le_refl _) HZ3.out).1,(Qdr.sets HB3.out hgl (Nat.le_refl _) HZ3.out).2,HR3.out.wrong⟩;have HZ5:=hid hZ5;have HG5:=hid hG5;have HR5:=hid hR5;clear hZ5 hG5 hR5
   go_wp2_with (refine zb0 (by rfl) (.tmp 4) (.tmp 49) (by rfl) (t:=tokZ) (z:=tokZ) (by rfl) (by rfl) HZ5.out ?_)
   have hb:Below w.heap.size W5 (W5.setRow w.heap.size tokZ.cells):=zai (Below.refl _ _) (Nat.le_refl _) _;exact zbq Tryz.results45 rfl (zad HZ5.out) (zd9 (by show(_ || !okQ ts p ⟨#[101,110,100]⟩)=true;rw[HBO.out];rfl) (zav HG5.out hb) (HR5.out.below hTl hb))
  ·skip
   have hpl:=hlt rfl;obtain⟨W5,hw5,hZ5,hT5,hG5,hR5⟩:∃ W5,W3.setCell ⟨g,1,none⟩ (.int .i64 ((p:Int)+1))=W5∧W5.heap[w.heap.size]?=some (.cells tokZ.cells 38 (0,0))∧W5.heap[W1.heap.size]?=some (.cells (t:Tok).cells 38 (0,0))∧w.grownBy W5 (some g)∧Qdr T W5 g st cap ts (p+1) false:=⟨_,rfl,(Qdr.sets HB3.out hgl (Nat.le_refl _) HZ3.out).1,(Qdr.sets HB3.out hgl hl1 HT3.out).1,(Qdr.sets HB3.out hgl (Nat.le_refl _) HZ3.out).2,HR3.out.go (q:=p+1) hpl⟩;have HZ5:=hid hZ5;have HG5:=hid hG5;have HR5:=hid hR5;have j0:W5.cell? ⟨W1.heap.size,0,none⟩=some (.int .i64 (t:Tok).kind):=(cell_of_row _ _ 0 _ _ _ hT5).trans rfl;have j1:W5.cell? ⟨W1.heap.size,1,none⟩=some (.string (t:Tok).text):=(cell_of_row _ _ 1 _ _ _ hT5).trans rfl;have j2:W5.cell? ⟨W1.heap.size,2,none⟩=some (.int .i64 (t:Tok).pos):=(cell_of_row _ _ 2 _ _ _ hT5).trans rfl;clear hZ5 hG5 hR5 hT5
   go_wp2_with (refine zb0 (by rfl) (.tmp 4) (.tmp 58) (by rfl) (t:=t) (z:=tokZ) (by rfl) (by rfl) HZ5.out ?_)
   have hb:Below w.heap.size W5 (W5.setRow w.heap.size (t:Tok).cells):=zai (Below.refl _ _) (Nat.le_refl _) _;have h:=zg4 (q:=⟨p,false⟩) (s:=⟨#[101,110,100]⟩) (by show(_ || !okQ ts p ⟨#[101,110,100]⟩)=false;rw[HBO.out];rfl) (zav HG5.out hb) (HR5.out.below hTl hb);rw[HT.out] at h;exact zbq Tryz.results45 rfl (zad HZ5.out) h
 ·skip
  obtain⟨W5,hw5,hZ5,hG5,hR5⟩:∃ W5,W3.setCell ⟨g,2,none⟩ (.bool true)=W5∧W5.heap[w.heap.size]?=some (.cells tokZ.cells 38 (0,0))∧w.grownBy W5 (some g)∧Qdr T W5 g st cap ts p true:=⟨_,rfl,(Qdr.sets HB3.out hgl (Nat.le_refl _) HZ3.out).1,(Qdr.sets HB3.out hgl (Nat.le_refl _) HZ3.out).2,HR3.out.wrong⟩;have HZ5:=hid hZ5;have HG5:=hid hG5;have HR5:=hid hR5;clear hZ5 hG5 hR5
  go_wp2_with (refine zb0 (by rfl) (.tmp 4) (.tmp 49) (by rfl) (t:=tokZ) (z:=tokZ) (by rfl) (by rfl) HZ5.out ?_)
  have hb:Below w.heap.size W5 (W5.setRow w.heap.size tokZ.cells):=zai (Below.refl _ _) (Nat.le_refl _) _;exact zbq Tryz.results45 rfl (zad HZ5.out) (zd9 (by show(_ || !okQ ts p ⟨#[101,110,100]⟩)=true;rw[HBO.out];rfl) (zav HG5.out hb) (HR5.out.below hTl hb))
theorem zna (s:ByteArray)(hs:spc s=false)(hR:Qdr T w g st cap ts p bad):Calls Tryz.prog 45 #[.pointer (some ⟨g,0,none⟩),.string s] w (TkQ T w g st cap ts s ⟨p,bad⟩):=by
 have HR:=hid hR;have hgl:=hR.lt;have hTl:=hR.hT;have hle:=hR.le;have hfe:=hR.few;clear hR;obtain⟨s1,s2,s3,s4⟩:(s.toList == [110,97,109,101])=false∧(s.toList == [110,117,109,98,101,114])=false∧(s.toList == [116,101,120,116])=false∧(s.toList == [101,110,100])=false:=by
  have h:=hs;unfold spc at h;simp only[Bool.or_eq_false_iff] at h;rw[ByteArray.toList_eq];exact⟨h.2,h.1.2,h.1.1.2,h.1.1.1⟩
 obtain⟨bo,hbo⟩:∃ bo,okQ ts p s=bo:=⟨_,rfl⟩;have HBO:=hid hbo;have hlt:bo=true->p<ts.length:=fun e=>zjg (hbo.trans e);have hx:isQ ts p s=bo:=(zky hs).symm.trans hbo;have HX:=hid hx;clear hbo hx;obtain⟨t,ht⟩:∃ t,nxQ ts p=t:=⟨_,rfl⟩;have HT:=hid ht;clear ht
 go_enter Tryz.func45,Tryz.ntmps45
 go_wp2_with fail
 refine zaf (fun W=>Below w.heap.size w W∧W.heap[w.heap.size]?=some (.cells tokZ.cells 38 (0,0))) ⟨(Below.refl _ _).alloc (Nat.le_refl _) _,heap_alloc_new _ _⟩ ?_;rintro W ⟨hB,hz⟩;refine(zbe (HR.out.low hB)).mono ?_;rintro e W1 ⟨rfl,b1⟩;rw[HT.out];obtain⟨W2,hst,hb2,ht2⟩:=zfc W1 t;have hB1:Below w.heap.size w W1:=hB.trans (b1.mono hB.size);have HB2:Hid (Below w.heap.size w W2):=hB1.trans (hb2.mono hB1.size);have HZ2:Hid (W2.heap[w.heap.size]?=some (.cells tokZ.cells 38 (0,0))):=(hb2.block _ (Nat.lt_of_lt_of_le (zaa hz) b1.size)).trans ((b1.block _ (zaa hz)).trans hz);have HT2:=hid ht2;have hl1:=hB1.size;clear hB hz b1 hb2 ht2 hB1
 go_wp2_with fail
 clear hst;refine(zar s (HR.out.low HB2.out)).mono ?_;rintro e W3 ⟨rfl,b3⟩;have HB3:=hid (HB2.out.trans (b3.mono HB2.out.size));have HZ3:Hid (W3.heap[w.heap.size]?=some (.cells tokZ.cells 38 (0,0))):=(b3.block _ (zaa HZ2.out)).trans HZ2.out;have HT3:Hid (W3.heap[W1.heap.size]?=some (.cells t.cells 38 (0,0))):=(b3.block _ (zaa HT2.out)).trans HT2.out;clear b3 HB2 HZ2 HT2;have HR3:=hid (HR.out.low HB3.out);have c1:=HR3.out.c1;have c2:=HR3.out.c2;have z:=HR3.out.z;rw[HX.out];clear HX
 cases bad
 ·cases bo
  ·skip
   obtain⟨W5,hw5,hZ5,hG5,hR5⟩:∃ W5,W3.setCell ⟨g,2,none⟩ (.bool true)=W5∧W5.heap[w.heap.size]?=some (.cells tokZ.cells 38 (0,0))∧w.grownBy W5 (some g)∧Qdr T W5 g st cap ts p true:=⟨_,rfl,(Qdr.sets HB3.out hgl (Nat.le_refl _) HZ3.out).1,(Qdr.sets HB3.out hgl (Nat.le_refl _) HZ3.out).2,HR3.out.wrong⟩;have HZ5:=hid hZ5;have HG5:=hid hG5;have HR5:=hid hR5;clear hZ5 hG5 hR5
   go_wp2_with (refine zb0 (by rfl) (.tmp 4) (.tmp 49) (by rfl) (t:=tokZ) (z:=tokZ) (by rfl) (by rfl) HZ5.out ?_)
   have hb:Below w.heap.size W5 (W5.setRow w.heap.size tokZ.cells):=zai (Below.refl _ _) (Nat.le_refl _) _;exact zbq Tryz.results45 rfl (zad HZ5.out) (zd9 (by show(_ || !okQ ts p s)=true;rw[HBO.out];rfl) (zav HG5.out hb) (HR5.out.below hTl hb))
  ·skip
   have hpl:=hlt rfl;obtain⟨W5,hw5,hZ5,hT5,hG5,hR5⟩:∃ W5,W3.setCell ⟨g,1,none⟩ (.int .i64 ((p:Int)+1))=W5∧W5.heap[w.heap.size]?=some (.cells tokZ.cells 38 (0,0))∧W5.heap[W1.heap.size]?=some (.cells (t:Tok).cells 38 (0,0))∧w.grownBy W5 (some g)∧Qdr T W5 g st cap ts (p+1) false:=⟨_,rfl,(Qdr.sets HB3.out hgl (Nat.le_refl _) HZ3.out).1,(Qdr.sets HB3.out hgl hl1 HT3.out).1,(Qdr.sets HB3.out hgl (Nat.le_refl _) HZ3.out).2,HR3.out.go (q:=p+1) hpl⟩;have HZ5:=hid hZ5;have HG5:=hid hG5;have HR5:=hid hR5;have j0:W5.cell? ⟨W1.heap.size,0,none⟩=some (.int .i64 (t:Tok).kind):=(cell_of_row _ _ 0 _ _ _ hT5).trans rfl;have j1:W5.cell? ⟨W1.heap.size,1,none⟩=some (.string (t:Tok).text):=(cell_of_row _ _ 1 _ _ _ hT5).trans rfl;have j2:W5.cell? ⟨W1.heap.size,2,none⟩=some (.int .i64 (t:Tok).pos):=(cell_of_row _ _ 2 _ _ _ hT5).trans rfl;clear hZ5 hG5 hR5 hT5
   go_wp2_with (refine zb0 (by rfl) (.tmp 4) (.tmp 58) (by rfl) (t:=t) (z:=tokZ) (by rfl) (by rfl) HZ5.out ?_)
   have hb:Below w.heap.size W5 (W5.setRow w.heap.size (t:Tok).cells):=zai (Below.refl _ _) (Nat.le_refl _) _;have h:=zg4 (q:=⟨p,false⟩) (s:=s) (by show(_ || !okQ ts p s)=false;rw[HBO.out];rfl) (zav HG5.out hb) (HR5.out.below hTl hb);rw[HT.out] at h;exact zbq Tryz.results45 rfl (zad HZ5.out) h
 ·skip
  obtain⟨W5,hw5,hZ5,hG5,hR5⟩:∃ W5,W3.setCell ⟨g,2,none⟩ (.bool true)=W5∧W5.heap[w.heap.size]?=some (.cells tokZ.cells 38 (0,0))∧w.grownBy W5 (some g)∧Qdr T W5 g st cap ts p true:=⟨_,rfl,(Qdr.sets HB3.out hgl (Nat.le_refl _) HZ3.out).1,(Qdr.sets HB3.out hgl (Nat.le_refl _) HZ3.out).2,HR3.out.wrong⟩;have HZ5:=hid hZ5;have HG5:=hid hG5;have HR5:=hid hR5;clear hZ5 hG5 hR5
  go_wp2_with (refine zb0 (by rfl) (.tmp 4) (.tmp 49) (by rfl) (t:=tokZ) (z:=tokZ) (by rfl) (by rfl) HZ5.out ?_)
  have hb:Below w.heap.size W5 (W5.setRow w.heap.size tokZ.cells):=zai (Below.refl _ _) (Nat.le_refl _) _;exact zbq Tryz.results45 rfl (zad HZ5.out) (zd9 (by show(_ || !okQ ts p s)=true;rw[HBO.out];rfl) (zav HG5.out hb) (HR5.out.below hTl hb))
theorem zag (s:ByteArray)(hR:Qdr T w g st cap ts p bad):Calls Tryz.prog 45 #[.pointer (some ⟨g,0,none⟩),.string s] w (TkQ T w g st cap ts s ⟨p,bad⟩):=by
 cases h:spc s
 ·exact zna s h hR
 ·unfold spc at h;simp only[Bool.or_eq_true] at h;rcases h with((h|h) | h) | h
  ·rw[show s=⟨#[101,110,100]⟩ from ze7 (eq_of_beq h)];exact zo7 hR
  ·rw[show s=⟨#[116,101,120,116]⟩ from ze7 (eq_of_beq h)];exact zm9 hR
  ·rw[show s=⟨#[110,117,109,98,101,114]⟩ from ze7 (eq_of_beq h)];exact zj8 hR
  ·rw[show s=⟨#[110,97,109,101]⟩ from ze7 (eq_of_beq h)];exact zm8 hR
end
theorem znb {α β:Type}{b:Bool}{s:Int}{k:Rs α}{f:α->Nat->Rs β}:(Rs.need b s k).bind f=Rs.need b s (k.bind f):=by
 unfold Rs.need
 cases b <;> rfl
theorem zfq {α β γ:Type}{r:Rs α}{f:α->Nat->Rs β}{g:β->Nat->Rs γ}:(r.bind f).bind g=r.bind fun v q=>(f v q).bind g:=by cases r <;> rfl
theorem zru {α β:Type}{c:Prop} [Decidable c] {a b:Rs α}{g:α->Nat->Rs β}:(if c then a else b).bind g=if c then a.bind g else b.bind g:=by split <;> rfl
theorem zrv {α β:Type}{ts:List Tok}{s:ByteArray}{q:Qs}{k:Tok->Qs->Option α}{g:α->Option β}:(tak ts s q k).bind g=tak ts s q fun t q=>(k t q).bind g:=rfl
theorem zht {α β:Type}{ts:List Tok}{s:List UInt8}{p:Nat}{k:Nat->Rs α}{f:α->Nat->Rs β}:(expP ts s p k).bind f=expP ts s p fun q=>(k q).bind f:=znb
section
variable {ts:List Tok}
theorem znc (n:Nat):∀ p,isT ts p [41]=true->(nxT ts p).kind=4->(∀ k,(fns ts n).bin k p=.bad (herI ts p)∨(fns ts n).bin k p=.out)∧((fns ts n).una p=.bad (herI ts p)∨(fns ts n).una p=.out)∧((fns ts n).post p=.bad (herI ts p)∨(fns ts n).post p=.out)∧((fns ts n).prim p=.bad (herI ts p)∨(fns ts n).prim p=.out):=by
 induction n with
 | zero=>exact fun p _ _=>⟨fun _=>.inr rfl,.inr rfl,.inr rfl,.inr rfl⟩
 | succ n ih=>
  intro p h hk;obtain⟨h1,h2,h3,h4⟩:=ih p h hk;have e:(nxT ts p).text.data.toList=[41]:=eq_of_beq h;have ne:∀ s,s≠[41]->isT ts p s=false:=fun s hs=>by
   unfold isT;rw[e,beq_eq_false_iff_ne];exact fun e=>hs e.symm
  refine⟨fun k=>?_,?_,?_,.inl ?_⟩
  ·show(if k=5 then(fns ts n).una p else((fns ts n).bin (k+1) p).bind fun t q=>(fns ts n).binL k (herI ts p) t q)=_∨(if k=5 then(fns ts n).una p else((fns ts n).bin (k+1) p).bind fun t q=>(fns ts n).binL k (herI ts p) t q)=_
   split
   ·exact h2
   ·rcases h1 (k+1) with h|h
    ·rw[h];exact .inl rfl
    ·rw[h];exact .inr rfl
  ·show(if _ then _ else(fns ts n).post p)=_∨(if _ then _ else(fns ts n).post p)=_;rw[ne [45] (by simp),ne [33] (by simp)];exact h3
  ·show((fns ts n).prim p).bind _=_∨((fns ts n).prim p).bind _=_;rcases h4 with h|h
   ·rw[h];exact .inl rfl
   ·rw[h];exact .inr rfl
  ·show(if isT ts p [40] then _ else if namB ts p then leaP ts 23 p else va1P ts p)=_;unfold namB va1P;rw[ne [40] (by simp),ne [116,114,117,101] (by simp),ne [102,97,108,115,101] (by simp),hk];rfl
variable (hR:RtT ts)
include hR
theorem zrw {p:Nat}{s:List UInt8}(h:isT ts p s=true)(hs:sgQ.contains s=true):(nxT ts p).kind=4:=hR.sg p (by rw[eq_of_beq h];exact List.contains_iff_mem.mp hs)
theorem zhu {f:Fns}{d:Dns}(hs:∀ l q,AgG ts Eq (f.stmL l q) (d.stmL l ⟨q,false⟩))(hb:∀ l q,Bd (d.stmL l ⟨q,true⟩) q)(p:Nat):AgG ts (IsV (herI ts p)) (bloP ts f p) (bloD ts d ⟨p,false⟩):=by
 unfold bloP bloD linP;rw[zht];refine zbh (zct hR p ⟨#[123]⟩ (.inl rfl) rfl) (fun _=>?_) fun t=>zax (hb _ _) fun l=>zbw fun _=>zaq _
 dsimp only
 rw[zfq];refine zb2 (hs _ _) (fun l l' q hl=>?_) fun l q=>zbw fun _=>zaq _;subst hl;rw[zht];refine zbh (zct hR _ ⟨#[125]⟩ (.inl rfl) rfl) (fun _=>zcp ⟨?_,zbl p⟩) fun t=>zaq _;simp only[Qv.pt,zbl]
theorem zp7 {f:Fns}{d:Dns}(hr:∀ q,AgG ts (IsV (herI ts q)) (f.bin 0 q) (d.row 1 ⟨q,false⟩))(hb:∀ q,Bd (d.row 1 ⟨q,true⟩) q)(p:Nat):AgG ts (IsV (herI ts p)) (varP ts f p) (varD ts d ⟨p,false⟩):=by
 unfold varP varD;refine zkz hR 4 ⟨#[118,97,114]⟩ p (d:=fun w=>if isQ ts (kinD ts w.2).2.p ⟨#[61]⟩ then tak ts ⟨#[61]⟩ (kinD ts w.2).2 fun _ q=>(d.row 1 q).bind fun e=>some ((⟨4,w.1.x,0,w.1.a,w.1.f,behI ts e.2.p,w.1.bg,[(kinD ts w.2).1.pt,e.1.pt]⟩:Qv),e.2) else some ((⟨4,w.1.x,0,w.1.a,w.1.f,behI ts (kinD ts w.2).2.p,w.1.bg,[(kinD ts w.2).1.pt]⟩:Qv),(kinD ts w.2).2)) rfl rfl (fun hp=>?_) fun v q=>?_
 ·refine zg3 (P':=IsV (herI ts p)) (k:=fun r=>if isQ ts r.2.p ⟨#[61]⟩ then tak ts ⟨#[61]⟩ r.2 fun _ q=>(d.row 1 q).bind fun e=>some ((⟨4,(nxT ts (p+1)).text,0,(nxT ts (p+1)).pos,herI ts p,behI ts e.2.p,herI ts p,[r.1.pt,e.1.pt]⟩:Qv),e.2) else some ((⟨4,(nxT ts (p+1)).text,0,(nxT ts (p+1)).pos,herI ts p,behI ts r.2.p,herI ts p,[r.1.pt]⟩:Qv),r.2)) (zm5 hR _) (fun t v q hv=>?_) fun v q=>?_
  ·obtain⟨rfl,hbg⟩:=hv;refine zcf (by rw[zba hR q ⟨#[61]⟩ (.inl rfl)]) (fun h=>?_) fun _=>zcp ⟨by simp only[Qv.pt],rfl⟩;refine zcu ((zct hR q ⟨#[61]⟩ (.inl rfl) rfl).trans h) ?_;refine zb2 (hr _) (fun t u q hu=>?_) fun v q=>zaq _;obtain⟨rfl,-⟩:=hu;exact zcp ⟨by simp only[Qv.pt],rfl⟩
  ·exact zdf (zbw fun _=>zax (hb _) fun _=>zaq _) (zaq _)
 ·obtain⟨r,hr'⟩:∃ r,kinD ts ⟨q,true⟩=r:=⟨_,rfl⟩;have h2:r.2=⟨q,true⟩:=hr' ▸ zgn;obtain⟨r,q⟩:=r
  cases h2
  dsimp only
  rw[hr'];exact zdf (zbw fun _=>zax (hb _) fun _=>zaq _) (zaq _)
theorem zrx {f:Fns}{d:Dns}(hr:∀ q,AgG ts (IsV (herI ts q)) (f.bin 0 q) (d.row 1 ⟨q,false⟩))(hb:∀ q,Bd (d.row 1 ⟨q,true⟩) q)(hs:∀ l q,AgG ts Eq (f.stmL l q) (d.stmL l ⟨q,false⟩))(hbs:∀ l q,Bd (d.stmL l ⟨q,true⟩) q)(p:Nat):AgG ts (IsV (herI ts p)) (looP ts f p) (looD ts d ⟨p,false⟩):=by
 unfold looP looD;refine zbh (zct hR p ⟨#[102,111,114]⟩ (.inr rfl) rfl) (fun _=>?_) fun t=>zax (hb _) fun e=>zax (zej fun _=>hbs _ _) fun _=>zaq _;refine zb2 (hr _) (fun t v q hv=>?_) fun v q=>zax (zej fun _=>hbs _ _) fun _=>zaq _;obtain⟨rfl,-⟩:=hv;refine zb2 (zhu hR hs hbs _) (fun t v q hv=>?_) fun v q=>zaq _;obtain⟨rfl,-⟩:=hv;exact zcp ⟨by simp only[Qv.pt,zbl],zbl p⟩
theorem zry {f:Fns}{d:Dns}(hr:∀ q,AgG ts (IsV (herI ts q)) (f.bin 0 q) (d.row 1 ⟨q,false⟩))(hb:∀ q,Bd (d.row 1 ⟨q,true⟩) q)(p:Nat):AgG ts (IsV (herI ts p)) (resP ts f p) (resD ts d ⟨p,false⟩):=by
 unfold resP resD;refine zbh (zct hR p ⟨#[114,101,116,117,114,110]⟩ (.inr rfl) rfl) (fun _=>?_) fun t=>zdf (zax (hb _) fun e=>zaq _) (zaq _);refine zcf (by rw[zfb,zba hR _ ⟨#[125]⟩ (.inl rfl)];rfl) (fun h=>?_) fun _=>zcp ⟨by simp only[Qv.pt,zbl],zbl p⟩;refine zb2 (hr _) (fun t v q hv=>?_) fun v q=>zaq _;obtain⟨rfl,-⟩:=hv;exact zcp ⟨by simp only[Qv.pt,zbl],zbl p⟩
theorem zrz {f:Fns}{d:Dns}(hr:∀ q,AgG ts (IsV (herI ts q)) (f.bin 0 q) (d.row 1 ⟨q,false⟩))(hb:∀ q,Bd (d.row 1 ⟨q,true⟩) q)(p:Nat):AgG ts (IsV (herI ts p)) (shoP ts f p) (shoD ts d ⟨p,false⟩):=by
 unfold shoP shoD
 dsimp only
 refine zbh (zcx p) (fun h=>?_) fun t=>zbw fun _=>zax (hb _) fun e=>zaq _;obtain⟨e1,e2,e3⟩:=zek (zdq h);refine zbh (zct hR _ ⟨#[58,61]⟩ (.inl rfl) rfl) (fun _=>?_) fun t=>zax (hb _) fun e=>zaq _;refine zb2 (hr _) (fun t v q hv=>?_) fun v q=>zaq _;obtain⟨rfl,-⟩:=hv;exact zcp ⟨by simp only[Qv.pt,zbl,zij,e2],zbl p⟩
theorem zr0 {f:Fns}{d:Dns}(hr:∀ q,AgG ts (IsV (herI ts q)) (f.bin 0 q) (d.row 1 ⟨q,false⟩))(hb:∀ q,Bd (d.row 1 ⟨q,true⟩) q)(p:Nat):AgG ts (IsV (herI ts p)) (simP ts f p) (simD ts d ⟨p,false⟩):=by
 unfold simP simD
 dsimp only
 refine zb2 (hr _) (fun t v q hv=>?_) fun v q=>zdf (zbw fun _=>zax (hb _) fun e=>zaq _) (zaq _);obtain⟨rfl,-⟩:=hv;refine zcf (by rw[zba hR _ ⟨#[61]⟩ (.inl rfl)]) (fun h=>?_) fun _=>zcp ⟨by simp only[Qv.pt,zbl],zbl p⟩;refine zcu ((zct hR _ ⟨#[61]⟩ (.inl rfl) rfl).trans h) ?_;refine zb2 (hr _) (fun t v q hv=>?_) fun v q=>zaq _;obtain⟨rfl,-⟩:=hv;exact zcp ⟨by simp only[Qv.pt,zbl],zbl p⟩
theorem zr1 {f:Fns}{d:Dns}(hs:∀ l q,AgG ts Eq (f.fieL l q) (d.fieL l ⟨q,false⟩))(hb:∀ l q,Bd (d.fieL l ⟨q,true⟩) q)(p:Nat):AgG ts (IsV (herI ts p)) (strP ts f p) (strD ts d ⟨p,false⟩):=by
 unfold strP strD linP;refine zkz hR 5 ⟨#[116,121,112,101]⟩ p (d:=fun w=>tak ts ⟨#[115,116,114,117,99,116]⟩ w.2 fun _ q=>tak ts ⟨#[123]⟩ q fun _ q=>(d.fieL [] q).bind fun l=>tak ts ⟨#[125]⟩ l.2 fun _ q=>some ((⟨5,w.1.x,0,w.1.a,w.1.f,behI ts q.p,w.1.bg,l.1⟩:Qv),q)) rfl rfl (fun hp=>?_) fun v q=>zbw fun _=>zbw fun _=>zax (hb _ _) fun _=>zbw fun _=>zaq _;refine zbh (zct hR _ ⟨#[115,116,114,117,99,116]⟩ (.inr rfl) rfl) (fun _=>?_) fun t=>zbw fun _=>zax (hb _ _) fun _=>zbw fun _=>zaq _
 dsimp only
 rw[zht];refine zbh (zct hR _ ⟨#[123]⟩ (.inl rfl) rfl) (fun _=>?_) fun t=>zax (hb _ _) fun _=>zbw fun _=>zaq _
 dsimp only
 rw[zfq];refine zb2 (hs _ _) (fun l l' q hl=>?_) fun l q=>zbw fun _=>zaq _;subst hl;rw[zht];refine zbh (zct hR _ ⟨#[125]⟩ (.inl rfl) rfl) (fun _=>zcp ⟨?_,rfl⟩) fun t=>zaq _;simp only[Qv.pt]
end
section
variable {ts:List Tok}
def Lis (ts:List Tok) (one:Nat->Rs Pt) (more:List Pt->Nat->Rs (List Pt)) (dl:List Pt->Qs->Option (List Pt × Qs)):Prop :=
 ∀ (fr:Int) (K:List Pt->Nat->Rs Pt) (DK:List Pt->Qs->Rq) (pre l:List Pt) (p:Nat),isT ts p [41]=false->(∀ l q,AgG ts (IsV fr) (K l q) (DK (pre++l) ⟨q,false⟩))->(∀ l q,Bd (DK l ⟨q,true⟩) q) ->
  AgG ts (IsV fr) ((one p).bind fun v q=>(more (l++[v]) q).bind fun l q=>expP ts [41] q fun q=>K l q) ((dl (pre++l) ⟨p,false⟩).bind fun l=>tak ts ⟨#[41]⟩ l.2 fun _ q=>DK l.1 q)
variable (hR:RtT ts)
include hR
theorem zp8 {one:Nat->Rs Pt}{more:List Pt->Nat->Rs (List Pt)}{dl:List Pt->Qs->Option (List Pt × Qs)}{d1:∀ l p,isT ts p [41]=true->dl l ⟨p,false⟩=some (l,⟨p,false⟩)}(hL:Lis ts one more dl)(hb:∀ l q,Bd (dl l ⟨q,true⟩) q)(fr:Int) (K:List Pt->Nat->Rs Pt) (DK:List Pt->Qs->Rq)(pre:List Pt)(p:Nat)(hK:∀ l q,AgG ts (IsV fr) (K l q) (DK (pre++l) ⟨q,false⟩))(hKb:∀ l q,Bd (DK l ⟨q,true⟩) q) :
  AgG ts (IsV fr) ((lisP ts one more p).bind K) (tak ts ⟨#[40]⟩ ⟨p,false⟩ fun _ q=>(dl pre q).bind fun l=>tak ts ⟨#[41]⟩ l.2 fun _ q=>DK l.1 q):=by
 unfold lisP;rw[zht];refine zbh (zct hR p ⟨#[40]⟩ (.inl rfl) rfl) (fun _=>?_) fun t=>zax (hb _ _) fun _=>zbw fun _=>hKb _ _
 dsimp only
 rw[zru]
 split
 ·rename_i h
  rw[d1 _ _ h];show AgG ts (IsV fr) (K [] (p+1+1)) (tak ts ⟨#[41]⟩ ⟨p+1,false⟩ fun _ q=>DK pre q);refine zcu ((zct hR _ ⟨#[41]⟩ (.inl rfl) rfl).trans h) ?_;have:=hK [] (p+1+1);rw[List.append_nil] at this;exact this
 ·rename_i h
  have:=hL fr K DK pre [] (p+1) (by simpa using h) hK hKb;rw[zfq];rw[List.append_nil] at this;simp only[zfq,zht];exact this
theorem zr2 {f:Fns}{d:Dns}{dp:∀ l p,isT ts p [41]=true->d.parL l ⟨p,false⟩=some (l,⟨p,false⟩)}(hp:Lis ts (tydP ts 9) f.parL d.parL)(hpb:∀ l q,Bd (d.parL l ⟨q,true⟩) q)(hs:∀ l q,AgG ts Eq (f.stmL l q) (d.stmL l ⟨q,false⟩))(hbs:∀ l q,Bd (d.stmL l ⟨q,true⟩) q)(p:Nat):AgG ts (IsV (herI ts p)) (funP ts f p) (funD ts d ⟨p,false⟩):=by
 have hbd:∀ (u n:Tok) (l:List Pt) q,Bd (if isQ ts q ⟨#[123]⟩ then(bloD ts d ⟨q,true⟩).bind fun b=>some ((⟨7,n.text,0,n.pos,u.pos,behI ts b.2.p,u.pos,l++[b.1.pt]⟩:Qv),b.2) else(bloD ts d (kinD ts ⟨q,true⟩).2).bind fun b=>some ((⟨7,n.text,0,n.pos,u.pos,behI ts b.2.p,u.pos,l++[(kinD ts ⟨q,true⟩).1.pt]++[b.1.pt]⟩:Qv),b.2)) q:=fun u n l q=>by
  refine zdf (zax (zej fun _=>hbs _ _) fun _=>zaq _) ?_;rw[zgn];exact zax (zej fun _=>hbs _ _) fun _=>zaq _
 have hR2:∀ (l:List Pt) q,AgG ts (IsV (herI ts p)) (funR ts f (herI ts p) l q) (tak ts ⟨#[110,97,109,101]⟩ ⟨q,false⟩ fun n q=>tak ts ⟨#[40]⟩ q fun _ q=>(d.parL l q).bind fun l=>tak ts ⟨#[41]⟩ l.2 fun _ q=>
   if isQ ts q.p ⟨#[123]⟩ then(bloD ts d q).bind fun b=>some ((⟨7,n.text,0,n.pos,(nxQ ts p).pos,behI ts b.2.p,(nxQ ts p).pos,l.1++[b.1.pt]⟩:Qv),b.2)
   else(bloD ts d (kinD ts q).2).bind fun b=>some ((⟨7,n.text,0,n.pos,(nxQ ts p).pos,behI ts b.2.p,(nxQ ts p).pos,l.1++[(kinD ts q).1.pt]++[b.1.pt]⟩:Qv),b.2)):=fun l q=>by
  unfold funR;refine zbh (zcx q) (fun h=>?_) fun t=>zbw fun _=>zax (hpb _ _) fun _=>zbw fun _=>hbd _ _ _ _;obtain⟨-,e2,e3⟩:=zek (zdq h);refine zp8 hR (d1:=dp) hp hpb (herI ts p) _ (fun l q'=>if isQ ts q'.p ⟨#[123]⟩ then(bloD ts d q').bind fun b=>some ((⟨7,(nxQ ts q).text,0,(nxQ ts q).pos,(nxQ ts p).pos,behI ts b.2.p,(nxQ ts p).pos,l++[b.1.pt]⟩:Qv),b.2)
   else(bloD ts d (kinD ts q').2).bind fun b=>some ((⟨7,(nxQ ts q).text,0,(nxQ ts q).pos,(nxQ ts p).pos,behI ts b.2.p,(nxQ ts p).pos,l++[(kinD ts q').1.pt]++[b.1.pt]⟩:Qv),b.2)) l (q+1) (fun ps q'=>?_) fun l q'=>hbd _ _ _ _
  refine zcf (by rw[zba hR _ ⟨#[123]⟩ (.inl rfl)]) (fun _=>?_) fun _=>?_
  ·refine zb2 (zhu hR hs hbs _) (fun t v q hv=>?_) fun v q=>zaq _;obtain⟨rfl,-⟩:=hv;exact zcp ⟨by simp only[Qv.pt,e2,e3,zbl p],zbl p⟩
  ·refine zg3 (P':=IsV (herI ts p)) (k:=fun k=>(bloD ts d k.2).bind fun b=>some ((⟨7,(nxQ ts q).text,0,(nxQ ts q).pos,(nxQ ts p).pos,behI ts b.2.p,(nxQ ts p).pos,l++ps++[k.1.pt]++[b.1.pt]⟩:Qv),b.2)) (zm5 hR _) (fun t v q'' hv=>?_) fun v q=>zax (zej fun _=>hbs _ _) fun _=>zaq _;obtain⟨rfl,-⟩:=hv;refine zb2 (zhu hR hs hbs _) (fun t u q hu=>?_) fun v q=>zaq _;obtain⟨rfl,-⟩:=hu;exact zcp ⟨by simp only[Qv.pt,e2,e3,zbl p],zbl p⟩
 have hRb:∀ (u:Tok) (l:List Pt) q,Bd (tak ts ⟨#[110,97,109,101]⟩ ⟨q,true⟩ fun n q=>tak ts ⟨#[40]⟩ q fun _ q=>(d.parL l q).bind fun l=>tak ts ⟨#[41]⟩ l.2 fun _ q=>
   if isQ ts q.p ⟨#[123]⟩ then(bloD ts d q).bind fun b=>some ((⟨7,n.text,0,n.pos,u.pos,behI ts b.2.p,u.pos,l.1++[b.1.pt]⟩:Qv),b.2)
   else(bloD ts d (kinD ts q).2).bind fun b=>some ((⟨7,n.text,0,n.pos,u.pos,behI ts b.2.p,u.pos,l.1++[(kinD ts q).1.pt]++[b.1.pt]⟩:Qv),b.2)) q:=fun u l q=>zbw fun _=>zbw fun _=>zax (hpb _ _) fun _=>zbw fun _=>hbd _ _ _ _
 unfold funP funD;refine zbh (zct hR p ⟨#[102,117,110,99]⟩ (.inr rfl) rfl) (fun _=>?_) fun t=>?_
 ·dsimp only
  have hbadr:∀ x,(recD ts ⟨p+1,false⟩).2=⟨x,true⟩->AgG ts (IsV (herI ts p)) (.bad (herI ts x)) (tak ts ⟨#[110,97,109,101]⟩ (recD ts ⟨p+1,false⟩).2 fun n q=>tak ts ⟨#[40]⟩ q fun _ q=>(d.parL (recD ts ⟨p+1,false⟩).1 q).bind fun l=>tak ts ⟨#[41]⟩ l.2 fun _ q=>
    if isQ ts q.p ⟨#[123]⟩ then(bloD ts d q).bind fun b=>some ((⟨7,n.text,0,n.pos,(nxQ ts p).pos,behI ts b.2.p,(nxQ ts p).pos,l.1++[b.1.pt]⟩:Qv),b.2)
    else(bloD ts d (kinD ts q).2).bind fun b=>some ((⟨7,n.text,0,n.pos,(nxQ ts p).pos,behI ts b.2.p,(nxQ ts p).pos,l.1++[(kinD ts q).1.pt]++[b.1.pt]⟩:Qv),b.2)):=fun x hx=>by
   rw[hx];exact zhl (hRb _ _ _) rfl
  have hok:∀ l x,recD ts ⟨p+1,false⟩=(l,⟨x,false⟩)->AgG ts (IsV (herI ts p)) (funR ts f (herI ts p) l x) (tak ts ⟨#[110,97,109,101]⟩ (recD ts ⟨p+1,false⟩).2 fun n q=>tak ts ⟨#[40]⟩ q fun _ q=>(d.parL (recD ts ⟨p+1,false⟩).1 q).bind fun l=>tak ts ⟨#[41]⟩ l.2 fun _ q=>
    if isQ ts q.p ⟨#[123]⟩ then(bloD ts d q).bind fun b=>some ((⟨7,n.text,0,n.pos,(nxQ ts p).pos,behI ts b.2.p,(nxQ ts p).pos,l.1++[b.1.pt]⟩:Qv),b.2)
    else(bloD ts d (kinD ts q).2).bind fun b=>some ((⟨7,n.text,0,n.pos,(nxQ ts p).pos,behI ts b.2.p,(nxQ ts p).pos,l.1++[(kinD ts q).1.pt]++[b.1.pt]⟩:Qv),b.2)):=fun l x hx=>by
   rw[hx];exact hR2 _ _
  have e00:recD ts ⟨p+1,false⟩=if isT ts (p+1) [40] then tak ts ⟨#[40]⟩ ⟨p+1,false⟩ fun _ q=>tak ts ⟨#[110,97,109,101]⟩ q fun n q=>tak ts ⟨#[110,97,109,101]⟩ q fun t q=>
    tak ts ⟨#[41]⟩ q fun _ q2=>([Pt.mk 8 n.text 0 n.pos n.pos (behI ts q.p) [Pt.mk 11 t.text 0 t.pos t.pos (behI ts q.p) []]],q2) else([],⟨p+1,false⟩):=by
   unfold recD;rw[zba hR _ ⟨#[40]⟩ (.inl rfl)]
  split
  ·rename_i h
   have e01:=e00.trans (if_pos h);clear e00;have ho:okQ ts (p+1) ⟨#[40]⟩=true:=(zct hR _ ⟨#[40]⟩ (.inl rfl) rfl).trans h;have e0:takS ts ⟨#[40]⟩ ⟨p+1,false⟩=⟨p+1+1,false⟩:=by unfold takS;rw[ho];rfl
   unfold tak at e01
   dsimp only at e01
   rw[e0] at e01;unfold recP namP;rw[znb]
   cases hn:namB ts (p+1+1)
   ·refine hbadr (p+1+1) ?_;have e:takS ts ⟨#[110,97,109,101]⟩ ⟨p+1+1,false⟩=⟨p+1+1,true⟩:=by unfold takS;rw[zcx,hn];rfl
    rw[e] at e01;rw[e01];rfl
   ·have e:takS ts ⟨#[110,97,109,101]⟩ ⟨p+1+1,false⟩=⟨p+1+1+1,false⟩∧takT ts ⟨#[110,97,109,101]⟩ ⟨p+1+1,false⟩=nxQ ts (p+1+1):=by
     unfold takS takT;rw[zcx,hn];exact⟨rfl,rfl⟩
    obtain⟨-,e2,e3⟩:=zek (zdq hn);rw[e.1,e.2] at e01;show AgG ts _ (Rs.bind (Rs.bind (worP ts 11 (p+1+1+1)) fun v q=>Rs.ok (Pt.mk 8 (nxT ts (p+1+1)).text 0 (nxT ts (p+1+1)).pos (herI ts (p+1+1)) (behI ts q) [v]) q) fun v q=>expP ts [41] q fun q=>funR ts f (herI ts p) [v] q) _;unfold worP
    cases hm:namB ts (p+1+1+1)
    ·refine hbadr (p+1+1+1) ?_;have e':takS ts ⟨#[110,97,109,101]⟩ ⟨p+1+1+1,false⟩=⟨p+1+1+1,true⟩:=by unfold takS;rw[zcx,hm];rfl
     rw[e'] at e01;rw[e01];rfl
    ·have e':takS ts ⟨#[110,97,109,101]⟩ ⟨p+1+1+1,false⟩=⟨p+1+1+1+1,false⟩∧takT ts ⟨#[110,97,109,101]⟩ ⟨p+1+1+1,false⟩=nxQ ts (p+1+1+1):=by
      unfold takS takT;rw[zcx,hm];exact⟨rfl,rfl⟩
     obtain⟨-,m2,m3⟩:=zek (zdq hm);rw[e'.1,e'.2] at e01;show AgG ts _ (expP ts [41] (p+1+1+1+1) fun q=>_) _;unfold expP
     cases hc:isT ts (p+1+1+1+1) [41]
     ·have ec:takS ts ⟨#[41]⟩ ⟨p+1+1+1+1,false⟩=⟨p+1+1+1+1,true⟩:=by unfold takS;rw[zct hR _ ⟨#[41]⟩ (.inl rfl) rfl,hc];rfl
      refine hbadr (p+1+1+1+1) ?_;rw[ec] at e01;rw[e01]
     ·have ec:takS ts ⟨#[41]⟩ ⟨p+1+1+1+1,false⟩=⟨p+1+1+1+1+1,false⟩:=by unfold takS;rw[zct hR _ ⟨#[41]⟩ (.inl rfl) rfl,hc];rfl
      refine hok _ _ ?_;rw[ec] at e01;rw[e01];simp only[e2,e3,m2,m3]
  ·rename_i h
   exact hok _ _ (e00.trans (if_neg h))
 ·dsimp only
  rw[zo6];exact hRb _ _ _
end
end Go.Proofs.YtmclgbkijeidaaaGreatDoor
