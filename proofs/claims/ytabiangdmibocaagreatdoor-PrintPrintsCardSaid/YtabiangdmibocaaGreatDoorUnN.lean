import Derived.Test.YtabiangdmibocaaGreatDoorUnM
import Derived.Test.YtabiangdmibocaaGreatDoorUnE
import Derived.Test.YtabiangdmibocaaGreatDoorUnD
import Derived.Test.YtabiangdmibocaaGreatDoorUnC
import Derived.Lib.ItoaNum
namespace Go.Proofs.YtabiangdmibocaaGreatDoor
set_option maxRecDepth 100000
set_option maxHeartbeats 4000000
open Go.RowKit
structure PrF (w W:World):Prop where
  b:Below w.heap.size w W
  z:W.heap[w.heap.size]?=some (.cells #[.slice none 0 0] 25 (0,0))
  s:W.heap[w.heap.size+1]?=some (.cells #[.int .i64 0,.int .i64 0] 28 (0,0))
theorem PrF.below {w W W':World}(h:PrF w W)(hb:Below W.heap.size W W'):PrF w W':=⟨h.b.trans (hb.mono h.b.size),(hb.block _ (zab h.z)).trans h.z,(hb.block _ (zab h.s)).trans h.s⟩
def PrP (w:World) (r:(Int × Int) ⊕ Pt) (e:Ending) (w':World):Prop :=
  Below w.heap.size w w'∧match r with
  | .inl p=>e=.returned (.tuple #[.agg #[.slice none 0 0],.agg #[.int .i64 p.1,.int .i64 p.2]])
  | .inr t=>∃ v,e=.returned (.tuple #[.agg #[v],.agg #[.int .i64 0,.int .i64 0]])∧TrAt w.heap.size w' v (layP 0 t)
theorem zch {w W:World}(h:PrF w W)(v:Value)(a b:Int) :
    Below w.heap.size w (((W.setCell ⟨w.heap.size,0,none⟩ v).setCell ⟨w.heap.size+1,0,none⟩ (.int .i64 a)).setCell ⟨w.heap.size+1,1,none⟩ (.int .i64 b)) ∧
    (((W.setCell ⟨w.heap.size,0,none⟩ v).setCell ⟨w.heap.size+1,0,none⟩ (.int .i64 a)).setCell ⟨w.heap.size+1,1,none⟩ (.int .i64 b)).heap[w.heap.size]?=some (.cells #[v] 25 (0,0)) ∧
    (((W.setCell ⟨w.heap.size,0,none⟩ v).setCell ⟨w.heap.size+1,0,none⟩ (.int .i64 a)).setCell ⟨w.heap.size+1,1,none⟩ (.int .i64 b)).heap[w.heap.size+1]?=some (.cells #[.int .i64 a,.int .i64 b] 28 (0,0)) :=
  ⟨((h.b.setCell (p:=⟨w.heap.size,0,none⟩) (Nat.le_refl _) _).setCell (p:=⟨w.heap.size+1,0,none⟩) (Nat.le_succ _) _).setCell (p:=⟨w.heap.size+1,1,none⟩) (Nat.le_succ _) _,
   (heap_setCell_other _ _ _ _ (by simp)).trans ((heap_setCell_other _ _ _ _ (by simp)).trans (heap_setCell_same _ _ 0 _ _ _ h.z)),
   heap_setCell_same _ _ 1 _ _ _ (heap_setCell_same _ _ 0 _ _ _ ((heap_setCell_other _ _ _ _ (by simp)).trans h.s))⟩
theorem PrF.c {w W:World}(h:PrF w W):W.cell? ⟨w.heap.size,0,none⟩=some (.slice none 0 0)∧W.cell? ⟨w.heap.size+1,0,none⟩=some (.int .i64 0)∧W.cell? ⟨w.heap.size+1,1,none⟩=some (.int .i64 0) :=
  ⟨(cell_of_row _ _ 0 _ _ _ h.z).trans rfl,(cell_of_row _ _ 0 _ _ _ h.s).trans rfl,(cell_of_row _ _ 1 _ _ _ h.s).trans rfl⟩
theorem PrF.f {w W:World}(h:PrF w W):W.frozen? ⟨w.heap.size,0,none⟩=false∧W.frozen? ⟨w.heap.size+1,0,none⟩=false∧W.frozen? ⟨w.heap.size+1,1,none⟩=false :=
  ⟨frozen_of_row _ _ _ _ _ h.z,frozen_of_row _ _ _ _ _ h.s,frozen_of_row _ _ _ _ _ h.s⟩
theorem zr7 (w:World)(st:Option Addr)(cap:Nat)(ts:List Tok)(hr:RowsT w st ts)(hT:Tabl w)(few:ts.length<=100000)(ok:∀ t ∈ ts,-1000000000000000000<=t.pos∧t.pos<=1000000000000000000∧t.text.size<=100000) :
    Calls Tryz.prog 15 #[.slice st ts.length cap] w (PrP w (parO ts)):=by
  have HR:Hid (∀ W,Below w.heap.size w W->RowsT W st ts):=fun W hb=>zeo hb.block hr;have HT:Hid (∀ W,Below w.heap.size w W->Tabl W):=fun W hb=>zbj hb.block hT;have HOK:Hid _:=ok;clear hr hT ok
  go_enter Tryz.func15,Tryz.ntmps15
  go_wp2_with fail
  refine zag (fun W=>PrF w W) ?_ ?_
  . have n0:=heap_alloc_new w (.cells #[.slice none 0 0] 25)
    have n1:=heap_alloc_new (w.alloc (.cells #[.slice none 0 0] 25)) (.cells #[.int .i64 0,.int .i64 0] 28);simp only[World.size_alloc] at n1;exact⟨((Below.refl _ _).alloc (Nat.le_refl _) _).alloc (by simp) _,(Below.heap_alloc _ _ _ (by simp)).trans n0,n1⟩
  intro W f;refine(zk2 st cap ts W (HR.out W f.b) few).mono ?_;rintro e W1 ⟨rfl,b1⟩;have F1:Hid (PrF w W1):=f.below b1;clear f b1
  by_cases hc:chkO ts=0
  . rw[hc]
    go_wp2_with fail
    refine(zpz st cap ts W1 (HR.out W1 F1.out.b) few).mono ?_;rintro e W2 ⟨rfl,b2⟩;have F2:Hid (PrF w W2):=F1.out.below b2;clear F1 b2
    cases hri:risB (-1) ts
    . have HX:Hid (parO ts=.inl (2,0)):=by show _=_;unfold parO;simp[hc,hri]
      obtain⟨c0,c1,c2⟩:=F2.out.c;obtain⟨f0,f1,f2⟩:=F2.out.f
      go_wp2
      exact bodyPost_ret (zc0 Tryz.results15 _ _ w.heap.size (w.heap.size+1) _ _ _ _ (0,0) (0,0) _ _ rfl rfl (zch F2.out _ _ _).2.1 (zch F2.out _ _ _).2.2 Tryz.underlying25 rfl (by kernel_rfl) Tryz.underlying28 rfl (by kernel_rfl)) rfl (by rw[HX.out];exact⟨(zch F2.out _ _ _).1,rfl⟩)
    . go_wp2_with fail
      refine(zj8 W2 st cap ts few HOK.out (fun W' hW'=>⟨zeo hW' (HR.out W2 F2.out.b),zbj hW' (HT.out W2 F2.out.b)⟩)).mono ?_;rintro e W3 ⟨b3,hm⟩;have F3:Hid (PrF w W3):=F2.out.below b3;have hsz:w.heap.size+2<=W2.heap.size:=zab F2.out.s;obtain⟨s,n,c,a,b,L,R,rfl,hTr,hn,hk,hR,hE⟩:∃ (s:Option Addr) (n c:Nat) (a b:Int) (L:List Nd) (R:(Int × Int) ⊕ Pt),e=.returned (.tuple #[.agg #[.slice s n c],.agg #[.int .i64 a,.int .i64 b]])∧(n=L.length∧TrAt (w.heap.size+2) W3 (.slice s n c) L)∧L.length<=400000∧(∀ d ∈ L,(∀ k ∈ d.kids,k<L.length)∧d.kids.length<=400000) ∧
          (parO ts=if 2048<L.length then .inl (3,0) else if 24<dpF (fun _=>0) 0 0 L then .inl (3,0) else R)∧∀ w',Below w.heap.size w w'->TrAt w.heap.size w' (.slice s n c) L->PrP w R (.returned (.tuple #[.agg #[.slice s n c],.agg #[.int .i64 a,.int .i64 b]])) w':=by
        obtain⟨r,hr⟩:∃ r,filO ts=r:=⟨_,rfl⟩;rw[hr] at hm
        cases r with
        | out=>exact hm.elim
        | bad s=>exact⟨none,0,0,210,s,[],.inl (210,s),hm,⟨rfl,TrAt.nil _ _⟩,by simp,by simp,by unfold parO;simp[hc,hri,hr,dpF],fun w' hb _=>⟨hb,rfl⟩⟩
        | ok t q=>
          obtain⟨hcn,v,rfl,hT⟩:=hm;obtain⟨s,c,rfl⟩:=hT.shape;have hl:=zoa 0 t;exact⟨s,_,c,0,0,layP 0 t,.inr t,rfl,⟨rfl,hT.mono hsz⟩,by omega,fun d hd=>by
            have h:=zgp t 0 d hd;exact⟨fun k hk=>by have:=h.1 k hk;omega,by omega⟩,by unfold parO;rw[if_neg (by simp[hc]),if_neg (by simp[hri]),hr],fun w' hb ht=>⟨hb,_,rfl,ht⟩⟩
      obtain⟨hnL,hTr⟩:=hTr;subst hnL;have HTR:Hid _:=hTr;have HKB:Hid _:=hk;have HPO:Hid _:=hR;have HE:Hid _:=hE;clear hTr hk hR hE hm b3 F2 hsz;obtain⟨c0,c1,c2⟩:=F3.out.c;obtain⟨f0,f1,f2⟩:=F3.out.f;have hl1:=zab F3.out.s;have hl0:=zab F3.out.z
      by_cases h2:2048<L.length
      . have h2':(L.length:Int) > 2048:=by omega
        have HX:Hid (parO ts=.inl (3,0)):=by show _=_;rw[HPO.out,if_pos h2]
        go_wp2
        have d:=zch F3.out (.slice none 0 0) 3 0;generalize (((W3.setCell ⟨w.heap.size,0,none⟩ (.slice none 0 0)).setCell ⟨w.heap.size+1,0,none⟩ (.int .i64 3)).setCell ⟨w.heap.size+1,1,none⟩ (.int .i64 0))=Y at d ⊢;have e1:=(Below.heap_alloc Y (.cells #[.slice s L.length c] 25 (0,0)) _ (zab d.2.1)).trans d.2.1;have e2:=(Below.heap_alloc Y (.cells #[.slice s L.length c] 25 (0,0)) _ (zab d.2.2)).trans d.2.2;have e3:=(Below.heap_alloc _ (.cells #[.int .i64 a,.int .i64 b] 28 (0,0)) _ (zab e1)).trans e1;have e4:=(Below.heap_alloc _ (.cells #[.int .i64 a,.int .i64 b] 28 (0,0)) _ (zab e2)).trans e2;exact bodyPost_ret (zc0 Tryz.results15 _ _ w.heap.size (w.heap.size+1) _ _ _ _ (0,0) (0,0) _ _ rfl rfl e3 e4 Tryz.underlying25 rfl (by kernel_rfl) Tryz.underlying28 rfl (by kernel_rfl)) rfl (by rw[HX.out];exact⟨(d.1.alloc d.1.size _).alloc (Nat.le_trans d.1.size (by simp)) _,rfl⟩)
      . have h2':¬ (L.length:Int) > 2048:=by omega
        go_wp2_with fail
        refine zag (fun W=>PrF w W∧W.heap[W3.heap.size]?=some (.cells #[.slice s L.length c] 25 (0,0))∧W.heap[W3.heap.size+1]?=some (.cells #[.int .i64 a,.int .i64 b] 28 (0,0))∧TrAt (w.heap.size+2) W (.slice s L.length c) L) ?_ ?_
        . have n0:=heap_alloc_new W3 (.cells #[.slice s L.length c] 25)
          have n1:=heap_alloc_new (W3.alloc (.cells #[.slice s L.length c] 25)) (.cells #[.int .i64 a,.int .i64 b] 28);simp only[World.size_alloc] at n1;have hbb:=((Below.refl W3.heap.size W3).alloc (Nat.le_refl _) (.cells #[.slice s L.length c] 25)).alloc (by simp) (.cells #[.int .i64 a,.int .i64 b] 28);exact⟨F3.out.below hbb,(Below.heap_alloc _ _ _ (by simp)).trans n0,n1,TrAt.below HTR.out hbb⟩
        rintro W4 ⟨f4,ht4,hs4,hT4⟩;obtain⟨N,S,hO,hRep,hSS⟩:=hT4;obtain⟨sp',cap',hv,hrows,-,-,-⟩:=OwnG.rows elN hO;have hT4:TrAt (w.heap.size+2) W4 (.slice s L.length c) L:=⟨N,S,hO,hRep,hSS⟩;injection hv with hv1 hv2 hv3;subst hv1 hv3;refine(zfp W4 s c N S L hrows hRep hn HKB.out).mono ?_;rintro e W5 ⟨rfl,b5⟩;have F5:Hid (PrF w W5):=f4.below b5;have HT5:Hid (TrAt (w.heap.size+2) W5 (.slice s L.length c) L):=hT4.below b5;have ht5:=(b5.block _ (zab ht4)).trans ht4;have hs5:=(b5.block _ (zab hs4)).trans hs4;clear f4 ht4 hs4 hT4 b5 hO hRep hrows hv2 c0 c1 c2 f0 f1 f2;obtain⟨c0,c1,c2⟩:=F5.out.c;obtain⟨f0,f1,f2⟩:=F5.out.f;have d0:W5.cell? ⟨W3.heap.size,0,none⟩=some (.slice s L.length c):=(cell_of_row _ _ 0 _ _ _ ht5).trans rfl;have d1:W5.cell? ⟨W3.heap.size+1,0,none⟩=some (.int .i64 a):=(cell_of_row _ _ 0 _ _ _ hs5).trans rfl;have d2:W5.cell? ⟨W3.heap.size+1,1,none⟩=some (.int .i64 b):=(cell_of_row _ _ 1 _ _ _ hs5).trans rfl
        by_cases h3:24<dpF (fun _=>0) 0 0 L
        . have h3':dpF (fun _=>0) 0 0 L > 24:=h3
          have HX:Hid (parO ts=.inl (3,0)):=by show _=_;rw[HPO.out,if_neg h2,if_pos h3]
          go_wp2
          exact bodyPost_ret (zc0 Tryz.results15 _ _ w.heap.size (w.heap.size+1) _ _ _ _ (0,0) (0,0) _ _ rfl rfl (zch F5.out _ _ _).2.1 (zch F5.out _ _ _).2.2 Tryz.underlying25 rfl (by kernel_rfl) Tryz.underlying28 rfl (by kernel_rfl)) rfl (by rw[HX.out];exact⟨(zch F5.out _ _ _).1,rfl⟩)
        . have h3':¬ dpF (fun _=>0) 0 0 L > 24:=h3
          have HX:Hid (parO ts=R):=by show _=_;rw[HPO.out,if_neg h2,if_neg h3]
          clear ht5 hs5
          go_wp2
          have HTF:Hid (TrAt w.heap.size (((W5.setCell ⟨w.heap.size,0,none⟩ (.slice s L.length c)).setCell ⟨w.heap.size+1,0,none⟩ (.int .i64 a)).setCell ⟨w.heap.size+1,1,none⟩ (.int .i64 b)) (.slice s L.length c) L):=by
            have t1:=HT5.out.other F5.out.z (.inl rfl) (by omega) 0 (.slice s L.length c);have r1:=(heap_setCell_other W5 ⟨w.heap.size,0,none⟩ (w.heap.size+1) (.slice s L.length c) (by simp)).trans F5.out.s;have t2:=t1.other r1 (.inr rfl) (by omega) 0 (.int .i64 a);exact(t2.other (heap_setCell_same _ _ 0 _ _ (.int .i64 a) r1) (.inr rfl) (by omega) 1 (.int .i64 b)).mono (by omega)
          have HDN:Hid _:=zch F5.out (.slice s L.length c) a b
          go_region
          go_wp2
          generalize (((W5.setCell ⟨w.heap.size,0,none⟩ (.slice s L.length c)).setCell ⟨w.heap.size+1,0,none⟩ (.int .i64 a)).setCell ⟨w.heap.size+1,1,none⟩ (.int .i64 b))=Y at HTF HDN ⊢;exact bodyPost_ret (zc0 Tryz.results15 _ Y.drew w.heap.size (w.heap.size+1) _ _ _ _ (0,0) (0,0) _ _ rfl rfl HDN.out.2.1 HDN.out.2.2 Tryz.underlying25 rfl (by kernel_rfl) Tryz.underlying28 rfl (by kernel_rfl)) rfl (by rw[HX.out];exact HE.out _ HDN.out.1.drew (HTF.out.below (Below.refl _ _).drew))
  . have HX:Hid (parO ts=.inl (2,0)):=by show _=_;unfold parO;simp[hc]
    obtain⟨c0,c1,c2⟩:=F1.out.c;obtain⟨f0,f1,f2⟩:=F1.out.f
    go_wp2
    exact bodyPost_ret (zc0 Tryz.results15 _ _ w.heap.size (w.heap.size+1) _ _ _ _ (0,0) (0,0) _ _ rfl rfl (zch F1.out _ _ _).2.1 (zch F1.out _ _ _).2.2 Tryz.underlying25 rfl (by kernel_rfl) Tryz.underlying28 rfl (by kernel_rfl)) rfl (by rw[HX.out];exact⟨(zch F1.out _ _ _).1,rfl⟩)
def txtO (s:List UInt8):(Int × Int) ⊕ Pt:=if (lexO s).2.1=0 then parO (lexO s).1 else .inl ((lexO s).2.1,(lexO s).2.2)
theorem zwh (w:World)(x:ByteArray)(hT:Tabl w)(few:(lexO x.data.toList).1.length<=100000)(ok:∀ t ∈ (lexO x.data.toList).1,-1000000000000000000<=t.pos∧t.pos<=1000000000000000000∧t.text.size<=100000) :
  Calls Tryz.prog 9 #[.string x] w (PrP w (txtO x.data.toList)):=by
 have HT:Hid (∀ W,Below w.heap.size w W->Tabl W):=fun W hb=>zbj hb.block hT;obtain⟨ts,er,p,hl⟩:∃ ts er p,lexO x.data.toList=(ts,er,p):=⟨_,_,_,rfl⟩;have HO:Hid (txtO x.data.toList=if er=0 then parO ts else .inl (er,p)):=by show _=_;unfold txtO;rw[hl]
 rw[hl] at few ok;have HOK:Hid _:=ok;have few':ts.length<=100000:=few;clear hT ok few;have HL:Hid _:=hl;clear hl
 go_enter Tryz.func9,Tryz.ntmps9
 go_wp2_with fail
 refine zag (fun W=>PrF w W) ?_ ?_
 ·have n0:=heap_alloc_new w (.cells #[.slice none 0 0] 25);have n1:=heap_alloc_new (w.alloc (.cells #[.slice none 0 0] 25)) (.cells #[.int .i64 0,.int .i64 0] 28);simp only[World.size_alloc] at n1;exact⟨((Below.refl _ _).alloc (Nat.le_refl _) _).alloc (by simp) _,(Below.heap_alloc _ _ _ (by simp)).trans n0,n1⟩
 intro W f;refine(zrd x W).mono ?_;rintro e W1 ⟨⟨v,rfl,hv⟩,b1⟩;rw[HL.out] at hv ⊢;obtain⟨st,cap,rfl,hrows,-,-,-⟩:=OwnG.rows elT hv;have F1:Hid (PrF w W1):=f.below b1;have HRW:=hid hrows;clear f b1 hv hrows HL;obtain⟨c0,c1,c2⟩:=F1.out.c;obtain⟨f0,f1,f2⟩:=F1.out.f;have hl1:=zab F1.out.s;have hl0:=zab F1.out.z
 by_cases he:er=0
 ·have HX:Hid (txtO x.data.toList=parO ts):=by show _=_;rw[HO.out,if_pos he]
  clear HO;subst he
  go_wp2_with fail
  refine zag (fun W=>PrF w W∧RowsT W st ts) ?_ ?_
  ·have hbb:=(Below.refl W1.heap.size W1).alloc (Nat.le_refl _) (.cells #[.int .i64 0,.int .i64 p] 28);exact⟨F1.out.below hbb,RowsAt.below HRW.out hbb⟩
  rintro W2 ⟨f2',hr2⟩;refine(zr7 W2 st cap ts hr2 (HT.out W2 f2'.b) few' HOK.out).mono ?_;rintro e W3 ⟨b3,hm⟩;have F3:Hid (PrF w W3):=f2'.below b3;have hsz:w.heap.size+2<=W2.heap.size:=zab f2'.s;obtain⟨s,n,c,a,b,rfl,hE⟩:∃ (s:Option Addr) (n c:Nat) (a b:Int),e=.returned (.tuple #[.agg #[.slice s n c],.agg #[.int .i64 a,.int .i64 b]])∧PrP w (parO ts) (.returned (.tuple #[.agg #[.slice s n c],.agg #[.int .i64 a,.int .i64 b]])) (((W3.setCell ⟨w.heap.size,0,none⟩ (.slice s n c)).setCell ⟨w.heap.size+1,0,none⟩ (.int .i64 a)).setCell ⟨w.heap.size+1,1,none⟩ (.int .i64 b)):=by
   cases hp:parO ts with
   | inl q=>
    rw[hp] at hm;exact⟨none,0,0,q.1,q.2,hm,(zch F3.out _ _ _).1,rfl⟩
   | inr t=>
    rw[hp] at hm;obtain⟨v,rfl,hT3⟩:=hm;obtain⟨s,c,rfl⟩:=hT3.shape;refine⟨s,_,c,0,0,rfl,(zch F3.out _ _ _).1,_,rfl,?_⟩;have t1:=(hT3.mono hsz).other F3.out.z (.inl rfl) (by omega) 0 (.slice s (layP 0 t).length c);have r1:=(heap_setCell_other W3 ⟨w.heap.size,0,none⟩ (w.heap.size+1) (.slice s (layP 0 t).length c) (by simp)).trans F3.out.s;have t2:=t1.other r1 (.inr rfl) (by omega) 0 (.int .i64 0);exact(t2.other (heap_setCell_same _ _ 0 _ _ (.int .i64 0) r1) (.inr rfl) (by omega) 1 (.int .i64 0)).mono (by omega)
  have HE:Hid _:=hE;clear hm hE b3 f2' hr2 c0 c1 c2 f0 f1 f2;obtain⟨c0,c1,c2⟩:=F3.out.c;obtain⟨f0,f1,f2⟩:=F3.out.f
  go_wp2
  exact bodyPost_ret (zc0 Tryz.results9 _ _ w.heap.size (w.heap.size+1) _ _ _ _ (0,0) (0,0) _ _ rfl rfl (zch F3.out _ _ _).2.1 (zch F3.out _ _ _).2.2 Tryz.underlying25 rfl (by kernel_rfl) Tryz.underlying28 rfl (by kernel_rfl)) rfl (by rw[HX.out];exact HE.out)
 ·have HX:Hid (txtO x.data.toList=.inl (er,p)):=by show _=_;rw[HO.out,if_neg he]
  clear HO
  go_wp2
  refine zdd (fun W=>PrF w W∧W.heap[W1.heap.size]?=some (.cells #[.int .i64 er,.int .i64 p] 28 (0,0))) ⟨F1.out.below ((Below.refl W1.heap.size W1).alloc (Nat.le_refl _) _),heap_alloc_new _ _⟩ ?_;rintro W2 ⟨f2',h2⟩;have F2:Hid (PrF w W2):=f2';clear c0 c1 c2 f0 f1 f2 f2';obtain⟨c0,c1,c2⟩:=F2.out.c;obtain⟨f0,f1,f2⟩:=F2.out.f;have d0:W2.cell? ⟨W1.heap.size,0,none⟩=some (.int .i64 er):=(cell_of_row _ _ 0 _ _ _ h2).trans rfl;have d1:W2.cell? ⟨W1.heap.size,1,none⟩=some (.int .i64 p):=(cell_of_row _ _ 1 _ _ _ h2).trans rfl;have HDN:Hid _:=zch F2.out (.slice none 0 0) er p;clear h2
  go_region
  go_wp2
  generalize (((W2.setCell ⟨w.heap.size,0,none⟩ (.slice none 0 0)).setCell ⟨w.heap.size+1,0,none⟩ (.int .i64 er)).setCell ⟨w.heap.size+1,1,none⟩ (.int .i64 p))=Y at HDN ⊢;exact bodyPost_ret (zc0 Tryz.results9 _ Y.drew w.heap.size (w.heap.size+1) _ _ _ _ (0,0) (0,0) _ _ rfl rfl HDN.out.2.1 HDN.out.2.2 Tryz.underlying25 rfl (by kernel_rfl) Tryz.underlying28 rfl (by kernel_rfl)) rfl (by rw[HX.out];exact⟨HDN.out.1.drew,rfl⟩)
theorem zwi {L:List UInt8}(hL:L.length<=4096):∀ (f p:Nat)(ts:List Tok),p<=L.length->ts.length<=1024->(∀ t ∈ ts,0<=t.pos∧t.pos<=4096∧t.text.size<=4096) ->
  (lexG L f p ts).1.length<=1024∧∀ t ∈ (lexG L f p ts).1,0<=t.pos∧t.pos<=4096∧t.text.size<=4096:=by
 intro f
 induction f with
 | zero=>exact fun p ts _ h1 h2=>⟨h1,h2⟩
 | succ f ih=>
  intro p ts hp h1 h2;rw[lexG];have hn:(p<L.length∨clo (lastT ts)=true)->(lookR (L.drop p) (clo (lastT ts))).2.2=0->p+(lookR (L.drop p) (clo (lastT ts))).2.1<=L.length:=fun hc he=>by
   have h:=(zdt (L:=L.drop p) (en:=clo (lastT ts)) (k:=(lookR (L.drop p) (clo (lastT ts))).1) (n:=(lookR (L.drop p) (clo (lastT ts))).2.1) (by rw[<-he]) fun hd=>by
    rcases hc with hc|hc
    ·have:=List.length_drop (i:=p) (l:=L);rw[hd] at this;simp at this;omega
    ·exact hc).1
   rw[List.length_drop] at h;omega
  generalize lookR (L.drop p) (clo (lastT ts))=r at hn ⊢
  split
  ·rename_i hcond
   split
   ·simp
   ·rename_i he
    have hn:=hn hcond (by simpa using he)
    split
    ·exact ih _ _ hn h1 h2
    ·split
     ·simp
     ·refine ih _ _ hn (by rw[List.length_append];simp;omega) fun t ht=>?_;rcases List.mem_append.1 ht with ht|ht
      ·exact h2 t ht
      ·obtain rfl:=List.mem_singleton.1 ht;refine⟨Int.natCast_nonneg _,by show(p:Int)<=4096;omega,?_⟩;show(strU ((L.drop p).take r.2.1)).size<=4096;have:(strU ((L.drop p).take r.2.1)).size=((L.drop p).take r.2.1).length:=by simp[strU,ByteArray.size]
       rw[this,List.length_take,List.length_drop];omega
  ·exact⟨h1,h2⟩
theorem zwj (L:List UInt8):(lexO L).1.length<=1024∧∀ t ∈ (lexO L).1,0<=t.pos∧t.pos<=4096∧t.text.size<=4096:=by
 unfold lexO
 split
 ·simp
 ·exact zwi (by omega) _ _ _ (Nat.zero_le _) (by simp) (by simp)
theorem zof (w:World)(x:ByteArray)(hT:Tabl w):Calls Tryz.prog 9 #[.string x] w (PrP w (txtO x.data.toList)):=by
 have h:=zwj x.data.toList;exact zwh w x hT (by omega) fun t ht=>by have:=h.2 t ht;omega
def ndEq (a b:Nd):Bool:=(a.kind == b.kind) && (a.text.toList == b.text.toList) && (a.num == b.num) && (a.kids == b.kids)
theorem Rep.below {w w':World}{S:Nat->Prop}{N:List NdM}{L:List Nd}(h:Rep w S N L)(hb:Below w.heap.size w w'):Rep w' S N L :=
 ⟨h.1,fun i m d h1 h2=>by
  obtain⟨a,b,c,e,f⟩:=h.2 i m d h1 h2;exact⟨a,b,c.below hb,e,f⟩⟩
theorem zog:∀ xs ys:List Nat,(xs.map fun k:Nat=>(k:Int))=ys.map (fun k:Nat=>(k:Int))->xs=ys
 | [],[],_=>rfl
 | [],_::_,h=>by simp at h
 | _::_,[],h=>by simp at h
 | a::r,b::q,h=>by
  rw[List.map_cons,List.map_cons] at h;injection h with h1 h2;rw[zog r q h2,Int.ofNat.inj h1]
theorem zr8 {xs ys:List Nat}:((xs.map fun k:Nat=>(k:Int)).take xs.length == (ys.map fun k:Nat=>(k:Int)).take ys.length)=(xs == ys):=by
 rw[List.take_of_length_le (by simp),List.take_of_length_le (by simp)]
 by_cases h:xs=ys
 ·subst h;simp
 ·have h2:¬ (xs.map fun k:Nat=>(k:Int))=ys.map fun k:Nat=>(k:Int):=fun e=>h (zog xs ys e);rw[beq_eq_false_iff_ne.2 h2,beq_eq_false_iff_ne.2 h]
theorem za9 {w:World}{b o:Nat}{xs:List Nat}(h:RowsAt w 1 intC (some ⟨b,o,none⟩) xs):∀ j,j<(xs.map fun k:Nat=>(k:Int)).length->w.cell? ⟨b,o+j,none⟩=some (.int .i64 ((xs.map fun k:Nat=>(k:Int)).getD j 0)):=fun j hj=>by
 have hj':j<xs.length:=by simpa using hj
 obtain⟨b',o',e,hc⟩:=h (by omega);injection e with e;injection e with e1 e2;subst e1 e2;have:=hc j _ (List.getElem?_eq_getElem hj') 0 (.int .i64 (xs[j]'hj')) rfl;rw[Nat.mul_one,Nat.add_zero] at this;rw[this,List.getD_eq_getElem?_getD,List.getElem?_map,List.getElem?_eq_getElem hj'];rfl
theorem zp0 (sp tp:Option Addr)(c1 c2:Nat)(xs ys:List Nat)(w:World)(h1:RowsAt w 1 intC sp xs)(h2:RowsAt w 1 intC tp ys)(l1:xs.length<=1000000)(l2:ys.length<=1000000) :
  Calls Tryz.prog 87 #[.slice sp xs.length c1,.slice tp ys.length c2] w fun e w'=>e=.returned (.bool (xs == ys))∧∃ q,w'=w.drewN q:=by
 by_cases hl:xs.length=ys.length
 ·by_cases h0:xs.length=0
  ·have e1:xs=[]:=List.eq_nil_of_length_eq_zero h0;have e2:ys=[]:=List.eq_nil_of_length_eq_zero (by omega);subst e1 e2;refine(Tryz.slices_Equal_int_empty sp tp c1 0 c2 w (by omega)).mono ?_;rintro e w' ⟨rfl,rfl⟩;exact⟨rfl,0,rfl⟩
  ·obtain⟨b1,o1,rfl,-⟩:=h1 (by omega);obtain⟨b2,o2,rfl,-⟩:=h2 (by omega);refine(Tryz.slices_Equal_int b1 o1 xs.length c1 b2 o2 ys.length c2 (xs.map fun k:Nat=>(k:Int)) (ys.map fun k:Nat=>(k:Int)) w (by simp) (by simp) (by omega) (by omega) (za9 h1) (za9 h2)).mono ?_;rintro e w' ⟨rfl,hq⟩;exact⟨by rw[zr8],hq⟩
 ·refine(Tryz.slices_Equal_int_lens sp tp xs.length c1 ys.length c2 w hl).mono ?_;rintro e w' ⟨rfl,rfl⟩;have h2:(xs == ys)=false:=by
   rw[<-Bool.not_eq_true];intro h;exact hl (by rw[eq_of_beq h])
  exact⟨by rw[h2],0,rfl⟩
theorem zb1 {B:Nat}(w:World)(n:Nat):Below B w (w.drewN n):=⟨rfl,rfl,rfl,Nat.le_refl _,fun _ _=>rfl⟩
def NdAt (w:World) (m:NdM) (d:Nd):Prop:=(m.k=d.kind∧m.x=d.text∧m.n=d.num∧m.a=d.pos∧m.f=d.frm∧m.t=d.to)∧m.kn=d.kids.length∧RowsAt w 1 intC m.ks d.kids
theorem zi2 (m n:NdM)(a b:Nd)(w:World)(h1:NdAt w m a)(h2:NdAt w n b)(l1:a.kids.length<=1000000)(l2:b.kids.length<=1000000) :
  Calls Tryz.prog 86 #[.agg m.cells,.agg n.cells] w fun e w'=>e=.returned (.bool (ndEq a b))∧Below w.heap.size w w':=by
 obtain⟨mk,mx,mn,ms,mkn,mkc,ma,mf,mt⟩:=m;obtain⟨nk,nx,nn,ns,nkn,nkc,na,nf,nt⟩:=n;obtain⟨⟨e1,e2,e3,-⟩,e4,r1⟩:=h1;obtain⟨⟨f1,f2,f3,-⟩,f4,r2⟩:=h2
 dsimp only at e1 e2 e3 e4 f1 f2 f3 f4 r1 r2
 subst e1 e2 e3 e4 f1 f2 f3 f4;have R1:Hid (RowsAt w 1 intC ms a.kids):=r1;have R2:Hid (RowsAt w 1 intC ns b.kids):=r2;clear r1 r2;have HQ:Hid (ndEq a b=((a.kind == b.kind) && (a.text.toList == b.text.toList) && (a.num == b.num) && (a.kids == b.kids))):=rfl;unfold NdM.cells;have HB:Hid (Below w.heap.size w ((w.alloc (Obj.cells #[.int .i64 a.kind,.string a.text,.int .i64 a.num,.slice ms a.kids.length mkc,.int .i64 ma,.int .i64 mf,.int .i64 mt] 59)).alloc (Obj.cells #[.int .i64 b.kind,.string b.text,.int .i64 b.num,.slice ns b.kids.length nkc,.int .i64 na,.int .i64 nf,.int .i64 nt] 59))):=((Below.refl _ _).alloc (Nat.le_refl _) _).alloc (by simp) _
 cases q1:(a.kind == b.kind)
 ·have HX:Hid (ndEq a b=false):=by show _=_;rw[HQ.out,q1];rfl
  go_enter Tryz.func86,Tryz.ntmps86
  go_wp2
  go_ret
  exact⟨zal HX.out.symm,HB.out⟩
 cases q2:(a.text.toList == b.text.toList)
 ·have HX:Hid (ndEq a b=false):=by show _=_;rw[HQ.out,q1,q2];rfl
  go_enter Tryz.func86,Tryz.ntmps86
  go_wp2
  go_ret
  exact⟨zal HX.out.symm,HB.out⟩
 cases q3:(a.num == b.num)
 ·have HX:Hid (ndEq a b=false):=by show _=_;rw[HQ.out,q1,q2,q3];rfl
  go_enter Tryz.func86,Tryz.ntmps86
  go_wp2
  go_ret
  exact⟨zal HX.out.symm,HB.out⟩
 have HX:Hid (ndEq a b=(a.kids == b.kids)):=by show _=_;rw[HQ.out,q1,q2,q3];rfl
 go_enter Tryz.func86,Tryz.ntmps86
 go_wp2_with (go_at_call 87;refine(zp0 ms ns mkc nkc a.kids b.kids _ (R1.out.below HB.out) (R2.out.below HB.out) l1 l2).mono ?_;rintro e W1 ⟨rfl,q4,rfl⟩)
 go_ret
 exact⟨zal HX.out.symm,HB.out.trans (zb1 _ _)⟩
theorem NdAt.low {w w':World}{m:NdM}{d:Nd}(h:NdAt w m d)(hb:Below w.heap.size w w'):NdAt w' m d:=⟨h.1,h.2.1,h.2.2.below hb⟩
theorem zai {w:World}{b o i:Nat}{N:List NdM}(h:RowsAt w 7 NdM.cells (some ⟨b,o,none⟩) N){m:NdM}(hm:N[i]?=some m):w.cell? ⟨b,o+i * 7,none⟩=some (.int .i64 m.k)∧w.cell? ⟨b,o+i * 7+1,none⟩=some (.string m.x)∧w.cell? ⟨b,o+i * 7+2,none⟩=some (.int .i64 m.n)∧w.cell? ⟨b,o+i * 7+3,none⟩=some (.slice m.ks m.kn m.kc)∧w.cell? ⟨b,o+i * 7+4,none⟩=some (.int .i64 m.a)∧w.cell? ⟨b,o+i * 7+5,none⟩=some (.int .i64 m.f)∧w.cell? ⟨b,o+i * 7+6,none⟩=some (.int .i64 m.t) :=
 ⟨zcd h hm 0 _ rfl,zcd h hm 1 _ rfl,zcd h hm 2 _ rfl,zcd h hm 3 _ rfl,zcd h hm 4 _ rfl,zcd h hm 5 _ rfl,zcd h hm 6 _ rfl⟩
theorem Rep.at {w:World}{S:Nat->Prop}{N:List NdM}{L:List Nd}(h:Rep w S N L){i:Nat}{m:NdM}{d:Nd}(h1:N[i]?=some m)(h2:L[i]?=some d):NdAt w m d:=by
 obtain⟨a,b,c,-⟩:=h.2 i m d h1 h2;exact⟨a,b,c⟩
theorem zwk (sp tp:Option Addr)(c1 c2:Nat) (N M:List NdM) (S T:Nat->Prop) (L K:List Nd)(w:World)(h1:RowsAt w 7 NdM.cells sp N)(r1:Rep w S N L)(h2:RowsAt w 7 NdM.cells tp M)(r2:Rep w T M K)
  (hl:L.length<=1000000) (hk:K.length<=1000000) (kl:∀ d ∈ L,d.kids.length<=1000000) (kk:∀ d ∈ K,d.kids.length<=1000000) :
  Calls Tryz.prog 85 #[.slice sp L.length c1,.slice tp K.length c2,.func (.func 86) #[] #[]] w fun e w'=>e=.returned (.bool (eqAll ndEq L K))∧Below w.heap.size w w':=by
 have H1:=hid h1;have H2:=hid h2;have R1:Hid (Rep w S N L):=r1;have R2:Hid (Rep w T M K):=r2;have KL:Hid (∀ d ∈ L,d.kids.length<=1000000):=kl;have KK:Hid (∀ d ∈ K,d.kids.length<=1000000):=kk;clear h1 h2 r1 r2 kl kk
 by_cases hlen:L.length=K.length
 ·have HIF:Hid (eqAll ndEq L K=true ↔ ∀ (i:Nat) a b,L[i]?=some a->K[i]?=some b->ndEq a b=true):=zc2 hlen;have hln:((L.length:Int) != (K.length:Int))=false:=by simp;omega
  have HLEN:=hid hlen;clear hlen
  go_enter Tryz.func85,Tryz.ntmps85
  go_wp2
  go_loopw [17] (fun i wr=>∃ t:Nat,t<=L.length∧i=.int .i64 t∧Below w.heap.size w wr∧∀ (j:Nat) (a b:Nd),j<t->L[j]?=some a->K[j]?=some b->ndEq a b=true) (fun i _=>L.length - (intOf i).toNat)
  case atStart=>exact⟨0,Nat.zero_le _,rfl,Below.refl _ _,fun j a b hj=>by omega⟩
  case round=>
   obtain⟨t,ht,rfl,hB,hz⟩:=hrel;have HZ:=hid hz;clear hz
   by_cases hlt:t<L.length
   ·have hlt2:t<K.length:=by have:=HLEN.out;omega
    have hNl:N.length=L.length:=R1.out.1;have hMl:M.length=K.length:=R2.out.1;have hd:decide ((t:Int)<L.length)=true:=by simp;omega
    have hd2:decide ((t:Int)<K.length)=true:=by simp;omega
    obtain⟨b1,f1,rfl,-⟩:=H1.out (by omega);obtain⟨b2,f2,rfl,-⟩:=H2.out (by omega);obtain⟨x,hx⟩:∃ x,N[t]?=some x:=⟨_,List.getElem?_eq_getElem (by omega)⟩;obtain⟨y,hy⟩:∃ y,M[t]?=some y:=⟨_,List.getElem?_eq_getElem (by omega)⟩;obtain⟨a,ha⟩:∃ a,L[t]?=some a:=⟨_,List.getElem?_eq_getElem hlt⟩;obtain⟨b,hb⟩:∃ b,K[t]?=some b:=⟨_,List.getElem?_eq_getElem hlt2⟩;obtain⟨k0,k1,k2,k3,k4,k5,k6⟩:=zai (RowsAt.below H1.out hB) hx;obtain⟨l0,l1,l2,l3,l4,l5,l6⟩:=zai (RowsAt.below H2.out hB) hy;have A1:Hid (NdAt w x a):=R1.out.at hx ha;have A2:Hid (NdAt w y b):=R2.out.at hy hb;have kx:a.kids.length<=1000000:=KL.out a (List.mem_of_getElem? ha);have ky:b.kids.length<=1000000:=KK.out b (List.mem_of_getElem? hb);have HX:=hid ha;have HY:=hid hb;have lt2:b2<wr.heap.size:=block_lt_of_cell l0;clear ha hb hx hy;have HBB:Hid (Below w.heap.size w ((wr.alloc (.cells x.cells 59)).alloc (.cells y.cells 59))):=(hB.alloc hB.size _).alloc (by simp;exact Nat.le_succ_of_le hB.size) _;have B1:Hid (NdAt ((wr.alloc (.cells x.cells 59)).alloc (.cells y.cells 59)) x a):=A1.out.low HBB.out;have B2:Hid (NdAt ((wr.alloc (.cells x.cells 59)).alloc (.cells y.cells 59)) y b):=A2.out.low HBB.out
    cases hq:ndEq a b
    ·have HNO:Hid (eqAll ndEq L K=false):=zju HX.out HY.out hq
     go_wp2_with (go_at_call 86;refine(zi2 x y a b _ B1.out B2.out kx ky).mono ?_;rintro e W10 ⟨rfl,b10⟩;rw[hq])
     go_ret
     exact⟨zal HNO.out.symm,HBB.out.trans (b10.mono HBB.out.size)⟩
    ·have HNX:Hid (∀ (j:Nat) (a b:Nd),j<t+1->L[j]?=some a->K[j]?=some b->ndEq a b=true):=fun j a' b' hj ha hb=>by
      by_cases hjt:j<t
      ·exact HZ.out j a' b' hjt ha hb
      ·obtain rfl:j=t:=by omega
       rw[HX.out] at ha;rw[HY.out] at hb;injection ha with ha;injection hb with hb;rw[<-ha,<-hb];exact hq
     go_wp2_with (go_at_call 86;refine(zi2 x y a b _ B1.out B2.out kx ky).mono ?_;rintro e W10 ⟨rfl,b10⟩;rw[hq])
     exact⟨⟨t+1,by omega,by go_num,HBB.out.trans (b10.mono HBB.out.size),HNX.out⟩,by simp[intOf];omega⟩
   ·have hd:decide ((t:Int)<L.length)=false:=by simp;omega
    have HYES:Hid (eqAll ndEq L K=true):=HIF.out.2 fun j a b ha hb=>HZ.out j a b (by have:=(List.getElem?_eq_some_iff.1 ha).1;omega) ha hb
    go_wp2
    go_ret
    exact⟨zal HYES.out.symm,hB⟩
 ·have hln:((L.length:Int) != (K.length:Int))=true:=by simp;omega
  have HNO:Hid (eqAll ndEq L K=false):=zjt hlen
  go_enter Tryz.func85,Tryz.ntmps85
  go_wp2
  go_ret
  exact⟨zal HNO.out.symm,Below.refl _ _⟩
theorem zlf (sp tp:Option Addr)(c1 c2:Nat) (N M:List NdM) (S T:Nat->Prop) (L K:List Nd)(w:World)(h1:RowsAt w 7 NdM.cells sp N)(r1:Rep w S N L)(h2:RowsAt w 7 NdM.cells tp M)(r2:Rep w T M K)
  (hl:L.length<=1000000) (hk:K.length<=1000000) (kl:∀ d ∈ L,d.kids.length<=1000000) (kk:∀ d ∈ K,d.kids.length<=1000000) :
  Calls Tryz.prog 48 #[.agg #[.slice sp L.length c1],.agg #[.slice tp K.length c2]] w fun e w'=>e=.returned (.bool (eqAll ndEq L K))∧Below w.heap.size w w':=by
 have H1:=hid h1;have H2:=hid h2;have R1:Hid (Rep w S N L):=r1;have R2:Hid (Rep w T M K):=r2;have KL:Hid (∀ d ∈ L,d.kids.length<=1000000):=kl;have KK:Hid (∀ d ∈ K,d.kids.length<=1000000):=kk;clear h1 h2 r1 r2 kl kk
 go_enter Tryz.func48,Tryz.ntmps48
 go_wp2_with fail
 refine zag (fun W=>Below w.heap.size w W) (((Below.refl _ _).alloc (Nat.le_refl _) _).alloc (by simp) _) ?_;intro W hB;refine(zwk sp tp c1 c2 N M S T L K W (H1.out.below hB) (R1.out.below hB) (H2.out.below hB) (R2.out.below hB) hl hk KL.out KK.out).mono ?_;rintro e W1 ⟨rfl,b1⟩;have HB:Hid (Below w.heap.size w W1):=hB.trans (b1.mono hB.size);clear hB b1
 go_wp2
 go_ret
 exact⟨rfl,HB.out⟩
def trO (r:(Int × Int) ⊕ Pt):List Nd:=match r with | .inl _=>[] | .inr t=>layP 0 t
def spO (r:(Int × Int) ⊕ Pt):Int × Int:=match r with | .inl p=>p | .inr _=>(0,0)
theorem zye {w w':World}{r:(Int × Int) ⊕ Pt}{e:Ending}(h:PrP w r e w'):Below w.heap.size w w'∧∃ v,e=.returned (.tuple #[.agg #[v],.agg #[.int .i64 (spO r).1,.int .i64 (spO r).2]])∧TrAt w.heap.size w' v (trO r):=by
 obtain⟨h1,h2⟩:=h;refine⟨h1,?_⟩
 cases r with
 | inl p=>exact⟨_,h2,TrAt.nil _ _⟩
 | inr t=>exact h2
def tkW (k:Int) (s:ByteArray):Tok:=⟨k,s,0⟩
structure Wr (w0:World) (g:Nat) (nv:Value) (w:World) (v:Value) (out:List Tok):Prop where
 b:Below w0.heap.size w0 w
 h:w0.heap.size<=g
 r:w.heap[g]?=some (.cells #[nv,v] 150 (0,0))
 o:OwnT w0.heap.size w v out
def Wp (w0:World) (g:Nat) (nv:Value) (w:World) (v:Value) (out:List Tok) (w':World):Prop :=
 ∃ v',Wr w0 g nv w' v' out∧Oth g v w w'∧(v'.ownBlock=v.ownBlock∨∃ q,v'.ownBlock=some q∧w.heap.size<=q)
section
variable {w0 w w1 w2:World}{g:Nat}{nv v v1:Value}{out out1 out2:List Tok}
theorem zj9 (g:Nat)(v:Value)(w:World):Oth g v w w:=⟨rfl,rfl,rfl,Nat.le_refl _,fun _ _ _ _=>rfl⟩
theorem zlg (g:Nat)(v:Value)(hb:Below w.heap.size w w1):Oth g v w w1:=⟨hb.os,hb.tape,hb.output,hb.size,fun j hj _ _=>hb.block j hj⟩
theorem Wr.lt (h:Wr w0 g nv w v out):g<w.heap.size:=zab h.r
theorem Wr.low (h:Wr w0 g nv w v out)(hb:Below w.heap.size w w1):Wr w0 g nv w1 v out :=
 ⟨h.b.trans (hb.mono h.b.size),h.h,(hb.block _ h.lt).trans h.r,h.o.below hb⟩
theorem Wp.start (h:Wr w0 g nv w v out):Wp w0 g nv w v out w:=⟨v,h,zj9 g v w,.inl rfl⟩
theorem Wp.trans (h:Oth g v w w1)(hv:v1.ownBlock=v.ownBlock∨∃ q,v1.ownBlock=some q∧w.heap.size<=q)(h':Wp w0 g nv w1 v1 out w2):Wp w0 g nv w v out w2:=by
 obtain⟨v2,r2,o2,q2⟩:=h';refine⟨v2,r2,h.trans hv o2,?_⟩;rcases q2 with q2|⟨q,q2,q3⟩
 ·rcases hv with hv|⟨q,hv,hq⟩
  ·exact .inl (q2.trans hv)
  ·exact .inr ⟨q,q2.trans hv,hq⟩
 ·exact .inr ⟨q,q2,Nat.le_trans h.size q3⟩
theorem Wp.pre (hb:Below w.heap.size w w1)(h':Wp w0 g nv w1 v out w2):Wp w0 g nv w v out w2:=Wp.trans (zlg g v hb) (.inl rfl) h'
theorem Wp.row {cs:Array Value}{ty:TypeId}{fr:Nat × Nat}{j:Nat}(hw:Wr w0 g nv w v out1)(h:Oth g v w w1)(hr:w.heap[j]?=some (.cells cs ty fr))(hj:j≠g)(ht:38≠ty):w1.heap[j]?=some (.cells cs ty fr) :=
 (h.block j (zab hr) hj (hw.o.ne hr ht)).trans hr
theorem Wr.env (h:Wr w0 g nv w v out) {α:Type}{m:Nat}{cs:α->Array Value}{sp:Option Addr}{xs:List α}(hr:RowsAt w0 m cs sp xs):RowsAt w m cs sp xs:=hr.below h.b
theorem Wr.one (h:Wr w0 g nv w v out)(t:Tok)(hl:out.length+1<=1000000):∃ s0 c0 s1 c1 W,v=.slice s0 out.length c0∧w.cell? ⟨g,1,none⟩=some v∧w.frozen? ⟨g,1,none⟩=false ∧
  (Builtin.append_ #[31,31] 31 #[v,.slice (some ⟨w.heap.size,0,none⟩) 1 1]).run Tryz.prog (w.alloc (.cells t.cells 38))=.ok (.slice s1 (out.length+1) c1) W∧W.cell? ⟨g,1,none⟩=some v∧W.frozen? ⟨g,1,none⟩=false ∧
  Wr w0 g nv (W.setCell ⟨g,1,none⟩ (.slice s1 (out.length+1) c1)) (.slice s1 (out.length+1) c1) (out++[t])∧Oth g v w (W.setCell ⟨g,1,none⟩ (.slice s1 (out.length+1) c1)) ∧
  ((Value.slice s1 (out.length+1) c1).ownBlock=v.ownBlock∨∃ q,(Value.slice s1 (out.length+1) c1).ownBlock=some q∧w.heap.size<=q):=by
 have hg:=h.lt;have hne:v.ownBlock≠some g:=h.o.ne h.r (by decide);obtain⟨s0,c0,rfl⟩:=OwnG.shape h.o;have hb:Below w.heap.size w (w.alloc (.cells t.cells 38)):=(Below.refl _ _).alloc (Nat.le_refl _) _;have hrow:=heap_alloc_new w (.cells t.cells 38);have hsz:(w.alloc (.cells t.cells 38)).heap.size=w.heap.size+1:=by simp
 generalize w.alloc (.cells t.cells 38)=X at hb hrow hsz ⊢;have hbs:=h.b.size;obtain⟨v',W,hrun,ho,hgr,hq⟩:=zdm (ys:=[t]) (cap:=1) elT 31 (h.o.below hb) (fun e=>by cases e) (zao hrow) (by simpa using hl) (by omega);obtain⟨s1,c1,rfl⟩:=OwnG.shape ho;have e1:(out++[t]).length=out.length+1:=by simp
 rw[e1] at hrun ho hq;have hle:=hgr.size;have hk:∀ j,j<w.heap.size->(Value.slice s0 out.length c0).ownBlock≠some j->W.heap[j]?=w.heap[j]?:=fun j hj hn=>(hgr.block j (by omega) fun e=>hn e.symm).trans (hb.block j hj);have hnew:(Value.slice s1 (out.length+1) c1).ownBlock≠some g:=fun e=>by
  rcases hq with hq|hq
  ·exact hne (hq.symm.trans e)
  ·rw[hq] at e;injection e with e;omega
 have r2:=(hk g hg hne).trans h.r;have hBW:Below w0.heap.size w0 W:=⟨hgr.os.trans (hb.os.trans h.b.os),hgr.tape.trans (hb.tape.trans h.b.tape),hgr.output.trans (hb.output.trans h.b.output),by omega,fun j hj=>(hk j (by omega) fun e=>by have:=(h.o.lt e).1;omega).trans (h.b.block j hj)⟩;refine⟨s0,c0,s1,c1,W,rfl,(cell_of_row _ _ _ _ _ _ h.r).trans rfl,frozen_of_row _ _ _ _ _ h.r,hrun,(cell_of_row _ _ _ _ _ _ r2).trans rfl,frozen_of_row _ _ _ _ _ r2,⟨hBW.setCell (p:=⟨g,1,none⟩) h.h _,h.h,heap_setCell_same _ _ 1 _ _ _ r2,ho.keep fun q hq'=>heap_setCell_other _ _ _ _ fun e=>hnew (by rw[hq',show q=g from e])⟩,?_,?_⟩
 ·have hq2:=(Below.refl 0 W).setCell (p:=⟨g,1,none⟩) (Nat.zero_le _) (.slice s1 (out.length+1) c1);exact⟨hq2.os.trans (hgr.os.trans hb.os),hq2.tape.trans (hgr.tape.trans hb.tape),hq2.output.trans (hgr.output.trans hb.output),by have:=hq2.size;omega,fun j hj hjt hjv=>(heap_setCell_other _ _ _ _ hjt).trans (hk j hj hjv)⟩
 ·rcases hq with hq|hq
  ·exact .inl hq
  ·exact .inr ⟨_,hq,by omega⟩
end
def hdP:Pt->Int × ByteArray | .mk k x _ _ _ _ _=>(k,x)
def sgT (s:List UInt8):Tok:=tkW 4 (strU s)
def wdT (s:List UInt8):Tok:=tkW 1 (strU s)
def enT:Tok:=tkW 5 (strU [59])
def quoT (s:ByteArray):ByteArray:=match quoO s.data.toList with|some q=>strU q|none=>⟨#[]⟩
def nuT (n:Int):Tok:=tkW 2 ⟨(Lib.itoa n).toArray⟩
def wEnd (os:List (List Tok)):List Tok:=(os.map (·++[enT])).flatten
def wPar (s:List UInt8) (os:List (List Tok)):List Tok:=match os with | []=>[] | o::r=>o++(r.map (sgT s::·)).flatten
def wBrk (os:List (List Tok)):List Tok:=[sgT [40]]++wPar [44] os++[sgT [41]]
def wBra (os:List (List Tok)):List Tok:=[sgT [123]]++wEnd os++[sgT [125]]
def wIf (os:List (List Tok)):List Tok:=(os.take 2).flatten++(if 2<os.length then[wdT [101,108,115,101]] else[])++(os.drop 2).flatten
def nedB (k:Int) (x:ByteArray) (h:Int × ByteArray) (i:Nat):Bool :=
 if k=26 then h.1 == 27 else if k≠27 then(h.1 == 26) || (h.1 == 27)
 else(h.1 == 27) && (decide (rowI h.2<rowI x) || ((rowI h.2 == rowI x) && (decide (0<i) || (rowI h.2 == 2))))
def wOpe (k:Int) (x:ByteArray) (hs:List (Int × ByteArray)) (os:List (List Tok)) (i:Nat):List Tok :=
 match hs[i]?,os[i]? with
 | some h,some o=>if nedB k x h i then wBrk [o] else o
 | _,_=>[]
def cutN (k:Int):List (Int × ByteArray)->Nat | []=>0|h::r=>if h.1 == k then cutN k r+1 else 0
def wFun (x:ByteArray) (hs:List (Int × ByteArray)) (os:List (List Tok)):List Tok :=
 [wdT [102,117,110,99]]++(if 0<cutN 8 hs then wBrk (os.take (cutN 8 hs)) else[])++[tkW 1 x]++wBrk ((os.drop (cutN 8 hs)).take (cutN 9 (hs.drop (cutN 8 hs))))++((os.drop (cutN 8 hs)).drop (cutN 9 (hs.drop (cutN 8 hs)))).flatten
def wrX (k:Int) (x:ByteArray) (n:Int) (hs:List (Int × ByteArray)) (os:List (List Tok)):List Tok :=
 if k=20 then[nuT n] else if k=21 then[tkW 3 (quoT x)] else if k=22∨k=23 then[tkW 1 x]
 else if k=24 then wOpe k x hs os 0++[sgT [46]]++[tkW 1 x] else if k=25 then wOpe k x hs os 0++wBrk (os.drop 1)
 else if k=26 then[tkW 4 x]++wOpe k x hs os 0 else if k=27 then wOpe k x hs os 0++[tkW 4 x]++wOpe k x hs os 1 else[]
def wrS (k:Int) (x:ByteArray) (n:Int) (hs:List (Int × ByteArray)) (os:List (List Tok)):List Tok :=
 if k=13 then wBra os else if k=14 then[wdT [105,102]]++wIf os else if k=15 then[wdT [102,111,114]]++os.flatten
 else if k=16 then[wdT [114,101,116,117,114,110]]++os.flatten else if k=17 then[tkW 1 x]++[sgT [58,61]]++os.flatten
 else if k=18 then wPar [61] os else if k=19 then os.flatten else wrX k x n hs os
def wrK (k:Int) (x:ByteArray) (n:Int) (hs:List (Int × ByteArray)) (os:List (List Tok)):List Tok :=
 if k=1 then[wdT [112,97,99,107,97,103,101],tkW 1 x]++[enT]++wEnd os else if k=2 then[wdT [105,109,112,111,114,116]]++[tkW 3 (quoT x)]
 else if k=3 then[wdT [99,111,110,115,116],tkW 1 x]++[sgT [61]]++os.flatten else if k=4 then[wdT [118,97,114],tkW 1 x]++wPar [61] os
 else if k=5 then[wdT [116,121,112,101],tkW 1 x,wdT [115,116,114,117,99,116]]++wBra os else if k=7 then wFun x hs os
 else if k=6∨k=8∨k=9 then[tkW 1 x]++os.flatten else if k=10∨k=11 then[tkW 1 x]
 else if k=12 then os.flatten++[sgT [46]]++[tkW 1 x] else wrS k x n hs os
mutual
def wrP:Pt->List Tok | .mk k x n _ _ _ l=>wrK k x n (l.map hdP) (wrM l)
def wrM:List Pt->List (List Tok) | []=>[] | t::r=>wrP t::wrM r
end
theorem zcn:∀ l:List Pt,wrM l=l.map wrP
 | []=>by rw[wrM];rfl
 | t::r=>by rw[wrM,zcn r];rfl
inductive Pe where
 | t (x:Tok)
 | w (c:UInt8)
 | e
def Pe.bs:Pe->List UInt8 | .t x=>x.text.data.toList | .w c=>[c] | .e=>[10]
def rn (l:List Pe):List UInt8:=(l.map Pe.bs).flatten
theorem zcv:rn []=[]:=rfl
theorem zaf (a:Pe)(l:List Pe):rn (a::l)=a.bs++rn l:=by simp[rn]
theorem zac (a b:List Pe):rn (a++b)=rn a++rn b:=by simp[rn]
def sp:Pe:=.w 32
def fe:Pe:=.w 10
def wd (s:List UInt8):Pe:=.t (wdT s)
def sg (s:List UInt8):Pe:=.t (sgT s)
def tb (d:Nat):List Pe:=List.replicate d (.w 9)
def pPar (s:List Pe) (os:List (List Pe)):List Pe:=match os with | []=>[] | o::r=>o++(r.map (s++·)).flatten
def pBeh (s:List Pe) (os:List (List Pe)):List Pe:=(os.map (s++·)).flatten
def pBrk (os:List (List Pe)):List Pe:=[sg [40]]++pPar [sg [44],sp] os++[sg [41]]
def pLin (d:Nat) (os:List (List Pe)):List Pe:=(os.map fun o=>tb d++o++[.e]).flatten
def pBra (d:Nat) (os:List (List Pe)):List Pe:=[sg [123],fe]++pLin (d+1) os++tb d++[sg [125]]
def rowQ (x:ByteArray):Int :=
 if x.data.toList == [124,124] then 1 else if x.data.toList == [38,38] then 2
 else if (x.data.toList == [61,61]) || (x.data.toList == [33,61]) || (x.data.toList == [60]) || (x.data.toList == [60,61]) || (x.data.toList == [62]) || (x.data.toList == [62,61]) then 3
 else if (x.data.toList == [43]) || (x.data.toList == [45]) then 4 else 5
def nedQ (k:Int) (x:ByteArray) (h:Int × ByteArray) (i:Nat):Bool :=
 if k=26 then h.1 == 27 else if k=27 then(h.1 == 27) && (decide (rowQ h.2<rowQ x) || ((rowQ h.2 == rowQ x) && (decide (0<i) || (rowQ h.2 == 3))))
 else(h.1 == 26) || (h.1 == 27)
def pOpe (k:Int) (x:ByteArray) (hs:List (Int × ByteArray)) (os:List (List Pe)) (i:Nat):List Pe :=
 match hs[i]?,os[i]? with
 | some h,some o=>if nedQ k x h i then pBrk [o] else o
 | _,_=>[]
def pOne (os:List (List Pe)):List Pe:=os.headD []
def pFiK (d:Nat):Bool->List (Int × ByteArray)->List (List Pe)->List Pe
 | fst,h::hs,o::os=>(if fst || h.1 != 2 then[fe] else[])++(tb d++o++[.e])++pFiK d false hs os
 | _,_,_=>[]
def pFun (x:ByteArray) (hs:List (Int × ByteArray)) (os:List (List Pe)):List Pe :=
 [wd [102,117,110,99],sp]++(if 0<cutN 8 hs then pBrk (os.take (cutN 8 hs))++[sp] else[])++[.t (tkW 1 x)]++pBrk ((os.drop (cutN 8 hs)).take (cutN 9 (hs.drop (cutN 8 hs))))++pBeh [sp] ((os.drop (cutN 8 hs)).drop (cutN 9 (hs.drop (cutN 8 hs))))
def prX (k:Int) (x:ByteArray) (n:Int) (hs:List (Int × ByteArray)) (os:List (List Pe)):List Pe :=
 if k=20 then[.t (nuT n)] else if k=21 then[.t (tkW 3 (quoT x))] else if k=22∨k=23 then[.t (tkW 1 x)]
 else if k=24 then pOpe k x hs os 0++[sg [46],.t (tkW 1 x)] else if k=25 then pOpe k x hs os 0++pBrk (os.drop 1)
 else if k=26 then[.t (tkW 4 x)]++pOpe k x hs os 0 else if k=27 then pOpe k x hs os 0++[sp,.t (tkW 4 x),sp]++pOpe k x hs os 1 else[]
def prS (d:Nat) (k:Int) (x:ByteArray) (n:Int) (hs:List (Int × ByteArray)) (os:List (List Pe)):List Pe :=
 if k=13 then pBra d os else if k=14 then[wd [105,102],sp]++pPar [sp] (os.take 2)++pBeh [sp,wd [101,108,115,101],sp] (os.drop 2) else if k=15 then[wd [102,111,114],sp]++pPar [sp] os
 else if k=16 then[wd [114,101,116,117,114,110]]++pBeh [sp] os else if k=17 then[.t (tkW 1 x),sp,sg [58,61],sp]++pOne os
 else if k=18 then pPar [sp,sg [61],sp] os else if k=19 then pOne os else prX k x n hs os
def prK (d:Nat) (k:Int) (x:ByteArray) (n:Int) (hs:List (Int × ByteArray)) (os:List (List Pe)):List Pe :=
 if k=1 then[wd [112,97,99,107,97,103,101],sp,.t (tkW 1 x),.e]++pFiK d true hs os else if k=2 then[wd [105,109,112,111,114,116],sp,.t (tkW 3 (quoT x))]
 else if k=3 then[wd [99,111,110,115,116],sp,.t (tkW 1 x),sp,sg [61],sp]++pOne os else if k=4 then[wd [118,97,114],sp,.t (tkW 1 x),sp]++pPar [sp,sg [61],sp] os
 else if k=5 then[wd [116,121,112,101],sp,.t (tkW 1 x),sp,wd [115,116,114,117,99,116],sp]++pBra d os else if k=7 then pFun x hs os
 else if k=6∨k=8∨k=9 then[.t (tkW 1 x),sp]++pOne os else if k=10∨k=11 then[.t (tkW 1 x)]
 else if k=12 then pOne os++[sg [46],.t (tkW 1 x)] else prS d k x n hs os
def kdD (k:Int) (d:Nat):Nat:=if k=13∨k=5 then d+1 else d
mutual
def prP (d:Nat):Pt->List Pe | .mk k x n _ _ _ l=>prK d k x n (l.map hdP) (prM (kdD k d) l)
def prM (d:Nat):List Pt->List (List Pe) | []=>[] | t::r=>prP d t::prM d r
end
theorem zca (d:Nat):∀ l:List Pt,prM d l=l.map (prP d)
 | []=>by rw[prM];rfl
 | t::r=>by rw[prM,zca d r];rfl
def ndK (k:Int):Nat:=if k=14∨k=27 then 2 else if k=3∨k=6∨k=8∨k=9∨k=12∨k=17∨k=19∨k=24∨k=25∨k=26 then 1 else 0
mutual
def arP:Pt->Prop | .mk k x n _ _ _ l=>ndK k<=l.length∧(x.size<=100000∧-9223372036854775808<=n∧n<=9223372036854775807)∧arL l
def arL:List Pt->Prop | []=>True|t::r=>arP t∧arL r
end
theorem zr9:∀ {l:List Pt},arL l ↔ ∀ u ∈ l,arP u
 | []=>by simp[arL]
 | t::r=>by simp[arL,zr9 (l:=r)]
section
variable {w0 w:World}{g:Nat}{nv v:Value}{out:List Tok}
theorem zsa (k:Int)(b cap:Nat)(xs:List ByteArray)(h:Wr w0 g nv w v out)(hx:w.heap[b]?=some (.cells (xs.map Value.string).toArray 9 (0,0)))(hbg:b≠g)(hl:out.length+xs.length<=900000)(hs:xs.length<=1000) :
  Calls Tryz.prog 182 #[.pointer (some ⟨g,0,none⟩),.int .i64 k,.slice (some ⟨b,0,none⟩) xs.length cap] w fun e w'=>e=.returned (.tuple #[])∧Wp w0 g nv w v (out++xs.map (tkW k)) w':=by
 have HW:=hid h;have HX:=hid hx;clear h hx
 go_enter Tryz.func182,Tryz.ntmps182
 go_wp2
 go_loopw [10] (fun i wr=>∃ t:Nat,t<=xs.length∧i=.int .i64 t∧Wp w0 g nv w v (out++(xs.take t).map (tkW k)) wr) (fun i _=>xs.length - (intOf i).toNat)
 case atStart=>exact⟨0,Nat.zero_le _,rfl,by simpa using Wp.start HW.out⟩
 case round=>
  obtain⟨t,ht,rfl,v1,h1,o1,q1⟩:=hrel;have HP:Hid (Wp w0 g nv w v (out++(xs.take t).map (tkW k)) wr):=⟨v1,h1,o1,q1⟩
  by_cases hlt:t<xs.length
  ·have hd:decide ((t:Int)<xs.length)=true:=by simp;omega
   obtain⟨x,hx⟩:∃ x,xs[t]?=some x:=⟨_,List.getElem?_eq_getElem hlt⟩;have rb:=Wp.row HW.out o1 HX.out hbg (by decide);have kb:wr.cell? ⟨b,t,none⟩=some (.string x):=by
    rw[cell_of_row _ _ _ _ _ _ rb,List.getElem?_toArray,List.getElem?_map,hx];rfl
   have hln:(out++(xs.take t).map (tkW k)).length=out.length+t:=by simp;omega
   obtain⟨s0,c0,s1,c1,W,rfl,ca,fa,hrun,cb,fb,h2,o2,q2⟩:=h1.one (tkW k x) (by omega);have HTK:Hid (xs.take (t+1)=xs.take t++[x]):=by
    show _=_;rw[List.take_add_one,hx];rfl
   have HN:Hid (Wp w0 g nv w v (out++(xs.take (t+1)).map (tkW k)) (W.setCell ⟨g,1,none⟩ (.slice s1 ((out++(xs.take t).map (tkW k)).length+1) c1))):=by
    refine Wp.trans o1 q1 ⟨_,?_,o2,q2⟩;rw[HTK.out,List.map_append,<-List.append_assoc];exact h2
   have ltg:=h1.lt;have ltb:b<wr.heap.size:=zab rb;rw[hln] at hrun ca cb HN;clear h1 o1 q1 h2 o2 q2 hx rb HP hln;have hcell:(tkW k x).cells=#[.int .i64 k,.string x,.int .i64 0]:=rfl;rw[hcell] at hrun
   go_wp2_with (at_builtin;refine za2 (.tmp 18) (.tmp 22) 31 (by rfl) (by rfl) (by rfl) (by rfl) hrun ?_)
   exact⟨⟨t+1,by omega,by go_num,HN.out⟩,by simp[intOf];omega⟩
  ·have hd:decide ((t:Int)<xs.length)=false:=by simp;omega
   clear h1 o1 q1
   go_wp2
   go_end0
   refine⟨rfl,?_⟩;have:=HP.out;rw[List.take_of_length_le (by omega)] at this;exact this
theorem zp1 (b cap:Nat)(xs:List ByteArray)(h:Wr w0 g nv w v out)(hx:w.heap[b]?=some (.cells (xs.map Value.string).toArray 9 (0,0)))(hbg:b≠g)(hl:out.length+xs.length<=900000)(hs:xs.length<=1000) :
  Calls Tryz.prog 145 #[.pointer (some ⟨g,0,none⟩),.slice (some ⟨b,0,none⟩) xs.length cap] w fun e w'=>e=.returned (.tuple #[])∧Wp w0 g nv w v (out++xs.map (tkW 1)) w':=by
 have HC:=zsa 1 b cap xs h hx hbg hl hs
 go_enter Tryz.func145,Tryz.ntmps145
 go_wp2_with fail
 refine HC.mono ?_;rintro e W ⟨rfl,hp⟩;have HP:Hid _:=hp;clear hp HC
 go_wp2
 go_end0
 exact⟨rfl,HP.out⟩
theorem zbb (xs:List ByteArray)(h:Wr w0 g nv w v out)(hl:out.length+xs.length<=900000)(hs:xs.length<=1000) :
  Calls Tryz.prog 145 #[.pointer (some ⟨g,0,none⟩),.slice (some ⟨w.heap.size,0,none⟩) xs.length xs.length] (w.alloc (.cells (xs.map Value.string).toArray 9)) fun e w'=>e=.returned (.tuple #[])∧Wp w0 g nv w v (out++xs.map (tkW 1)) w':=by
 have hb:Below w.heap.size w (w.alloc (.cells (xs.map Value.string).toArray 9)):=(Below.refl _ _).alloc (Nat.le_refl _) _;refine(zp1 w.heap.size xs.length xs (h.low hb) (heap_alloc_new _ _) (by have:=h.lt;omega) hl hs).mono ?_;rintro e W ⟨rfl,hp⟩;exact⟨rfl,Wp.pre hb hp⟩
theorem zka (k:Int)(x:ByteArray)(h:Wr w0 g nv w v out)(hl:out.length+1<=900000) :
  Calls Tryz.prog 182 #[.pointer (some ⟨g,0,none⟩),.int .i64 k,.slice (some ⟨w.heap.size,0,none⟩) 1 1] (w.alloc (.cells #[.string x] 9)) fun e w'=>e=.returned (.tuple #[])∧Wp w0 g nv w v (out++[tkW k x]) w':=by
 have hb:Below w.heap.size w (w.alloc (.cells #[.string x] 9)):=(Below.refl _ _).alloc (Nat.le_refl _) _;refine(zsa k w.heap.size 1 [x] (h.low hb) (heap_alloc_new _ _) (by have:=h.lt;omega) hl (by simp)).mono ?_;rintro e W ⟨rfl,hp⟩;exact⟨rfl,Wp.pre hb hp⟩
theorem zcx (x:ByteArray)(h:Wr w0 g nv w v out)(hl:out.length+1<=900000):Calls Tryz.prog 149 #[.pointer (some ⟨g,0,none⟩),.string x] w fun e w'=>e=.returned (.tuple #[])∧Wp w0 g nv w v (out++[tkW 4 x]) w':=by
 have HC:=zka 4 x h hl
 go_enter Tryz.func149,Tryz.ntmps149
 go_wp2_with fail
 refine HC.mono ?_;rintro e W ⟨rfl,hp⟩;have HP:Hid _:=hp;clear hp HC
 go_wp2
 go_end0
 exact⟨rfl,HP.out⟩
theorem zoh (h:Wr w0 g nv w v out)(hl:out.length+1<=900000):Calls Tryz.prog 146 #[.pointer (some ⟨g,0,none⟩)] w fun e w'=>e=.returned (.tuple #[])∧Wp w0 g nv w v (out++[enT]) w':=by
 have HC:=zka 5 ⟨#[59]⟩ h hl
 go_enter Tryz.func146,Tryz.ntmps146
 go_wp2_with fail
 refine HC.mono ?_;rintro e W ⟨rfl,hp⟩;have HP:Hid _:=hp;clear hp HC
 go_wp2
 go_end0
 exact⟨rfl,HP.out⟩
theorem zlh (x:ByteArray)(h:Wr w0 g nv w v out)(hl:out.length+1<=900000)(hx:x.size<=100000):Calls Tryz.prog 148 #[.pointer (some ⟨g,0,none⟩),.string x] w fun e w'=>e=.returned (.tuple #[])∧Wp w0 g nv w v (out++[tkW 3 (quoT x)]) w':=by
 have HW:=hid h;clear h;have hqv:∃ er,strV (quoO x.data.toList) 2=.tuple #[.string (quoT x),.int .i64 er]:=by
  unfold strV quoT
  cases quoO x.data.toList with
  | none=>exact⟨_,rfl⟩
  | some q=>exact⟨_,rfl⟩
 obtain⟨er,hqv⟩:=hqv
 go_enter Tryz.func148,Tryz.ntmps148
 go_wp2_with fail
 refine(zk1 x w hx).mono ?_;rintro e W ⟨rfl,hb⟩;rw[hqv];have HC:=zka 3 (quoT x) (HW.out.low hb) hl;have HB:Hid _:=hb;clear hb hqv
 go_wp2_with fail
 refine HC.mono ?_;rintro e W ⟨rfl,hp⟩;have HP:Hid _:=Wp.pre HB.out hp;clear hp HC
 go_wp2
 go_end0
 exact⟨rfl,HP.out⟩
end
end Go.Proofs.YtabiangdmibocaaGreatDoor
