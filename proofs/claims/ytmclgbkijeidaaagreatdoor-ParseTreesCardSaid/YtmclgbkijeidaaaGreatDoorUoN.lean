import Derived.Test.YtmclgbkijeidaaaGreatDoorUoM
import Derived.Test.YtmclgbkijeidaaaGreatDoorUoF
import Derived.Test.YtmclgbkijeidaaaGreatDoorUoE
import Derived.Test.YtmclgbkijeidaaaGreatDoorUoD
import Derived.Test.YtmclgbkijeidaaaGreatDoorUoC
import Derived.Lib.ItoaNum
namespace Go.Proofs.YtmclgbkijeidaaaGreatDoor
set_option maxRecDepth 100000
set_option maxHeartbeats 4000000
open Go.RowKit
structure PrF (w W:World):Prop where
  b:Below w.heap.size w W
  z:W.heap[w.heap.size]?=some (.cells #[.slice none 0 0] 25 (0,0))
  s:W.heap[w.heap.size+1]?=some (.cells #[.int .i64 0,.int .i64 0] 28 (0,0))
theorem PrF.below {w W W':World}(h:PrF w W)(hb:Below W.heap.size W W'):PrF w W':=⟨h.b.trans (hb.mono h.b.size),(hb.block _ (zaa h.z)).trans h.z,(hb.block _ (zaa h.s)).trans h.s⟩
def PrP (w:World) (r:(Int × Int) ⊕ Pt) (e:Ending) (w':World):Prop :=
  Below w.heap.size w w'∧match r with
  | .inl p=>e=.returned (.tuple #[.agg #[.slice none 0 0],.agg #[.int .i64 p.1,.int .i64 p.2]])
  | .inr t=>∃ v,e=.returned (.tuple #[.agg #[v],.agg #[.int .i64 0,.int .i64 0]])∧TrAt w.heap.size w' v (layP 0 t)
theorem zbj {w W:World}(h:PrF w W)(v:Value)(a b:Int) :
    Below w.heap.size w (((W.setCell ⟨w.heap.size,0,none⟩ v).setCell ⟨w.heap.size+1,0,none⟩ (.int .i64 a)).setCell ⟨w.heap.size+1,1,none⟩ (.int .i64 b)) ∧
    (((W.setCell ⟨w.heap.size,0,none⟩ v).setCell ⟨w.heap.size+1,0,none⟩ (.int .i64 a)).setCell ⟨w.heap.size+1,1,none⟩ (.int .i64 b)).heap[w.heap.size]?=some (.cells #[v] 25 (0,0)) ∧
    (((W.setCell ⟨w.heap.size,0,none⟩ v).setCell ⟨w.heap.size+1,0,none⟩ (.int .i64 a)).setCell ⟨w.heap.size+1,1,none⟩ (.int .i64 b)).heap[w.heap.size+1]?=some (.cells #[.int .i64 a,.int .i64 b] 28 (0,0)) :=
  ⟨((h.b.setCell (p:=⟨w.heap.size,0,none⟩) (Ya _) _).setCell (p:=⟨w.heap.size+1,0,none⟩) (Nat.le_succ _) _).setCell (p:=⟨w.heap.size+1,1,none⟩) (Nat.le_succ _) _,
   (Ye _ _ _ _ (by simp)).trans ((Ye _ _ _ _ (by simp)).trans (Yf _ _ 0 _ _ _ h.z)),
   Yf _ _ 1 _ _ _ (Yf _ _ 0 _ _ _ ((Ye _ _ _ _ (by simp)).trans h.s))⟩
theorem PrF.c {w W:World}(h:PrF w W):W.cell? ⟨w.heap.size,0,none⟩=some (.slice none 0 0)∧W.cell? ⟨w.heap.size+1,0,none⟩=some (.int .i64 0)∧W.cell? ⟨w.heap.size+1,1,none⟩=some (.int .i64 0) :=
  ⟨Yp 0 h.z rfl,Yp 0 h.s rfl,Yp 1 h.s rfl⟩
theorem PrF.f {w W:World}(h:PrF w W):W.frozen? ⟨w.heap.size,0,none⟩=false∧W.frozen? ⟨w.heap.size+1,0,none⟩=false∧W.frozen? ⟨w.heap.size+1,1,none⟩=false :=
  ⟨Yj _ _ _ _ _ h.z,Yj _ _ _ _ _ h.s,Yj _ _ _ _ _ h.s⟩
theorem zse (w:World)(st:Option Addr)(cap:Nat)(ts:List Tok)(hr:RowsT w st ts)(hT:Tabl w)(few:ts.length<=100000)(ok:∀ t ∈ ts,-1000000000000000000<=t.pos∧t.pos<=1000000000000000000∧t.text.size<=100000) :
    Calls Tryz.prog 13 #[.slice st ts.length cap] w (PrP w (parO ts)):=by
  have HR:Hid (∀ W,Below w.heap.size w W->RowsT W st ts):=fun W I=>zbn I.block hr;have HT:Hid (∀ W,Below w.heap.size w W->Tabl W):=fun W I=>zcm I.block hT;have ax:Hid _:=ok;clear hr hT ok
  go_enter Tryz.func13,Tryz.ntmps13
  go_wp2_with fail
  refine zag (fun W=>PrF w W) ?_ ?_
  . have n0:=Yd w (.cells #[.slice none 0 0] 25)
    have V:=Yd (w.alloc (.cells #[.slice none 0 0] 25)) (.cells #[.int .i64 0,.int .i64 0] 28);simp only[World.size_alloc] at V;exact⟨((Yb _ _).alloc (Ya _) _).alloc (by simp) _,(Yn _ _ _ (by simp)).trans n0,V⟩
  intro W f;refine(zik st cap ts W (HR W f.b) few).mono ?_;rintro e W1 ⟨rfl,b1⟩;have F:Hid (PrF w W1):=f.below b1;clear f b1
  by_cases hc:chkO ts=0
  . rw[hc]
    go_wp2_with fail
    refine(zp1 st cap ts W1 (HR W1 F.out.b) few).mono ?_;rintro e X ⟨rfl,b2⟩;have A:Hid (PrF w X):=F.out.below b2;clear F b2
    cases hri:risB (-1) ts
    . have C:Hid (parO ts=.inl (2,0)):=by show _=_;unfold parO;simp[hc,hri]
      obtain⟨c0,c1,c2⟩:=A.out.c;obtain⟨f0,Z,f2⟩:=A.out.f
      go_wp2
      exact bodyPost_ret (zcl Tryz.results13 _ _ w.heap.size (w.heap.size+1) _ _ _ _ (0,0) (0,0) _ _ rfl rfl (zbj A.out _ _ _).2.1 (zbj A.out _ _ _).2.2 Tryz.underlying25 rfl (by kernel_rfl) Tryz.underlying28 rfl (by kernel_rfl)) rfl (by rw[C.out];exact⟨(zbj A.out _ _ _).1,rfl⟩)
    . go_wp2_with fail
      refine(zky X st cap ts few ax.out (fun W' am=>⟨zbn am (HR.out X A.out.b),zcm am (HT.out X A.out.b)⟩)).mono ?_;rintro e y ⟨b3,U⟩;have K:Hid (PrF w y):=A.out.below b3;have ao:w.heap.size+2<=X.heap.size:=zaa A.out.s;obtain⟨s,n,c,a,b,L,R,rfl,ab,hn,hk,hR,hE⟩:∃ (s:Option Addr) (n c:Nat) (a b:Int) (L:List Nd) (R:(Int × Int) ⊕ Pt),e=.returned (.tuple #[.agg #[.slice s n c],.agg #[.int .i64 a,.int .i64 b]])∧(n=L.length∧TrAt (w.heap.size+2) y (.slice s n c) L)∧L.length<=400000∧(∀ d ∈ L,(∀ k ∈ d.kids,k<L.length)∧d.kids.length<=400000) ∧
          (parO ts=if 2048<L.length then .inl (3,0) else if 24<dpF (fun _=>0) 0 0 L then .inl (3,0) else R)∧∀ w',Below w.heap.size w w'->TrAt w.heap.size w' (.slice s n c) L->PrP w R (.returned (.tuple #[.agg #[.slice s n c],.agg #[.int .i64 a,.int .i64 b]])) w':=by
        obtain⟨r,hr⟩:∃ r,filO ts=r:=⟨_,rfl⟩;rw[hr] at U
        cases r with
        | out=>exact U.elim
        | bad s=>exact⟨none,0,0,210,s,[],.inl (210,s),U,⟨rfl,TrAt.nil _ _⟩,by simp,by simp,by unfold parO;simp[hc,hri,hr,dpF],fun w' I _=>⟨I,rfl⟩⟩
        | ok t q=>
          obtain⟨aB,v,rfl,hT⟩:=U;obtain⟨s,c,rfl⟩:=hT.shape;have hl:=zol 0 t;exact⟨s,_,c,0,0,layP 0 t,.inr t,rfl,⟨rfl,hT.mono ao⟩,by omega,fun d hd=>by
            have h:=ze3 t 0 d hd;exact⟨fun k hk=>by have:=h.1 k hk;omega,by omega⟩,by unfold parO;rw[if_neg (by simp[hc]),if_neg (by simp[hri]),hr],fun w' I ht=>⟨I,_,rfl,ht⟩⟩
      obtain⟨ar,ab⟩:=ab;subst ar;have ay:Hid _:=ab;have ap:Hid _:=hk;have ae:Hid _:=hR;have HE:Hid _:=hE;clear ab hk hR hE U b3 A ao;obtain⟨c0,c1,c2⟩:=K.out.c;obtain⟨f0,Z,f2⟩:=K.out.f;have az:=zaa K.out.s;have aA:=zaa K.out.z
      by_cases h2:2048<L.length
      . have aw:(L.length:Int) > 2048:=by omega
        have C:Hid (parO ts=.inl (3,0)):=by show _=_;rw[ae.out,if_pos h2]
        go_wp2
        have d:=zbj K.out (.slice none 0 0) 3 0;generalize (((y.setCell ⟨w.heap.size,0,none⟩ (.slice none 0 0)).setCell ⟨w.heap.size+1,0,none⟩ (.int .i64 3)).setCell ⟨w.heap.size+1,1,none⟩ (.int .i64 0))=Y at d ⊢;have e1:=(Yn Y (.cells #[.slice s L.length c] 25 (0,0)) _ (zaa d.2.1)).trans d.2.1;have e2:=(Yn Y (.cells #[.slice s L.length c] 25 (0,0)) _ (zaa d.2.2)).trans d.2.2;have e3:=(Yn _ (.cells #[.int .i64 a,.int .i64 b] 28 (0,0)) _ (zaa e1)).trans e1;have e4:=(Yn _ (.cells #[.int .i64 a,.int .i64 b] 28 (0,0)) _ (zaa e2)).trans e2;exact bodyPost_ret (zcl Tryz.results13 _ _ w.heap.size (w.heap.size+1) _ _ _ _ (0,0) (0,0) _ _ rfl rfl e3 e4 Tryz.underlying25 rfl (by kernel_rfl) Tryz.underlying28 rfl (by kernel_rfl)) rfl (by rw[C.out];exact⟨(d.1.alloc d.1.size _).alloc (Yo d.1.size (by simp)) _,rfl⟩)
      . have aw:¬ (L.length:Int) > 2048:=by omega
        go_wp2_with fail
        refine zag (fun W=>PrF w W∧W.heap[y.heap.size]?=some (.cells #[.slice s L.length c] 25 (0,0))∧W.heap[y.heap.size+1]?=some (.cells #[.int .i64 a,.int .i64 b] 28 (0,0))∧TrAt (w.heap.size+2) W (.slice s L.length c) L) ?_ ?_
        . have n0:=Yd y (.cells #[.slice s L.length c] 25)
          have V:=Yd (y.alloc (.cells #[.slice s L.length c] 25)) (.cells #[.int .i64 a,.int .i64 b] 28);simp only[World.size_alloc] at V;have al:=((Yb y.heap.size y).alloc (Ya _) (.cells #[.slice s L.length c] 25)).alloc (by simp) (.cells #[.int .i64 a,.int .i64 b] 28);exact⟨K.out.below al,(Yn _ _ _ (by simp)).trans n0,V,TrAt.below ay.out al⟩
        rintro W4 ⟨f4,ah,af,aa⟩;obtain⟨N,S,hO,ag,au⟩:=aa;obtain⟨aC,aD,hv,an,-,-,-⟩:=OwnG.rows elN hO;have aa:TrAt (w.heap.size+2) W4 (.slice s L.length c) L:=⟨N,S,hO,ag,au⟩;injection hv with hv1 hv2 hv3;subst hv1 hv3;refine(zfo W4 s c N S L an ag hn ap).mono ?_;rintro e D ⟨rfl,M⟩;have E:Hid (PrF w D):=f4.below M;have aq:Hid (TrAt (w.heap.size+2) D (.slice s L.length c) L):=aa.below M;have ak:=(M.block _ (zaa ah)).trans ah;have ai:=(M.block _ (zaa af)).trans af;clear f4 ah af aa M hO ag an hv2 c0 c1 c2 f0 Z f2;obtain⟨c0,c1,c2⟩:=E.out.c;obtain⟨f0,Z,f2⟩:=E.out.f;have d0:D.cell? ⟨y.heap.size,0,none⟩=some (.slice s L.length c):=Yp 0 ak rfl;have d1:D.cell? ⟨y.heap.size+1,0,none⟩=some (.int .i64 a):=Yp 0 ai rfl;have d2:D.cell? ⟨y.heap.size+1,1,none⟩=some (.int .i64 b):=Yp 1 ai rfl
        by_cases h3:24<dpF (fun _=>0) 0 0 L
        . have av:dpF (fun _=>0) 0 0 L > 24:=h3
          have C:Hid (parO ts=.inl (3,0)):=by show _=_;rw[ae.out,if_neg h2,if_pos h3]
          go_wp2
          exact bodyPost_ret (zcl Tryz.results13 _ _ w.heap.size (w.heap.size+1) _ _ _ _ (0,0) (0,0) _ _ rfl rfl (zbj E.out _ _ _).2.1 (zbj E.out _ _ _).2.2 Tryz.underlying25 rfl (by kernel_rfl) Tryz.underlying28 rfl (by kernel_rfl)) rfl (by rw[C.out];exact⟨(zbj E.out _ _ _).1,rfl⟩)
        . have av:¬ dpF (fun _=>0) 0 0 L > 24:=h3
          have C:Hid (parO ts=R):=by show _=_;rw[ae.out,if_neg h2,if_neg h3]
          clear ak ai
          go_wp2
          have aj:Hid (TrAt w.heap.size (((D.setCell ⟨w.heap.size,0,none⟩ (.slice s L.length c)).setCell ⟨w.heap.size+1,0,none⟩ (.int .i64 a)).setCell ⟨w.heap.size+1,1,none⟩ (.int .i64 b)) (.slice s L.length c) L):=by
            have t1:=aq.out.other E.out.z (.inl rfl) (by omega) 0 (.slice s L.length c);have r1:=(Ye D ⟨w.heap.size,0,none⟩ (w.heap.size+1) (.slice s L.length c) (by simp)).trans E.out.s;have t2:=t1.other r1 (.inr rfl) (by omega) 0 (.int .i64 a);exact(t2.other (Yf _ _ 0 _ _ (.int .i64 a) r1) (.inr rfl) (by omega) 1 (.int .i64 b)).mono (by omega)
          have ac:Hid _:=zbj E.out (.slice s L.length c) a b
          go_region
          go_wp2
          generalize (((D.setCell ⟨w.heap.size,0,none⟩ (.slice s L.length c)).setCell ⟨w.heap.size+1,0,none⟩ (.int .i64 a)).setCell ⟨w.heap.size+1,1,none⟩ (.int .i64 b))=Y at aj ac ⊢;exact bodyPost_ret (zcl Tryz.results13 _ Y.drew w.heap.size (w.heap.size+1) _ _ _ _ (0,0) (0,0) _ _ rfl rfl ac.out.2.1 ac.out.2.2 Tryz.underlying25 rfl (by kernel_rfl) Tryz.underlying28 rfl (by kernel_rfl)) rfl (by rw[C.out];exact HE _ ac.out.1.drew (aj.out.below (Yb _ _).drew))
  . have C:Hid (parO ts=.inl (2,0)):=by show _=_;unfold parO;simp[hc]
    obtain⟨c0,c1,c2⟩:=F.out.c;obtain⟨f0,Z,f2⟩:=F.out.f
    go_wp2
    exact bodyPost_ret (zcl Tryz.results13 _ _ w.heap.size (w.heap.size+1) _ _ _ _ (0,0) (0,0) _ _ rfl rfl (zbj F.out _ _ _).2.1 (zbj F.out _ _ _).2.2 Tryz.underlying25 rfl (by kernel_rfl) Tryz.underlying28 rfl (by kernel_rfl)) rfl (by rw[C.out];exact⟨(zbj F.out _ _ _).1,rfl⟩)
def txtO (s:List UInt8):(Int × Int) ⊕ Pt:=if (lexO s).2.1=0 then parO (lexO s).1 else .inl ((lexO s).2.1,(lexO s).2.2)
theorem zvz (w:World)(x:ByteArray)(hT:Tabl w)(few:(lexO x.data.toList).1.length<=100000)(ok:∀ t ∈ (lexO x.data.toList).1,-1000000000000000000<=t.pos∧t.pos<=1000000000000000000∧t.text.size<=100000) :
  Calls Tryz.prog 7 #[.string x] w (PrP w (txtO x.data.toList)):=by
 have HT:Hid (∀ W,Below w.heap.size w W->Tabl W):=fun W hb=>zcm hb.block hT;obtain⟨ts,y,p,N⟩:∃ ts y p,lexO x.data.toList=(ts,y,p):=⟨_,_,_,rfl⟩;have U:Hid (txtO x.data.toList=if y=0 then parO ts else .inl (y,p)):=by show _=_;unfold txtO;rw[N]
 rw[N] at few ok;have ai:Hid _:=ok;have ag:ts.length<=100000:=few;clear hT ok few;have HL:Hid _:=N;clear N
 go_enter Tryz.func7,Tryz.ntmps7
 go_wp2_with fail
 refine zag (fun W=>PrF w W) ?_ ?_
 ·have n0:=Yd w (.cells #[.slice none 0 0] 25);have n1:=Yd (w.alloc (.cells #[.slice none 0 0] 25)) (.cells #[.int .i64 0,.int .i64 0] 28);simp only[World.size_alloc] at n1;exact⟨((Yb _ _).alloc (Ya _) _).alloc (by simp) _,(Yn _ _ _ (by simp)).trans n0,n1⟩
 intro W f;refine(zrm x W).mono ?_;rintro e W1 ⟨⟨v,rfl,hv⟩,b1⟩;rw[HL.out] at hv ⊢;obtain⟨st,cap,rfl,ab,-,-,-⟩:=OwnG.rows elT hv;have E:Hid (PrF w W1):=f.below b1;have af:=J ab;clear f b1 hv ab HL;obtain⟨c0,c1,c2⟩:=E.out.c;obtain⟨K,I,M⟩:=E.out.f;have aj:=zaa E.out.s;have ak:=zaa E.out.z
 by_cases he:y=0
 ·have HX:Hid (txtO x.data.toList=parO ts):=by show _=_;rw[U.out,if_pos he]
  clear U;subst he
  go_wp2_with fail
  refine zag (fun W=>PrF w W∧RowsT W st ts) ?_ ?_
  ·have aa:=(Yb W1.heap.size W1).alloc (Ya _) (.cells #[.int .i64 0,.int .i64 p] 28);exact⟨E.out.below aa,RowsAt.below af.out aa⟩
  rintro C ⟨D,ac⟩;refine(zse C st cap ts ac (HT C D.b) ag ai).mono ?_;rintro e Z ⟨b3,F⟩;have A:Hid (PrF w Z):=D.below b3;have ah:w.heap.size+2<=C.heap.size:=zaa D.s;obtain⟨s,n,c,a,b,rfl,hE⟩:∃ (s:Option Addr) (n c:Nat) (a b:Int),e=.returned (.tuple #[.agg #[.slice s n c],.agg #[.int .i64 a,.int .i64 b]])∧PrP w (parO ts) (.returned (.tuple #[.agg #[.slice s n c],.agg #[.int .i64 a,.int .i64 b]])) (((Z.setCell ⟨w.heap.size,0,none⟩ (.slice s n c)).setCell ⟨w.heap.size+1,0,none⟩ (.int .i64 a)).setCell ⟨w.heap.size+1,1,none⟩ (.int .i64 b)):=by
   cases hp:parO ts with
   | inl q=>
    rw[hp] at F;exact⟨none,0,0,q.1,q.2,F,(zbj A.out _ _ _).1,rfl⟩
   | inr t=>
    rw[hp] at F;obtain⟨v,rfl,ae⟩:=F;obtain⟨s,c,rfl⟩:=ae.shape;refine⟨s,_,c,0,0,rfl,(zbj A.out _ _ _).1,_,rfl,?_⟩;have t1:=(ae.mono ah).other A.out.z (.inl rfl) (by omega) 0 (.slice s (layP 0 t).length c);have r1:=(Ye Z ⟨w.heap.size,0,none⟩ (w.heap.size+1) (.slice s (layP 0 t).length c) (by simp)).trans A.out.s;have t2:=t1.other r1 (.inr rfl) (by omega) 0 (.int .i64 0);exact(t2.other (Yf _ _ 0 _ _ (.int .i64 0) r1) (.inr rfl) (by omega) 1 (.int .i64 0)).mono (by omega)
  have HE:Hid _:=hE;clear F hE b3 D ac c0 c1 c2 K I M;obtain⟨c0,c1,c2⟩:=A.out.c;obtain⟨K,I,M⟩:=A.out.f
  go_wp2
  exact bodyPost_ret (zcl Tryz.results7 _ _ w.heap.size (w.heap.size+1) _ _ _ _ (0,0) (0,0) _ _ rfl rfl (zbj A.out _ _ _).2.1 (zbj A.out _ _ _).2.2 Tryz.underlying25 rfl (by kernel_rfl) Tryz.underlying28 rfl (by kernel_rfl)) rfl (by rw[HX.out];exact HE)
 ·have HX:Hid (txtO x.data.toList=.inl (y,p)):=by show _=_;rw[U.out,if_neg he]
  clear U
  go_wp2
  refine zdq (fun W=>PrF w W∧W.heap[W1.heap.size]?=some (.cells #[.int .i64 y,.int .i64 p] 28 (0,0))) ⟨E.out.below ((Yb W1.heap.size W1).alloc (Ya _) _),Yd _ _⟩ ?_;rintro C ⟨D,h2⟩;have X:Hid (PrF w C):=D;clear c0 c1 c2 K I M D;obtain⟨c0,c1,c2⟩:=X.out.c;obtain⟨K,I,M⟩:=X.out.f;have d0:C.cell? ⟨W1.heap.size,0,none⟩=some (.int .i64 y):=Yp 0 h2 rfl;have d1:C.cell? ⟨W1.heap.size,1,none⟩=some (.int .i64 p):=Yp 1 h2 rfl;have V:Hid _:=zbj X.out (.slice none 0 0) y p;clear h2
  go_region
  go_wp2
  generalize (((C.setCell ⟨w.heap.size,0,none⟩ (.slice none 0 0)).setCell ⟨w.heap.size+1,0,none⟩ (.int .i64 y)).setCell ⟨w.heap.size+1,1,none⟩ (.int .i64 p))=Y at V ⊢;exact bodyPost_ret (zcl Tryz.results7 _ Y.drew w.heap.size (w.heap.size+1) _ _ _ _ (0,0) (0,0) _ _ rfl rfl V.out.2.1 V.out.2.2 Tryz.underlying25 rfl (by kernel_rfl) Tryz.underlying28 rfl (by kernel_rfl)) rfl (by rw[HX.out];exact⟨V.out.1.drew,rfl⟩)
theorem zv0 {L:List UInt8}(hL:L.length<=4096):∀ (f p:Nat)(ts:List Tok),p<=L.length->ts.length<=1024->(∀ t ∈ ts,0<=t.pos∧t.pos<=4096∧t.text.size<=4096) ->
  (lexG L f p ts).1.length<=1024∧∀ t ∈ (lexG L f p ts).1,0<=t.pos∧t.pos<=4096∧t.text.size<=4096:=by
 intro f
 induction f with
 | zero=>exact fun p ts _ D C=>⟨D,C⟩
 | succ f ih=>
  intro p ts I D C;rw[lexG];have A:(p<L.length∨clo (lastT ts)=true)->(lookR (L.drop p) (clo (lastT ts))).2.2=0->p+(lookR (L.drop p) (clo (lastT ts))).2.1<=L.length:=fun E F=>by
   have h:=(zd6 (L:=L.drop p) (en:=clo (lastT ts)) (k:=(lookR (L.drop p) (clo (lastT ts))).1) (n:=(lookR (L.drop p) (clo (lastT ts))).2.1) (by rw[<-F]) fun hd=>by
    rcases E with E|E
    ·have:=List.length_drop (i:=p) (l:=L);rw[hd] at this;simp at this;omega
    ·exact E).1
   rw[List.length_drop] at h;omega
  generalize lookR (L.drop p) (clo (lastT ts))=r at A ⊢
  split
  ·rename_i hcond
   split
   ·simp
   ·rename_i F
    have A:=A hcond (by simpa using F)
    split
    ·exact ih _ _ A D C
    ·split
     ·simp
     ·refine ih _ _ A (by rw[List.length_append];simp;omega) fun t y=>?_;rcases List.mem_append.1 y with y|y
      ·exact C t y
      ·obtain rfl:=List.mem_singleton.1 y;refine⟨Int.natCast_nonneg _,by show(p:Int)<=4096;omega,?_⟩;show(strU ((L.drop p).take r.2.1)).size<=4096;have:(strU ((L.drop p).take r.2.1)).size=((L.drop p).take r.2.1).length:=by simp[strU,ByteArray.size]
       rw[this,List.length_take,List.length_drop];omega
  ·exact⟨D,C⟩
theorem zv1 (L:List UInt8):(lexO L).1.length<=1024∧∀ t ∈ (lexO L).1,0<=t.pos∧t.pos<=4096∧t.text.size<=4096:=by
 unfold lexO
 split
 ·simp
 ·exact zv0 (by omega) _ _ _ (Yk _) (by simp) (by simp)
theorem zoq (w:World)(x:ByteArray)(hT:Tabl w):Calls Tryz.prog 7 #[.string x] w (PrP w (txtO x.data.toList)):=by
 have h:=zv1 x.data.toList;exact zvz w x hT (by omega) fun t y=>by have:=h.2 t y;omega
def ndEq (a b:Nd):Bool:=(a.kind == b.kind) && (a.text.toList == b.text.toList) && (a.num == b.num) && (a.kids == b.kids)
theorem Rep.below {w w':World}{S:Nat->Prop}{N:List NdM}{L:List Nd}(h:Rep w S N L)(hb:Below w.heap.size w w'):Rep w' S N L :=
 ⟨h.1,fun i m d y A=>by
  obtain⟨a,b,c,e,f⟩:=h.2 i m d y A;exact⟨a,b,c.below hb,e,f⟩⟩
theorem zor:∀ xs ys:List Nat,(xs.map fun k:Nat=>(k:Int))=ys.map (fun k:Nat=>(k:Int))->xs=ys
 | [],[],_=>rfl
 | [],_::_,h=>by simp at h
 | _::_,[],h=>by simp at h
 | a::r,b::q,h=>by
  rw[List.map_cons,List.map_cons] at h;injection h with h1 h2;rw[zor r q h2,Int.ofNat.inj h1]
theorem zsf {xs ys:List Nat}:((xs.map fun k:Nat=>(k:Int)).take xs.length == (ys.map fun k:Nat=>(k:Int)).take ys.length)=(xs == ys):=by
 rw[List.take_of_length_le (by simp),List.take_of_length_le (by simp)]
 by_cases h:xs=ys
 ·subst h;simp
 ·have y:¬ (xs.map fun k:Nat=>(k:Int))=ys.map fun k:Nat=>(k:Int):=fun e=>h (zor xs ys e);rw[beq_eq_false_iff_ne.2 y,beq_eq_false_iff_ne.2 h]
theorem zda {w:World}{b o:Nat}{xs:List Nat}(h:RowsAt w 1 intC (some ⟨b,o,none⟩) xs):∀ j,j<(xs.map fun k:Nat=>(k:Int)).length->w.cell? ⟨b,o+j,none⟩=some (.int .i64 ((xs.map fun k:Nat=>(k:Int)).getD j 0)):=fun j hj=>by
 have hj':j<xs.length:=by simpa using hj
 obtain⟨C,A,e,y⟩:=h (by omega);injection e with e;injection e with e1 e2;subst e1 e2;have:=y j _ (Yh hj') 0 (.int .i64 (xs[j]'hj')) rfl;rw[Nat.mul_one,Nat.add_zero] at this;rw[this,List.getD_eq_getElem?_getD,List.getElem?_map,Yh hj'];rfl
theorem zp2 (sp tp:Option Addr)(c1 c2:Nat)(xs ys:List Nat)(w:World)(h1:RowsAt w 1 intC sp xs)(h2:RowsAt w 1 intC tp ys)(l1:xs.length<=1000000)(l2:ys.length<=1000000) :
  Calls Tryz.prog 89 #[.slice sp xs.length c1,.slice tp ys.length c2] w fun e w'=>e=.returned (.bool (xs == ys))∧∃ q,w'=w.drewN q:=by
 by_cases hl:xs.length=ys.length
 ·by_cases h0:xs.length=0
  ·have y:xs=[]:=List.eq_nil_of_length_eq_zero h0;have C:ys=[]:=List.eq_nil_of_length_eq_zero (by omega);subst y C;refine(Tryz.slices_Equal_int_empty sp tp c1 0 c2 w (by omega)).mono ?_;rintro e w' ⟨rfl,rfl⟩;exact⟨rfl,0,rfl⟩
  ·obtain⟨D,F,rfl,-⟩:=h1 (by omega);obtain⟨A,I,rfl,-⟩:=h2 (by omega);refine(Tryz.slices_Equal_int D F xs.length c1 A I ys.length c2 (xs.map fun k:Nat=>(k:Int)) (ys.map fun k:Nat=>(k:Int)) w (by simp) (by simp) (by omega) (by omega) (zda h1) (zda h2)).mono ?_;rintro e w' ⟨rfl,E⟩;exact⟨by rw[zsf],E⟩
 ·refine(Tryz.slices_Equal_int_lens sp tp xs.length c1 ys.length c2 w hl).mono ?_;rintro e w' ⟨rfl,rfl⟩;have h2:(xs == ys)=false:=by
   rw[<-Bool.not_eq_true];intro h;exact hl (by rw[eq_of_beq h])
  exact⟨by rw[h2],0,rfl⟩
theorem zc8 {B:Nat}(w:World)(n:Nat):Below B w (w.drewN n):=⟨rfl,rfl,rfl,Ya _,fun _ _=>rfl⟩
def NdAt (w:World) (m:NdM) (d:Nd):Prop:=(m.k=d.kind∧m.x=d.text∧m.n=d.num∧m.a=d.pos∧m.f=d.frm∧m.t=d.to)∧m.kn=d.kids.length∧RowsAt w 1 intC m.ks d.kids
theorem zjp (m n:NdM)(a b:Nd)(w:World)(h1:NdAt w m a)(h2:NdAt w n b)(l1:a.kids.length<=1000000)(l2:b.kids.length<=1000000) :
  Calls Tryz.prog 88 #[.agg m.cells,.agg n.cells] w fun e w'=>e=.returned (.bool (ndEq a b))∧Below w.heap.size w w':=by
 obtain⟨mk,mx,mn,E,aa,K,Z,mf,mt⟩:=m;obtain⟨nk,nx,nn,D,ab,X,na,nf,Y⟩:=n;obtain⟨⟨I,V,F,-⟩,e4,r1⟩:=h1;obtain⟨⟨M,N,U,-⟩,f4,r2⟩:=h2
 dsimp only at I V F e4 M N U f4 r1 r2
 subst I V F e4 M N U f4;have R1:Hid (RowsAt w 1 intC E a.kids):=r1;have R2:Hid (RowsAt w 1 intC D b.kids):=r2;clear r1 r2;have C:Hid (ndEq a b=((a.kind == b.kind) && (a.text.toList == b.text.toList) && (a.num == b.num) && (a.kids == b.kids))):=rfl;unfold NdM.cells;have A:Hid (Below w.heap.size w ((w.alloc (Obj.cells #[.int .i64 a.kind,.string a.text,.int .i64 a.num,.slice E a.kids.length K,.int .i64 Z,.int .i64 mf,.int .i64 mt] 53)).alloc (Obj.cells #[.int .i64 b.kind,.string b.text,.int .i64 b.num,.slice D b.kids.length X,.int .i64 na,.int .i64 nf,.int .i64 Y] 53))):=((Yb _ _).alloc (Ya _) _).alloc (by simp) _
 cases q1:(a.kind == b.kind)
 ·have y:Hid (ndEq a b=false):=by show _=_;rw[C.out,q1];rfl
  go_enter Tryz.func88,Tryz.ntmps88
  go_wp2
  go_ret
  exact⟨zay y.out.symm,A.out⟩
 cases q2:(a.text.toList == b.text.toList)
 ·have y:Hid (ndEq a b=false):=by show _=_;rw[C.out,q1,q2];rfl
  go_enter Tryz.func88,Tryz.ntmps88
  go_wp2
  go_ret
  exact⟨zay y.out.symm,A.out⟩
 cases q3:(a.num == b.num)
 ·have y:Hid (ndEq a b=false):=by show _=_;rw[C.out,q1,q2,q3];rfl
  go_enter Tryz.func88,Tryz.ntmps88
  go_wp2
  go_ret
  exact⟨zay y.out.symm,A.out⟩
 have y:Hid (ndEq a b=(a.kids == b.kids)):=by show _=_;rw[C.out,q1,q2,q3];rfl
 go_enter Tryz.func88,Tryz.ntmps88
 go_wp2_with (go_at_call 89;refine(zp2 E D K X a.kids b.kids _ (R1.out.below A) (R2.out.below A) l1 l2).mono ?_;rintro e W1 ⟨rfl,q4,rfl⟩)
 go_ret
 exact⟨zay y.out.symm,A.out.trans (zc8 _ _)⟩
theorem NdAt.low {w w':World}{m:NdM}{d:Nd}(h:NdAt w m d)(hb:Below w.heap.size w w'):NdAt w' m d:=⟨h.1,h.2.1,h.2.2.below hb⟩
theorem za5 {w:World}{b o i:Nat}{N:List NdM}(h:RowsAt w 7 NdM.cells (some ⟨b,o,none⟩) N){m:NdM}(hm:N[i]?=some m):w.cell? ⟨b,o+i * 7,none⟩=some (.int .i64 m.k)∧w.cell? ⟨b,o+i * 7+1,none⟩=some (.string m.x)∧w.cell? ⟨b,o+i * 7+2,none⟩=some (.int .i64 m.n)∧w.cell? ⟨b,o+i * 7+3,none⟩=some (.slice m.ks m.kn m.kc)∧w.cell? ⟨b,o+i * 7+4,none⟩=some (.int .i64 m.a)∧w.cell? ⟨b,o+i * 7+5,none⟩=some (.int .i64 m.f)∧w.cell? ⟨b,o+i * 7+6,none⟩=some (.int .i64 m.t) :=
 ⟨zcs h hm 0 _ rfl,zcs h hm 1 _ rfl,zcs h hm 2 _ rfl,zcs h hm 3 _ rfl,zcs h hm 4 _ rfl,zcs h hm 5 _ rfl,zcs h hm 6 _ rfl⟩
theorem Rep.at {w:World}{S:Nat->Prop}{N:List NdM}{L:List Nd}(h:Rep w S N L){i:Nat}{m:NdM}{d:Nd}(h1:N[i]?=some m)(h2:L[i]?=some d):NdAt w m d:=by
 obtain⟨a,b,c,-⟩:=h.2 i m d h1 h2;exact⟨a,b,c⟩
theorem zv2 (sp tp:Option Addr)(c1 c2:Nat) (N M:List NdM) (S T:Nat->Prop) (L K:List Nd)(w:World)(h1:RowsAt w 7 NdM.cells sp N)(r1:Rep w S N L)(h2:RowsAt w 7 NdM.cells tp M)(r2:Rep w T M K)
  (hl:L.length<=1000000) (hk:K.length<=1000000) (kl:∀ d ∈ L,d.kids.length<=1000000) (kk:∀ d ∈ K,d.kids.length<=1000000) :
  Calls Tryz.prog 87 #[.slice sp L.length c1,.slice tp K.length c2,.func (.func 88) #[] #[]] w fun e w'=>e=.returned (.bool (eqAll ndEq L K))∧Below w.heap.size w w':=by
 have H1:=J h1;have H2:=J h2;have R1:Hid (Rep w S N L):=r1;have R2:Hid (Rep w T M K):=r2;have KL:Hid (∀ d ∈ L,d.kids.length<=1000000):=kl;have KK:Hid (∀ d ∈ K,d.kids.length<=1000000):=kk;clear h1 h2 r1 r2 kl kk
 by_cases hlen:L.length=K.length
 ·have ag:Hid (eqAll ndEq L K=true ↔ ∀ (i:Nat) a b,L[i]?=some a->K[i]?=some b->ndEq a b=true):=zd4 hlen;have ae:((L.length:Int) != (K.length:Int))=false:=by simp;omega
  have ac:=J hlen;clear hlen
  go_enter Tryz.func87,Tryz.ntmps87
  go_wp2
  go_loopw [17] (fun i wr=>∃ t:Nat,t<=L.length∧i=.int .i64 t∧Below w.heap.size w wr∧∀ (j:Nat) (a b:Nd),j<t->L[j]?=some a->K[j]?=some b->ndEq a b=true) (fun i _=>L.length - (intOf i).toNat)
  case atStart=>exact⟨0,Yk _,rfl,Yb _ _,fun j a b hj=>by omega⟩
  case round=>
   obtain⟨t,ht,rfl,E,Z⟩:=hrel;have Y:=J Z;clear Z
   by_cases hlt:t<L.length
   ·have af:t<K.length:=by have:=ac.out;omega
    have ai:N.length=L.length:=R1.out.1;have al:M.length=K.length:=R2.out.1;have hd:decide ((t:Int)<L.length)=true:=by simp;omega
    have ak:decide ((t:Int)<K.length)=true:=by simp;omega
    obtain⟨b1,f1,rfl,-⟩:=H1.out (by omega);obtain⟨b2,f2,rfl,-⟩:=H2.out (by omega);obtain⟨x,U⟩:∃ x,N[t]?=some x:=⟨_,Yh (by omega)⟩;obtain⟨y,V⟩:∃ y,M[t]?=some y:=⟨_,Yh (by omega)⟩;obtain⟨a,A⟩:∃ a,L[t]?=some a:=⟨_,Yh hlt⟩;obtain⟨b,C⟩:∃ b,K[t]?=some b:=⟨_,Yh af⟩;obtain⟨k0,k1,k2,k3,k4,k5,k6⟩:=za5 (RowsAt.below H1 E) U;obtain⟨l0,l1,l2,l3,l4,l5,l6⟩:=za5 (RowsAt.below H2 E) V;have A1:Hid (NdAt w x a):=R1.out.at U A;have A2:Hid (NdAt w y b):=R2.out.at V C;have kx:a.kids.length<=1000000:=KL.out a (Ym A);have ky:b.kids.length<=1000000:=KK.out b (Ym C);have HX:=J A;have X:=J C;have aj:b2<wr.heap.size:=block_lt_of_cell l0;clear A C U V;have D:Hid (Below w.heap.size w ((wr.alloc (.cells x.cells 53)).alloc (.cells y.cells 53))):=(E.alloc E.size _).alloc (by simp;exact Nat.le_succ_of_le E.size) _;have B1:Hid (NdAt ((wr.alloc (.cells x.cells 53)).alloc (.cells y.cells 53)) x a):=A1.out.low D;have B2:Hid (NdAt ((wr.alloc (.cells x.cells 53)).alloc (.cells y.cells 53)) y b):=A2.out.low D
    cases hq:ndEq a b
    ·have I:Hid (eqAll ndEq L K=false):=zkl HX X hq
     go_wp2_with (go_at_call 88;refine(zjp x y a b _ B1.out B2.out kx ky).mono ?_;rintro e aa ⟨rfl,F⟩;rw[hq])
     go_ret
     exact⟨zay I.out.symm,D.out.trans (F.mono D.out.size)⟩
    ·have ab:Hid (∀ (j:Nat) (a b:Nd),j<t+1->L[j]?=some a->K[j]?=some b->ndEq a b=true):=fun j a' b' hj A C=>by
      by_cases hjt:j<t
      ·exact Y j a' b' hjt A C
      ·obtain rfl:j=t:=by omega
       rw[HX.out] at A;rw[X.out] at C;injection A with A;injection C with C;rw[<-A,<-C];exact hq
     go_wp2_with (go_at_call 88;refine(zjp x y a b _ B1.out B2.out kx ky).mono ?_;rintro e aa ⟨rfl,F⟩;rw[hq])
     exact⟨⟨t+1,by omega,by go_num,D.out.trans (F.mono D.out.size),ab.out⟩,by simp[intOf];omega⟩
   ·have hd:decide ((t:Int)<L.length)=false:=by simp;omega
    have ah:Hid (eqAll ndEq L K=true):=ag.out.2 fun j a b A C=>Y.out j a b (by have:=(List.getElem?_eq_some_iff.1 A).1;omega) A C
    go_wp2
    go_ret
    exact⟨zay ah.out.symm,E⟩
 ·have ae:((L.length:Int) != (K.length:Int))=true:=by simp;omega
  have I:Hid (eqAll ndEq L K=false):=zkk hlen
  go_enter Tryz.func87,Tryz.ntmps87
  go_wp2
  go_ret
  exact⟨zay I.out.symm,Yb _ _⟩
theorem zl4 (sp tp:Option Addr)(c1 c2:Nat) (N M:List NdM) (S T:Nat->Prop) (L K:List Nd)(w:World)(h1:RowsAt w 7 NdM.cells sp N)(r1:Rep w S N L)(h2:RowsAt w 7 NdM.cells tp M)(r2:Rep w T M K)
  (hl:L.length<=1000000) (hk:K.length<=1000000) (kl:∀ d ∈ L,d.kids.length<=1000000) (kk:∀ d ∈ K,d.kids.length<=1000000) :
  Calls Tryz.prog 59 #[.agg #[.slice sp L.length c1],.agg #[.slice tp K.length c2]] w fun e w'=>e=.returned (.bool (eqAll ndEq L K))∧Below w.heap.size w w':=by
 have V:=J h1;have C:=J h2;have E:Hid (Rep w S N L):=r1;have U:Hid (Rep w T M K):=r2;have D:Hid (∀ d ∈ L,d.kids.length<=1000000):=kl;have F:Hid (∀ d ∈ K,d.kids.length<=1000000):=kk;clear h1 h2 r1 r2 kl kk
 go_enter Tryz.func59,Tryz.ntmps59
 go_wp2_with fail
 refine zag (fun W=>Below w.heap.size w W) (((Yb _ _).alloc (Ya _) _).alloc (by simp) _) ?_;intro W y;refine(zv2 sp tp c1 c2 N M S T L K W (V.out.below y) (E.out.below y) (C.out.below y) (U.out.below y) hl hk D.out F.out).mono ?_;rintro e W1 ⟨rfl,A⟩;have I:Hid (Below w.heap.size w W1):=y.trans (A.mono y.size);clear y A
 go_wp2
 go_ret
 exact⟨rfl,I.out⟩
def trO (r:(Int × Int) ⊕ Pt):List Nd:=match r with | .inl _=>[] | .inr t=>layP 0 t
def spO (r:(Int × Int) ⊕ Pt):Int × Int:=match r with | .inl p=>p | .inr _=>(0,0)
theorem zxm {w w':World}{r:(Int × Int) ⊕ Pt}{e:Ending}(h:PrP w r e w'):Below w.heap.size w w'∧∃ v,e=.returned (.tuple #[.agg #[v],.agg #[.int .i64 (spO r).1,.int .i64 (spO r).2]])∧TrAt w.heap.size w' v (trO r):=by
 obtain⟨A,y⟩:=h;refine⟨A,?_⟩
 cases r with
 | inl p=>exact⟨_,y,TrAt.nil _ _⟩
 | inr t=>exact y
theorem zy0 (ts:List Tok):(trO (parO ts)).length<=2048∧∀ d ∈ trO (parO ts),(∀ k ∈ d.kids,k<(trO (parO ts)).length)∧d.kids.length<=2048:=by
 unfold parO
 split
 ·simp[trO]
 split
 ·simp[trO]
 split
 ·split
  ·simp[trO]
  split
  ·simp[trO]
  ·rename_i t q _ h _
   have e:=zco t 0;refine⟨by show(layP 0 t).length<=2048;omega,fun d hd=>?_⟩;have A:=ze3 t 0 d hd;refine⟨fun k y=>?_,by omega⟩;show k<(layP 0 t).length;have:=A.1 k y;omega
 ·simp[trO]
 ·simp[trO]
theorem zy1 (s:List UInt8):(trO (txtO s)).length<=2048∧∀ d ∈ trO (txtO s),(∀ k ∈ d.kids,k<(trO (txtO s)).length)∧d.kids.length<=2048:=by
 unfold txtO
 split
 ·exact zy0 _
 ·simp[trO]
def tkW (k:Int) (s:ByteArray):Tok:=⟨k,s,0⟩
structure Wr (w0:World) (g:Nat) (nv:Value) (w:World) (v:Value) (out:List Tok):Prop where
 b:Below w0.heap.size w0 w
 h:w0.heap.size<=g
 r:w.heap[g]?=some (.cells #[nv,v] 123 (0,0))
 o:OwnT w0.heap.size w v out
def Wp (w0:World) (g:Nat) (nv:Value) (w:World) (v:Value) (out:List Tok) (w':World):Prop :=
 ∃ v',Wr w0 g nv w' v' out∧Oth g v w w'∧(v'.ownBlock=v.ownBlock∨∃ q,v'.ownBlock=some q∧w.heap.size<=q)
section
variable {w0 w w1 w2:World}{g:Nat}{nv v v1:Value}{out out1 out2:List Tok}
theorem zv3 (g:Nat)(v:Value)(w:World):Oth g v w w:=⟨rfl,rfl,rfl,Ya _,fun _ _ _ _=>rfl⟩
theorem zsg (g:Nat)(v:Value)(hb:Below w.heap.size w w1):Oth g v w w1:=⟨hb.os,hb.tape,hb.output,hb.size,fun j hj _ _=>hb.block j hj⟩
theorem Wr.lt (h:Wr w0 g nv w v out):g<w.heap.size:=zaa h.r
theorem Wr.low (h:Wr w0 g nv w v out)(hb:Below w.heap.size w w1):Wr w0 g nv w1 v out :=
 ⟨h.b.trans (hb.mono h.b.size),h.h,(hb.block _ h.lt).trans h.r,h.o.below hb⟩
theorem Wp.start (h:Wr w0 g nv w v out):Wp w0 g nv w v out w:=⟨v,h,zv3 g v w,.inl rfl⟩
theorem Wp.trans (h:Oth g v w w1)(hv:v1.ownBlock=v.ownBlock∨∃ q,v1.ownBlock=some q∧w.heap.size<=q)(h':Wp w0 g nv w1 v1 out w2):Wp w0 g nv w v out w2:=by
 obtain⟨A,C,D,y⟩:=h';refine⟨A,C,h.trans hv D,?_⟩;rcases y with y|⟨q,y,q3⟩
 ·rcases hv with hv|⟨q,hv,hq⟩
  ·exact .inl (y.trans hv)
  ·exact .inr ⟨q,y.trans hv,hq⟩
 ·exact .inr ⟨q,y,Yo h.size q3⟩
theorem Wp.pre (hb:Below w.heap.size w w1)(h':Wp w0 g nv w1 v out w2):Wp w0 g nv w v out w2:=Wp.trans (zsg g v hb) (.inl rfl) h'
theorem Wp.row {cs:Array Value}{ty:TypeId}{fr:Nat × Nat}{j:Nat}(hw:Wr w0 g nv w v out1)(h:Oth g v w w1)(hr:w.heap[j]?=some (.cells cs ty fr))(hj:j≠g)(ht:38≠ty):w1.heap[j]?=some (.cells cs ty fr) :=
 (h.block j (zaa hr) hj (hw.o.ne hr ht)).trans hr
theorem Wr.env (h:Wr w0 g nv w v out) {α:Type}{m:Nat}{cs:α->Array Value}{sp:Option Addr}{xs:List α}(hr:RowsAt w0 m cs sp xs):RowsAt w m cs sp xs:=hr.below h.b
theorem Wr.one (h:Wr w0 g nv w v out)(t:Tok)(hl:out.length+1<=1000000):∃ s0 c0 s1 c1 W,v=.slice s0 out.length c0∧w.cell? ⟨g,1,none⟩=some v∧w.frozen? ⟨g,1,none⟩=false ∧
  (Builtin.append_ #[31,31] 31 #[v,.slice (some ⟨w.heap.size,0,none⟩) 1 1]).run Tryz.prog (w.alloc (.cells t.cells 38))=.ok (.slice s1 (out.length+1) c1) W∧W.cell? ⟨g,1,none⟩=some v∧W.frozen? ⟨g,1,none⟩=false ∧
  Wr w0 g nv (W.setCell ⟨g,1,none⟩ (.slice s1 (out.length+1) c1)) (.slice s1 (out.length+1) c1) (out++[t])∧Oth g v w (W.setCell ⟨g,1,none⟩ (.slice s1 (out.length+1) c1)) ∧
  ((Value.slice s1 (out.length+1) c1).ownBlock=v.ownBlock∨∃ q,(Value.slice s1 (out.length+1) c1).ownBlock=some q∧w.heap.size<=q):=by
 have hg:=h.lt;have U:v.ownBlock≠some g:=h.o.ne h.r (by decide);obtain⟨s0,c0,rfl⟩:=OwnG.shape h.o;have A:Below w.heap.size w (w.alloc (.cells t.cells 38)):=(Yb _ _).alloc (Ya _) _;have N:=Yd w (.cells t.cells 38);have Y:(w.alloc (.cells t.cells 38)).heap.size=w.heap.size+1:=by simp
 generalize w.alloc (.cells t.cells 38)=X at A N Y ⊢;have ag:=h.b.size;obtain⟨v',W,M,I,C,y⟩:=zdn (ys:=[t]) (cap:=1) elT 31 (h.o.below A) (fun e=>by cases e) (zar N) (by simpa using hl) (by omega);obtain⟨s1,c1,rfl⟩:=OwnG.shape I;have V:(out++[t]).length=out.length+1:=by simp
 rw[V] at M I y;have af:=C.size;have F:∀ j,j<w.heap.size->(Value.slice s0 out.length c0).ownBlock≠some j->W.heap[j]?=w.heap[j]?:=fun j D hn=>(C.block j (by omega) fun e=>hn e.symm).trans (A.block j D);have ab:(Value.slice s1 (out.length+1) c1).ownBlock≠some g:=fun e=>by
  rcases y with y|y
  ·exact U (y.symm.trans e)
  ·rw[y] at e;injection e with e;omega
 have K:=(F g hg U).trans h.r;have ae:Below w0.heap.size w0 W:=⟨C.os.trans (A.os.trans h.b.os),C.tape.trans (A.tape.trans h.b.tape),C.output.trans (A.output.trans h.b.output),by omega,fun j D=>(F j (by omega) fun e=>by have:=(h.o.lt e).1;omega).trans (h.b.block j D)⟩;refine⟨s0,c0,s1,c1,W,rfl,(Yc _ _ _ _ _ _ h.r).trans rfl,Yj _ _ _ _ _ h.r,M,(Yc _ _ _ _ _ _ K).trans rfl,Yj _ _ _ _ _ K,⟨ae.setCell (p:=⟨g,1,none⟩) h.h _,h.h,Yf _ _ 1 _ _ _ K,I.keep fun q ac=>Ye _ _ _ _ fun e=>ab (by rw[ac,show q=g from e])⟩,?_,?_⟩
 ·have E:=(Yb 0 W).setCell (p:=⟨g,1,none⟩) (Yk _) (.slice s1 (out.length+1) c1);exact⟨E.os.trans (C.os.trans A.os),E.tape.trans (C.tape.trans A.tape),E.output.trans (C.output.trans A.output),by have:=E.size;omega,fun j D aa Z=>(Ye _ _ _ _ aa).trans (F j D Z)⟩
 ·rcases y with y|y
  ·exact .inl y
  ·exact .inr ⟨_,y,by omega⟩
end
def hdP:Pt->Int × ByteArray | .mk k x _ _ _ _ _=>(k,x)
def sgT (s:List UInt8):Tok:=tkW 4 (strU s)
def wdT (s:List UInt8):Tok:=tkW 1 (strU s)
def enT:Tok:=tkW 5 (strU [59])
def quoT (s:ByteArray):ByteArray:=match quoO s.data.toList with|some q=>strU q|none=>⟨#[]⟩
def nuT (n:Int):Tok:=tkW 2 ⟨(Lib.itoa n).toArray⟩
def wEnd (os:List (List Tok)):List Tok:=(os.map (·++[enT])).flatten
def wPar (s:List UInt8) (os:List (List Tok)):List Tok:=match os with | []=>[] | o::r=>o++(r.map (sgT s::·)).flatten
def wBrk (os:List (List Tok)):List Tok:=[sgT [40]]++wPar [44] os++[sgT [41]]
def wBra (os:List (List Tok)):List Tok:=[sgT [123]]++wEnd os++[sgT [125]]
def wIf (os:List (List Tok)):List Tok:=(os.take 2).flatten++(if 2<os.length then[wdT [101,108,115,101]] else[])++(os.drop 2).flatten
def nedB (k:Int) (x:ByteArray) (h:Int × ByteArray) (i:Nat):Bool :=
 if k=26 then h.1 == 27 else if k≠27 then(h.1 == 26) || (h.1 == 27)
 else(h.1 == 27) && (decide (rowI h.2<rowI x) || ((rowI h.2 == rowI x) && (decide (0<i) || (rowI h.2 == 2))))
def wOpe (k:Int) (x:ByteArray) (hs:List (Int × ByteArray)) (os:List (List Tok)) (i:Nat):List Tok :=
 match hs[i]?,os[i]? with
 | some h,some o=>if nedB k x h i then wBrk [o] else o
 | _,_=>[]
def cutN (k:Int):List (Int × ByteArray)->Nat | []=>0|h::r=>if h.1 == k then cutN k r+1 else 0
def wFun (x:ByteArray) (hs:List (Int × ByteArray)) (os:List (List Tok)):List Tok :=
 [wdT [102,117,110,99]]++(if 0<cutN 8 hs then wBrk (os.take (cutN 8 hs)) else[])++[tkW 1 x]++wBrk ((os.drop (cutN 8 hs)).take (cutN 9 (hs.drop (cutN 8 hs))))++((os.drop (cutN 8 hs)).drop (cutN 9 (hs.drop (cutN 8 hs)))).flatten
def wrX (k:Int) (x:ByteArray) (n:Int) (hs:List (Int × ByteArray)) (os:List (List Tok)):List Tok :=
 if k=20 then[nuT n] else if k=21 then[tkW 3 (quoT x)] else if k=22∨k=23 then[tkW 1 x]
 else if k=24 then wOpe k x hs os 0++[sgT [46]]++[tkW 1 x] else if k=25 then wOpe k x hs os 0++wBrk (os.drop 1)
 else if k=26 then[tkW 4 x]++wOpe k x hs os 0 else if k=27 then wOpe k x hs os 0++[tkW 4 x]++wOpe k x hs os 1 else[]
def wrS (k:Int) (x:ByteArray) (n:Int) (hs:List (Int × ByteArray)) (os:List (List Tok)):List Tok :=
 if k=13 then wBra os else if k=14 then[wdT [105,102]]++wIf os else if k=15 then[wdT [102,111,114]]++os.flatten
 else if k=16 then[wdT [114,101,116,117,114,110]]++os.flatten else if k=17 then[tkW 1 x]++[sgT [58,61]]++os.flatten
 else if k=18 then wPar [61] os else if k=19 then os.flatten else wrX k x n hs os
def wrK (k:Int) (x:ByteArray) (n:Int) (hs:List (Int × ByteArray)) (os:List (List Tok)):List Tok :=
 if k=1 then[wdT [112,97,99,107,97,103,101],tkW 1 x]++[enT]++wEnd os else if k=2 then[wdT [105,109,112,111,114,116]]++[tkW 3 (quoT x)]
 else if k=3 then[wdT [99,111,110,115,116],tkW 1 x]++[sgT [61]]++os.flatten else if k=4 then[wdT [118,97,114],tkW 1 x]++wPar [61] os
 else if k=5 then[wdT [116,121,112,101],tkW 1 x,wdT [115,116,114,117,99,116]]++wBra os else if k=7 then wFun x hs os
 else if k=6∨k=8∨k=9 then[tkW 1 x]++os.flatten else if k=10∨k=11 then[tkW 1 x]
 else if k=12 then os.flatten++[sgT [46]]++[tkW 1 x] else wrS k x n hs os
mutual
def wrP:Pt->List Tok | .mk k x n _ _ _ l=>wrK k x n (l.map hdP) (wrM l)
def wrM:List Pt->List (List Tok) | []=>[] | t::r=>wrP t::wrM r
end
theorem zc4:∀ l:List Pt,wrM l=l.map wrP
 | []=>by rw[wrM];rfl
 | t::r=>by rw[wrM,zc4 r];rfl
section
variable {w0 w:World}{g:Nat}{nv v:Value}{out:List Tok}
theorem zsh (k:Int)(b cap:Nat)(xs:List ByteArray)(h:Wr w0 g nv w v out)(hx:w.heap[b]?=some (.cells (xs.map Value.string).toArray 9 (0,0)))(hbg:b≠g)(hl:out.length+xs.length<=900000)(hs:xs.length<=1000) :
  Calls Tryz.prog 142 #[.pointer (some ⟨g,0,none⟩),.int .i64 k,.slice (some ⟨b,0,none⟩) xs.length cap] w fun e w'=>e=.returned (.tuple #[])∧Wp w0 g nv w v (out++xs.map (tkW k)) w':=by
 have V:=J h;have Y:=J hx;clear h hx
 go_enter Tryz.func142,Tryz.ntmps142
 go_wp2
 go_loopw [10] (fun i wr=>∃ t:Nat,t<=xs.length∧i=.int .i64 t∧Wp w0 g nv w v (out++(xs.take t).map (tkW k)) wr) (fun i _=>xs.length - (intOf i).toNat)
 case atStart=>exact⟨0,Yk _,rfl,by simpa using Wp.start V.out⟩
 case round=>
  obtain⟨t,ht,rfl,v1,y,A,C⟩:=hrel;have M:Hid (Wp w0 g nv w v (out++(xs.take t).map (tkW k)) wr):=⟨v1,y,A,C⟩
  by_cases hlt:t<xs.length
  ·have hd:decide ((t:Int)<xs.length)=true:=by simp;omega
   obtain⟨x,hx⟩:∃ x,xs[t]?=some x:=⟨_,Yh hlt⟩;have D:=Wp.row V A Y hbg (by decide);have kb:wr.cell? ⟨b,t,none⟩=some (.string x):=by
    rw[Yc _ _ _ _ _ _ D,List.getElem?_toArray,List.getElem?_map,hx];rfl
   have K:(out++(xs.take t).map (tkW k)).length=out.length+t:=by simp;omega
   obtain⟨s0,c0,X,c1,W,rfl,Z,fa,E,cb,fb,I,U,F⟩:=y.one (tkW k x) (by omega);have ab:Hid (xs.take (t+1)=xs.take t++[x]):=by
    show _=_;rw[List.take_add_one,hx];rfl
   have N:Hid (Wp w0 g nv w v (out++(xs.take (t+1)).map (tkW k)) (W.setCell ⟨g,1,none⟩ (.slice X ((out++(xs.take t).map (tkW k)).length+1) c1))):=by
    refine Wp.trans A C ⟨_,?_,U,F⟩;rw[ab.out,List.map_append,<-List.append_assoc];exact I
   have ae:=y.lt;have ac:b<wr.heap.size:=zaa D;rw[K] at E Z cb N;clear y A C I U F hx D M K;have aa:(tkW k x).cells=#[.int .i64 k,.string x,.int .i64 0]:=rfl;rw[aa] at E
   go_wp2_with (at_builtin;refine za8 (.tmp 18) (.tmp 22) 31 (by rfl) (by rfl) (by rfl) (by rfl) E ?_)
   exact⟨⟨t+1,by omega,by go_num,N.out⟩,by simp[intOf];omega⟩
  ·have hd:decide ((t:Int)<xs.length)=false:=by simp;omega
   clear y A C
   go_wp2
   go_end0
   refine⟨rfl,?_⟩;have:=M.out;rw[List.take_of_length_le (by omega)] at this;exact this
theorem zp3 (b cap:Nat)(xs:List ByteArray)(h:Wr w0 g nv w v out)(hx:w.heap[b]?=some (.cells (xs.map Value.string).toArray 9 (0,0)))(hbg:b≠g)(hl:out.length+xs.length<=900000)(hs:xs.length<=1000) :
  Calls Tryz.prog 113 #[.pointer (some ⟨g,0,none⟩),.slice (some ⟨b,0,none⟩) xs.length cap] w fun e w'=>e=.returned (.tuple #[])∧Wp w0 g nv w v (out++xs.map (tkW 1)) w':=by
 have A:=zsh 1 b cap xs h hx hbg hl hs
 go_enter Tryz.func113,Tryz.ntmps113
 go_wp2_with fail
 refine A.mono ?_;rintro e W ⟨rfl,y⟩;have C:Hid _:=y;clear y A
 go_wp2
 go_end0
 exact⟨rfl,C.out⟩
theorem zbi (xs:List ByteArray)(h:Wr w0 g nv w v out)(hl:out.length+xs.length<=900000)(hs:xs.length<=1000) :
  Calls Tryz.prog 113 #[.pointer (some ⟨g,0,none⟩),.slice (some ⟨w.heap.size,0,none⟩) xs.length xs.length] (w.alloc (.cells (xs.map Value.string).toArray 9)) fun e w'=>e=.returned (.tuple #[])∧Wp w0 g nv w v (out++xs.map (tkW 1)) w':=by
 have y:Below w.heap.size w (w.alloc (.cells (xs.map Value.string).toArray 9)):=(Yb _ _).alloc (Ya _) _;refine(zp3 w.heap.size xs.length xs (h.low y) (Yd _ _) (by have:=h.lt;omega) hl hs).mono ?_;rintro e W ⟨rfl,A⟩;exact⟨rfl,Wp.pre y A⟩
theorem zkz (k:Int)(x:ByteArray)(h:Wr w0 g nv w v out)(hl:out.length+1<=900000) :
  Calls Tryz.prog 142 #[.pointer (some ⟨g,0,none⟩),.int .i64 k,.slice (some ⟨w.heap.size,0,none⟩) 1 1] (w.alloc (.cells #[.string x] 9)) fun e w'=>e=.returned (.tuple #[])∧Wp w0 g nv w v (out++[tkW k x]) w':=by
 have y:Below w.heap.size w (w.alloc (.cells #[.string x] 9)):=(Yb _ _).alloc (Ya _) _;refine(zsh k w.heap.size 1 [x] (h.low y) (Yd _ _) (by have:=h.lt;omega) hl (by simp)).mono ?_;rintro e W ⟨rfl,A⟩;exact⟨rfl,Wp.pre y A⟩
theorem zdb (x:ByteArray)(h:Wr w0 g nv w v out)(hl:out.length+1<=900000):Calls Tryz.prog 117 #[.pointer (some ⟨g,0,none⟩),.string x] w fun e w'=>e=.returned (.tuple #[])∧Wp w0 g nv w v (out++[tkW 4 x]) w':=by
 have A:=zkz 4 x h hl
 go_enter Tryz.func117,Tryz.ntmps117
 go_wp2_with fail
 refine A.mono ?_;rintro e W ⟨rfl,y⟩;have C:Hid _:=y;clear y A
 go_wp2
 go_end0
 exact⟨rfl,C.out⟩
theorem zos (h:Wr w0 g nv w v out)(hl:out.length+1<=900000):Calls Tryz.prog 114 #[.pointer (some ⟨g,0,none⟩)] w fun e w'=>e=.returned (.tuple #[])∧Wp w0 g nv w v (out++[enT]) w':=by
 have A:=zkz 5 ⟨#[59]⟩ h hl
 go_enter Tryz.func114,Tryz.ntmps114
 go_wp2_with fail
 refine A.mono ?_;rintro e W ⟨rfl,y⟩;have C:Hid _:=y;clear y A
 go_wp2
 go_end0
 exact⟨rfl,C.out⟩
theorem zl5 (x:ByteArray)(h:Wr w0 g nv w v out)(hl:out.length+1<=900000)(hx:x.size<=100000):Calls Tryz.prog 116 #[.pointer (some ⟨g,0,none⟩),.string x] w fun e w'=>e=.returned (.tuple #[])∧Wp w0 g nv w v (out++[tkW 3 (quoT x)]) w':=by
 have K:=J h;clear h;have y:∃ D,strV (quoO x.data.toList) 2=.tuple #[.string (quoT x),.int .i64 D]:=by
  unfold strV quoT
  cases quoO x.data.toList with
  | none=>exact⟨_,rfl⟩
  | some q=>exact⟨_,rfl⟩
 obtain⟨D,y⟩:=y
 go_enter Tryz.func116,Tryz.ntmps116
 go_wp2_with fail
 refine(zrj x w hx).mono ?_;rintro e W ⟨rfl,A⟩;rw[y];have C:=zkz 3 (quoT x) (K.out.low A) hl;have F:Hid _:=A;clear A y
 go_wp2_with fail
 refine C.mono ?_;rintro e W ⟨rfl,E⟩;have I:Hid _:=Wp.pre F E;clear E C
 go_wp2
 go_end0
 exact⟨rfl,I.out⟩
end
end Go.Proofs.YtmclgbkijeidaaaGreatDoor
