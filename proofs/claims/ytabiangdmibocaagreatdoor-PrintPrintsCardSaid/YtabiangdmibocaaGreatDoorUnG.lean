import Derived.Test.YtabiangdmibocaaGreatDoorUnE
import Derived.Test.YtabiangdmibocaaGreatDoorUnF
namespace Go.Proofs.YtabiangdmibocaaGreatDoor
set_option maxRecDepth 100000
open Go.RowKit
def ad {α:Type}(r:Rs α) (k:Nat):Prop:=match r with | .ok _ q=>k<=q|_=>True
theorem zbs {α:Type}{r:Rs α}{k m:Nat}(h:ad r k)(hm:m<=k):ad r m:=by
 cases r with
 | ok v q=>exact Nat.le_trans hm h
 | bad s=>trivial
 | out=>trivial
theorem zaq {α β:Type}{r:Rs α}{f:α->Nat->Rs β}{k m:Nat}(h:ad r k)(hf:∀ v q,k<=q->ad (f v q) m):ad (r.bind f) m:=by
 cases r with
 | ok v q=>exact hf v q h
 | bad s=>trivial
 | out=>trivial
theorem zjz {β:Type}{b:Bool}{s:Int}{k:Rs β}{m:Nat}(h:b=true->ad k m):ad (Rs.need b s k) m:=by
 unfold Rs.need
 split
 ·rename_i hb;exact h hb
 ·trivial
theorem za7 {β:Type}{c:Prop} [Decidable c] {a b:Rs β}{m:Nat}(h:c->ad a m)(h':¬ c->ad b m):ad (if c then a else b) m:=by
 split
 ·rename_i hc;exact h hc
 ·rename_i hc;exact h' hc
section
variable {ts:List Tok}
theorem zcc {β:Type}{s:List UInt8}{p m:Nat}{k:Nat->Rs β}(hs:s≠[])(h:p<ts.length->ad (k (p+1)) m):ad (expP ts s p k) m:=zjz fun hb=>h (zb5 hb hs)
theorem zk5 {β:Type}{n:Int}{p m:Nat}{k:Tok->Nat->Rs β}(hn:n≠0)(h:p<ts.length->ad (k (nxT ts p) (p+1)) m):ad (kinP ts n p k) m:=zjz fun hb=>h (zf1 hb hn)
theorem zeh {β:Type}{p m:Nat}{k:Tok->Nat->Rs β}(h:p<ts.length->ad (k (nxT ts p) (p+1)) m):ad (namP ts p k) m:=zjz fun hb=>h (zg3 hb)
theorem zrn (k:Int)(p:Nat):ad (leaP ts k p) (p+1):=Nat.le_refl _
theorem zro (k:Int)(p:Nat):ad (worP ts k p) (p+1):=zjz fun _=>Nat.le_refl _
theorem zrp (p:Nat):ad (va1P ts p) (p+1):=by
 unfold va1P;refine za7 (fun _=>Nat.le_refl _) fun _=>za7 (fun _=>Nat.le_refl _) fun _=>za7 (fun _=>zrn _ _) fun _=>trivial
theorem z2p (p:Nat):ad (valP ts p) (p+1):=by
 unfold valP;refine za7 (fun _=>za7 (fun _=>zaq (zrp _) fun v q h=>?_) fun _=>trivial) fun _=>zrp _;show p+1<=q;omega
theorem zhs (p:Nat):ad (typP ts p) (p+1):=by
 unfold typP;refine za7 (fun _=>zrn _ _) fun _=>za7 (fun _=>zaq (zro _ _) fun v q h=>zcc (by simp) fun _=>zeh fun _=>?_) fun _=>zro _ _;show p+1<=q+1+1;omega
theorem ziy (k:Int)(p:Nat):ad (tydP ts k p) (p+2):=by
 unfold tydP;refine zeh fun _=>zaq (zhs _) fun v q h=>?_;show p+2<=q;omega
theorem zyb (p:Nat):ad (impP ts p) (p+2):=by
 unfold impP;exact zcc (by simp) fun _=>zk5 (by simp) fun _=>Nat.le_refl _
theorem zrq (p:Nat):ad (conP ts p) (p+1):=by
 unfold conP;refine zcc (by simp) fun _=>zeh fun _=>zcc (by simp) fun _=>zaq (z2p _) fun v q h=>?_;show p+1<=q;omega
theorem zyc (p:Nat):ad (recP ts p) (p+1):=by
 unfold recP;refine zeh fun _=>zaq (zro _ _) fun v q h=>?_;show p+1<=q;omega
theorem zck {α:Type}{v:α}{k q:Nat}(h:k<=q):ad (Rs.ok v q) k:=h
structure AdA (ts:List Tok) (n:Nat):Prop where
 bin:∀ l p,ad ((fns ts n).bin l p) (p+1)
 binL:∀ l fr t p,ad ((fns ts n).binL l fr t p) p
 una:∀ p,ad ((fns ts n).una p) (p+1)
 post:∀ p,ad ((fns ts n).post p) (p+1)
 posL:∀ fr t p,ad ((fns ts n).posL fr t p) p
 prim:∀ p,ad ((fns ts n).prim p) (p+1)
 argL:∀ l p,ad ((fns ts n).argL l p) p
 parL:∀ l p,ad ((fns ts n).parL l p) p
 fieL:∀ l p,ad ((fns ts n).fieL l p) p
 stmt:∀ p,ad ((fns ts n).stmt p) (p+1)
 bran:∀ p,ad ((fns ts n).bran p) (p+1)
 stmL:∀ l p,ad ((fns ts n).stmL l p) p
 impL:∀ l p,ad ((fns ts n).impL l p) p
 decL:∀ l p,ad ((fns ts n).decL l p) p
theorem zyd {n p:Nat}(h:AdA ts n):ad (bloP ts (fns ts n) p) (p+1):=by
 unfold bloP linP;refine zaq (k:=p+1) (zcc (by simp) fun hp=>zaq (h.stmL _ _) fun l q hq=>zcc (by simp) fun _=>zck (by omega)) fun l q hq=>zck hq
theorem zn7 {one:Nat->Rs Pt}{more:List Pt->Nat->Rs (List Pt)}{p:Nat}(h1:p<ts.length->ad (one (p+1)) (p+1))(h2:∀ l q,p<ts.length->p+1<=q->ad (more l q) q):ad (lisP ts one more p) (p+1):=by
 unfold lisP;refine zcc (by simp) fun hp=>za7 (fun _=>zck (by omega)) fun _=>zaq (h1 hp) fun v q hq=>zaq (h2 _ _ hp hq) fun l q' hq'=>zcc (by simp) fun _=>zck (by omega)
theorem adA (n:Nat):AdA ts n:=by
 induction n with
 | zero=>constructor <;> (intros;trivial)
 | succ n ih=>
  have hvar:∀ p,ad (varP ts (fns ts n) p) (p+1):=fun p=>by
   unfold varP;refine zcc (by simp) fun _=>zeh fun _=>zaq (zhs _) fun v q hq=>za7 (fun _=>zaq (ih.bin _ _) fun x q' hq'=>zck (by omega)) fun _=>zck (by omega)
  have hblo:∀ p,ad (bloP ts (fns ts n) p) (p+1):=fun p=>zyd ih
  constructor
  ·intro l p;show ad (if l=5 then(fns ts n).una p else((fns ts n).bin (l+1) p).bind fun t q=>(fns ts n).binL l (herI ts p) t q) (p+1);refine za7 (fun h=>ih.una _) fun h=>zaq (ih.bin _ _) fun t q hq=>zbs (ih.binL _ _ _ _) hq
  ·intro l fr t p;refine za7 (fun h=>?_) fun _=>zck (Nat.le_refl _);have hp:=zn6 h;refine zaq (ih.bin _ _) fun u q hq=>za7 (fun _=>zck (by omega)) fun _=>zbs (ih.binL _ _ _ _) (by omega)
  ·intro p;refine za7 (fun h=>?_) fun _=>ih.post _;have hp:p<ts.length:=by
    rw[Bool.or_eq_true] at h;rcases h with h|h <;> exact zb5 h (by simp)
   exact zaq (ih.una _) fun u q hq=>zck (by omega)
  ·intro p;exact zaq (ih.prim _) fun t q hq=>zbs (ih.posL _ _ _) hq
  ·intro fr t p;refine za7 (fun h=>?_) fun _=>za7 (fun h=>?_) fun _=>zck (Nat.le_refl _)
   ·exact zeh fun hp=>zbs (ih.posL _ _ _) (by omega)
   ·have hp:=zb5 h (by simp);exact zaq (zn7 (fun _=>zbs (ih.bin _ _) (by omega)) fun l q _ hq=>ih.argL _ _) fun l q hq=>zbs (ih.posL _ _ _) (by omega)
  ·intro p;refine za7 (fun h=>?_) fun _=>za7 (fun _=>zrn _ _) fun _=>zrp _;have hp:=zb5 h (by simp);exact zaq (ih.bin _ _) fun t q hq=>zcc (by simp) fun _=>zck (by omega)
  ·intro l p;refine za7 (fun h=>?_) fun _=>zck (Nat.le_refl _);have hp:=zb5 h (by simp);exact zaq (ih.bin _ _) fun t q hq=>zbs (ih.argL _ _) (by omega)
  ·intro l p;refine za7 (fun h=>?_) fun _=>zck (Nat.le_refl _);have hp:=zb5 h (by simp);exact zaq (ziy _ _) fun t q hq=>zbs (ih.parL _ _) (by omega)
  ·intro l p;refine za7 (fun _=>zck (Nat.le_refl _)) fun _=>?_;refine zaq (ziy _ _) fun t q hq=>za7 (fun h=>?_) fun _=>zk5 (by simp) fun h=>zbs (ih.fieL _ _) (by omega);have:=zb5 h (by simp);exact zbs (ih.fieL _ _) (by omega)
  ·intro p;refine za7 (fun h=>?_) fun _=>za7 (fun h=>?_) fun _=>za7 (fun h=>ih.bran _) fun _=>za7 (fun h=>?_) fun _=>za7 (fun h=>?_) fun _=>za7 (fun h=>?_) fun _=>?_
   ·exact hblo p
   ·exact hvar p
   ·unfold looP;refine zcc (by simp) fun hp=>zaq (ih.bin _ _) fun x q hq=>zaq (hblo q) fun b q' hq'=>zck (by omega)
   ·unfold resP;refine zcc (by simp) fun hp=>za7 (fun _=>zaq (ih.bin _ _) fun x q hq=>zck (by omega)) fun _=>zck (by omega)
   ·unfold shoP;refine zeh fun hp=>zcc (by simp) fun _=>zaq (ih.bin _ _) fun x q hq=>zck (by omega)
   ·unfold simP;refine zaq (ih.bin _ _) fun x q hq=>za7 (fun h=>?_) fun _=>zck (by omega);have:=zb5 h (by simp);exact zaq (ih.bin _ _) fun y q' hq'=>zck (by omega)
  ·intro p;unfold fns
   dsimp only
   refine zcc (by simp) fun hp=>zaq (ih.bin _ _) fun x q hq=>zaq (hblo q) fun b q' hq'=>za7 (fun h=>?_) fun _=>zck (by omega);have:=zb5 h (by simp);refine zaq (k:=q'+1) (za7 (fun _=>zbs (ih.bran _) (by omega)) fun _=>zbs (hblo _) (by omega)) fun c q'' hq''=>zck (by omega)
  ·intro l p;refine za7 (fun _=>zck (Nat.le_refl _)) fun _=>zaq (ih.stmt _) fun t q hq=>za7 (fun h=>?_) fun _=>zk5 (by simp) fun h=>zbs (ih.stmL _ _) (by omega);have:=zb5 h (by simp);exact zbs (ih.stmL _ _) (by omega)
  ·intro l p;refine za7 (fun h=>?_) fun _=>zck (Nat.le_refl _);have:=zb5 h (by simp);exact zaq (zyb _) fun t q hq=>zk5 (by simp) fun _=>zbs (ih.impL _ _) (by omega)
  ·intro l p;refine za7 (fun hp=>?_) fun _=>zck (Nat.le_refl _);have hdec:ad (decP ts (fns ts n) p) (p+1):=by
    have hlis:∀ q,p+1<=q->ad (lisP ts (tydP ts 9) (fns ts n).parL q) (q+1):=fun q hq=>zn7 (fun _=>zbs (ziy _ _) (by omega)) fun l q' _ hq'=>ih.parL _ _;have hfun:∀ fr l q,p+1<=q->ad (funR ts (fns ts n) fr l q) (q+1):=fun fr l q hq=>by
     unfold funR;refine zeh fun _=>zaq (hlis _ (by omega)) fun ps q' hq'=>za7 (fun _=>zaq (hblo _) fun b q'' hq''=>zck (by omega)) fun _=>zaq (zhs _) fun v q'' hq''=>zaq (hblo _) fun b q3 hq3=>zck (by omega)
    unfold decP;refine za7 (fun _=>zrq _) fun _=>za7 (fun _=>hvar p) fun _=>za7 (fun _=>?_) fun _=>za7 (fun _=>?_) fun _=>trivial
    ·unfold strP linP;refine zcc (by simp) fun _=>zeh fun _=>zcc (by simp) fun _=>zaq (k:=p+1) (zcc (by simp) fun _=>zaq (ih.fieL _ _) fun l q hq=>zcc (by simp) fun _=>zck (by omega)) fun l q hq=>zck hq
    ·unfold funP;refine zcc (by simp) fun _=>za7 (fun _=>zaq (zyc _) fun v q hq=>zcc (by simp) fun _=>zbs (hfun _ _ _ (by omega)) (by omega)) fun _=>zbs (hfun _ _ _ (by omega)) (by omega)
   exact zaq hdec fun t q hq=>zk5 (by simp) fun _=>zbs (ih.decL _ _) (by omega)
theorem zz4 (n p:Nat):ad (decP ts (fns ts n) p) (p+1):=by
 have ih:=adA (ts:=ts) n;have hvar:∀ p,ad (varP ts (fns ts n) p) (p+1):=fun p=>by
  unfold varP;refine zcc (by simp) fun _=>zeh fun _=>zaq (zhs _) fun v q hq=>za7 (fun _=>zaq (ih.bin _ _) fun x q' hq'=>zck (by omega)) fun _=>zck (by omega)
 have hblo:∀ p,ad (bloP ts (fns ts n) p) (p+1):=fun p=>zyd ih;have hlis:∀ q,p+1<=q->ad (lisP ts (tydP ts 9) (fns ts n).parL q) (q+1):=fun q hq=>zn7 (fun _=>zbs (ziy _ _) (by omega)) fun l q' _ hq'=>ih.parL _ _;have hfun:∀ fr l q,p+1<=q->ad (funR ts (fns ts n) fr l q) (q+1):=fun fr l q hq=>by
  unfold funR;refine zeh fun _=>zaq (hlis _ (by omega)) fun ps q' hq'=>za7 (fun _=>zaq (hblo _) fun b q'' hq''=>zck (by omega)) fun _=>zaq (zhs _) fun v q'' hq''=>zaq (hblo _) fun b q3 hq3=>zck (by omega)
 unfold decP;refine za7 (fun _=>zrq _) fun _=>za7 (fun _=>hvar p) fun _=>za7 (fun _=>?_) fun _=>za7 (fun _=>?_) fun _=>trivial
 ·unfold strP linP;refine zcc (by simp) fun _=>zeh fun _=>zcc (by simp) fun _=>zaq (k:=p+1) (zcc (by simp) fun _=>zaq (ih.fieL _ _) fun l q hq=>zcc (by simp) fun _=>zck (by omega)) fun l q hq=>zck hq
 ·unfold funP;refine zcc (by simp) fun _=>za7 (fun _=>zaq (zyc _) fun v q hq=>zcc (by simp) fun _=>zbs (hfun _ _ _ (by omega)) (by omega)) fun _=>zbs (hfun _ _ _ (by omega)) (by omega)
end
section
variable {α β:Type}{ts:List Tok}{p:Nat}{s:List UInt8}{r:Rs β}
theorem zdg {k:Nat->Rs β}(hb:isT ts p s=false)(h:expP ts s p k=r):r=.bad (herI ts p):=by
 rw[<-h];unfold expP Rs.need;rw[hb];rfl
theorem zcl {k:Nat->Rs β}(hb:isT ts p s=true)(h:expP ts s p k=r):k (p+1)=r:=by
 rw[<-h];unfold expP Rs.need;rw[hb];rfl
theorem ze6 {k:Tok->Nat->Rs β}(hb:namB ts p=false)(h:namP ts p k=r):r=.bad (herI ts p):=by
 rw[<-h];unfold namP Rs.need;rw[hb];rfl
theorem zd6 {k:Tok->Nat->Rs β}(hb:namB ts p=true)(h:namP ts p k=r):k (nxT ts p) (p+1)=r:=by
 rw[<-h];unfold namP Rs.need;rw[hb];rfl
theorem zk6 {n:Int}{k:Tok->Nat->Rs β}(hb:((nxT ts p).kind == n)=false)(h:kinP ts n p k=r):r=.bad (herI ts p):=by
 rw[<-h];unfold kinP Rs.need;rw[hb];rfl
theorem zht {n:Int}{k:Tok->Nat->Rs β}(hb:((nxT ts p).kind == n)=true)(h:kinP ts n p k=r):k (nxT ts p) (p+1)=r:=by
 rw[<-h];unfold kinP Rs.need;rw[hb];rfl
theorem za0 {x:Rs α}{f:α->Nat->Rs β}{v:α}{q:Nat}(hx:x=.ok v q)(h:x.bind f=r):f v q=r:=by rw[<-h,hx];rfl
theorem zak {x:Rs α}{f:α->Nat->Rs β}{c:Int}(hx:x=.bad c)(h:x.bind f=r):r=.bad c:=by rw[<-h,hx];rfl
theorem zau {x:Rs α}{f:α->Nat->Rs β}(h:x.bind f=r)(hr:r≠.out):x≠.out:=by rintro rfl;exact hr h.symm
theorem za8 {c:Bool}{a b:Rs β}(hc:c=true)(h:(if c then a else b)=r):a=r:=by rw[<-h,hc];rfl
theorem zbo {c:Bool}{a b:Rs β}(hc:c=false)(h:(if c then a else b)=r):b=r:=by rw[<-h,hc];rfl
end
section
variable {T:Nat}{w W:World}{g:Nat}{st:Option Addr}{cap:Nat}{ts:List Tok}{r:Rs Pt}{s:Int}
theorem zaj (hG:w.grownBy W (some g))(hr:r=.bad s):PtP T w g st cap ts r (wroE s) W:=by subst hr;exact⟨hG,rfl⟩
theorem zbi {b:Nat}{t:Pt}{q:Nat}(hG:w.grownBy W (some g))(hr:Rs.ok t q=r)(ht:PtAt W (fun j=>w.heap.size<=j∧j<W.heap.size) b t)(hR:Rdr T W g st cap ts q):PtP T w g st cap ts r (.returned (.pointer (some ⟨b,0,none⟩))) W:=by
 subst hr;exact⟨hG,b,rfl,ht,hR⟩
theorem PtP.from {W':World}{e:Ending}(hG:w.grownBy W (some g))(h:PtP T W g st cap ts r e W'):PtP T w g st cap ts r e W':=by
 obtain⟨h1,h2⟩:=h;refine⟨zaa hG h1,?_⟩
 cases r with
 | ok t q=>
  obtain⟨b,h3,h4,h5⟩:=h2;exact⟨b,h3,h4.keep (fun j hj=>⟨Nat.le_trans hG.size hj.1,hj.2⟩) fun _ _=>rfl,h5⟩
 | bad s=>exact h2
 | out=>exact h2
end
theorem PtAt.grow {w w':World}{lo hi g b:Nat}{t:Pt}(h:PtAt w (fun j=>lo<=j∧j<hi) b t)(hg:g<lo)(hh:hi<=w.heap.size)(hw:w.grownBy w' (some g)):PtAt w' (fun j=>lo<=j∧j<hi) b t :=
 h.keep (fun _ h=>h) fun j hj=>hw.block j (by omega) (fun e=>by injection e with e;omega)
theorem PtAt.low {w w':World}{lo hi B b:Nat}{t:Pt}(h:PtAt w (fun j=>lo<=j∧j<hi) b t)(hh:hi<=B)(hw:Below B w w'):PtAt w' (fun j=>lo<=j∧j<hi) b t :=
 h.keep (fun _ h=>h) fun j hj=>hw.block j (by omega)
theorem PtAt.wide {w:World}{lo hi lo' hi' b:Nat}{t:Pt}(h:PtAt w (fun j=>lo<=j∧j<hi) b t)(h1:lo'<=lo)(h2:hi<=hi'):PtAt w (fun j=>lo'<=j∧j<hi') b t :=
 h.keep (fun j hj=>⟨by omega,by omega⟩) fun _ _=>rfl
theorem zb7 {B b lo hi:Nat}{v:Value}{W:World}(hb:b<lo∧∀ q,v.ownBlock=some q->q<lo)(hB:B<=lo)(hh:hi<=W.heap.size):∀ j,(lo<=j∧j<hi)->B<=j∧j<W.heap.size∧j≠b∧v.ownBlock≠some j:=fun j hj=>
 ⟨by omega,by omega,by omega,fun e=>by have:=hb.2 j e;omega⟩
theorem Mk.at {B:Nat}{w:World}{b:Nat}{k:Int}{x:ByteArray}{n a f t:Int}{v:Value}{l:List Pt}(h:Mk B w b k x n a f t v l):b<w.heap.size∧∀ q,v.ownBlock=some q->q<w.heap.size:=⟨h.lt,fun _ hq=>h.own hq⟩
theorem zj0 {w:World}{g a b:Nat}{ty:TypeId}{fr:Nat × Nat}(h:w.heap[g]?=some (.cells #[.pointer (some ⟨a,0,none⟩),.pointer (some ⟨b,0,none⟩)] ty fr)):RowsP w (some ⟨g,0,none⟩) [a,b]:=fun _=>by
 refine⟨g,0,rfl,fun i x hx j u hu=>?_⟩;have hj:j=0:=by have:=(Array.getElem?_eq_some_iff.1 hu).1;simp[ptrC] at this;omega
 subst hj;rw[cell_of_row _ _ _ _ _ _ h]
 match i,hx with
 | 0,hx=>simp at hx;subst hx;simpa[ptrC] using hu
 | 1,hx=>simp at hx;subst hx;simpa[ptrC] using hu
theorem PsAt.two {w:World}{S:Nat->Prop}{a b:Nat}{s t:Pt}(h:PtAt w S a s)(h':PtAt w S b t):PsAt w S [a,b] [s,t]:=(PsAt.one h).app (PsAt.one h')
set_option maxHeartbeats 4000000
section
variable {T:Nat}{w:World}{g:Nat}{st:Option Addr}{cap:Nat}{ts:List Tok}{p:Nat}
theorem zhu (k:Int)(hR:Rdr T w g st cap ts p):Calls Tryz.prog 199 #[.pointer (some ⟨g,0,none⟩),.int .i64 k] w (PtP T w g st cap ts (worP ts k p)):=by
 have HR0:=hid hR;have hT:=hR.hT;have hgT:=hR.hg;have HG0:Hid (w.grownBy w (some g)):=zb0 _ _;clear hR;obtain⟨r,hX⟩:∃ r,worP ts k p=r:=⟨_,rfl⟩;rw[hX];have HX0:=hid hX;clear hX;unfold worP at HX0
 go_enter Tryz.func199,Tryz.ntmps199
 go_wp2_with fail
 refine(zf2 HR0.out).mono ?_;rintro e W1 ⟨rfl,b1⟩;have HR1:=hid (HR0.out.low b1);have HB1:Hid (Below w.heap.size w W1):=b1;clear b1 HR0;unfold Rs.need at HX0;obtain⟨bb,hb⟩:∃ bb,namB ts p=bb:=⟨_,rfl⟩;rw[hb] at HX0 ⊢
 cases bb
 ·go_wp2_with fail
  refine(ze5 HR1.out).mono ?_;rintro e W2 ⟨rfl,b2⟩;have HP:Hid (PtP T w g st cap ts r (wroE (herI ts p)) W2):=zaj (zae (HB1.out.trans (b2.mono HB1.out.size))) HX0.out.symm;clear HX0 HR1 HB1 b2
  go_wp2
  exact⟨rfl,HP.out⟩
 have hp:=zg3 hb
 go_wp2_with fail
 refine(zey k HR1.out hp).mono ?_;rintro e W2 ⟨g2,b,v,rfl,hM,r2⟩;have HP:Hid (PtP T w g st cap ts r (.returned (.pointer (some ⟨b,0,none⟩))) W2):=zbi (zaa (zae HB1.out) g2) HX0.out (hM.mono HB1.out.size).fin r2;clear HX0 HR1 HB1 g2 hM r2
 go_wp2
 go_ret
 exact HP.out
theorem zhe (hR:Rdr T w g st cap ts p):Calls Tryz.prog 173 #[.pointer (some ⟨g,0,none⟩)] w (PtP T w g st cap ts (typP ts p)):=by
 have HR0:=hid hR;have hT:=hR.hT;have hgT:=hR.hg;have HG0:Hid (w.grownBy w (some g)):=zb0 _ _;clear hR;obtain⟨r,hX⟩:∃ r,typP ts p=r:=⟨_,rfl⟩;rw[hX];have HX0:=hid hX;clear hX;unfold typP at HX0
 go_enter Tryz.func173,Tryz.ntmps173
 have hfd:∀ (a b c:Value) (W:World),(Instr.field 38 (.agg #[a,b,c]) 1).run Tryz.prog W=.ok b W:=fun _ _ _ _=>rfl;have HE:Hid (∀ q (s:List UInt8),((nxT ts q).text.toList == s)=isT ts q s):=fun q s=>by unfold isT;rw[ByteArray.toList_eq]
 go_wp2_with fail
 refine(zde HR0.out).mono ?_;rintro e W1 ⟨rfl,b1⟩;have HR1:=hid (HR0.out.low b1);have HG1:Hid (w.grownBy W1 (some g)):=zae b1;clear b1 HR0 HG0;obtain⟨bb,hb⟩:∃ bb,(isT ts p [105,110,116] || isT ts p [98,111,111,108] || isT ts p [115,116,114,105,110,103])=bb:=⟨_,rfl⟩;rw[hb] at HX0
 cases bb
 rotate_left
 ·have hp:p<ts.length:=by
   rw[Bool.or_eq_true,Bool.or_eq_true] at hb;rcases hb with(hb|hb) | hb <;> exact zb5 hb (by simp)
  have HLF:Hid (∀ W',Below W1.heap.size W1 W'->Calls Tryz.prog 198 #[.pointer (some ⟨g,0,none⟩),.int .i64 10] W' fun e W2=>PtP T w g st cap ts r e W2∧∃ b,e=.returned (.pointer (some ⟨b,0,none⟩))):=fun W' hb'=>(zey 10 (HR1.out.low hb') hp).mono fun e W2 ⟨g2,b,v,he,hM,r2⟩=>by
   subst he;exact⟨zbi (zaa (zaa HG1.out (zae hb')) g2) (za8 rfl HX0.out) (hM.mono (Nat.le_trans HG1.out.size hb'.size)).fin r2,b,rfl⟩
  have hb3:((nxT ts p).text.toList == [105,110,116])=true∨((nxT ts p).text.toList == [105,110,116])=false∧(((nxT ts p).text.toList == [98,111,111,108])=true∨((nxT ts p).text.toList == [98,111,111,108])=false∧((nxT ts p).text.toList == [115,116,114,105,110,103])=true):=by
   rw[HE.out,HE.out,HE.out]
   cases h1:isT ts p [105,110,116]
   ·cases h2:isT ts p [98,111,111,108]
    ·rw[h1,h2] at hb;exact .inr ⟨rfl,.inr ⟨rfl,hb⟩⟩
    ·exact .inr ⟨rfl,.inl rfl⟩
   ·exact .inl rfl
  clear hb HX0 HE HR1 HG1;unfold Tok.cells;rcases hb3 with h1|⟨h1,h2|⟨h2,h3⟩⟩
  ·go_wp2_with fail
   refine(HLF.out _ (Below.refl _ _)).mono ?_;rintro e W2 ⟨hP,b,rfl⟩;have HP:Hid _:=hP;clear hP
   go_wp2
   go_ret
   exact HP.out
  ·go_wp2_with fail
   refine(HLF.out _ (Below.refl _ _)).mono ?_;rintro e W2 ⟨hP,b,rfl⟩;have HP:Hid _:=hP;clear hP
   go_wp2
   go_ret
   exact HP.out
  ·go_wp2_with fail
   refine(HLF.out _ (Below.refl _ _)).mono ?_;rintro e W2 ⟨hP,b,rfl⟩;have HP:Hid _:=hP;clear hP
   go_wp2
   go_ret
   exact HP.out
 have HX1:Hid _:=zbo rfl HX0.out;obtain⟨h1,h2,h3⟩:((nxT ts p).text.toList == [105,110,116])=false∧((nxT ts p).text.toList == [98,111,111,108])=false∧((nxT ts p).text.toList == [115,116,114,105,110,103])=false:=by
  rw[HE.out,HE.out,HE.out];rw[Bool.or_eq_false_iff,Bool.or_eq_false_iff] at hb;exact⟨hb.1.1,hb.1.2,hb.2⟩
 clear hb HX0;unfold Tok.cells
 go_wp2_with fail
 clear h1 h2 h3;refine(zjx 1 (Nat.le_refl _) HR1.out).mono ?_;rintro e W2 ⟨rfl,b2⟩;have HR2:=hid (HR1.out.low b2);have HG2:=hid (zaa HG1.out (zae b2));clear b2 HR1 HG1;have HE1:Hid _:=HE.out (p+1) [46];obtain⟨bb,hb⟩:∃ bb,isT ts (p+1) [46]=bb:=⟨_,rfl⟩;rw[hb] at HX1 HE1;unfold Tok.cells
 cases bb
 ·have hne:((nxT ts (p+1)).text.toList == [46])=false:=HE1.out;have HX2:Hid _:=zbo rfl HX1.out;clear HX1 hb
  go_wp2_with fail
  refine(zhu 11 HR2.out).mono ?_;rintro e W3 ⟨g1,hm⟩;rcases hx:worP ts 11 p with⟨t3,q3⟩ | s3|_
  rotate_left
  ·rw[hx] at hm;have hm':e=wroE s3:=hm;subst hm';have HP:Hid (PtP T w g st cap ts r (wroE s3) W3):=zaj (zaa HG2.out g1) (HX2.out.symm.trans hx);clear HX2 HR2 HG2 g1 hm;unfold wroE
   go_wp2
   exact⟨rfl,HP.out⟩
  ·rw[hx] at hm;exact hm.elim
  rw[hx] at hm;obtain⟨b3,rfl,hpt,r3⟩:=hm;have HP:Hid (PtP T w g st cap ts r (.returned (.pointer (some ⟨b3,0,none⟩))) W3):=zbi (zaa HG2.out g1) (hx.symm.trans HX2.out) (hpt.wide HG2.out.size (Nat.le_refl _)) r3;clear HX2 HR2 HG2 g1 hpt r3 hx
  go_wp2
  go_ret
  exact HP.out
 have heq:((nxT ts (p+1)).text.toList == [46])=true:=HE1.out;have HX2:Hid _:=za8 rfl HX1.out;clear HX1 hb HE1 HE
 go_wp2_with fail
 refine(zbh 12 HR2.out).mono ?_;rintro e W11 ⟨bk11,rfl,hM,b1⟩;have HM11:Hid (Mk w.heap.size W11 bk11 12 ⟨#[]⟩ 0 (herI ts p) (herI ts p) 0 (.slice none 0 0) []):=hM.mono HG2.out.size;have HG11:=hid (zaa HG2.out (zae b1));have HR11:=hid (HR2.out.low b1);clear hM b1 HG2 HR2;clear heq;have HL12:Hid ((bk11<W11.heap.size∧∀ q,((.slice none 0 0):Value).ownBlock=some q->q<W11.heap.size)∧w.heap.size<=W11.heap.size∧g<W11.heap.size):=⟨HM11.out.at,HG11.out.size,HR11.out.lt⟩
 go_wp2_with fail
 refine(zhu 23 HR11.out).mono ?_;rintro e W12 ⟨g1,hm⟩;rcases hx:worP ts 23 p with⟨t12,q12⟩ | s12|_
 rotate_left
 ·rw[hx] at hm;have hm':e=wroE s12:=hm;subst hm';have HP:Hid (PtP T w g st cap ts r (wroE (s12)) W12):=zaj (zaa HG11.out g1) (zak hx HX2.out);clear HG11 HR11 HX2 HM11 HL12;unfold wroE
  go_wp2
  exact⟨rfl,HP.out⟩
 ·rw[hx] at hm;exact hm.elim
 rw[hx] at hm;obtain⟨bk12,rfl,hpt,r1⟩:=hm;have HX12:Hid _:=za0 hx HX2.out;have hsz12:=g1.size;have HG13:=hid (zaa HG11.out g1);have HM13:=hid (HM11.out.grow (Nat.lt_of_lt_of_le hgT hT) g1);have HK12:=hid hpt;have HR12:Hid (Rdr T W12 g st cap ts q12):=r1;clear g1 r1 hpt hx HX2 HR11 HG11 HM11
 go_wp2_with fail
 refine zag (fun W=>Below W12.heap.size W12 W∧W.heap[W12.heap.size]?=some (.cells #[.pointer (some ⟨bk12,0,none⟩)] 112 (0,0))) ⟨(Below.refl _ _).alloc (Nat.le_refl _) _,heap_alloc_new _ _⟩ ?_;rintro Wa14 ⟨ba,ra⟩;refine(zcq (bs2:=[bk12]) (l2:=[t12]) (S2:=fun j=>W11.heap.size<=j∧j<W12.heap.size) (HM13.out.below ba) (zao ra) (fun h=>by cases h) (PsAt.one (HK12.out.low (Nat.le_refl _) ba)) (zb7 HL12.out.1 HL12.out.2.1 ba.size) (by simp)).mono ?_;rintro e W14 ⟨rfl,⟨v14,hM⟩,b1⟩;have HM14:=hid hM;have HGa14:=hid (zaa HG13.out (zae ba));have HRa14:=hid (HR12.out.low ba);have HG15:=hid (za3 HGa14.out b1);have HR15:=hid (HRa14.out.below hT b1);clear hM b1 ba ra HM13 HL12 HG13 HR12 HGa14 HRa14 HK12
 go_wp2_with fail
 refine(zba ⟨#[46]⟩ (by simp) HR15.out).mono ?_;rintro e W16 ⟨g1,hm0⟩;have hm:(if isT ts q12 [46] then e=.returned (.tuple #[])∧Rdr T W16 g st cap ts (q12+1) else e=wroE (herI ts q12)):=hm0;clear hm0;obtain⟨bb,hb⟩:∃ bb,isT ts q12 [46]=bb:=⟨_,rfl⟩;rw[hb] at hm
 cases bb
 ·simp only[Bool.false_eq_true,if_false] at hm;subst hm;have HP:Hid (PtP T w g st cap ts r (wroE (herI ts q12)) W16):=zaj (zaa HG15.out g1) (zdg hb HX12.out);clear HG15 HR15 HX12 HM14;unfold wroE
  go_wp2
  exact⟨rfl,HP.out⟩
 simp only[if_true] at hm;obtain⟨rfl,r1⟩:=hm;have HX16:Hid _:=zcl hb HX12.out;have HG17:=hid (zaa HG15.out g1);have HM17:=hid (HM14.out.grow (Nat.lt_of_lt_of_le hgT hT) g1);have HR16:Hid (Rdr T W16 g st cap ts (q12+1)):=r1;clear g1 r1 hb HX12 HR15 HG15 HM14
 go_wp2_with fail
 refine(zdf HR16.out).mono ?_;rintro e W18 ⟨g1,hm⟩;obtain⟨bb,hb⟩:∃ bb,namB ts (q12+1)=bb:=⟨_,rfl⟩;rw[hb] at hm
 cases bb
 ·simp only[Bool.false_eq_true,if_false] at hm;subst hm;have HP:Hid (PtP T w g st cap ts r (wroE (herI ts (q12+1))) W18):=zaj (zaa HG17.out g1) (ze6 hb HX16.out);clear HG17 HR16 HX16 HM17;unfold wroE
  go_wp2
  exact⟨rfl,HP.out⟩
 simp only[if_true] at hm;obtain⟨rfl,r1⟩:=hm;have HX18:Hid _:=zd6 hb HX16.out;have HG19:=hid (zaa HG17.out g1);have HM19:=hid (HM17.out.grow (Nat.lt_of_lt_of_le hgT hT) g1);have HR18:Hid (Rdr T W18 g st cap ts ((q12+1)+1)):=r1;clear g1 r1 hb HX16 HR16 HG17 HM17
 go_wp2_with fail
 refine(zcu (nxT ts (q12+1)) HM19.out).mono ?_;rintro e W20 ⟨rfl,hM,b1⟩;have HM20:=hid hM;have HG21:=hid (za3 HG19.out b1);have HR21:=hid (HR18.out.below hT b1);clear hM b1 HM19 HG19 HR18
 go_wp2_with fail
 refine(za4 (bs2:=[]) (l2:=[]) (S2:=fun _=>False) HR21.out hT HM20.out RowsAt.none (fun _=>⟨rfl,rfl⟩) (PsAt.nil _ _) (fun _ h=>h.elim) (by simp)).mono ?_;rintro e W22 ⟨rfl,⟨v22,hM⟩,b1⟩;have HM22:=hid hM;have HG23:=hid (za3 HG21.out b1);have HR23:=hid (HR21.out.below hT b1);clear hM b1 HM20 HG21 HR21
 go_wp2
 go_ret
 exact zbi HG23.out HX18.out HM22.out.fin HR23.out
theorem ziz (k:Int)(hR:Rdr T w g st cap ts p):Calls Tryz.prog 201 #[.pointer (some ⟨g,0,none⟩),.int .i64 k] w (PtP T w g st cap ts (tydP ts k p)):=by
 have HR0:=hid hR;have hT:=hR.hT;have hgT:=hR.hg;have HG0:Hid (w.grownBy w (some g)):=zb0 _ _;clear hR;obtain⟨r,hX⟩:∃ r,tydP ts k p=r:=⟨_,rfl⟩;rw[hX];have HX0:=hid hX;clear hX;unfold tydP at HX0
 go_enter Tryz.func201,Tryz.ntmps201
 go_wp2_with fail
 refine(zbh k HR0.out).mono ?_;rintro e W1 ⟨bk1,rfl,hM,b1⟩;have HM1:Hid (Mk w.heap.size W1 bk1 k ⟨#[]⟩ 0 (herI ts p) (herI ts p) 0 (.slice none 0 0) []):=hM.mono HG0.out.size;have HG1:=hid (zaa HG0.out (zae b1));have HR1:=hid (HR0.out.low b1);clear hM b1 HG0 HR0
 go_wp2_with fail
 refine(zdf HR1.out).mono ?_;rintro e W2 ⟨g1,hm⟩;obtain⟨bb,hb⟩:∃ bb,namB ts p=bb:=⟨_,rfl⟩;rw[hb] at hm
 cases bb
 ·simp only[Bool.false_eq_true,if_false] at hm;subst hm;have HP:Hid (PtP T w g st cap ts r (wroE (herI ts p)) W2):=zaj (zaa HG1.out g1) (ze6 hb HX0.out);clear HG1 HR1 HX0 HM1;unfold wroE
  go_wp2
  exact⟨rfl,HP.out⟩
 simp only[if_true] at hm;obtain⟨rfl,r1⟩:=hm;have HX2:Hid _:=zd6 hb HX0.out;have HG3:=hid (zaa HG1.out g1);have HM3:=hid (HM1.out.grow (Nat.lt_of_lt_of_le hgT hT) g1);have HR2:Hid (Rdr T W2 g st cap ts (p+1)):=r1;clear g1 r1 hb HX0 HR1 HG1 HM1
 go_wp2_with fail
 refine(zcu (nxT ts p) HM3.out).mono ?_;rintro e W4 ⟨rfl,hM,b1⟩;have HM4:=hid hM;have HG5:=hid (za3 HG3.out b1);have HR5:=hid (HR2.out.below hT b1);clear hM b1 HM3 HG3 HR2;have HL6:Hid ((bk1<W4.heap.size∧∀ q,((.slice none 0 0):Value).ownBlock=some q->q<W4.heap.size)∧w.heap.size<=W4.heap.size∧g<W4.heap.size):=⟨HM4.out.at,HG5.out.size,HR5.out.lt⟩
 go_wp2_with fail
 refine(zhe HR5.out).mono ?_;rintro e W6 ⟨g1,hm⟩;rcases hx:typP ts (p+1) with⟨t6,q6⟩ | s6|_
 rotate_left
 ·rw[hx] at hm;have hm':e=wroE s6:=hm;subst hm';have HP:Hid (PtP T w g st cap ts r (wroE (s6)) W6):=zaj (zaa HG5.out g1) (zak hx HX2.out);clear HG5 HR5 HX2 HM4 HL6;unfold wroE
  go_wp2
  exact⟨rfl,HP.out⟩
 ·rw[hx] at hm;exact hm.elim
 rw[hx] at hm;obtain⟨bk6,rfl,hpt,r1⟩:=hm;have HX6:Hid _:=za0 hx HX2.out;have hsz6:=g1.size;have HG7:=hid (zaa HG5.out g1);have HM7:=hid (HM4.out.grow (Nat.lt_of_lt_of_le hgT hT) g1);have HK6:=hid hpt;have HR6:Hid (Rdr T W6 g st cap ts q6):=r1;clear g1 r1 hpt hx HX2 HR5 HG5 HM4
 go_wp2_with fail
 refine zag (fun W=>Below W6.heap.size W6 W∧W.heap[W6.heap.size]?=some (.cells #[.pointer (some ⟨bk6,0,none⟩)] 112 (0,0))) ⟨(Below.refl _ _).alloc (Nat.le_refl _) _,heap_alloc_new _ _⟩ ?_;rintro Wa8 ⟨ba,ra⟩;refine(za4 (bs2:=[bk6]) (l2:=[t6]) (S2:=fun j=>W4.heap.size<=j∧j<W6.heap.size) (HR6.out.low ba) hT (HM7.out.below ba) (zao ra) (fun h=>by cases h) (PsAt.one (HK6.out.low (Nat.le_refl _) ba)) (zb7 HL6.out.1 HL6.out.2.1 ba.size) (by simp)).mono ?_;rintro e W8 ⟨rfl,⟨v8,hM⟩,b1⟩;have HM8:=hid hM;have HGa8:=hid (zaa HG7.out (zae ba));have HRa8:=hid (HR6.out.low ba);have HG9:=hid (za3 HGa8.out b1);have HR9:=hid (HRa8.out.below hT b1);clear hM b1 ba ra HM7 HL6 HG7 HR6 HGa8 HRa8 HK6
 go_wp2
 go_ret
 exact zbi HG9.out HX6.out HM8.out.fin HR9.out
theorem zpr (hR:Rdr T w g st cap ts p):Calls Tryz.prog 177 #[.pointer (some ⟨g,0,none⟩)] w (PtP T w g st cap ts (tydP ts 6 p)):=by
 have HR0:=hid hR;clear hR;have hC:=ziz 6 HR0.out;obtain⟨r,hX⟩:∃ r,tydP ts 6 p=r:=⟨_,rfl⟩;rw[hX] at hC ⊢
 go_enter Tryz.func177,Tryz.ntmps177
 go_wp2_with fail
 refine hC.mono ?_;clear hC hX;rintro e W1 hm;have HP:=hid hm;rcases r with⟨t3,q3⟩ | s3|_
 ·obtain⟨-,b3,rfl,-⟩:=hm
  go_wp2
  go_ret
  exact HP.out
 ·obtain⟨-,hm'⟩:=hm;have hm2:e=wroE s3:=hm';subst hm2;clear hm';unfold wroE at HP ⊢
  go_wp2
  exact⟨rfl,HP.out⟩
 ·exact hm.2.elim
theorem zps (hR:Rdr T w g st cap ts p):Calls Tryz.prog 180 #[.pointer (some ⟨g,0,none⟩)] w (PtP T w g st cap ts (tydP ts 9 p)):=by
 have HR0:=hid hR;clear hR;have hC:=ziz 9 HR0.out;obtain⟨r,hX⟩:∃ r,tydP ts 9 p=r:=⟨_,rfl⟩;rw[hX] at hC ⊢
 go_enter Tryz.func180,Tryz.ntmps180
 go_wp2_with fail
 refine hC.mono ?_;clear hC hX;rintro e W1 hm;have HP:=hid hm;rcases r with⟨t3,q3⟩ | s3|_
 ·obtain⟨-,b3,rfl,-⟩:=hm
  go_wp2
  go_ret
  exact HP.out
 ·obtain⟨-,hm'⟩:=hm;have hm2:e=wroE s3:=hm';subst hm2;clear hm';unfold wroE at HP ⊢
  go_wp2
  exact⟨rfl,HP.out⟩
 ·exact hm.2.elim
theorem zj1 (hR:Rdr T w g st cap ts p):Calls Tryz.prog 178 #[.pointer (some ⟨g,0,none⟩)] w (PtP T w g st cap ts (recP ts p)):=by
 have HR0:=hid hR;have hT:=hR.hT;have hgT:=hR.hg;have HG0:Hid (w.grownBy w (some g)):=zb0 _ _;clear hR;obtain⟨r,hX⟩:∃ r,recP ts p=r:=⟨_,rfl⟩;rw[hX];have HX0:=hid hX;clear hX;unfold recP at HX0
 go_enter Tryz.func178,Tryz.ntmps178
 go_wp2_with fail
 refine(zbh 8 HR0.out).mono ?_;rintro e W1 ⟨bk1,rfl,hM,b1⟩;have HM1:Hid (Mk w.heap.size W1 bk1 8 ⟨#[]⟩ 0 (herI ts p) (herI ts p) 0 (.slice none 0 0) []):=hM.mono HG0.out.size;have HG1:=hid (zaa HG0.out (zae b1));have HR1:=hid (HR0.out.low b1);clear hM b1 HG0 HR0
 go_wp2_with fail
 refine(zdf HR1.out).mono ?_;rintro e W2 ⟨g1,hm⟩;obtain⟨bb,hb⟩:∃ bb,namB ts p=bb:=⟨_,rfl⟩;rw[hb] at hm
 cases bb
 ·simp only[Bool.false_eq_true,if_false] at hm;subst hm;have HP:Hid (PtP T w g st cap ts r (wroE (herI ts p)) W2):=zaj (zaa HG1.out g1) (ze6 hb HX0.out);clear HG1 HR1 HX0 HM1;unfold wroE
  go_wp2
  exact⟨rfl,HP.out⟩
 simp only[if_true] at hm;obtain⟨rfl,r1⟩:=hm;have HX2:Hid _:=zd6 hb HX0.out;have HG3:=hid (zaa HG1.out g1);have HM3:=hid (HM1.out.grow (Nat.lt_of_lt_of_le hgT hT) g1);have HR2:Hid (Rdr T W2 g st cap ts (p+1)):=r1;clear g1 r1 hb HX0 HR1 HG1 HM1
 go_wp2_with fail
 refine(zcu (nxT ts p) HM3.out).mono ?_;rintro e W4 ⟨rfl,hM,b1⟩;have HM4:=hid hM;have HG5:=hid (za3 HG3.out b1);have HR5:=hid (HR2.out.below hT b1);clear hM b1 HM3 HG3 HR2;have HL6:Hid ((bk1<W4.heap.size∧∀ q,((.slice none 0 0):Value).ownBlock=some q->q<W4.heap.size)∧w.heap.size<=W4.heap.size∧g<W4.heap.size):=⟨HM4.out.at,HG5.out.size,HR5.out.lt⟩
 go_wp2_with fail
 refine(zhu 11 HR5.out).mono ?_;rintro e W6 ⟨g1,hm⟩;rcases hx:worP ts 11 (p+1) with⟨t6,q6⟩ | s6|_
 rotate_left
 ·rw[hx] at hm;have hm':e=wroE s6:=hm;subst hm';have HP:Hid (PtP T w g st cap ts r (wroE (s6)) W6):=zaj (zaa HG5.out g1) (zak hx HX2.out);clear HG5 HR5 HX2 HM4 HL6;unfold wroE
  go_wp2
  exact⟨rfl,HP.out⟩
 ·rw[hx] at hm;exact hm.elim
 rw[hx] at hm;obtain⟨bk6,rfl,hpt,r1⟩:=hm;have HX6:Hid _:=za0 hx HX2.out;have hsz6:=g1.size;have HG7:=hid (zaa HG5.out g1);have HM7:=hid (HM4.out.grow (Nat.lt_of_lt_of_le hgT hT) g1);have HK6:=hid hpt;have HR6:Hid (Rdr T W6 g st cap ts q6):=r1;clear g1 r1 hpt hx HX2 HR5 HG5 HM4
 go_wp2_with fail
 refine zag (fun W=>Below W6.heap.size W6 W∧W.heap[W6.heap.size]?=some (.cells #[.pointer (some ⟨bk6,0,none⟩)] 112 (0,0))) ⟨(Below.refl _ _).alloc (Nat.le_refl _) _,heap_alloc_new _ _⟩ ?_;rintro Wa8 ⟨ba,ra⟩;refine(za4 (bs2:=[bk6]) (l2:=[t6]) (S2:=fun j=>W4.heap.size<=j∧j<W6.heap.size) (HR6.out.low ba) hT (HM7.out.below ba) (zao ra) (fun h=>by cases h) (PsAt.one (HK6.out.low (Nat.le_refl _) ba)) (zb7 HL6.out.1 HL6.out.2.1 ba.size) (by simp)).mono ?_;rintro e W8 ⟨rfl,⟨v8,hM⟩,b1⟩;have HM8:=hid hM;have HGa8:=hid (zaa HG7.out (zae ba));have HRa8:=hid (HR6.out.low ba);have HG9:=hid (za3 HGa8.out b1);have HR9:=hid (HRa8.out.below hT b1);clear hM b1 ba ra HM7 HL6 HG7 HR6 HGa8 HRa8 HK6
 go_wp2
 go_ret
 exact zbi HG9.out HX6.out HM8.out.fin HR9.out
end
end Go.Proofs.YtabiangdmibocaaGreatDoor
