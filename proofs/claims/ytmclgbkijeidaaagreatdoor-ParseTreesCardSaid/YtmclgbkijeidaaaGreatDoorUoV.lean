import Derived.Test.YtmclgbkijeidaaaGreatDoorUoT
import Derived.Test.YtmclgbkijeidaaaGreatDoorUoU
import Derived.Test.YtmclgbkijeidaaaGreatDoorUoQgB
import Derived.Test.YtmclgbkijeidaaaGreatDoorUoN
import Derived.Test.YtmclgbkijeidaaaGreatDoorUoS
namespace Go.Proofs.YtmclgbkijeidaaaGreatDoor
open Go.RowKit
def RR {α β:Type}(R:α->β->Prop):Rs α->Rs β->Prop
 | .ok v q,.ok v' q'=>q=q'∧R v v'
 | .bad _,.bad _=>True
 | .out,.out=>True
 | _,_=>False
theorem rr_ok {α β:Type}{R:α->β->Prop}{v:α}{v':β}{q:Nat}(h:R v v'):RR R (.ok v q) (.ok v' q):=⟨rfl,h⟩
theorem rr_bind {α β γ δ:Type}{R:α->β->Prop}{S:γ->δ->Prop}{r:Rs α}{r':Rs β}{f:α->Nat->Rs γ}{f':β->Nat->Rs δ}(h:RR R r r')(hf:∀ v v' q,R v v'->RR S (f v q) (f' v' q)):RR S (r.bind f) (r'.bind f'):=by
 cases r <;> cases r' <;> first|exact h.elim|trivial|skip
 obtain⟨rfl,h⟩:=h;exact hf _ _ _ h
theorem rr_need {α β:Type}{R:α->β->Prop}{b b':Bool}{s s':Int}{k:Rs α}{k':Rs β}(hb:b=b')(h:RR R k k'):RR R (Rs.need b s k) (Rs.need b' s' k'):=by
 subst hb
 cases b
 ·trivial
 ·exact h
theorem rr_iff {α β:Type}{R:α->β->Prop}{c c':Prop} [Decidable c] [Decidable c'] {a b:Rs α}{a' b':Rs β}(hc:c ↔ c')(h:RR R a a')(h':RR R b b'):RR R (if c then a else b) (if c' then a' else b'):=by
 by_cases g:c
 ·rw[if_pos g,if_pos (hc.1 g)];exact h
 ·rw[if_neg g,if_neg (fun x=>g (hc.2 x))];exact h'
theorem rr_if {α β:Type}{R:α->β->Prop}{c c':Bool}{a b:Rs α}{a' b':Rs β}(hc:c=c')(h:RR R a a')(h':RR R b b'):RR R (if c=true then a else b) (if c'=true then a' else b'):=rr_iff (by rw[hc]) h h'
mutual
def gdP (G:ByteArray->Int->Prop):Pt->Prop | .mk _ x n _ _ _ l=>G x n∧gdL G l
def gdL (G:ByteArray->Int->Prop):List Pt->Prop | []=>True|t::r=>gdP G t∧gdL G r
end
theorem gdL_app {G:ByteArray->Int->Prop}:∀ {a b:List Pt},gdL G a->gdL G b->gdL G (a++b)
 | [],_,_,h=>h
 | t::r,b,h,h'=>by
  rw[gdL] at h;rw[List.cons_append,gdL];exact⟨h.1,gdL_app h.2 h'⟩
def SP (G:ByteArray->Int->Prop) (t t':Pt):Prop:=smP t t'∧gdP G t
def SL (G:ByteArray->Int->Prop) (l l':List Pt):Prop:=smL l l'∧gdL G l
theorem sl_nil {G:ByteArray->Int->Prop}:SL G [] []:=⟨zca,by rw[gdL];trivial⟩
theorem sl_cons {G:ByteArray->Int->Prop}{t t':Pt}{l l':List Pt}(h:SP G t t')(h':SL G l l'):SL G (t::l) (t'::l'):=⟨zb7 h.1 h'.1,by rw[gdL];exact⟨h.2,h'.2⟩⟩
theorem sl_one {G:ByteArray->Int->Prop}{t t':Pt}(h:SP G t t'):SL G [t] [t']:=sl_cons h sl_nil
theorem sl_app {G:ByteArray->Int->Prop}{a a' b b':List Pt}(h:SL G a a')(h':SL G b b'):SL G (a++b) (a'++b'):=⟨zgv h.1 h'.1,gdL_app h.2 h'.2⟩
structure Sm (G:ByteArray->Int->Prop) (ts us:List Tok):Prop where
 n:ts.length=us.length
 t:∀ p,(nxT ts p).kind=(nxT us p).kind∧(nxT ts p).text=(nxT us p).text
 e:G ⟨#[]⟩ 0
 g:∀ p,G (nxT ts p).text 0∧G (valT (nxT ts p)) 0∧G ⟨#[]⟩ (numT (nxT ts p))
section
variable {G:ByteArray->Int->Prop}{ts us:List Tok}(H:Sm G ts us)
include H
theorem Sm.is (p:Nat)(s:List UInt8):isT ts p s=isT us p s:=by unfold isT;rw[(H.t p).2]
theorem Sm.nam (p:Nat):namB ts p=namB us p:=by unfold namB;rw[(H.t p).1,(H.t p).2]
theorem Sm.kin (p:Nat)(n:Int):((nxT ts p).kind == n)=((nxT us p).kind == n):=by rw[(H.t p).1]
theorem Sm.vn (p:Nat):valT (nxT ts p)=valT (nxT us p)∧numT (nxT ts p)=numT (nxT us p):=by
 have h:=H.t p
 cases h1:nxT ts p
 cases h2:nxT us p
 rw[h1,h2] at h;obtain⟨A,y⟩:=h
 dsimp only at A y
 subst A y;exact⟨rfl,rfl⟩
section
variable {k a f t a' f' t':Int}{l l':List Pt}
theorem Sm.mkE (h:SL G l l'):SP G (.mk k ⟨#[]⟩ 0 a f t l) (.mk k ⟨#[]⟩ 0 a' f' t' l'):=⟨zbt h.1,by rw[gdP];exact⟨H.e,h.2⟩⟩
theorem Sm.mkT (p:Nat)(h:SL G l l'):SP G (.mk k (nxT ts p).text 0 a f t l) (.mk k (nxT us p).text 0 a' f' t' l'):=⟨by rw[(H.t p).2];exact zbt h.1,by rw[gdP];exact⟨(H.g p).1,h.2⟩⟩
theorem Sm.mkV (p:Nat)(h:SL G l l'):SP G (.mk k (valT (nxT ts p)) 0 a f t l) (.mk k (valT (nxT us p)) 0 a' f' t' l'):=⟨by rw[(H.vn p).1];exact zbt h.1,by rw[gdP];exact⟨(H.g p).2.1,h.2⟩⟩
theorem Sm.mkN (p:Nat)(h:SL G l l'):SP G (.mk k ⟨#[]⟩ (numT (nxT ts p)) a f t l) (.mk k ⟨#[]⟩ (numT (nxT us p)) a' f' t' l'):=⟨by rw[(H.vn p).2];exact zbt h.1,by rw[gdP];exact⟨(H.g p).2.2,h.2⟩⟩
end
variable {α β:Type}{R:α->β->Prop}
theorem rr_exp {s:List UInt8}{p:Nat}{k:Nat->Rs α}{k':Nat->Rs β}(h:∀ q,RR R (k q) (k' q)):RR R (expP ts s p k) (expP us s p k'):=rr_need (H.is p s) (h _)
theorem rr_kin {n:Int}{p:Nat}{k:Tok->Nat->Rs α}{k':Tok->Nat->Rs β}(h:∀ q,RR R (k (nxT ts p) q) (k' (nxT us p) q)):RR R (kinP ts n p k) (kinP us n p k'):=rr_need (H.kin p n) (h _)
theorem rr_nam {p:Nat}{k:Tok->Nat->Rs α}{k':Tok->Nat->Rs β}(h:∀ q,RR R (k (nxT ts p) q) (k' (nxT us p) q)):RR R (namP ts p k) (namP us p k'):=rr_need (H.nam p) (h _)
theorem rr_lea (k:Int)(p:Nat):RR (SP G) (leaP ts k p) (leaP us k p):=rr_ok (H.mkT p sl_nil)
theorem rr_wor (k:Int)(p:Nat):RR (SP G) (worP ts k p) (worP us k p):=rr_need (H.nam p) (rr_lea H k p)
theorem rr_va1 (p:Nat):RR (SP G) (va1P ts p) (va1P us p):=by
 unfold va1P;exact rr_if (H.kin p 2) (rr_ok (H.mkN p sl_nil)) (rr_if (H.kin p 3) (rr_ok (H.mkV p sl_nil)) (rr_if (by rw[H.is,H.is]) (rr_lea H 22 p) trivial))
theorem rr_val (p:Nat):RR (SP G) (valP ts p) (valP us p):=by
 unfold valP;exact rr_if (H.is _ _) (rr_if (H.kin _ _) (rr_bind (rr_va1 H _) fun v y q h=>rr_ok (H.mkT p (sl_one h))) trivial) (rr_va1 H p)
theorem rr_typ (p:Nat):RR (SP G) (typP ts p) (typP us p):=by
 unfold typP;exact rr_if (by rw[H.is,H.is,H.is]) (rr_lea H 10 p) (rr_if (H.is _ _) (rr_bind (rr_wor H 23 p) fun v A q h=>rr_exp H fun q=>rr_nam H fun y=>rr_ok (H.mkT q (sl_one h))) (rr_wor H 11 p))
theorem rr_tyd (k:Int)(p:Nat):RR (SP G) (tydP ts k p) (tydP us k p):=by
 unfold tydP;exact rr_nam H fun q=>rr_bind (rr_typ H q) fun v y q h=>rr_ok (H.mkT p (sl_one h))
theorem rr_imp (p:Nat):RR (SP G) (impP ts p) (impP us p):=by
 unfold impP;exact rr_exp H fun q=>rr_kin H fun y=>rr_ok (H.mkV q sl_nil)
theorem rr_con (p:Nat):RR (SP G) (conP ts p) (conP us p):=by
 unfold conP;exact rr_exp H fun q=>rr_nam H fun y=>rr_exp H fun q3=>rr_bind (rr_val H q3) fun v C A h=>rr_ok (H.mkT q (sl_one h))
theorem rr_rec (p:Nat):RR (SP G) (recP ts p) (recP us p):=by
 unfold recP;exact rr_nam H fun q=>rr_bind (rr_wor H 11 q) fun v y q h=>rr_ok (H.mkT p (sl_one h))
theorem rr_lin {m m':List Pt->Nat->Rs (List Pt)}(p:Nat)(h:∀ l l' q,SL G l l'->RR (SL G) (m l q) (m' l' q)):RR (SL G) (linP ts m p) (linP us m' p):=by
 unfold linP;exact rr_exp H fun q=>rr_bind (h _ _ _ sl_nil) fun l l' q y=>rr_exp H fun q=>rr_ok y
theorem rr_lis {o o':Nat->Rs Pt}{m m':List Pt->Nat->Rs (List Pt)}(p:Nat)(ho:∀ q,RR (SP G) (o q) (o' q))(h:∀ l l' q,SL G l l'->RR (SL G) (m l q) (m' l' q)):RR (SL G) (lisP ts o m p) (lisP us o' m' p):=by
 unfold lisP;exact rr_exp H fun q=>rr_if (H.is _ _) (rr_ok sl_nil) (rr_bind (ho q) fun v C q y=>rr_bind (h _ _ _ (sl_one y)) fun l l' q A=>rr_exp H fun q=>rr_ok A)
end
structure SimA (G:ByteArray->Int->Prop) (ts us:List Tok) (n:Nat):Prop where
 bin:∀ l p,RR (SP G) ((fns ts n).bin l p) ((fns us n).bin l p)
 binL:∀ l f f' t t' p,SP G t t'->RR (SP G) ((fns ts n).binL l f t p) ((fns us n).binL l f' t' p)
 una:∀ p,RR (SP G) ((fns ts n).una p) ((fns us n).una p)
 post:∀ p,RR (SP G) ((fns ts n).post p) ((fns us n).post p)
 posL:∀ f f' t t' p,SP G t t'->RR (SP G) ((fns ts n).posL f t p) ((fns us n).posL f' t' p)
 prim:∀ p,RR (SP G) ((fns ts n).prim p) ((fns us n).prim p)
 argL:∀ l l' p,SL G l l'->RR (SL G) ((fns ts n).argL l p) ((fns us n).argL l' p)
 parL:∀ l l' p,SL G l l'->RR (SL G) ((fns ts n).parL l p) ((fns us n).parL l' p)
 fieL:∀ l l' p,SL G l l'->RR (SL G) ((fns ts n).fieL l p) ((fns us n).fieL l' p)
 stmt:∀ p,RR (SP G) ((fns ts n).stmt p) ((fns us n).stmt p)
 bran:∀ p,RR (SP G) ((fns ts n).bran p) ((fns us n).bran p)
 stmL:∀ l l' p,SL G l l'->RR (SL G) ((fns ts n).stmL l p) ((fns us n).stmL l' p)
 impL:∀ l l' p,SL G l l'->RR (SL G) ((fns ts n).impL l p) ((fns us n).impL l' p)
 decL:∀ l l' p,SL G l l'->RR (SL G) ((fns ts n).decL l p) ((fns us n).decL l' p)
section
variable {G:ByteArray->Int->Prop}{ts us:List Tok}(H:Sm G ts us)
include H
theorem rr_blo {n:Nat}(ih:SimA G ts us n)(p:Nat):RR (SP G) (bloP ts (fns ts n) p) (bloP us (fns us n) p):=by
 unfold bloP;exact rr_bind (rr_lin H p ih.stmL) fun l l' q h=>rr_ok (H.mkE h)
theorem rr_var {n:Nat}(ih:SimA G ts us n)(p:Nat):RR (SP G) (varP ts (fns ts n) p) (varP us (fns us n) p):=by
 unfold varP;exact rr_exp H fun q=>rr_nam H fun y=>rr_bind (rr_typ H y) fun v D q3 h=>rr_if (H.is _ _) (rr_bind (ih.bin _ _) fun x x' C A=>rr_ok (H.mkT q (sl_cons h (sl_one A)))) (rr_ok (H.mkT q (sl_one h)))
theorem rr_funR {n:Nat}(ih:SimA G ts us n)(f f':Int)(l l':List Pt)(p:Nat)(hl:SL G l l'):RR (SP G) (funR ts (fns ts n) f l p) (funR us (fns us n) f' l' p):=by
 unfold funR;exact rr_nam H fun q=>rr_bind (rr_lis H q (rr_tyd H 9) ih.parL) fun a a' q h=>rr_if (H.is _ _) (rr_bind (rr_blo H ih q) fun b C q y=>rr_ok (H.mkT p (sl_app (sl_app hl h) (sl_one y))))
  (rr_bind (rr_typ H q) fun v D q A=>rr_bind (rr_blo H ih q) fun b C q y=>rr_ok (H.mkT p (sl_app (sl_app (sl_app hl h) (sl_one A)) (sl_one y))))
theorem rr_dec {n:Nat}(ih:SimA G ts us n)(p:Nat):RR (SP G) (decP ts (fns ts n) p) (decP us (fns us n) p):=by
 unfold decP;refine rr_if (H.is _ _) (rr_con H p) (rr_if (H.is _ _) (rr_var H ih p) (rr_if (H.is _ _) ?_ (rr_if (H.is _ _) ?_ trivial)))
 ·unfold strP;exact rr_exp H fun q=>rr_nam H fun y=>rr_exp H fun q3=>rr_bind (rr_lin H q3 ih.fieL) fun l l' A h=>rr_ok (H.mkT q h)
 ·unfold funP;exact rr_exp H fun q=>rr_if (H.is _ _) (rr_bind (rr_rec H _) fun v C q h=>rr_exp H fun q=>rr_funR H ih _ _ _ _ q (sl_one h)) (rr_funR H ih _ _ _ _ q sl_nil)
theorem simA (n:Nat):SimA G ts us n:=by
 induction n with
 | zero=>constructor <;> (intros;trivial)
 | succ n ih=>
  constructor
  ·intro l p;exact rr_iff Iff.rfl (ih.una _) (rr_bind (ih.bin _ _) fun t t' q h=>ih.binL _ _ _ _ _ _ h)
  ·intro l f f' t t' p h;exact rr_iff (by rw[(H.t p).2]) (rr_bind (ih.bin _ _) fun u I q D=>rr_iff Iff.rfl (rr_ok (H.mkT p (sl_cons h (sl_one D)))) (ih.binL _ _ _ _ _ _ (H.mkT p (sl_cons h (sl_one D))))) (rr_ok h)
  ·intro p;exact rr_if (by rw[H.is,H.is]) (rr_bind (ih.una _) fun u I q h=>rr_ok (H.mkT p (sl_one h))) (ih.post _)
  ·intro p;exact rr_bind (ih.prim _) fun t t' q h=>ih.posL _ _ _ _ _ h
  ·intro f f' t t' p h;exact rr_if (H.is _ _) (rr_nam H fun q=>ih.posL _ _ _ _ _ (H.mkT _ (sl_one h))) (rr_if (H.is _ _) (rr_bind (rr_lis H p (ih.bin 0) ih.argL) fun l l' q E=>ih.posL _ _ _ _ _ (H.mkE (sl_app (sl_one h) E))) (rr_ok h))
  ·intro p;exact rr_if (H.is _ _) (rr_bind (ih.bin _ _) fun t t' q h=>rr_exp H fun q=>rr_ok h) (rr_if (H.nam _) (rr_lea H 23 p) (rr_va1 H p))
  ·intro l l' p h;exact rr_if (H.is _ _) (rr_bind (ih.bin _ _) fun t t' q A=>ih.argL _ _ _ (sl_app h (sl_one A))) (rr_ok h)
  ·intro l l' p h;exact rr_if (H.is _ _) (rr_bind (rr_tyd H 9 _) fun t t' q A=>ih.parL _ _ _ (sl_app h (sl_one A))) (rr_ok h)
  ·intro l l' p h;exact rr_if (H.is _ _) (rr_ok h) (rr_bind (rr_tyd H 6 p) fun t t' q A=>rr_if (H.is _ _) (ih.fieL _ _ _ (sl_app h (sl_one A))) (rr_kin H fun q=>ih.fieL _ _ _ (sl_app h (sl_one A))))
  ·intro p;refine rr_if (H.is _ _) (rr_blo H ih p) (rr_if (H.is _ _) (rr_var H ih p) (rr_if (H.is _ _) (ih.bran p) (rr_if (H.is _ _) ?_ (rr_if (H.is _ _) ?_ (rr_if (by rw[H.nam,H.is]) ?_ ?_)))))
   ·unfold looP;exact rr_exp H fun q=>rr_bind (ih.bin _ _) fun x x' q h=>rr_bind (rr_blo H ih q) fun b K q C=>rr_ok (H.mkE (sl_cons h (sl_one C)))
   ·unfold resP;exact rr_exp H fun q=>rr_if (by rw[H.kin,H.is]) (rr_bind (ih.bin _ _) fun x x' q h=>rr_ok (H.mkE (sl_one h))) (rr_ok (H.mkE sl_nil))
   ·unfold shoP;exact rr_nam H fun q=>rr_exp H fun q=>rr_bind (ih.bin _ _) fun x x' q h=>rr_ok (H.mkT p (sl_one h))
   ·unfold simP;exact rr_bind (ih.bin _ _) fun x x' q h=>rr_if (H.is _ _) (rr_bind (ih.bin _ _) fun y N q F=>rr_ok (H.mkE (sl_cons h (sl_one F)))) (rr_ok (H.mkE (sl_one h)))
  ·intro p;unfold fns
   dsimp only
   exact rr_exp H fun q=>rr_bind (ih.bin _ _) fun x x' q h=>rr_bind (rr_blo H ih q) fun b K q C=>
    rr_if (H.is _ _) (rr_bind (rr_if (H.is _ _) (ih.bran _) (rr_blo H ih _)) fun c U q M=>rr_ok (H.mkE (sl_cons h (sl_cons C (sl_one M))))) (rr_ok (H.mkE (sl_cons h (sl_one C))))
  ·intro l l' p h;exact rr_if (H.is _ _) (rr_ok h) (rr_bind (ih.stmt _) fun t t' q A=>rr_if (H.is _ _) (ih.stmL _ _ _ (sl_app h (sl_one A))) (rr_kin H fun q=>ih.stmL _ _ _ (sl_app h (sl_one A))))
  ·intro l l' p h;exact rr_if (H.is _ _) (rr_bind (rr_imp H p) fun t t' q A=>rr_kin H fun q=>ih.impL _ _ _ (sl_app h (sl_one A))) (rr_ok h)
  ·intro l l' p h;exact rr_iff (by rw[H.n]) (rr_bind (rr_dec H ih p) fun t t' q A=>rr_kin H fun q=>ih.decL _ _ _ (sl_app h (sl_one A))) (rr_ok h)
theorem fil_sm {t:Pt}{p:Nat}(h:filO ts=.ok t p):∃ t',filO us=.ok t' p∧SP G t t':=by
 have y:RR (SP G) (filO ts) (filO us):=by
  unfold filO filP;rw[H.n];exact rr_exp H fun q=>rr_nam H fun C=>rr_kin H fun q3=>rr_bind ((simA H _).impL _ _ _ sl_nil) fun l l' E h=>rr_bind ((simA H _).decL _ _ _ h) fun l l' D h=>rr_ok (H.mkT q h)
 rw[h] at y
 cases hu:filO us with
 | ok t' p'=>
  rw[hu] at y;obtain⟨rfl,A⟩:=y;exact⟨t',rfl,A⟩
 | bad s=>rw[hu] at y;exact y.elim
 | out=>rw[hu] at y;exact y.elim
end
theorem tk_at {a b:List Tok}(h:eqAll tkEq a b=true)(p:Nat):(nxT a p).kind=(nxT b p).kind∧(nxT a p).text=(nxT b p).text:=by
 have C:=zdt h;unfold nxT;rw[List.getD_eq_getElem?_getD,List.getD_eq_getElem?_getD]
 by_cases hp:p<a.length
 ·have y:=(zd4 C).1 h p _ _ (Yh hp) (Yh (by omega));rw[Yh hp,Yh (by omega)];unfold tkEq at y;simp only[Bool.and_eq_true,beq_iff_eq] at y;refine⟨y.1,?_⟩;have A:=y.2;rw[ByteArray.toList_eq,ByteArray.toList_eq] at A;exact ByteArray.ext (Array.toList_inj.1 A)
 ·rw[List.getElem?_eq_none (by omega),List.getElem?_eq_none (by omega)];exact⟨rfl,rfl⟩
theorem fil_same {ts us:List Tok}(h:eqAll tkEq ts us=true){t:Pt}{p:Nat}(hf:filO ts=.ok t p):∃ t',filO us=.ok t' p∧smP t t':=by
 obtain⟨t',e,y⟩:=fil_sm (G:=fun _ _=>True) ⟨zdt h,tk_at h,trivial,fun _=>⟨trivial,trivial,trivial⟩⟩ hf;exact⟨t',e,y.1⟩
theorem rr_self {α:Type}(r:Rs α):RR Eq r r:=by cases r <;> first|trivial|exact⟨rfl,rfl⟩
theorem fil_root {ts:List Tok}{t:Pt}{p:Nat}(h:filO ts=.ok t p):∃ x a f e l,t=.mk 1 x 0 a f e l:=by
 have H:Sm (fun _ _=>True) ts ts:=⟨rfl,fun _=>⟨rfl,rfl⟩,trivial,fun _=>⟨trivial,trivial,trivial⟩⟩;have y:∀ n,RR (fun (t _:Pt)=>∃ x a f e l,t=.mk 1 x 0 a f e l) (filP ts n 0) (filP ts n 0):=fun n=>by
  unfold filP;generalize (fns ts n).impL=fi;generalize (fns ts n).decL=fd;refine rr_exp H fun q=>rr_nam H fun C=>rr_kin H fun q3=>rr_bind (R:=Eq) (rr_self _) fun l l' A e=>?_;subst e;exact rr_bind (R:=Eq) (rr_self _) fun l l' D _=>rr_ok ⟨_,_,_,_,_,rfl⟩
 have y:=y (12 * ts.length+12);unfold filO at h;rw[h] at y;exact y.2
theorem unqA_len:∀ (m:Nat) (L acc:List UInt8)(i:Nat)(v:List UInt8)(n:Nat),L.length<=m->unqA acc i L=some (v,n)->v.length<=acc.length+L.length
 | _,[],acc,i,v,n,_,h=>by rw[unqA] at h;cases h
 | 0,_::_,_,_,_,_,hm,_=>by simp at hm
 | m+1,c::r,acc,i,v,n,hm,h=>by
  rw[List.length_cons] at hm ⊢;rw[zcb] at h
  split at h
  ·injection h with h;injection h with h1 h2;subst h1;omega
  ·split at h
   ·cases r with
    | nil=>cases h
    | cons d r'=>
     dsimp only at h
     cases hp:pairU d with
     | none=>rw[hp] at h;cases h
     | some x=>
      rw[hp] at h;have:=unqA_len m r' (acc++[x]) (i+2) v n (by rw[List.length_cons] at hm;omega) h;rw[List.length_append] at this;simp only[List.length_cons,List.length_nil] at this ⊢;omega
   ·split at h
    ·have:=unqA_len m r (acc++[c]) (i+1) v n (by omega) h;rw[List.length_append] at this;simp only[List.length_cons,List.length_nil] at this;omega
    ·cases h
def G4 (x:ByteArray) (n:Int):Prop:=x.size<=40000∧-9223372036854775808<=n∧n<=9223372036854775807
theorem val_len (u:Tok)(h:u.text.size<=4096):(valT u).size<=40000:=by
 have D:u.text.data.toList.length=u.text.size:=by rw[Array.length_toList];rfl
 have C:∀ (L v:List UInt8) (n:Nat),unqO L=some (v,n)->v.length<=L.length:=fun L v n A=>by
  cases L with
  | nil=>cases A
  | cons c r=>
   rw[unqO] at A
   split at A
   ·have:=unqA_len r.length r [] 1 v n (Ya _) A;simp only[List.length_nil,List.length_cons] at this ⊢;omega
   ·cases A
 unfold valT
 cases A:valO u with
 | none=>exact Yk _
 | some x=>
  show(strU x).size<=_;rw[zig];unfold valO at A
  split at A
  ·cases hq:unqO u.text.data.toList with
   | none=>rw[hq] at A;cases A
   | some w=>
    obtain⟨y,n⟩:=w;rw[hq] at A
    dsimp only at A
    split at A
    ·injection A with A;subst A;have:=C _ _ _ hq;omega
    ·cases A
  ·cases A
theorem num_bnd (u:Tok):-9223372036854775808<=numT u∧numT u<=9223372036854775807:=by
 unfold numT
 cases hn:numO u with
 | none=>exact⟨by decide,by decide⟩
 | some n=>
  unfold numO at hn
  split at hn
  ·unfold decO at hn
   split at hn
   ·cases hn
   ·have:=zyn (Yk _) hn;exact⟨by show _<=(n:Int);omega,by show(n:Int)<=_;omega⟩
  ·cases hn
theorem fil_bnd {ts:List Tok}(hs:∀ u ∈ ts,u.text.size<=4096){t:Pt}{p:Nat}(h:filO ts=.ok t p):gdP G4 t:=by
 have y:∀ p,(nxT ts p).text.size<=4096:=fun p=>by
  unfold nxT;rw[List.getD_eq_getElem?_getD]
  cases hq:ts[p]? with
  | none=>exact Yk _
  | some u=>exact hs u (Ym hq)
 obtain⟨t',e,A⟩:=fil_sm (G:=G4) (ts:=ts) (us:=ts) ⟨rfl,fun _=>⟨rfl,rfl⟩,⟨Yk _,by decide,by decide⟩,fun p=>⟨⟨Yo (y p) (by decide),by decide,by decide⟩,⟨val_len _ (y p),by decide,by decide⟩,⟨Yk _,num_bnd _⟩⟩⟩ h;exact A.2
mutual
theorem smQ:∀ (a b c:Pt),smP a b->smP b c->smP a c
 | .mk k x n a f e l,.mk k' x' n' a' f' e' l',.mk k2 x2 n2 a2 f2 e2 l2,h,h'=>by
  unfold smP at h h';obtain⟨rfl,rfl,rfl,h4⟩:=h;obtain⟨rfl,rfl,rfl,g4⟩:=h';exact zbt (smQL l l' l2 h4 g4)
theorem smQL:∀ (a b c:List Pt),smL a b->smL b c->smL a c
 | [],[],[],_,_=>zca
 | [],[],_::_,_,h=>by unfold smL smP.go at h;exact h.elim
 | [],_::_,_,h,_=>by unfold smL smP.go at h;exact h.elim
 | _::_,[],_,h,_=>by unfold smL smP.go at h;exact h.elim
 | _::_,_::_,[],_,h=>by unfold smL smP.go at h;exact h.elim
 | t::r,t'::r',t2::r2,h,h'=>by
  unfold smL smP.go at h h';exact zb7 (smQ t t' t2 h.1 h'.1) (smQL r r' r2 h.2 h'.2)
end
def p30:Nat->List Tok->List Tok
 | _,[]=>[]
 | i,u::r=>⟨u.kind,u.text,30 * (i:Int)⟩::p30 (i+1) r
theorem zi7:∀ (ws:List Tok)(i:Nat),(p30 i ws).length=ws.length
 | [],_=>rfl
 | _::r,i=>by rw[p30,List.length_cons,List.length_cons,zi7 r]
theorem zuo:∀ (ws:List Tok)(i:Nat),eqAll tkEq ws (p30 i ws)=true
 | [],_=>rfl
 | u::r,i=>by
  rw[p30,eqAll,zuo r,Bool.and_true];simp[tkEq]
theorem zup:∀ (ws:List Tok)(i:Nat)(l:Int),l<30 * (i:Int)->risB l (p30 i ws)=true
 | [],_,_,_=>rfl
 | u::r,i,l,h=>by
  rw[p30,risB,if_neg (by show ¬ 30 * (i:Int)<=l;omega)];exact zup r (i+1) _ (by show 30 * (i:Int)<_;push_cast;omega)
theorem zuq:∀ (ws:List Tok)(i j:Nat)(u:Tok),ws[j]?=some u->(p30 i ws)[j]?=some ⟨u.kind,u.text,30 * ((i+j:Nat):Int)⟩
 | [],_,_,_,h=>by simp at h
 | a::r,i,0,u,h=>by
  obtain rfl:a=u:=by simpa using h
  rfl
 | a::r,i,j+1,u,h=>by
  have:=zuq r (i+1) j u (by simpa using h);rw[p30,List.getElem?_cons_succ,this,show i+1+j=i+(j+1) by omega]
theorem z0h {ws:List Tok}{i:Nat}{t:Tok}(h:t ∈ p30 i ws):∃ j u,ws[j]?=some u∧t=⟨u.kind,u.text,30 * ((i+j:Nat):Int)⟩:=by
 obtain⟨j,D,C⟩:=List.getElem_of_mem h;have E:=zi7 ws i;obtain⟨u,A⟩:∃ u,ws[j]?=some u:=⟨_,Yh (by omega)⟩;have y:=zuq ws i j u A;rw[Yh D,C] at y;injection y with y;exact⟨j,u,A,y⟩
theorem z0i {a b:Tok}(h:tkEq a b=true):a.kind=b.kind∧a.text=b.text:=by
 unfold tkEq at h;simp only[Bool.and_eq_true,beq_iff_eq] at h;refine⟨h.1,?_⟩;have y:=h.2;rw[ByteArray.toList_eq,ByteArray.toList_eq] at y;exact ByteArray.ext (Array.toList_inj.1 y)
theorem zur:∀ (a b:List Tok)(x y:Tok),clo x=clo y->eqAll tkEq a b=true->chkF x a=chkF y b
 | [],[],x,y,h,_=>by rw[chkF,chkF,h]
 | [],_::_,_,_,_,h=>by cases h
 | _::_,[],_,_,_,h=>by cases h
 | s::r,t::q,x,y,h,he=>by
  rw[eqAll,Bool.and_eq_true] at he;obtain⟨e1,e2⟩:=z0i he.1;obtain⟨k,z,p⟩:=s;obtain⟨k',z',p'⟩:=t;have e1':k=k':=e1;have e2':z=z':=e2;subst e1' e2';have hb:bareB ⟨k,z,p⟩=bareB ⟨k,z,p'⟩:=rfl;have ha:alnB ⟨k,z,p⟩=alnB ⟨k,z,p'⟩:=by
   rw[Bool.eq_iff_iff];exact⟨fun h=>zhi h rfl rfl,fun h=>zhi h rfl rfl⟩
  rw[chkF,chkF,hb,ha,h,zur r q ⟨k,z,p⟩ ⟨k,z,p'⟩ rfl he.2]
theorem z0j {a b:List Tok}(h:eqAll tkEq a b=true):chkO a=chkO b:=by
 unfold chkO;rw[zdt h,zur a b _ _ rfl h]
theorem chk_file {t:Pt}{x:ByteArray}{a f e:Int}{l:List Pt}(ht:t=.mk 1 x 0 a f e l)(ha:∀ u ∈ wrP t,wrA u=false)(hl:(wrP t).length<=1024):chkO (wrP t)=0:=by
 have A:∃ y,wrP t=y++[enT]:=by
  have F:wrP t=wdT [112,97,99,107,97,103,101]::tkW 1 x::tkW 5 (strU [59])::wEnd (l.map wrP):=by
   rw[ht,wrP,zc4];simp[wrK,enT]
  rw[F];have E:∀ l:List Pt,wEnd (l.map wrP)=[]∨∃ y,wEnd (l.map wrP)=y++[enT]:=fun l=>by
   induction l with
   | nil=>exact .inl rfl
   | cons u r ih=>
    right
    have D:wEnd ((u::r).map wrP)=wrP u++enT::wEnd (r.map wrP):=by simp[wEnd]
    rw[D];rcases ih with h|⟨y,h⟩
    ·exact⟨wrP u,by rw[h]⟩
    ·exact⟨wrP u++enT::y,by rw[h];simp⟩
  rcases E l with h|⟨y,h⟩
  ·exact⟨[wdT [112,97,99,107,97,103,101],tkW 1 x],by rw[h];rfl⟩
  ·exact⟨wdT [112,97,99,107,97,103,101]::tkW 1 x::tkW 5 (strU [59])::y,by rw[h];simp⟩
 obtain⟨y,e⟩:=A;unfold chkO;rw[if_neg (by omega),e,zpg y _ enT (fun u C=>ha u (by rw[e];simp[C])) (ha enT (by rw[e];simp)) rfl];rfl
theorem TrW.p30 {t:Pt}(h:TrW t)(hl:(wrP t).length<=1024):chkO (p30 0 (wrP t))=0∧risB (-1) (p30 0 (wrP t))=true∧∃ t2,parO (p30 0 (wrP t))=.inr t2∧eqAll ndEq (layP 0 t) (layP 0 t2)=true:=by
 obtain⟨t',p,E,U⟩:=h.f;have K:=z0d U;have C:=zyb t t' 0 K;have A:=z2z t t' C;obtain⟨t2,M,V⟩:=fil_same (zuo (wrP t) 0) E;have D:chkO (Go.Proofs.YtmclgbkijeidaaaGreatDoor.p30 0 (wrP t))=0:=by
  rw[<-z0j (zuo (wrP t) 0),A];obtain⟨x,a,f,e,l,N⟩:=fil_root E;refine chk_file N (fun u F=>?_) (by rw[<-A];exact hl);rw[<-A] at F;simpa using List.any_eq_false.1 h.a u F
 have I:risB (-1) (Go.Proofs.YtmclgbkijeidaaaGreatDoor.p30 0 (wrP t))=true:=zup _ 0 (-1) (by omega);have y:=zxw t t2 0 (smQ t t' t2 C V);refine⟨D,I,t2,?_,y⟩;unfold parO;rw[if_neg (by rw[D];simp),if_neg (by rw[I];simp),M]
 dsimp only
 rw[if_neg (by have:=zdt y;have:=h.n;rw[<-zco t 0] at this;omega),if_neg (by rw[<-z2y _ _ _ _ _ y];have:=h.d;omega)]
mutual
theorem zpi:∀ (t:Pt)(i:Nat),gdP G4 t->∀ d ∈ layP i t,d.text.size<=40000∧-9223372036854775808<=d.num∧d.num<=9223372036854775807
 | .mk k x n a f e l,i,h,d,hd=>by
  rw[gdP] at h;rw[layP] at hd;rcases List.mem_cons.1 hd with rfl|hd
  ·exact h.1
  ·exact zmv l (i+1) h.2 d hd
theorem zmv:∀ (l:List Pt)(i:Nat),gdL G4 l->∀ d ∈ layL i l,d.text.size<=40000∧-9223372036854775808<=d.num∧d.num<=9223372036854775807
 | [],_,_,d,hd=>by rw[layL] at hd;simp at hd
 | t::r,i,h,d,hd=>by
  rw[gdL] at h;rw[layL] at hd;rcases List.mem_append.1 hd with hd|hd
  ·exact zpi t i h.1 d hd
  ·exact zmv r _ h.2 d hd
end
theorem zus (s:List UInt8):SmZ ((trO (txtO s)).map toZ):=fun d hd=>by
 obtain⟨e,he,rfl⟩:=List.mem_map.1 hd
 cases hx:txtO s with
 | inl p=>rw[hx] at he;simp[trO] at he
 | inr t=>
  rw[hx] at he;obtain⟨ts,q,h1,h2,h3,h4,h5⟩:=z0c hx;have hb:=zv1 s;rw[h1] at hb;exact zpi t 0 (fil_bnd (fun u hu=>(hb.2 u hu).2.2) h3) e he
theorem zw3 {w:World}{sp:Option Addr}{ks:List Nat}(h:RowsAt w 1 intC sp ks):RowsAt w 1 intZ sp (ks.map fun n:Nat=>(n:Int)):=fun hl=>by
 obtain⟨b,o,e,hc⟩:=h (by simpa using hl);refine⟨b,o,e,fun i x hx j u hu=>?_⟩;rw[List.getElem?_map] at hx
 cases hk:ks[i]? with
 | none=>rw[hk] at hx;cases hx
 | some n=>
  rw[hk] at hx;obtain rfl:(n:Int)=x:=by simpa using hx
  exact hc i n hk j u hu
theorem Rep.repZ {w:World}{S:Nat->Prop}{N:List NdM}{L:List Nd}(h:Rep w S N L)(hk:∀ d ∈ L,d.kids.length<=100000):RepZ w N (L.map toZ):=by
 refine⟨by rw[h.1,List.length_map],fun i m z A y=>?_⟩;rw[List.getElem?_map] at y
 cases hd:L[i]? with
 | none=>rw[hd] at y;cases y
 | some d=>
  rw[hd] at y;obtain rfl:toZ d=z:=by simpa using y
  obtain⟨a,b,c,e,-⟩:=h.2 i m d A hd;exact⟨a,by rw[b];simp[toZ],zw3 c,e,by rw[b];exact hk d (Ym hd)⟩
theorem TuZ.below {w W:World}{s:Option Addr}{c:Nat}{Z:List NdZ}{K:Nat}(h:TuZ w s c Z K)(hb:Below w.heap.size w W):TuZ W s c Z K:=⟨h.e.below hb,h.n,h.s,h.l,h.k⟩
theorem TuZ.mono {w:World}{s:Option Addr}{c:Nat}{Z:List NdZ}{K K':Nat}(h:TuZ w s c Z K)(hk:K<=K'):TuZ w s c Z K':=⟨h.e,h.n,h.s,h.l,fun d hd=>Yo (h.k d hd) hk⟩
theorem z0k {B:Nat}{w:World}{s:Option Addr}{c:Nat}{x:List UInt8}(h:TrAt B w (.slice s (trO (txtO x)).length c) (trO (txtO x))):TuZ w s c ((trO (txtO x)).map toZ) 2048:=by
 obtain⟨N,S,C,hR,-⟩:=h;have y:=zy1 x;obtain⟨sp,F,e,E,D,-⟩:=OwnG.rows elN C;injection e with e1 _ e2;subst e1 e2;refine⟨⟨⟨s,c,N,by rw[List.length_map],E,hR.repZ fun d hd=>by have:=(y.2 d hd).2;omega⟩,by rw[List.length_map];omega⟩,fun e=>(D e).2,zus x,by rw[List.length_map];exact y.1,fun d hd=>?_⟩;obtain⟨e,A,rfl⟩:=List.mem_map.1 hd;show(e.kids.map fun n:Nat=>(n:Int)).length<=2048;rw[List.length_map];exact(y.2 e A).2
theorem zut {α:Type}{w:World}{m:Nat}{f:α->Array Value}{sp:Option Addr}{xs:List α}{k:Nat}{a:Option Addr}{n c:Nat}{T:TypeId}(hf:∀ x,∃ z,(f x)[0]?=some (.int .i64 z))(hk:w.heap[k]?=some (.cells #[.slice a n c] T (0,0)))
  (h:RowsAt w m f sp xs) (v:Value):RowsAt (w.setCell ⟨k,0,none⟩ v) m f sp xs:=fun hl=>by
 obtain⟨b,o,e,hc⟩:=h hl;have hne:b≠k:=by
  intro D;subst D;obtain⟨z,A⟩:=hf xs[0];have y:=hc 0 xs[0] (Yh hl) 0 _ A;rw[Yc _ _ _ _ _ _ hk] at y
  cases ho:o+0 * m+0 with
  | zero=>rw[ho] at y;cases y
  | succ q=>rw[ho] at y;simp at y
 exact⟨b,o,e,fun i x E j u C=>(World.cell?_of_block (a:=⟨b,o+i * m+j,Option.none⟩) (Ye _ _ _ _ hne)).trans (hc i x E j u C)⟩
theorem TuZ.put {w:World}{s:Option Addr}{c:Nat}{Z:List NdZ}{K:Nat}(h:TuZ w s c Z K){k:Nat}{a:Option Addr}{n d:Nat}{T:TypeId}(hk:w.heap[k]?=some (.cells #[.slice a n d] T (0,0)))(v:Value):TuZ (w.setCell ⟨k,0,none⟩ v) s c Z K:=by
 obtain⟨F,D,N,e,M,y⟩:=h.e.x;refine⟨⟨⟨F,D,N,e,zut (fun m=>⟨m.k,rfl⟩) hk M v,y.1,fun i m d A X=>?_⟩,h.e.l⟩,h.n,h.s,h.l,h.k⟩;obtain⟨C,I,E,U,V⟩:=y.2 i m d A X;exact⟨C,I,zut (fun z=>⟨z,rfl⟩) hk E v,U,V⟩
structure Wf (w:World) (b:Nat) (s:Option Addr) (c:Nat) (Z:List NdZ) (K:Nat) (W:World):Prop where
 bl:Below w.heap.size w W
 r:W.heap[b]?=some (.cells #[.slice s Z.length c] 25 (0,0))
 t:TuZ W s c Z K
theorem Wf.below {w W W':World}{b:Nat}{s:Option Addr}{c:Nat}{Z:List NdZ}{K:Nat}(h:Wf w b s c Z K W)(hb:Below W.heap.size W W'):Wf w b s c Z K W':=⟨h.bl.trans (hb.mono h.bl.size),(hb.block _ (zaa h.r)).trans h.r,h.t.below hb⟩
theorem Wf.mono {w W:World}{b:Nat}{s:Option Addr}{c:Nat}{Z:List NdZ}{K K':Nat}(h:Wf w b s c Z K W)(hk:K<=K'):Wf w b s c Z K' W:=⟨h.bl,h.r,h.t.mono hk⟩
theorem Wf.put {w W W':World}{b:Nat}{s s':Option Addr}{c c':Nat}{Z Z':List NdZ}{K K':Nat}(h:Wf w b s c Z K W)(hw:w.heap.size<=b)(hb:Below W.heap.size W W')(ht:TuZ W' s' c' Z' K'):Wf w b s' c' Z' K' (W'.setCell ⟨b,0,none⟩ (.slice s' Z'.length c')):=by
 have y:=h.below hb;exact⟨y.bl.setCell (p:=⟨b,0,none⟩) hw _,Yf _ _ _ _ _ _ y.r,ht.put y.r _⟩
theorem Wf.enw {w W:World}{b:Nat}{s:Option Addr}{c:Nat}{Z:List NdZ}{K:Nat}{t:Pt}(h:Wf w b s c Z K W)(e:Z=(layP 0 t).map toZ)(hT:Tabl W):EnW W (.slice s (layP 0 t).length c) (layP 0 t):=by
 have y:=h.t.e.enw e hT
 rwa [show Z.length=(layP 0 t).length by rw[e,List.length_map]] at y
def mxT (q:Nat) (ws:List Tok):List Tok:=(p30 0 ws).take q++ws.drop q
theorem zw4 (ws:List Tok):mxT 0 ws=ws:=by unfold mxT;simp
theorem z0l (ws:List Tok):mxT ws.length ws=p30 0 ws:=by
 unfold mxT;rw[List.drop_length,List.append_nil,List.take_of_length_le (by rw[zi7];exact Ya _)]
theorem zuu (q j:Nat)(ws:List Tok)(hq:q<=ws.length):(mxT q ws)[j]?=if j<q then(p30 0 ws)[j]? else ws[j]?:=by
 unfold mxT;have y:((p30 0 ws).take q).length=q:=by rw[List.length_take,zi7];omega
 by_cases h:j<q
 ·rw[if_pos h,List.getElem?_append_left (by omega),List.getElem?_take_of_lt h]
 ·rw[if_neg h,List.getElem?_append_right (by omega),y,List.getElem?_drop,show q+(j - q)=j by omega]
theorem z0m (q:Nat)(ws:List Tok)(hq:q<=ws.length):(mxT q ws).length=ws.length:=by
 unfold mxT;rw[List.length_append,List.length_take,zi7,List.length_drop];omega
theorem z0n {q:Nat}{ws:List Tok}{u:Tok}(hu:ws[q]?=some u):(mxT q ws)[q]?=some u∧(mxT q ws).set q ⟨u.kind,u.text,30 * (q:Int)⟩=mxT (q+1) ws:=by
 have y:=(List.getElem?_eq_some_iff.1 hu).1;refine⟨by rw[zuu q q ws (by omega),if_neg (by omega),hu],List.ext_getElem? fun j=>?_⟩;rw[List.getElem?_set,zuu q j ws (by omega),zuu (q+1) j ws (by omega),z0m q ws (by omega)]
 by_cases h:q=j
 ·subst h;rw[if_pos rfl,if_pos y,if_pos (by omega),zuq ws 0 q u hu,Nat.zero_add]
 ·rw[if_neg h]
  by_cases h2:j<q
  ·rw[if_pos h2,if_pos (by omega)]
  ·rw[if_neg h2,if_neg (by omega)]
theorem z3g (t:Pt):(1:Int)<=dpF (fun _=>0) 0 0 (layP 0 t):=by
 have h:=zny t 0 (fun _=>0) 0 [];rw[List.append_nil] at h;rw[h,zj1];have y:1<=dpP t:=by
  cases t with
  | mk k x n a f e l=>rw[dpP];omega
 show(1:Int)<=max 0 (0+(dpP t:Int));omega
structure TuM where
 node:Int
 field:Int
 n:Int
 x:ByteArray
instance:Inhabited TuM:=⟨⟨0,0,0,⟨#[]⟩⟩⟩
def TuM.cells (u:TuM):Array Value:=#[.int .i64 u.node,.int .i64 u.field,.int .i64 u.n,.string u.x]
theorem zuv {w:World}{b off i:Nat}{us:List TuM}(h:RowsAt w 4 TuM.cells (some ⟨b,off,none⟩) us){u:TuM}(hu:us[i]?=some u) :
  w.cell? ⟨b,off+i * 4,none⟩=some (.int .i64 u.node)∧w.cell? ⟨b,off+i * 4+1,none⟩=some (.int .i64 u.field)∧w.cell? ⟨b,off+i * 4+2,none⟩=some (.int .i64 u.n)∧w.cell? ⟨b,off+i * 4+3,none⟩=some (.string u.x):=by
 obtain⟨C,A,e,y⟩:=h (by have:=(List.getElem?_eq_some_iff.1 hu).1;omega);injection e with e;injection e with e1 e2;subst e1 e2;exact⟨y i u hu 0 _ rfl,y i u hu 1 _ rfl,y i u hu 2 _ rfl,y i u hu 3 _ rfl⟩
set_option maxRecDepth 100000
set_option maxHeartbeats 4000000
section
variable {T:Nat}{w w':World}{g:Nat}{st:Option Addr}{cap:Nat}{ts:List Tok}{p q:Nat}{bad bd:Bool}
theorem zas (s:ByteArray)(hR:Qdr T w g st cap ts p bad) :
  Calls Tryz.prog 46 #[.pointer (some ⟨g,0,none⟩),.string s] w fun e w'=>e=.returned (.bool (isQ ts p s))∧Below w.heap.size w w':=by
 have Z:=J hR;clear hR;have I:isQ ts p s=(((nxQ ts p).text.toList == s.toList) && (((nxQ ts p).kind == 4) || (((nxQ ts p).kind == 1) && kepB s))):=by
  unfold isQ;rw[ByteArray.toList_eq,ByteArray.toList_eq]
 have F:=zbk Z;obtain⟨u,M⟩:∃ u,isQ ts p s=u:=⟨_,rfl⟩;obtain⟨t,E⟩:∃ t,nxQ ts p=t:=⟨_,rfl⟩;rw[M,E] at I;rw[M];rw[E] at F;have A:=J I;have HN:=J F;clear I M E F
 go_enter Tryz.func46,Tryz.ntmps46
 go_wp2_with fail
 refine HN.out.mono ?_;rintro e W1 ⟨rfl,b1⟩;have X:Hid (Below w.heap.size w W1):=b1;clear Z b1 HN;obtain⟨N,af,Y,D⟩:=zgu W1 t;have U:Below w.heap.size w N:=X.out.trans (Y.mono X.out.size);clear Y;have y:Hid _:=U;have k0:N.cell? ⟨W1.heap.size,0,none⟩=some (.int .i64 (t).kind):=Yp 0 D rfl;have k1:N.cell? ⟨W1.heap.size,1,none⟩=some (.string (t).text):=Yp 1 D rfl;clear U D;obtain⟨ae,C⟩:∃ b,((t).text.toList == s.toList)=b:=⟨_,rfl⟩;rcases ae with _|_
 ·go_wp2
  go_ret
  exact⟨by rw[A.out,C];rfl,y.out⟩
 obtain⟨aa,K⟩:∃ b,((t).kind == 4)=b:=⟨_,rfl⟩;rcases aa with _|_
 rotate_left
 ·go_wp2
  go_ret
  exact⟨by rw[A.out,C,K];rfl,y.out⟩
 obtain⟨ac,V⟩:∃ b,((t).kind == 1)=b:=⟨_,rfl⟩;rcases ac with _|_
 ·go_wp2
  go_ret
  exact⟨by rw[A.out,C,K,V];rfl,y.out⟩
 ·go_wp2_with fail
  refine(zhs _ _).mono ?_;rintro e W3 ⟨rfl,b3⟩;have ab:Hid _:=y.out.trans (b3.mono y.out.size);clear b3
  go_wp2
  go_ret
  exact⟨by rw[A.out,C,K,V];rfl,ab.out⟩
end
end Go.Proofs.YtmclgbkijeidaaaGreatDoor
