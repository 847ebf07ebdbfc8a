import Derived.Test.YtabiangdmibocaaGreatDoorUnG
import Derived.Test.YtabiangdmibocaaGreatDoorUnU
import Derived.Test.YtabiangdmibocaaGreatDoorUnN
import Derived.Test.YtabiangdmibocaaGreatDoorUnR
import Derived.Test.YtabiangdmibocaaGreatDoorUnD
import Derived.Test.YtabiangdmibocaaGreatDoorUnO
import Derived.Shelf.Strings.Repeat
import Derived.Test.YtabiangdmibocaaGreatDoorProg
namespace Go.Proofs.YtabiangdmibocaaGreatDoor
set_option maxRecDepth 100000
open Go.RowKit
def bd (ts:List Tok) {α:Type}(r:Rs α) (p:Nat):Prop:=match r with | .ok _ q=>p<=q∧q<=ts.length | .bad s=>∃ p',p<=p'∧p'<=ts.length∧s=herI ts p' | .out=>True
section
variable {ts:List Tok}{α β:Type}
theorem zfs {r:Rs α}{p m:Nat}(h:bd ts r p)(hm:m<=p):bd ts r m:=by
 cases r with
 | ok v q=>exact⟨Nat.le_trans hm h.1,h.2⟩
 | bad s=>obtain⟨p',h1,h2,h3⟩:=h;exact⟨p',Nat.le_trans hm h1,h2,h3⟩
 | out=>trivial
theorem za1 {r:Rs α}{f:α->Nat->Rs β}{p m:Nat}(h:bd ts r p)(hm:m<=p)(hf:∀ v q,p<=q->q<=ts.length->bd ts (f v q) q):bd ts (r.bind f) m:=by
 cases r with
 | ok v q=>exact zfs (hf v q h.1 h.2) (Nat.le_trans hm h.1)
 | bad s=>exact zfs (r:=(.bad s:Rs β)) h hm
 | out=>trivial
theorem zbe {c:Prop} [Decidable c] {a b:Rs α}{m:Nat}(h:c->bd ts a m)(h':¬ c->bd ts b m):bd ts (if c then a else b) m:=by
 split
 ·rename_i hc;exact h hc
 ·rename_i hc;exact h' hc
theorem zo4 {p:Nat}(h:p<=ts.length):bd ts (.bad (herI ts p):Rs α) p:=⟨p,Nat.le_refl _,h,rfl⟩
theorem zkr {b:Bool}{p:Nat}{k:Rs α}(hp:p<=ts.length)(h:b=true->bd ts k p):bd ts (Rs.need b (herI ts p) k) p:=by
 unfold Rs.need;exact zbe h fun _=>zo4 hp
theorem zcs {v:α}{p q:Nat}(h:p<=q)(hq:q<=ts.length):bd ts (.ok v q) p:=⟨h,hq⟩
theorem zdj {p:Nat}{s:List UInt8}{k:Nat->Rs α}(hs:s≠[])(hp:p<=ts.length)(h:p<ts.length->bd ts (k (p+1)) (p+1)):bd ts (expP ts s p k) p:=zkr hp fun hb=>zfs (h (zb5 hb hs)) (by omega)
theorem zjc {p:Nat}{n:Int}{k:Tok->Nat->Rs α}(hn:n≠0)(hp:p<=ts.length)(h:p<ts.length->bd ts (k (nxT ts p) (p+1)) (p+1)):bd ts (kinP ts n p k) p:=zkr hp fun hb=>zfs (h (zf1 hb hn)) (by omega)
theorem zfj {p:Nat}{k:Tok->Nat->Rs α}(hp:p<=ts.length)(h:p<ts.length->bd ts (k (nxT ts p) (p+1)) (p+1)):bd ts (namP ts p k) p:=zkr hp fun hb=>zfs (h (zg3 hb)) (by omega)
theorem zo5 (k:Int){p:Nat}(h:p<ts.length):bd ts (leaP ts k p) p:=⟨by omega,by omega⟩
theorem zub (k:Int){p:Nat}(h:p<=ts.length):bd ts (worP ts k p) p:=zkr h fun hb=>zo5 k (zg3 hb)
theorem zuc {p:Nat}(h:p<=ts.length):bd ts (va1P ts p) p:=by
 unfold va1P;refine zbe (fun hc=>zcs (by omega) (by have:=zf1 hc (by decide);omega)) fun _=>zbe (fun hc=>zcs (by omega) (by have:=zf1 hc (by decide);omega)) fun _=>zbe (fun hc=>zo5 _ ?_) fun _=>zo4 h;rw[Bool.or_eq_true] at hc;rcases hc with hc|hc <;> exact zb5 hc (by simp)
theorem z4b {p:Nat}(h:p<=ts.length):bd ts (valP ts p) p:=by
 unfold valP;refine zbe (fun hc=>?_) fun _=>zuc h;have hp:=zb5 hc (by simp);exact zbe (fun _=>za1 (zuc hp) (by omega) fun v q h1 h2=>zcs (Nat.le_refl _) h2) fun _=>zfs (zo4 hp) (by omega)
theorem zud {p:Nat}(h:p<=ts.length):bd ts (typP ts p) p:=by
 unfold typP;refine zbe (fun hc=>zo5 _ ?_) fun _=>zbe (fun _=>za1 (zub _ h) (Nat.le_refl _) fun v q h1 h2=>zdj (by simp) h2 fun h3=>zfj h3 fun h4=>zcs (Nat.le_refl _) h4) fun _=>zub _ h;rw[Bool.or_eq_true,Bool.or_eq_true] at hc;rcases hc with(hc|hc) | hc <;> exact zb5 hc (by simp)
theorem zue (k:Int){p:Nat}(h:p<=ts.length):bd ts (tydP ts k p) p:=by
 unfold tydP;exact zfj h fun h1=>za1 (zud h1) (Nat.le_refl _) fun v q _ h2=>zcs (Nat.le_refl _) h2
theorem z4c {p:Nat}(h:p<=ts.length):bd ts (impP ts p) p:=by
 unfold impP;exact zdj (by simp) h fun h1=>zjc (by simp) h1 fun h2=>zcs (Nat.le_refl _) h2
theorem z4d {p:Nat}(h:p<=ts.length):bd ts (conP ts p) p:=by
 unfold conP;exact zdj (by simp) h fun h1=>zfj h1 fun h2=>zdj (by simp) h2 fun h3=>za1 (z4b h3) (Nat.le_refl _) fun v q _ h4=>zcs (Nat.le_refl _) h4
theorem z4e {p:Nat}(h:p<=ts.length):bd ts (recP ts p) p:=by
 unfold recP;exact zfj h fun h1=>za1 (zub _ h1) (Nat.le_refl _) fun v q _ h4=>zcs (Nat.le_refl _) h4
structure BdA (ts:List Tok) (n:Nat):Prop where
 bin:∀ l p,p<=ts.length->bd ts ((fns ts n).bin l p) p
 binL:∀ l fr t p,p<=ts.length->bd ts ((fns ts n).binL l fr t p) p
 una:∀ p,p<=ts.length->bd ts ((fns ts n).una p) p
 post:∀ p,p<=ts.length->bd ts ((fns ts n).post p) p
 posL:∀ fr t p,p<=ts.length->bd ts ((fns ts n).posL fr t p) p
 prim:∀ p,p<=ts.length->bd ts ((fns ts n).prim p) p
 argL:∀ l p,p<=ts.length->bd ts ((fns ts n).argL l p) p
 parL:∀ l p,p<=ts.length->bd ts ((fns ts n).parL l p) p
 fieL:∀ l p,p<=ts.length->bd ts ((fns ts n).fieL l p) p
 stmt:∀ p,p<=ts.length->bd ts ((fns ts n).stmt p) p
 bran:∀ p,p<=ts.length->bd ts ((fns ts n).bran p) p
 stmL:∀ l p,p<=ts.length->bd ts ((fns ts n).stmL l p) p
 impL:∀ l p,p<=ts.length->bd ts ((fns ts n).impL l p) p
 decL:∀ l p,p<=ts.length->bd ts ((fns ts n).decL l p) p
theorem zy4 {one:Nat->Rs Pt}{more:List Pt->Nat->Rs (List Pt)}{p:Nat}(h1:∀ q,q<=ts.length->bd ts (one q) q)(h2:∀ l q,q<=ts.length->bd ts (more l q) q)(hp:p<=ts.length):bd ts (lisP ts one more p) p:=by
 unfold lisP;exact zdj (by simp) hp fun h=>zbe (fun hc=>zcs (by omega) (zb5 hc (by simp))) fun _=>za1 (h1 _ h) (Nat.le_refl _) fun v q _ hq=>za1 (h2 _ _ hq) (Nat.le_refl _) fun l q' _ hq'=>zdj (by simp) hq' fun h'=>zcs (Nat.le_refl _) h'
theorem zy5 {more:List Pt->Nat->Rs (List Pt)}{p:Nat}(h2:∀ l q,q<=ts.length->bd ts (more l q) q)(hp:p<=ts.length):bd ts (linP ts more p) p:=by
 unfold linP;exact zdj (by simp) hp fun h=>za1 (h2 _ _ h) (Nat.le_refl _) fun l q' _ hq'=>zdj (by simp) hq' fun h'=>zcs (Nat.le_refl _) h'
theorem zjd {n p:Nat}(ih:BdA ts n)(hp:p<=ts.length):bd ts (bloP ts (fns ts n) p) p:=by
 unfold bloP;exact za1 (zy5 ih.stmL hp) (Nat.le_refl _) fun l q _ hq=>zcs (Nat.le_refl _) hq
theorem zy6 {n p:Nat}(ih:BdA ts n)(hp:p<=ts.length):bd ts (varP ts (fns ts n) p) p:=by
 unfold varP;exact zdj (by simp) hp fun h1=>zfj h1 fun h2=>za1 (zud h2) (Nat.le_refl _) fun v q _ hq=>zbe (fun hc=>za1 (ih.bin _ _ (zb5 hc (by simp))) (by omega) fun x q' _ hq'=>zcs (Nat.le_refl _) hq') fun _=>zcs (Nat.le_refl _) hq
theorem z4f {n p:Nat}(ih:BdA ts n)(hp:p<=ts.length):bd ts (decP ts (fns ts n) p) p:=by
 have hfun:∀ fr l q,q<=ts.length->bd ts (funR ts (fns ts n) fr l q) q:=fun fr l q hq=>by
  unfold funR;exact zfj hq fun h1=>za1 (zy4 (fun _=>zue 9) ih.parL h1) (Nat.le_refl _) fun ps q1 _ h2=>zbe (fun _=>za1 (zjd ih h2) (Nat.le_refl _) fun b q2 _ h3=>zcs (Nat.le_refl _) h3) fun _=>za1 (zud h2) (Nat.le_refl _) fun v q2 _ h3=>za1 (zjd ih h3) (Nat.le_refl _) fun b q3 _ h4=>zcs (Nat.le_refl _) h4
 unfold decP;refine zbe (fun _=>z4d hp) fun _=>zbe (fun _=>zy6 ih hp) fun _=>zbe (fun _=>?_) fun _=>zbe (fun _=>?_) fun _=>zo4 hp
 ·unfold strP;exact zdj (by simp) hp fun h1=>zfj h1 fun h2=>zdj (by simp) h2 fun h3=>za1 (zy5 ih.fieL h3) (Nat.le_refl _) fun l q _ hq=>zcs (Nat.le_refl _) hq
 ·unfold funP;exact zdj (by simp) hp fun h1=>zbe (fun hc=>za1 (z4e (zb5 hc (by simp))) (by omega) fun v q _ hq=>zdj (by simp) hq fun h2=>hfun _ _ _ h2) fun _=>hfun _ _ _ h1
theorem bdA (n:Nat):BdA ts n:=by
 induction n with
 | zero=>constructor <;> (intros;trivial)
 | succ n ih=>
  constructor
  ·intro l p hp;show bd ts (if l=5 then(fns ts n).una p else((fns ts n).bin (l+1) p).bind fun t q=>(fns ts n).binL l (herI ts p) t q) p;exact zbe (fun _=>ih.una p hp) fun _=>za1 (ih.bin _ _ hp) (Nat.le_refl _) fun t q _ hq=>ih.binL _ _ _ _ hq
  ·intro l fr t p hp;refine zbe (fun h=>?_) fun _=>zcs (Nat.le_refl _) hp;have h1:=zn6 h;exact za1 (ih.bin _ _ h1) (by omega) fun u q _ hq=>zbe (fun _=>zcs (Nat.le_refl _) hq) fun _=>ih.binL _ _ _ _ hq
  ·intro p hp;refine zbe (fun h=>?_) fun _=>ih.post p hp;have h1:p<ts.length:=by
    rw[Bool.or_eq_true] at h;rcases h with h|h <;> exact zb5 h (by simp)
   exact za1 (ih.una _ h1) (by omega) fun u q _ hq=>zcs (Nat.le_refl _) hq
  ·intro p hp;exact za1 (ih.prim p hp) (Nat.le_refl _) fun t q _ hq=>ih.posL _ _ _ hq
  ·intro fr t p hp;refine zbe (fun h=>?_) fun _=>zbe (fun h=>?_) fun _=>zcs (Nat.le_refl _) hp
   ·have h1:=zb5 h (by simp);exact zfs (zfj h1 fun h2=>ih.posL _ _ _ h2) (by omega)
   ·exact za1 (zy4 (ih.bin 0) ih.argL hp) (Nat.le_refl _) fun l q _ hq=>ih.posL _ _ _ hq
  ·intro p hp;refine zbe (fun h=>?_) fun _=>zbe (fun h=>zo5 _ (zg3 h)) fun _=>zuc hp;exact za1 (ih.bin _ _ (zb5 h (by simp))) (by omega) fun t q _ hq=>zdj (by simp) hq fun h'=>zcs (Nat.le_refl _) h'
  ·intro l p hp;exact zbe (fun h=>za1 (ih.bin _ _ (zb5 h (by simp))) (by omega) fun t q _ hq=>ih.argL _ _ hq) fun _=>zcs (Nat.le_refl _) hp
  ·intro l p hp;exact zbe (fun h=>za1 (zue _ (zb5 h (by simp))) (by omega) fun t q _ hq=>ih.parL _ _ hq) fun _=>zcs (Nat.le_refl _) hp
  ·intro l p hp;exact zbe (fun _=>zcs (Nat.le_refl _) hp) fun _=>za1 (zue _ hp) (Nat.le_refl _) fun t q _ hq=>zbe (fun _=>ih.fieL _ _ hq) fun _=>zjc (by simp) hq fun h=>ih.fieL _ _ h
  ·intro p hp;refine zbe (fun _=>zjd ih hp) fun _=>zbe (fun _=>zy6 ih hp) fun _=>zbe (fun _=>ih.bran p hp) fun _=>zbe (fun _=>?_) fun _=>zbe (fun _=>?_) fun _=>zbe (fun _=>?_) fun _=>?_
   ·unfold looP;exact zdj (by simp) hp fun h1=>za1 (ih.bin _ _ h1) (Nat.le_refl _) fun x q _ hq=>za1 (zjd ih hq) (Nat.le_refl _) fun b q' _ hq'=>zcs (Nat.le_refl _) hq'
   ·unfold resP;exact zdj (by simp) hp fun h1=>zbe (fun _=>za1 (ih.bin _ _ h1) (Nat.le_refl _) fun x q _ hq=>zcs (Nat.le_refl _) hq) fun _=>zcs (Nat.le_refl _) h1
   ·unfold shoP;exact zfj hp fun h1=>zdj (by simp) h1 fun h2=>za1 (ih.bin _ _ h2) (Nat.le_refl _) fun x q _ hq=>zcs (Nat.le_refl _) hq
   ·unfold simP;exact za1 (ih.bin _ _ hp) (Nat.le_refl _) fun x q _ hq=>zbe (fun hc=>za1 (ih.bin _ _ (zb5 hc (by simp))) (by omega) fun y q' _ hq'=>zcs (Nat.le_refl _) hq') fun _=>zcs (Nat.le_refl _) hq
  ·intro p hp;unfold fns
   dsimp only
   exact zdj (by simp) hp fun h1=>za1 (ih.bin _ _ h1) (Nat.le_refl _) fun x q _ hq=>za1 (zjd ih hq) (Nat.le_refl _) fun b q' _ hq'=>zbe (fun hc=>za1 (p:=q'+1) (zbe (fun _=>ih.bran _ (zb5 hc (by simp))) fun _=>zjd ih (zb5 hc (by simp))) (by omega) fun c q'' _ hq''=>zcs (Nat.le_refl _) hq'') fun _=>zcs (Nat.le_refl _) hq'
  ·intro l p hp;exact zbe (fun _=>zcs (Nat.le_refl _) hp) fun _=>za1 (ih.stmt _ hp) (Nat.le_refl _) fun t q _ hq=>zbe (fun _=>ih.stmL _ _ hq) fun _=>zjc (by simp) hq fun h=>ih.stmL _ _ h
  ·intro l p hp;exact zbe (fun _=>za1 (z4c hp) (Nat.le_refl _) fun t q _ hq=>zjc (by simp) hq fun h=>ih.impL _ _ h) fun _=>zcs (Nat.le_refl _) hp
  ·intro l p hp;exact zbe (fun _=>za1 (z4f ih hp) (Nat.le_refl _) fun t q _ hq=>zjc (by simp) hq fun h=>ih.decL _ _ h) fun _=>zcs (Nat.le_refl _) hp
theorem z4g (n:Nat){p:Nat}(hp:p<=ts.length):bd ts (filP ts n p) p:=by
 have ih:=bdA (ts:=ts) n;unfold filP;exact zdj (by simp) hp fun h1=>zfj h1 fun h2=>zjc (by simp) h2 fun h3=>za1 (ih.impL _ _ h3) (Nat.le_refl _) fun l q _ hq=>za1 (ih.decL _ _ hq) (Nat.le_refl _) fun l' q' _ hq'=>zcs (Nat.le_refl _) hq'
end
theorem zuf {s:List UInt8}{p:Int × Int}(h:txtO s=.inl p):p.1≠0∧0<=p.2∧p.2<=s.length:=by
 unfold txtO at h
 by_cases hL:s.length<=4096
 ·rcases zib hL with⟨e,q,he,h0,hq⟩ | ⟨ms,hm,hst,hck,hlen⟩
  ·rw[he,if_neg h0] at h;injection h with h;subst h;exact⟨h0,by show(0:Int)<=(q:Int);omega,by show(q:Int)<=_;omega⟩
  ·rw[hm,if_pos rfl] at h;unfold parO at h
   split at h
   ·injection h with h;subst h;exact⟨by decide,by decide,by show(0:Int)<=_;omega⟩
   split at h
   ·injection h with h;subst h;exact⟨by decide,by decide,by show(0:Int)<=_;omega⟩
   have hstd:=z4a hst
   split at h
   ·split at h
    ·injection h with h;subst h;exact⟨by decide,by decide,by show(0:Int)<=_;omega⟩
    split at h
    ·injection h with h;subst h;exact⟨by decide,by decide,by show(0:Int)<=_;omega⟩
    ·cases h
   ·rename_i x hx
    injection h with h;subst h;have hb:=z4g (ts:=ms) (12 * ms.length+12) (p:=0) (Nat.zero_le _);have hx':filP ms (12 * ms.length+12) 0=.bad x:=hx;rw[hx'] at hb;obtain⟨q,-,hq,e⟩:=hb;refine⟨by show(210:Int)≠0;decide,?_,?_⟩
    ·show 0<=x;rw[e];exact hstd.hz hq
    ·show x<=_;rw[e]
     by_cases hlt:q<ms.length
     ·rw[Std.hp hlt];have:=hstd.one q hlt;omega
     ·have e2:herI ms q=behI ms q:=by unfold herI;rw[if_neg hlt]
      rw[e2];exact(hstd.z hq).2
   ·rename_i hx
    exact absurd hx zjw
 ·have he:lexO s=([],3,0):=by unfold lexO;rw[if_pos (by omega)]
  rw[he,if_neg (by decide)] at h;injection h with h;subst h;exact⟨by decide,by decide,by show((0:Nat):Int)<=_;omega⟩
theorem z1s {s:List UInt8}{t:Pt}(h:txtO s=.inr t):∃ ts q,lexO s=(ts,0,0)∧chkO ts=0∧filO ts=.ok t q∧(layP 0 t).length<=2048∧dpF (fun _=>0) 0 0 (layP 0 t)<=24:=by
 unfold txtO at h
 by_cases hL:s.length<=4096
 ·rcases zib hL with⟨e,q,he,h0,hq⟩ | ⟨ms,hm,hst,hck,hlen⟩
  ·rw[he,if_neg h0] at h
   cases h
  ·rw[hm,if_pos rfl] at h;refine⟨ms,?_⟩;unfold parO at h
   split at h
   ·cases h
   split at h
   ·cases h
   split at h
   ·rename_i u q hu
    split at h
    ·cases h
    split at h
    ·cases h
    ·injection h with h;subst h;exact⟨q,hm,hck,hu,by omega,by omega⟩
   ·cases h
   ·cases h
 ·have he:lexO s=([],3,0):=by unfold lexO;rw[if_pos (by omega)]
  rw[he,if_neg (by decide)] at h
  cases h
theorem z4h:∀ (a b:List Nd) (D:Nat->Int)(i:Nat)(m:Int),eqAll ndEq a b=true->dpF D i m a=dpF D i m b
 | [],[],_,_,_,_=>rfl
 | [],_::_,_,_,_,h=>by simp[eqAll] at h
 | _::_,[],_,_,_,h=>by simp[eqAll] at h
 | x::a,y::b,D,i,m,h=>by
  rw[eqAll,Bool.and_eq_true] at h;have hk:x.kids=y.kids:=by
   have:=h.1;unfold ndEq at this;simp only[Bool.and_eq_true,beq_iff_eq] at this;exact this.2
  rw[dpF,dpF,hk];exact z4h a b _ _ _ h.2
theorem z1t (ws:List Tok):Hs ws 0 ws:=fun i t hi=>by
 have hlt:=(List.getElem?_eq_some_iff.1 hi).1;have e:nxT ws (0+i)=t:=by unfold nxT;rw[Nat.zero_add,List.getD_eq_getElem?_getD,hi];rfl
 rw[e];exact⟨rfl,.inl rfl⟩
theorem z1u {u:Tok}(h:wrA u=false):bareB u=false∧alnB u=true:=by
 unfold wrA at h;have h0:chkO [u,enT]=0:=by simpa using h
 unfold chkO at h0;rw[if_neg (by simp)] at h0;have h1:chkF ⟨0,⟨#[]⟩,0⟩ [u,enT]=true:=by
  cases hc:chkF ⟨0,⟨#[]⟩,0⟩ [u,enT] with
  | true=>rfl
  | false=>rw[hc] at h0;simp at h0
 rw[chkF] at h1
 cases hb:bareB u with
 | true=>rw[hb] at h1;simp[clo] at h1
 | false=>
  rw[hb] at h1
  cases ha:alnB u with
  | true=>exact⟨rfl,rfl⟩
  | false=>rw[ha] at h1;simp at h1
set_option maxHeartbeats 4000000
structure Pw (w0:World) (g:Nat) (nv:Value) (d:Nat) (w:World) (v:Value) (out:List UInt8):Prop where
 b:Below w0.heap.size w0 w
 h:w0.heap.size<=g
 r:∃ p,(p=.pointer none∨p=.pointer (some ⟨g,0,none⟩))∧w.heap[g]?=some (.cells #[p,v,nv,.int .i64 d] 123 (0,0))
 o:OwnB w0.heap.size w v out
def Pp (w0:World) (g:Nat) (nv:Value) (d:Nat) (w:World) (v:Value) (out:List UInt8) (w':World):Prop :=
 ∃ v',Pw w0 g nv d w' v' out∧Oth g v w w'∧(v'.ownBlock=v.ownBlock∨∃ q,v'.ownBlock=some q∧w.heap.size<=q)
section
variable {w0 w w1 w2:World}{g d d1 d2:Nat}{nv v v1:Value}{out out1 out2:List UInt8}
theorem Pw.lt (h:Pw w0 g nv d w v out):g<w.heap.size:=by
 obtain⟨p,-,hr⟩:=h.r;exact zab hr
theorem Pw.ne (h:Pw w0 g nv d w v out):v.ownBlock≠some g:=by
 obtain⟨p,-,hr⟩:=h.r;exact OwnG.nb h.o hr (by decide)
theorem Pw.low (h:Pw w0 g nv d w v out)(hb:Below w.heap.size w w1):Pw w0 g nv d w1 v out:=by
 obtain⟨p,hp,hr⟩:=h.r;exact⟨h.b.trans (hb.mono h.b.size),h.h,⟨p,hp,(hb.block _ h.lt).trans hr⟩,h.o.below hb⟩
theorem Pp.start (h:Pw w0 g nv d w v out):Pp w0 g nv d w v out w:=⟨v,h,zj9 g v w,.inl rfl⟩
theorem Pp.trans (h:Oth g v w w1)(hv:v1.ownBlock=v.ownBlock∨∃ q,v1.ownBlock=some q∧w.heap.size<=q)(h':Pp w0 g nv d w1 v1 out w2):Pp w0 g nv d w v out w2:=by
 obtain⟨v2,r2,o2,q2⟩:=h';refine⟨v2,r2,h.trans hv o2,?_⟩;rcases q2 with q2|⟨q,q2,q3⟩
 ·rcases hv with hv|⟨q,hv,hq⟩
  ·exact .inl (q2.trans hv)
  ·exact .inr ⟨q,q2.trans hv,hq⟩
 ·exact .inr ⟨q,q2,Nat.le_trans h.size q3⟩
theorem Pp.pre (hb:Below w.heap.size w w1)(h':Pp w0 g nv d w1 v out w2):Pp w0 g nv d w v out w2:=Pp.trans (zlg g v hb) (.inl rfl) h'
theorem Pp.row {cs:Array Value}{ty:TypeId}{fr:Nat × Nat}{j:Nat}(hw:Pw w0 g nv d w v out1)(h:Oth g v w w1)(hr:w.heap[j]?=some (.cells cs ty fr))(hj:j≠g)(ht:5≠ty):w1.heap[j]?=some (.cells cs ty fr) :=
 (h.block j (zab hr) hj (OwnG.nb hw.o hr ht)).trans hr
theorem Pw.env (h:Pw w0 g nv d w v out) {α:Type}{m:Nat}{cs:α->Array Value}{sp:Option Addr}{xs:List α}(hr:RowsAt w0 m cs sp xs):RowsAt w m cs sp xs:=hr.below h.b
theorem Pp.step (h:Pp w0 g nv d w v out w1):∃ v',Pw w0 g nv d w1 v' out∧∀ W2 d2 out2,Pp w0 g nv d2 w1 v' out2 W2->Pp w0 g nv d2 w v out2 W2∧∀ (j:Nat)(cs:Array Value)(ty:TypeId)(fr:Nat × Nat),w1.heap[j]?=some (.cells cs ty fr)->j≠g->5≠ty->W2.heap[j]?=some (.cells cs ty fr):=by
 obtain⟨v',h1,o1,q1⟩:=h;refine⟨v',h1,fun W2 d2 out2 h2=>⟨Pp.trans o1 q1 h2,fun j cs ty fr hr hj ht=>?_⟩⟩;obtain⟨v2,-,o2,-⟩:=h2;exact Pp.row h1 o2 hr hj ht
theorem zm9 (c:Nat)(x:Value):Oth g v w (w.setCell ⟨g,c,none⟩ x):=by
 have hq:=(Below.refl 0 w).setCell (p:=⟨g,c,none⟩) (Nat.zero_le _) x;exact⟨hq.os,hq.tape,hq.output,hq.size,fun j _ hj _=>heap_setCell_other _ _ _ _ hj⟩
theorem Pw.deep (h:Pw w0 g nv d w v out)(d2:Nat):Pp w0 g nv d2 w v out (w.setCell ⟨g,3,none⟩ (.int .i64 d2)):=by
 have hne:=h.ne;obtain⟨p,hp,hr⟩:=h.r;exact⟨v,⟨h.b.setCell (p:=⟨g,3,none⟩) h.h _,h.h,⟨p,hp,heap_setCell_same _ _ 3 _ _ _ hr⟩,h.o.keep fun q hq=>heap_setCell_other _ _ _ _ fun e=>hne (by rw[hq,show q=g from e])⟩,zm9 3 _,.inl rfl⟩
end
theorem infoB:∃ i,Tryz.prog.info? 5=some i∧i.zero=some (.int .u8 0)∧i.size=1∧i.bytes=1:=by
 have h:(Tryz.prog.info? 5).map (fun i=>(i.zero,i.size,i.bytes))=some (some (.int .u8 0),1,1):=by kernel_rfl
 cases hq:Tryz.prog.info? 5 with
 | none=>rw[hq] at h;cases h
 | some j=>rw[hq] at h;simp only[Option.map_some,Option.some.injEq,Prod.mk.injEq] at h;exact⟨j,rfl,h⟩
theorem zly {B:Nat}{w:World}{v:Value}{L:List UInt8}{ty:TypeId}{s:ByteArray}{v':Value}{w':World}(hown:OwnB B w v L)(hlen:L.length+s.size<=140737488355328)
  (hr:(Builtin.append_ #[91,9] ty #[v,.string s]).run Tryz.prog w=.ok v' w'):v'.ownBlock=v.ownBlock∨v'.ownBlock=some w.heap.size:=by
 obtain⟨i0,hi,hz0,hz1,hz2⟩:=infoB;have hfl:(flatG byC L).length=L.length:=by rw[zed elB,Nat.mul_one]
 rcases hown.2 with⟨rfl,h0⟩ | ⟨g,cap,cur,rfl,h2,h3,h4,h5,h6,h7⟩
 ·by_cases hm:s.size=0
  ·have e:=Lib.run_append_own_string (P:=Tryz.prog) w 0 91 9 ty 5 i0 Tryz.underlying91 Tryz.underlying9 hi hz0 hz1 hz2 (.slice none 0 0) 0 [] (World.ownsRow_nil w 0 5 1) s (by unfold maxLen;omega) (by omega) (Nat.zero_le _);obtain⟨v2,w2,e1,-,-,e4⟩:=e;rw[e1] at hr;injection hr with hr1 hr2;rw[<-hr1,e4.2 ⟨rfl,hm⟩];exact .inl rfl
  ·have e:=run_append_nil_string (P:=Tryz.prog) w 91 9 ty 5 i0 (.int .u8 0) Tryz.underlying91 Tryz.underlying9 hi hz0 s (by omega) (by omega) (by rw[hz2];omega);rw[e] at hr;injection hr with hr1 hr2;rw[<-hr1];exact .inr rfl
 ·have h6':cur.size=cap:=by simpa using h6
  by_cases hroom:L.length+s.size<=cap
  ·have e:=Lib.run_append_room_string (P:=Tryz.prog) w 91 9 ty 5 i0 Tryz.underlying91 Tryz.underlying9 hi hz1 g L.length cap cur h3 s hroom (by omega);rw[e] at hr;injection hr with hr1 hr2;rw[<-hr1];exact .inl rfl
  ·have holds:∀ j u,(flatG byC L)[j]?=some u->w.cell? ((⟨g,0,none⟩:Addr).add j)=some u:=World.ownsRow.cells (g:=g) hown rfl;have e:=Lib.run_append_grow_string (P:=Tryz.prog) w 91 9 ty 5 i0 (.int .u8 0) Tryz.underlying91 Tryz.underlying9 hi hz0 ⟨g,0,none⟩ L.length cap (flatG byC L) (by rw[hz1,hfl];omega) holds s (by omega) (by omega) (growslice_fits (by omega) (by rw[hz2];omega));rw[e] at hr;injection hr with hr1 hr2;rw[<-hr1];exact .inr rfl
section
variable {w0 w w1 w2:World}{g d:Nat}{nv v:Value}{out:List UInt8}
theorem ziu (h:Pw w0 g nv d w v out) :
  Calls Tryz.prog 187 #[.pointer (some ⟨g,0,none⟩)] w fun e w'=>e=.returned (.tuple #[])∧Pw w0 g nv d w' v out∧Oth g v w w':=by
 have hne:=h.ne;obtain⟨p,hp,hb⟩:=h.r;obtain⟨j,hj,hjs⟩:=zn1;have hsh:w.shape? g=some (123,4):=by simp[World.shape?,hb]
 have c0:w.cell? ⟨g,0,none⟩=some p:=(cell_of_row _ _ 0 _ _ _ hb).trans rfl;have z0:w.frozen? ⟨g,0,none⟩=false:=frozen_of_row _ _ _ _ _ hb;have HB:=hid h;have HR:=hid hb;have HNE:Hid _:=hne;clear h hb hne;rcases hp with rfl|rfl
 ·go_enter Tryz.func187,Tryz.ntmps187
  go_wp2
  rw[Lib.run_to_unsafe w ⟨g,0,none⟩ Tryz.underlying119 Tryz.underlying192 hj (by rw[hjs];decide) hsh (Nat.zero_lt_succ 3)];simp only[Result.andThen];rw[Oper.upon_value]
  go_wp2
  rw[run_callFunc_extern Tryz.func204 (by kernel_rfl) (by kernel_rfl) (by kernel_rfl) (e:=Extern.AbiNoEscape.same) (by kernel_rfl)];rw[Lib.run_noEscape];simp only[Result.andThen];rw[Oper.upon_value]
  go_wp2
  rw[Lib.run_from_unsafe w ⟨g,0,none⟩ Tryz.underlying192 Tryz.underlying119 hj hsh (by kernel_rfl)];simp only[Result.andThen];rw[Oper.upon_value]
  go_wp2
  go_end0
  have r1:(w.setCell ⟨g,0,none⟩ (.pointer (some ⟨g,0,none⟩))).heap[g]?=some (.cells #[.pointer (some ⟨g,0,none⟩),v,nv,.int .i64 d] 123 (0,0)):=heap_setCell_same _ _ _ _ _ _ HR.out;refine⟨rfl,⟨HB.out.b.setCell (p:=⟨g,0,none⟩) HB.out.h _,HB.out.h,⟨_,.inr rfl,r1⟩,OwnG.keep HB.out.o fun k hk=>heap_setCell_other _ _ _ _ (fun (e:k=g)=>HNE.out (e ▸ hk))⟩,zm9 0 _⟩
 ·go_enter Tryz.func187,Tryz.ntmps187
  go_wp2
  rw[Lib.run_neq_ptr_same w _ Tryz.underlying119 hj]
  go_wp2
  go_end0
  exact⟨rfl,HB.out,zj9 _ _ _⟩
theorem zg8 (s:ByteArray)(h:Pw w0 g nv d w v out)(hl:out.length+s.size<=1000000000000) :
  Calls Tryz.prog 156 #[.pointer (some ⟨g,0,none⟩),.string s] w fun e w'=>e=.returned (.tuple #[.int .i64 s.size,.nilIface])∧Pp w0 g nv d w v (out++s.data.toList) w':=by
 go_enter Tryz.func156,Tryz.ntmps156
 go_wp2_with fail
 refine(ziu h).mono ?_;rintro e W1 ⟨rfl,h1,o1⟩;clear h;have hne:=h1.ne;have ho:=h1.o;obtain⟨p,hp,hr⟩:=h1.r;obtain⟨sp,cap,rfl⟩:=OwnG.shape ho;have hw1:w0.heap.size<=W1.heap.size:=h1.b.size;obtain⟨i,hi,hi1,hi2,hi3⟩:=infoB;obtain⟨v',W2,hra,q1,q2,-⟩:=Lib.run_append_own_string (P:=Tryz.prog) W1 w0.heap.size 91 9 91 5 i Tryz.underlying91 Tryz.underlying9 hi hi1 hi2 hi3 _ out.length (flatG byC out) ho s (by unfold maxLen;omega) (by omega) hw1;have q3:=zly ho (by omega) hra;have q1':OwnB w0.heap.size W2 v' (out++s.data.toList):=by
  show W2.ownsRow w0.heap.size 5 1 v' (out++s.data.toList).length (flatG byC (out++s.data.toList));rw[zfz] at q1;rw[List.length_append,show s.data.toList.length=s.size by simp,flatG,List.flatMap_append];exact q1
 obtain⟨sp',cap',rfl⟩:=OwnG.shape q1';have hr2:W2.heap[g]?=some (.cells #[p,.slice sp out.length cap,nv,.int .i64 d] 123 (0,0)):=(q2.block g (zab hr) (fun e=>hne e.symm)).trans hr;have PUT:Hid (Pp w0 g nv d w (.slice sp out.length cap) (out++s.data.toList) (W2.setCell ⟨g,1,none⟩ (.slice sp' (out++s.data.toList).length cap'))):=by
  have hB2:Below w0.heap.size w0 W2:=OwnG.grown ho (Nat.le_refl _) hw1 h1.b q2;have hne2:(Value.slice sp' (out++s.data.toList).length cap').ownBlock≠some g:=OwnG.nb q1' hr2 (by decide);have q2':Oth g (.slice sp out.length cap) W1 W2:=⟨q2.os,q2.tape,q2.output,q2.size,fun j hj _ hjv=>q2.block j hj fun e=>hjv e.symm⟩;have hsz:=o1.size;refine Pp.trans (o1.trans (.inl rfl) q2') (v1:=.slice sp' (out++s.data.toList).length cap') (q3.imp id fun e=>⟨_,e,hsz⟩) ⟨_,⟨hB2.setCell (p:=⟨g,1,none⟩) h1.h _,h1.h,⟨p,hp,heap_setCell_same _ _ 1 _ _ _ hr2⟩,OwnG.keep q1' fun k hk=>heap_setCell_other _ _ _ _ (fun (e:k=g)=>hne2 (e ▸ hk))⟩,zm9 1 _,.inl rfl⟩
 have c1:W1.cell? ⟨g,1,none⟩=some (.slice sp out.length cap):=(cell_of_row _ _ 1 _ _ _ hr).trans rfl;have d1:W2.cell? ⟨g,1,none⟩=some (.slice sp out.length cap):=(cell_of_row _ _ 1 _ _ _ hr2).trans rfl;have z1:W2.frozen? ⟨g,1,none⟩=false:=frozen_of_row _ _ _ _ _ hr2;generalize (out++s.data.toList).length=n at hra PUT;clear q1 q1' q2 q3 hr2 ho hr h1 o1 hi hi1 hi2 hi3 hne
 go_wp2_with (at_builtin;refine zg1 (.tmp 12) (.tmp 13) 91 9 (by rfl) (by rfl) (by rfl) (by rfl) hra ?_)
 go_ret2
 exact⟨rfl,PUT.out⟩
end
def fl (xs:List ByteArray):List UInt8:=(xs.map fun x=>x.data.toList).flatten
theorem zug {xs:List ByteArray}{t:Nat}{x:ByteArray}(h:xs[t]?=some x):fl (xs.take (t+1))=fl (xs.take t)++x.data.toList:=by
 rw[List.take_add_one,h];simp[fl]
theorem z4i {xs:List ByteArray}{t:Nat}{x:ByteArray}(h:xs[t]?=some x):(fl (xs.take t)).length+x.size<=(fl xs).length:=by
 have h1:fl xs=fl (xs.take (t+1))++fl (xs.drop (t+1)):=by
  unfold fl;rw[<-List.flatten_append,<-List.map_append,List.take_append_drop]
 rw[h1,zug h];simp
section
variable {w0 w:World}{g d:Nat}{nv v:Value}{out:List UInt8}
theorem zxd (b cap:Nat)(xs:List ByteArray)(h:Pw w0 g nv d w v out)(hx:w.heap[b]?=some (.cells (xs.map Value.string).toArray 9 (0,0)))(hbg:b≠g)(hl:out.length+(fl xs).length<=1000000000000)(hs:xs.length<=1000) :
  Calls Tryz.prog 118 #[.pointer (some ⟨g,0,none⟩),.slice (some ⟨b,0,none⟩) xs.length cap] w fun e w'=>e=.returned (.tuple #[])∧Pp w0 g nv d w v (out++fl xs) w':=by
 have HW:=hid h;have HX:=hid hx;clear h hx
 go_enter Tryz.func118,Tryz.ntmps118
 go_wp2
 go_loopw [8] (fun i wr=>∃ t:Nat,t<=xs.length∧i=.int .i64 t∧Pp w0 g nv d w v (out++fl (xs.take t)) wr) (fun i _=>xs.length - (intOf i).toNat)
 case atStart=>exact⟨0,Nat.zero_le _,rfl,by simpa[fl] using Pp.start HW.out⟩
 case round=>
  obtain⟨t,ht,rfl,v1,h1,o1,q1⟩:=hrel;have HP:Hid (Pp w0 g nv d w v (out++fl (xs.take t)) wr):=⟨v1,h1,o1,q1⟩
  by_cases hlt:t<xs.length
  ·have hd:decide ((t:Int)<xs.length)=true:=by simp;omega
   obtain⟨x,hx⟩:∃ x,xs[t]?=some x:=⟨_,List.getElem?_eq_getElem hlt⟩;have rb:=Pp.row HW.out o1 HX.out hbg (by decide);have kb:wr.cell? ⟨b,t,none⟩=some (.string x):=by
    rw[cell_of_row _ _ _ _ _ _ rb,List.getElem?_toArray,List.getElem?_map,hx];rfl
   have hb2:=z4i hx;have HC:=zg8 x h1 (by rw[List.length_append];omega);have HTK:Hid _:=zug hx;have HO:Hid _:=o1;have HQ:Hid _:=q1;clear h1 o1 q1 hx rb HP hb2
   go_wp2_with fail
   refine HC.mono ?_;rintro e W ⟨rfl,hp⟩;have HN:Hid (Pp w0 g nv d w v (out++fl (xs.take (t+1))) W):=by
    refine Pp.trans HO.out HQ.out ?_;rw[HTK.out,<-List.append_assoc];exact hp
   clear hp HC
   go_wp2
   exact⟨⟨t+1,by omega,by go_num,HN.out⟩,by simp[intOf];omega⟩
  ·have hd:decide ((t:Int)<xs.length)=false:=by simp;omega
   clear h1 o1 q1
   go_wp2
   go_end0
   refine⟨rfl,?_⟩;have:=HP.out;rw[List.take_of_length_le (by omega)] at this;exact this
theorem za6 (xs:List ByteArray)(h:Pw w0 g nv d w v out)(hl:out.length+(fl xs).length<=1000000000000)(hs:xs.length<=1000) :
  Calls Tryz.prog 118 #[.pointer (some ⟨g,0,none⟩),.slice (some ⟨w.heap.size,0,none⟩) xs.length xs.length] (w.alloc (.cells (xs.map Value.string).toArray 9)) fun e w'=>e=.returned (.tuple #[])∧Pp w0 g nv d w v (out++fl xs) w':=by
 have hb:Below w.heap.size w (w.alloc (.cells (xs.map Value.string).toArray 9)):=(Below.refl _ _).alloc (Nat.le_refl _) _;refine(zxd w.heap.size xs.length xs (h.low hb) (heap_alloc_new _ _) (by have:=h.lt;omega) hl hs).mono ?_;rintro e W ⟨rfl,hp⟩;exact⟨rfl,Pp.pre hb hp⟩
end
def NodP (w0:World) (g:Nat) (nv:Value) (L:List Nd) (t:Pt):Prop:=∀ (d i:Nat) (w:World) (v:Value) (out:List UInt8),Emb L i t->Pw w0 g nv d w v out->d+cntP t<=100000->out.length+(rn (prP d t)).length<=1000000000000 ->
 Calls Tryz.prog 83 #[.pointer (some ⟨g,0,none⟩),.int .i64 i] w fun e w'=>e=.returned (.tuple #[])∧Pp w0 g nv d w v (out++rn (prP d t)) w'
structure KsP (w0:World) (g:Nat) (nv:Value) (L:List Nd) (sk:Option Addr) (ks:List Nat) (ts:List Pt):Prop where
 r:RowsAt w0 1 intC sk ks
 l:ks.length=ts.length
 e:∀ (j:Nat) k t,ks[j]?=some k->ts[j]?=some t->Emb L k t
 n:∀ t ∈ ts,NodP w0 g nv L t
 s:ks.length<=100000
theorem zuh (s:List Pe)(os:List (List Pe))(o:List Pe):pPar s (os++[o])=pPar s os++(if os.length=0 then o else s++o):=by
 cases os with
 | nil=>simp[pPar]
 | cons a r=>simp[pPar]
theorem zui (s:List Pe)(os:List (List Pe))(o:List Pe):pBeh s (os++[o])=pBeh s os++(s++o):=by simp[pBeh]
theorem zuj (d:Nat)(os:List (List Pe))(o:List Pe):pLin d (os++[o])=pLin d os++(tb d++o++[.e]):=by simp[pLin]
theorem zxe (s:List Pe)(os:List (List Pe))(n:Nat):∃ r,pPar s os=pPar s (os.take n)++r:=by
 cases os with
 | nil=>exact⟨[],by simp[pPar]⟩
 | cons a q=>
  cases n with
  | zero=>exact⟨pPar s (a::q),by simp[pPar]⟩
  | succ n=>
   refine⟨((q.drop n).map (s++·)).flatten,?_⟩;show a++(q.map (s++·)).flatten=(a++((q.take n).map (s++·)).flatten)++_;rw[List.append_assoc,<-List.flatten_append,<-List.map_append,List.take_append_drop]
theorem zxf (s:List Pe)(os:List (List Pe))(n:Nat):∃ r,pBeh s os=pBeh s (os.take n)++r:=by
 refine⟨pBeh s (os.drop n),?_⟩;unfold pBeh;rw[<-List.flatten_append,<-List.map_append,List.take_append_drop]
theorem zxg (d:Nat)(os:List (List Pe))(n:Nat):∃ r,pLin d os=pLin d (os.take n)++r:=by
 refine⟨pLin d (os.drop n),?_⟩;unfold pLin;rw[<-List.flatten_append,<-List.map_append,List.take_append_drop]
theorem zo6 {a b r:List Pe}(h:a=b++r):(rn b).length<=(rn a).length:=by
 rw[h,zac,List.length_append];omega
theorem zfd {ts:List Pt}{q:Nat}{t:Pt}(d:Nat)(h:ts[q]?=some t):(ts.map (prP d)).take (q+1)=(ts.map (prP d)).take q++[prP d t]:=by
 rw[List.take_add_one,List.getElem?_map,h];rfl
theorem zej {ts:List Pt}{q:Nat}(d:Nat)(h:ts.length<=q):(ts.map (prP d)).take q=ts.map (prP d):=List.take_of_length_le (by simpa using h)
section
variable {w0 w:World}{g d:Nat}{nv v:Value}{out:List UInt8}{L:List Nd}
theorem zeb (S:List Pe)(sb:ByteArray)(hS:rn S=sb.data.toList)(sk:Option Addr)(ck:Nat)(ks:List Nat)(ts:List Pt)(hk:KsP w0 g nv L sk ks ts)(h:Pw w0 g nv d w v out)(hd1:d+cntL ts<=100000)(hl:out.length+(rn (pPar S (ts.map (prP d)))).length<=1000000000000) :
  Calls Tryz.prog 120 #[.pointer (some ⟨g,0,none⟩),.string sb,.slice sk ks.length ck] w fun e w'=>e=.returned (.tuple #[])∧Pp w0 g nv d w v (out++rn (pPar S (ts.map (prP d)))) w':=by
 have HW:=hid h;have HK:=hid hk;have HS:=hid hS;have HL:=hid hl;have HD1:=hid hd1;have hks:=hk.s;clear h hk hl hS hd1
 go_enter Tryz.func120,Tryz.ntmps120
 go_wp2
 go_loopw [10] (fun i wr=>∃ q:Nat,q<=ks.length∧i=.int .i64 q∧Pp w0 g nv d w v (out++rn (pPar S ((ts.map (prP d)).take q))) wr) (fun i _=>ks.length - (intOf i).toNat)
 case atStart=>exact⟨0,Nat.zero_le _,rfl,by simpa[pPar,rn] using Pp.start HW.out⟩
 case round=>
  obtain⟨q,hq,rfl,v1,h1,o1,q1⟩:=hrel;have hlk:=HK.out.l
  by_cases hlt:q<ks.length
  ·have hd:decide ((q:Int)<ks.length)=true:=by simp;omega
   obtain⟨k,hk⟩:∃ k,ks[q]?=some k:=⟨_,List.getElem?_eq_getElem hlt⟩;obtain⟨t,ht⟩:∃ t,ts[q]?=some t:=⟨_,List.getElem?_eq_getElem (by omega)⟩;have hrk:=h1.env HK.out.r;obtain⟨b,o,rfl,-⟩:=hrk (by omega);have kc:=za9 hrk q (by simpa using hlt);rw[List.getD_eq_getElem?_getD,List.getElem?_map,hk] at kc;simp only[Option.map_some,Option.getD_some] at kc;have htk:=zfd d ht;have hlq:((ts.map (prP d)).take q).length=q:=by rw[List.length_take,List.length_map];omega
   have HTK:Hid (pPar S ((ts.map (prP d)).take (q+1))=pPar S ((ts.map (prP d)).take q)++(if q=0 then prP d t else S++prP d t)):=by
    show _=_;rw[htk,zuh,hlq]
   have hbud:out.length+(rn (pPar S ((ts.map (prP d)).take q)++(if q=0 then prP d t else S++prP d t))).length<=1000000000000:=by
    obtain⟨r,hr⟩:=zxe S (ts.map (prP d)) (q+1);have:=zo6 hr;rw[<-HTK.out];have:=HL.out;omega
   have hdt:d+cntP t<=100000:=by have:=zb8 ts q t ht;have:=HD1.out;omega
   have HNC:Hid (NodP w0 g nv L t):=HK.out.n t (List.mem_of_getElem? ht);have HEM:Hid (Emb L k t):=HK.out.e q k t hk ht;have HO:Hid _:=o1;have HQ:Hid _:=q1
   by_cases hq0:q=0
   ·rw[if_pos hq0,zac,List.length_append] at hbud;have HC:=HNC.out d k wr v1 _ HEM.out h1 hdt (by rw[List.length_append];omega);have hz:decide (0<q)=false:=by simp;omega
    have HZ:=hid hq0;clear h1 o1 q1 hk ht hrk htk hbud hlk hlq hq0 hdt
    go_wp2_with fail
    refine HC.mono ?_;rintro e W ⟨rfl,hp⟩;have HN:Hid (Pp w0 g nv d w v (out++rn (pPar S ((ts.map (prP d)).take (q+1)))) W):=by
     refine Pp.trans HO.out HQ.out ?_;rw[HTK.out,if_pos HZ.out,zac,<-List.append_assoc];exact hp
    clear hp HC
    go_wp2
    exact⟨⟨q+1,by omega,by go_num,HN.out⟩,by simp[intOf];omega⟩
   ·rw[if_neg hq0,zac,zac,List.length_append,List.length_append] at hbud;have hfs:fl [sb]=rn S:=by rw[HS.out];simp[fl]
    have HC:=za6 [sb] h1 (by rw[hfs,List.length_append];omega) (by simp);rw[hfs] at HC;have hz:decide (0<q)=true:=by simp;omega
    have HZ:=hid hq0;have HBD:Hid _:=hbud;have HDT:Hid _:=hdt;clear h1 o1 q1 hk ht hrk htk hbud hlk hlq hq0 hfs hdt
    go_wp2_with fail
    refine HC.mono ?_;rintro e W ⟨rfl,v2,h2,o2,q2⟩;have HD:=HNC.out d k W v2 _ HEM.out h2 HDT.out (by have:=HBD.out;rw[List.length_append,List.length_append];omega);have HO2:Hid _:=o2;have HQ2:Hid _:=q2;clear h2 o2 q2 HC
    go_wp2_with fail
    refine HD.mono ?_;rintro e W3 ⟨rfl,hp⟩;have HN:Hid (Pp w0 g nv d w v (out++rn (pPar S ((ts.map (prP d)).take (q+1)))) W3):=by
     refine Pp.trans HO.out HQ.out (Pp.trans HO2.out HQ2.out ?_);rw[HTK.out,if_neg HZ.out,zac,zac,<-List.append_assoc,<-List.append_assoc];exact hp
    clear hp HD
    go_wp2
    exact⟨⟨q+1,by omega,by go_num,HN.out⟩,by simp[intOf];omega⟩
  ·have hd:decide ((q:Int)<ks.length)=false:=by simp;omega
   have HP:Hid (Pp w0 g nv d w v (out++rn (pPar S (ts.map (prP d)))) wr):=by
    have hp:Pp w0 g nv d w v (out++rn (pPar S ((ts.map (prP d)).take q))) wr:=⟨v1,h1,o1,q1⟩;rw[zej d (by omega)] at hp;exact hp
   clear h1 o1 q1
   go_wp2
   go_end0
   exact⟨rfl,HP.out⟩
theorem ze2 (S:List Pe)(sb:ByteArray)(hS:rn S=sb.data.toList)(sk:Option Addr)(ck:Nat)(ks:List Nat)(ts:List Pt)(hk:KsP w0 g nv L sk ks ts)(h:Pw w0 g nv d w v out)(hd1:d+cntL ts<=100000)(hl:out.length+(rn (pBeh S (ts.map (prP d)))).length<=1000000000000) :
  Calls Tryz.prog 161 #[.pointer (some ⟨g,0,none⟩),.string sb,.slice sk ks.length ck] w fun e w'=>e=.returned (.tuple #[])∧Pp w0 g nv d w v (out++rn (pBeh S (ts.map (prP d)))) w':=by
 have HW:=hid h;have HK:=hid hk;have HS:=hid hS;have HL:=hid hl;have HD1:=hid hd1;have hks:=hk.s;clear h hk hl hS hd1
 go_enter Tryz.func161,Tryz.ntmps161
 go_wp2
 go_loopw [10] (fun i wr=>∃ q:Nat,q<=ks.length∧i=.int .i64 q∧Pp w0 g nv d w v (out++rn (pBeh S ((ts.map (prP d)).take q))) wr) (fun i _=>ks.length - (intOf i).toNat)
 case atStart=>exact⟨0,Nat.zero_le _,rfl,by simpa[pBeh,rn] using Pp.start HW.out⟩
 case round=>
  obtain⟨q,hq,rfl,v1,h1,o1,q1⟩:=hrel;have hlk:=HK.out.l
  by_cases hlt:q<ks.length
  ·have hd:decide ((q:Int)<ks.length)=true:=by simp;omega
   obtain⟨k,hk⟩:∃ k,ks[q]?=some k:=⟨_,List.getElem?_eq_getElem hlt⟩;obtain⟨t,ht⟩:∃ t,ts[q]?=some t:=⟨_,List.getElem?_eq_getElem (by omega)⟩;have hrk:=h1.env HK.out.r;obtain⟨b,o,rfl,-⟩:=hrk (by omega);have kc:=za9 hrk q (by simpa using hlt);rw[List.getD_eq_getElem?_getD,List.getElem?_map,hk] at kc;simp only[Option.map_some,Option.getD_some] at kc;have HTK:Hid (pBeh S ((ts.map (prP d)).take (q+1))=pBeh S ((ts.map (prP d)).take q)++(S++prP d t)):=by
    show _=_;rw[zfd d ht,zui]
   have hbud:out.length+(rn (pBeh S ((ts.map (prP d)).take q)++(S++prP d t))).length<=1000000000000:=by
    obtain⟨r,hr⟩:=zxf S (ts.map (prP d)) (q+1);have:=zo6 hr;rw[<-HTK.out];have:=HL.out;omega
   have hdt:d+cntP t<=100000:=by have:=zb8 ts q t ht;have:=HD1.out;omega
   have HNC:Hid (NodP w0 g nv L t):=HK.out.n t (List.mem_of_getElem? ht);have HEM:Hid (Emb L k t):=HK.out.e q k t hk ht;have HO:Hid _:=o1;have HQ:Hid _:=q1;rw[zac,zac,List.length_append,List.length_append] at hbud;have hfs:fl [sb]=rn S:=by rw[HS.out];simp[fl]
   have HC:=za6 [sb] h1 (by rw[hfs,List.length_append];omega) (by simp);rw[hfs] at HC;have HBD:Hid _:=hbud;have HDT:Hid _:=hdt;clear h1 o1 q1 hk ht hrk hbud hlk hfs hdt
   go_wp2_with fail
   refine HC.mono ?_;rintro e W ⟨rfl,v2,h2,o2,q2⟩;have HD:=HNC.out d k W v2 _ HEM.out h2 HDT.out (by have:=HBD.out;rw[List.length_append,List.length_append];omega);have HO2:Hid _:=o2;have HQ2:Hid _:=q2;clear h2 o2 q2 HC
   go_wp2_with fail
   refine HD.mono ?_;rintro e W3 ⟨rfl,hp⟩;have HN:Hid (Pp w0 g nv d w v (out++rn (pBeh S ((ts.map (prP d)).take (q+1)))) W3):=by
    refine Pp.trans HO.out HQ.out (Pp.trans HO2.out HQ2.out ?_);rw[HTK.out,zac,zac,<-List.append_assoc,<-List.append_assoc];exact hp
   clear hp HD
   go_wp2
   exact⟨⟨q+1,by omega,by go_num,HN.out⟩,by simp[intOf];omega⟩
  ·have hd:decide ((q:Int)<ks.length)=false:=by simp;omega
   have HP:Hid (Pp w0 g nv d w v (out++rn (pBeh S (ts.map (prP d)))) wr):=by
    have hp:Pp w0 g nv d w v (out++rn (pBeh S ((ts.map (prP d)).take q))) wr:=⟨v1,h1,o1,q1⟩;rw[zej d (by omega)] at hp;exact hp
   clear h1 o1 q1
   go_wp2
   go_end0
   exact⟨rfl,HP.out⟩
theorem zge (sk:Option Addr)(ck:Nat)(ks:List Nat)(ts:List Pt)(hk:KsP w0 g nv L sk ks ts)(h:Pw w0 g nv d w v out)(hd1:d+cntL ts<=100000)(hl:out.length+(rn (pBrk (ts.map (prP d)))).length<=1000000000000) :
  Calls Tryz.prog 160 #[.pointer (some ⟨g,0,none⟩),.slice sk ks.length ck] w fun e w'=>e=.returned (.tuple #[])∧Pp w0 g nv d w v (out++rn (pBrk (ts.map (prP d)))) w':=by
 have HK:=hid hk;have HD1:=hid hd1;have e0:rn (pBrk (ts.map (prP d)))=[40]++rn (pPar [sg [44],sp] (ts.map (prP d)))++[41]:=by
  unfold pBrk;rw[zac,zac];rfl
 rw[e0] at hl ⊢;have HL:Hid (out.length+((rn (pPar [sg [44],sp] (ts.map (prP d)))).length+2)<=1000000000000):=by show _<=_;simp at hl;omega
 have HC:=za6 [strU [40]] h (by have:=HL.out;show _+(1:Nat)<=_;omega) (by simp);clear h hk hl hd1 e0
 go_enter Tryz.func160,Tryz.ntmps160
 go_wp2_with fail
 refine HC.mono ?_;rintro e W1 ⟨rfl,v1,h1,o1,q1⟩;have HO:Hid _:=o1;have HQ:Hid _:=q1;have HD:=zeb [sg [44],sp] (strU [44,32]) rfl sk ck ks ts HK.out h1 HD1.out (by have:=HL.out;rw[List.length_append];show _+(1:Nat)+_<=_;omega);clear h1 o1 q1 HC
 go_wp2_with fail
 refine HD.mono ?_;rintro e W2 ⟨rfl,v2,h2,o2,q2⟩;have HO2:Hid _:=o2;have HQ2:Hid _:=q2;have HE:=za6 [strU [41]] h2 (by have:=HL.out;rw[List.length_append,List.length_append];show _+(1:Nat)+_+(1:Nat)<=_;omega) (by simp);clear h2 o2 q2 HD
 go_wp2_with fail
 refine HE.mono ?_;rintro e W3 ⟨rfl,hp⟩;have HN:Hid (Pp w0 g nv d w v (out++([40]++rn (pPar [sg [44],sp] (ts.map (prP d)))++[41])) W3):=by
  refine Pp.trans HO.out HQ.out (Pp.trans HO2.out HQ2.out ?_);have e:out++([40]++rn (pPar [sg [44],sp] (ts.map (prP d)))++[41])=out++fl [strU [40]]++rn (pPar [sg [44],sp] (ts.map (prP d)))++fl [strU [41]]:=by simp[fl,strU]
  rw[e];exact hp
 clear hp HE
 go_wp2
 go_end0
 exact⟨rfl,HN.out⟩
end
end Go.Proofs.YtabiangdmibocaaGreatDoor

namespace Go.Proofs
open Go.Shelf
def Tryz.lays105_ren:Go.Shelf.Ren:=⟨fun|105=>190|212=>206|99=>207|165=>208|166=>156|170=>209|169=>84|263=>223|264=>224|206=>225|240=>187|241=>226|276=>204|277=>233|n=>n,fun|9=>9|3=>3|4=>4|20=>20|0=>0|46=>195|109=>196|5=>5|72=>121|76=>173|51=>202|146=>203|53=>129|148=>205|70=>119|37=>91|75=>172|127=>160|164=>192|80=>125|n=>n,fun|n=>n⟩
theorem Tryz.lays105:Go.Proofs.Lays.n105 Tryz.prog Tryz.lays105_ren:={
 mixed:=by kernel_rfl
 f99:=Tryz.func207.trans (congrArg some (by kernel_rfl))
 f105:=Tryz.func190.trans (congrArg some (by kernel_rfl))
 f165:=Tryz.func208.trans (congrArg some (by kernel_rfl))
 f166:=Tryz.func156.trans (congrArg some (by kernel_rfl))
 f169:=Tryz.func84.trans (congrArg some (by kernel_rfl))
 f170:=Tryz.func209.trans (congrArg some (by kernel_rfl))
 f206:=Tryz.func225.trans (congrArg some (by kernel_rfl))
 f212:=Tryz.func206.trans (congrArg some (by kernel_rfl))
 f240:=Tryz.func187.trans (congrArg some (by kernel_rfl))
 f241:=Tryz.func226.trans (congrArg some (by kernel_rfl))
 f263:=Tryz.func223.trans (congrArg some (by kernel_rfl))
 f264:=Tryz.func224.trans (congrArg some (by kernel_rfl))
 f276:=Tryz.func204.trans (congrArg some (by kernel_rfl))
 f277:=Tryz.func233.trans (congrArg some (by kernel_rfl))
 t0:=Tryz.underlying0
 a0:=Tryz.isAgg0
 z0:=Tryz.sizeOf0
 v0:=Tryz.zeroValue0
 t3:=Tryz.underlying3
 a3:=Tryz.isAgg3
 z3:=Tryz.sizeOf3
 v3:=Tryz.zeroValue3
 t4:=Tryz.underlying4
 a4:=Tryz.isAgg4
 z4:=Tryz.sizeOf4
 v4:=Tryz.zeroValue4
 t5:=Tryz.underlying5
 a5:=Tryz.isAgg5
 z5:=Tryz.sizeOf5
 v5:=Tryz.zeroValue5
 t9:=Tryz.underlying9
 a9:=Tryz.isAgg9
 z9:=Tryz.sizeOf9
 v9:=Tryz.zeroValue9
 t20:=Tryz.underlying20
 a20:=Tryz.isAgg20
 z20:=Tryz.sizeOf20
 v20:=Tryz.zeroValue20
 t37:=Tryz.underlying91
 a37:=Tryz.isAgg91
 z37:=Tryz.sizeOf91
 v37:=Tryz.zeroValue91
 t46:=Tryz.underlying195
 a46:=Tryz.isAgg195
 z46:=Tryz.sizeOf195
 v46:=Tryz.zeroValue195
 t51:=Tryz.underlying202
 a51:=Tryz.isAgg202
 z51:=Tryz.sizeOf202
 v51:=Tryz.zeroValue202
 t53:=Tryz.underlying129
 a53:=Tryz.isAgg129
 z53:=Tryz.sizeOf129
 v53:=Tryz.zeroValue129
 t70:=Tryz.underlying119
 a70:=Tryz.isAgg119
 z70:=Tryz.sizeOf119
 v70:=Tryz.zeroValue119
 t72:=Tryz.underlying121
 a72:=Tryz.isAgg121
 z72:=Tryz.sizeOf121
 v72:=Tryz.zeroValue121
 t75:=Tryz.underlying172
 a75:=Tryz.isAgg172
 z75:=Tryz.sizeOf172
 v75:=Tryz.zeroValue172
 t76:=Tryz.underlying173
 a76:=Tryz.isAgg173
 z76:=Tryz.sizeOf173
 v76:=Tryz.zeroValue173
 t109:=Tryz.underlying196
 a109:=Tryz.isAgg196
 z109:=Tryz.sizeOf196
 v109:=Tryz.zeroValue196
 t127:=Tryz.underlying160
 a127:=Tryz.isAgg160
 z127:=Tryz.sizeOf160
 v127:=Tryz.zeroValue160
 t146:=Tryz.underlying203
 a146:=Tryz.isAgg203
 z146:=Tryz.sizeOf203
 v146:=Tryz.zeroValue203
 t148:=Tryz.underlying205
 a148:=Tryz.isAgg205
 z148:=Tryz.sizeOf205
 v148:=Tryz.zeroValue205
 t164:=Tryz.underlying192
 a164:=Tryz.isAgg192
 z164:=Tryz.sizeOf192
 v164:=Tryz.zeroValue192 }
theorem Tryz.Builder_Extra_105:Builder.Extra Tryz.prog Tryz.lays105_ren:={
 sizeBuilder:=by kernel_rfl
 liesBuilder:=by kernel_rfl
 t5:=Tryz.underlying5
 a5:=Tryz.isAgg5
 z5:=Tryz.sizeOf5
 v5:=Tryz.zeroValue5
 infoByte:=by kernel_rfl
 cellsByte:=by kernel_rfl
 sizeByte:=by kernel_rfl
 neB5:=by decide }
open Go.RowKit Go.Lib in
theorem Tryz.strings_Repeat (s:ByteArray)(c:Nat)(w:World)(hc:c<=9223372036854775807)(hlen:s.size * c<=140737488355328) :
  Calls Tryz.prog 190 #[.string s,.int .i64 c] w fun e w'=>e=.returned (.string ⟨(Lib.repeatL s.data.toList c).toArray⟩)∧Below w.heap.size w w':=Any.strings_Repeat Tryz.lays105 Tryz.Builder_Extra_105 s c w hc hlen
end Go.Proofs

namespace Go.Proofs.YtabiangdmibocaaGreatDoor
set_option maxRecDepth 100000
set_option maxHeartbeats 4000000
open Go.RowKit
theorem z5z (d:Nat):rn (tb d)=Lib.repeatL [9] d:=by
 induction d with
 | zero=>rfl
 | succ d ih=>
  show rn (.w 9::tb d)=_;rw[zaf,ih];rfl
theorem zdk (d:Nat):(rn (tb d)).length=d:=by
 induction d with
 | zero=>rfl
 | succ d ih=>
  show(rn (.w 9::tb d)).length=_;rw[zaf,List.length_append,ih];show 1+d=d+1;omega
section
variable {w0 w:World}{g d:Nat}{nv v:Value}{out:List UInt8}{L:List Nd}
theorem Pw.c3 (h:Pw w0 g nv d w v out):w.cell? ⟨g,3,none⟩=some (.int .i64 d)∧w.frozen? ⟨g,3,none⟩=false:=by
 obtain⟨p,-,hr⟩:=h.r;exact⟨(cell_of_row _ _ 3 _ _ _ hr).trans rfl,frozen_of_row _ _ _ _ _ hr⟩
theorem Pw.c2 (h:Pw w0 g nv d w v out):w.cell? ⟨g,2,none⟩=some nv:=by
 obtain⟨p,-,hr⟩:=h.r;exact(cell_of_row _ _ 2 _ _ _ hr).trans rfl
theorem zif (h:Pw w0 g nv d w v out)(hd1:d<=100000)(hl:out.length+d<=1000000000000) :
  Calls Tryz.prog 158 #[.pointer (some ⟨g,0,none⟩)] w fun e w'=>e=.returned (.tuple #[])∧Pp w0 g nv d w v (out++rn (tb d)) w':=by
 have HW:=hid h;have c3:=h.c3.1;clear h
 go_enter Tryz.func158,Tryz.ntmps158
 go_wp2_with fail
 refine(Tryz.strings_Repeat (strU [9]) d w (by omega) (by show 1 * d<=_;omega)).mono ?_;rintro e W ⟨rfl,hb⟩;have e1:fl [⟨(Lib.repeatL (strU [9]).data.toList d).toArray⟩]=rn (tb d):=by
  rw[z5z];simp[fl,strU]
 have HC:=za6 [⟨(Lib.repeatL (strU [9]).data.toList d).toArray⟩] (HW.out.low hb) (by rw[e1,zdk];omega) (by simp);rw[e1] at HC;have HB:Hid _:=hb;generalize (⟨(Lib.repeatL (strU [9]).data.toList d).toArray⟩:ByteArray)=tabs at HC ⊢;clear hb e1 c3
 go_wp2_with fail
 refine HC.mono ?_;rintro e W2 ⟨rfl,hp⟩;have HN:Hid (Pp w0 g nv d w v (out++rn (tb d)) W2):=Pp.pre HB.out hp;clear hp HC
 go_wp2
 go_end0
 exact⟨rfl,HN.out⟩
theorem zgf (i:Nat)(t:Pt)(hn:NodP w0 g nv L t)(he:Emb L i t)(h:Pw w0 g nv d w v out)(hd1:d+cntP t<=100000)(hl:out.length+(rn (tb d++prP d t++[.e])).length<=1000000000000) :
  Calls Tryz.prog 155 #[.pointer (some ⟨g,0,none⟩),.int .i64 i] w fun e w'=>e=.returned (.tuple #[])∧Pp w0 g nv d w v (out++rn (tb d++prP d t++[.e])) w':=by
 have HNC:=hid hn;have HEM:=hid he;have e0:rn (tb d++prP d t++[.e])=rn (tb d)++rn (prP d t)++[10]:=by rw[zac,zac];rfl
 rw[e0] at hl ⊢;have HL:Hid (out.length+(d+((rn (prP d t)).length+1))<=1000000000000):=by show _<=_;rw[List.length_append,List.length_append,zdk] at hl;simp at hl;omega
 have HD1:Hid _:=hd1;have HC:=zif h (by omega) (by have:=HL.out;omega);clear h hn he hl hd1 e0
 go_enter Tryz.func155,Tryz.ntmps155
 go_wp2_with fail
 refine HC.mono ?_;rintro e W1 ⟨rfl,v1,h1,o1,q1⟩;have HO:Hid _:=o1;have HQ:Hid _:=q1;have HD:=HNC.out d i W1 v1 _ HEM.out h1 HD1.out (by have:=HL.out;rw[List.length_append,zdk];omega);clear h1 o1 q1 HC
 go_wp2_with fail
 refine HD.mono ?_;rintro e W2 ⟨rfl,v2,h2,o2,q2⟩;have HO2:Hid _:=o2;have HQ2:Hid _:=q2;have HE:=za6 [strU [10]] h2 (by have:=HL.out;rw[List.length_append,List.length_append,zdk];show _+(1:Nat)<=_;omega) (by simp);clear h2 o2 q2 HD
 go_wp2_with fail
 refine HE.mono ?_;rintro e W3 ⟨rfl,hp⟩;have HN:Hid (Pp w0 g nv d w v (out++(rn (tb d)++rn (prP d t)++[10])) W3):=by
  refine Pp.trans HO.out HQ.out (Pp.trans HO2.out HQ2.out ?_);have e:out++(rn (tb d)++rn (prP d t)++[10])=out++rn (tb d)++rn (prP d t)++fl [strU [10]]:=by simp[fl,strU]
  rw[e];exact hp
 clear hp HE
 go_wp2
 go_end0
 exact⟨rfl,HN.out⟩
theorem zig (sk:Option Addr)(ck:Nat)(ks:List Nat)(ts:List Pt)(hk:KsP w0 g nv L sk ks ts)(h:Pw w0 g nv d w v out)(hd1:d+1+cntL ts<=100000)(hl:out.length+(rn (pBra d (ts.map (prP (d+1))))).length<=1000000000000) :
  Calls Tryz.prog 121 #[.pointer (some ⟨g,0,none⟩),.slice sk ks.length ck] w fun e w'=>e=.returned (.tuple #[])∧Pp w0 g nv d w v (out++rn (pBra d (ts.map (prP (d+1))))) w':=by
 have HK:=hid hk;have hks:=hk.s;have e0:rn (pBra d (ts.map (prP (d+1))))=[123,10]++rn (pLin (d+1) (ts.map (prP (d+1))))++rn (tb d)++[125]:=by
  unfold pBra;rw[zac,zac,zac];rfl
 rw[e0] at hl ⊢;have HL:Hid (out.length+(2+((rn (pLin (d+1) (ts.map (prP (d+1))))).length+(d+1)))<=1000000000000):=by show _<=_;rw[List.length_append,List.length_append,List.length_append,zdk] at hl;simp at hl;omega
 have HD1:Hid _:=hd1;have hdw:d<=100000:=by omega
 have HC:=za6 [strU [123,10]] h (by have:=HL.out;show _+(2:Nat)<=_;omega) (by simp);clear h hk hl hd1 e0
 go_enter Tryz.func121,Tryz.ntmps121
 go_wp2_with fail
 refine HC.mono ?_;rintro e W1 ⟨rfl,v1,h1,o1,q1⟩;obtain⟨c3,z3⟩:=h1.c3;obtain⟨vd,hd2,od,qd⟩:=h1.deep (d+1);have HSD:Hid (Pp w0 g nv (d+1) w v (out++[123,10]) (W1.setCell ⟨g,3,none⟩ (.int .i64 ((d+1:Nat):Int)))):=Pp.trans o1 q1 ⟨vd,hd2,od,qd⟩;have hcd:((d+1:Nat):Int)=(d:Int)+1:=by omega
 rw[hcd] at HSD;clear h1 o1 q1 HC hd2 od qd hcd
 go_wp2
 go_loopw [18] (fun i wr=>∃ q:Nat,q<=ks.length∧i=.int .i64 q∧Pp w0 g nv (d+1) w v (out++[123,10]++rn (pLin (d+1) ((ts.map (prP (d+1))).take q))) wr) (fun i _=>ks.length - (intOf i).toNat)
 case atStart=>exact⟨0,Nat.zero_le _,rfl,by simpa[pLin,rn] using HSD.out⟩
 case round=>
  obtain⟨q,hq,rfl,v1,h1,o1,q1⟩:=hrel;have hlk:=HK.out.l
  by_cases hlt:q<ks.length
  ·have hd:decide ((q:Int)<ks.length)=true:=by simp;omega
   obtain⟨k,hk⟩:∃ k,ks[q]?=some k:=⟨_,List.getElem?_eq_getElem hlt⟩;obtain⟨t,ht⟩:∃ t,ts[q]?=some t:=⟨_,List.getElem?_eq_getElem (by omega)⟩;have hrk:=h1.env HK.out.r;obtain⟨b,o,rfl,-⟩:=hrk (by omega);have kc:=za9 hrk q (by simpa using hlt);rw[List.getD_eq_getElem?_getD,List.getElem?_map,hk] at kc;simp only[Option.map_some,Option.getD_some] at kc;have HTK:Hid (pLin (d+1) ((ts.map (prP (d+1))).take (q+1))=pLin (d+1) ((ts.map (prP (d+1))).take q)++(tb (d+1)++prP (d+1) t++[.e])):=by
    show _=_;rw[zfd (d+1) ht,zuj]
   have hbud:out.length+2+(rn (pLin (d+1) ((ts.map (prP (d+1))).take q)++(tb (d+1)++prP (d+1) t++[.e]))).length<=1000000000000:=by
    obtain⟨r,hr⟩:=zxg (d+1) (ts.map (prP (d+1))) (q+1);have:=zo6 hr;rw[<-HTK.out];have:=HL.out;omega
   have hdt:d+1+cntP t<=100000:=by have:=zb8 ts q t ht;have:=HD1.out;omega
   rw[zac,List.length_append] at hbud;have HC:=zgf k t (HK.out.n t (List.mem_of_getElem? ht)) (HK.out.e q k t hk ht) h1 hdt (by rw[List.length_append,List.length_append];show _+(2:Nat)+_+_<=_;omega);have HO:Hid _:=o1;have HQ:Hid _:=q1;clear h1 o1 q1 hk ht hrk hbud hlk hdt c3 z3
   go_wp2_with fail
   refine HC.mono ?_;rintro e W ⟨rfl,hp⟩;have HN:Hid (Pp w0 g nv (d+1) w v (out++[123,10]++rn (pLin (d+1) ((ts.map (prP (d+1))).take (q+1)))) W):=by
    refine Pp.trans HO.out HQ.out ?_;rw[HTK.out,zac,<-List.append_assoc];exact hp
   clear hp HC
   go_wp2
   exact⟨⟨q+1,by omega,by go_num,HN.out⟩,by simp[intOf];omega⟩
  ·have hd:decide ((q:Int)<ks.length)=false:=by simp;omega
   have hp:Pp w0 g nv (d+1) w v (out++[123,10]++rn (pLin (d+1) (ts.map (prP (d+1))))) wr:=by
    have hp:Pp w0 g nv (d+1) w v (out++[123,10]++rn (pLin (d+1) ((ts.map (prP (d+1))).take q))) wr:=⟨v1,h1,o1,q1⟩;rw[zej (d+1) (by omega)] at hp;exact hp
   clear h1 o1 q1 c3 z3;obtain⟨v2,h2,o2,q2⟩:=hp;obtain⟨c3,z3⟩:=h2.c3;have hcd:((d+1:Nat):Int)=(d:Int)+1:=by omega
   rw[hcd] at c3;obtain⟨v3,h3,o3,q3⟩:=h2.deep d;have h3':=zif h3 hdw (by have:=HL.out;rw[List.length_append,List.length_append];show _+(2:Nat)+_+_<=_;omega);have HO:Hid _:=o2.trans q2 o3;have HQ:Hid _:=q3;have HO2:Hid _:=o2;have HQ2:Hid _:=q2;have HO3:Hid _:=o3;clear h2 h3 o2 q2 o3 q3 hcd
   go_wp2_with fail
   refine h3'.mono ?_;rintro e W2 ⟨rfl,v4,h4,o4,q4⟩;have HE:=za6 [strU [125]] h4 (by have:=HL.out;rw[List.length_append,List.length_append,List.length_append,zdk];show _+(2:Nat)+_+_+(1:Nat)<=_;omega) (by simp);have HO4:Hid _:=o4;have HQ4:Hid _:=q4;clear h4 o4 q4 h3' c3 z3
   go_wp2_with fail
   refine HE.mono ?_;rintro e W3 ⟨rfl,hp⟩;have HN:Hid (Pp w0 g nv d w v (out++([123,10]++rn (pLin (d+1) (ts.map (prP (d+1))))++rn (tb d)++[125])) W3):=by
    refine Pp.trans HO2.out HQ2.out (Pp.trans HO3.out HQ.out (Pp.trans HO4.out HQ4.out ?_));have e:out++([123,10]++rn (pLin (d+1) (ts.map (prP (d+1))))++rn (tb d)++[125])=out++[123,10]++rn (pLin (d+1) (ts.map (prP (d+1))))++rn (tb d)++fl [strU [125]]:=by simp[fl,strU]
    rw[e];exact hp
   clear hp HE
   go_wp2
   go_end0
   exact⟨rfl,HN.out⟩
end
end Go.Proofs.YtabiangdmibocaaGreatDoor
