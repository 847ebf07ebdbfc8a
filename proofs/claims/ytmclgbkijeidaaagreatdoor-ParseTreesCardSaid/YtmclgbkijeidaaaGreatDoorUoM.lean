import Derived.Test.YtmclgbkijeidaaaGreatDoorUoL
import Derived.Recover
import Derived.Defers
namespace Go.Proofs.YtmclgbkijeidaaaGreatDoor
set_option maxRecDepth 100000
open Go.RowKit
def cm (m:Nat) (r:Rs Pt) (p:Nat):Prop:=match r with | .ok t q=>cntP t+m * p<=m * q|_=>True
def dm (m:Nat) (r:Rs (List Pt)) (c p:Nat):Prop:=match r with | .ok l q=>cntL l+m * p<=c+m * q|_=>True
section
variable {ts:List Tok}{m:Nat}
theorem zd1 {t:Pt}{p q:Nat}(h:cntP t+m * p<=m * q):cm m (.ok t q) p:=h
theorem zkx {l:List Pt}{c p q:Nat}(h:cntL l+m * p<=c+m * q):dm m (.ok l q) c p:=h
theorem zbu {b:Bool}{s:Int}{k:Rs Pt}{p:Nat}(h:cm m k p):cm m (Rs.need b s k) p:=by unfold Rs.need;split;exact h;trivial
theorem zf2 {b:Bool}{s:Int}{k:Rs (List Pt)}{c p:Nat}(h:dm m k c p):dm m (Rs.need b s k) c p:=by unfold Rs.need;split;exact h;trivial
theorem zci {c:Prop} [Decidable c] {a b:Rs Pt}{p:Nat}(h:cm m a p)(h':cm m b p):cm m (if c then a else b) p:=by split;exact h;exact h'
theorem zhc {c:Prop} [Decidable c] {a b:Rs (List Pt)}{k p:Nat}(h:dm m a k p)(h':dm m b k p):dm m (if c then a else b) k p:=by split;exact h;exact h'
theorem zb9 {m':Nat}{x:Rs Pt}{f:Pt->Nat->Rs Pt}{p p':Nat}(h:cm m' x p')(hf:∀ t q,cntP t+m' * p'<=m' * q->cm m (f t q) p):cm m (x.bind f) p:=by
 cases x with
 | ok t q=>exact hf t q h
 | bad s=>trivial
 | out=>trivial
theorem zgb {m' c:Nat}{x:Rs (List Pt)}{f:List Pt->Nat->Rs Pt}{p p':Nat}(h:dm m' x c p')(hf:∀ l q,cntL l+m' * p'<=c+m' * q->cm m (f l q) p):cm m (x.bind f) p:=by
 cases x with
 | ok t q=>exact hf t q h
 | bad s=>trivial
 | out=>trivial
theorem zgr {m' c:Nat}{x:Rs Pt}{f:Pt->Nat->Rs (List Pt)}{p p':Nat}(h:cm m' x p')(hf:∀ t q,cntP t+m' * p'<=m' * q->dm m (f t q) c p):dm m (x.bind f) c p:=by
 cases x with
 | ok t q=>exact hf t q h
 | bad s=>trivial
 | out=>trivial
theorem zom {m' c c':Nat}{x:Rs (List Pt)}{f:List Pt->Nat->Rs (List Pt)}{p p':Nat}(h:dm m' x c' p')(hf:∀ l q,cntL l+m' * p'<=c'+m' * q->dm m (f l q) c p):dm m (x.bind f) c p:=by
 cases x with
 | ok t q=>exact hf t q h
 | bad s=>trivial
 | out=>trivial
theorem zl1 {x:Rs Pt}{p:Nat}(h:cm 1 x p)(ha:ad x p):cm 2 x p:=by
 cases x with
 | ok t q=>
  have y:cntP t+1 * p<=1 * q:=h;have A:p<=q:=ha;show cntP t+2 * p<=2 * q;omega
 | bad s=>trivial
 | out=>trivial
theorem zvy (k:Int)(p:Nat):cm 1 (leaP ts k p) p:=by
 show cntP (.mk _ _ _ _ _ _ [])+1 * p<=1 * (p+1);rw[cntP,cntL];omega
theorem zyw (k:Int)(p:Nat):cm 1 (worP ts k p) p:=zbu (zvy k p)
theorem zyx (p:Nat):cm 1 (va1P ts p) p:=by
 unfold va1P;refine zci (zd1 ?_) (zci (zd1 ?_) (zci (zvy _ _) trivial)) <;> (rw[cntP,cntL];omega)
theorem z34 (p:Nat):cm 1 (valP ts p) p:=by
 unfold valP;refine zci (zci (zb9 (zyx _) fun v q h=>zd1 ?_) trivial) (zyx _);rw[cntP,cntL,cntL];omega
theorem zyy (p:Nat):cm 1 (typP ts p) p:=by
 unfold typP;refine zci (zvy _ _) (zci (zb9 (zyw _ _) fun v q h=>zbu (zbu (zd1 ?_))) (zyw _ _));rw[cntP,cntL,cntL];omega
theorem zyz (k:Int)(p:Nat):cm 1 (tydP ts k p) p:=by
 unfold tydP;refine zbu (zb9 (zyy _) fun v q h=>zd1 ?_);rw[cntP,cntL,cntL];omega
theorem z4a (p:Nat):cm 1 (impP ts p) p:=by
 unfold impP;refine zbu (zbu (zd1 ?_));rw[cntP,cntL];omega
theorem z4b (p:Nat):cm 1 (conP ts p) p:=by
 unfold conP;refine zbu (zbu (zbu (zb9 (z34 _) fun v q h=>zd1 ?_)));rw[cntP,cntL,cntL];omega
theorem z4c (p:Nat):cm 1 (recP ts p) p:=by
 unfold recP;refine zbu (zb9 (zyw _ _) fun v q h=>zd1 ?_);rw[cntP,cntL,cntL];omega
theorem zdl:∀ a b:List Pt,cntL (a++b)=cntL a+cntL b
 | [],b=>by simp[cntL]
 | t::a,b=>by rw[List.cons_append,cntL,cntL,zdl a b,Nat.add_assoc]
theorem zdm (t:Pt):cntL [t]=cntP t:=by rw[cntL,cntL];rfl
theorem zl2 {x:Rs (List Pt)}{c c' p p':Nat}(h:dm m x c p)(hc:c+m * p'<=c'+m * p):dm m x c' p':=by
 cases x with
 | ok l q=>
  have y:cntL l+m * p<=c+m * q:=h;show cntL l+m * p'<=c'+m * q;omega
 | bad s=>trivial
 | out=>trivial
structure CnA (ts:List Tok) (n:Nat):Prop where
 bin:∀ l p,cm 1 ((fns ts n).bin l p) p
 binL:∀ l fr t p p0,cntP t+p0<=p->cm 1 ((fns ts n).binL l fr t p) p0
 una:∀ p,cm 1 ((fns ts n).una p) p
 post:∀ p,cm 1 ((fns ts n).post p) p
 posL:∀ fr t p p0,cntP t+p0<=p->cm 1 ((fns ts n).posL fr t p) p0
 prim:∀ p,cm 1 ((fns ts n).prim p) p
 argL:∀ l p,dm 1 ((fns ts n).argL l p) (cntL l) p
 parL:∀ l p,dm 1 ((fns ts n).parL l p) (cntL l) p
 fieL:∀ l p,dm 1 ((fns ts n).fieL l p) (cntL l) p
 stmt:∀ p,cm 2 ((fns ts n).stmt p) p
 bran:∀ p,cm 2 ((fns ts n).bran p) p
 stmL:∀ l p,dm 2 ((fns ts n).stmL l p) (cntL l) p
 impL:∀ l p,dm 1 ((fns ts n).impL l p) (cntL l) p
 decL:∀ l p,dm 2 ((fns ts n).decL l p) (cntL l) p
theorem z06 {one:Nat->Rs Pt}{more:List Pt->Nat->Rs (List Pt)}{p:Nat}(h1:∀ p,cm 1 (one p) p)(h2:∀ l q,dm 1 (more l q) (cntL l) q):dm 1 (lisP ts one more p) 0 (p+1):=by
 unfold lisP;refine zf2 (zhc (zkx ?_) (zgr (h1 _) fun v q h=>zom (h2 _ _) fun l A y=>zf2 (zkx ?_)))
 ·rw[cntL];omega
 ·rw[zdm] at y;omega
theorem z07 {more:List Pt->Nat->Rs (List Pt)}{p:Nat}(h2:∀ l q,dm m (more l q) (cntL l) q)(hm:1<=m∧m<=2):dm m (linP ts more p) 0 (p+1):=by
 unfold linP;refine zf2 (zom (h2 _ _) fun l A y=>zf2 (zkx ?_));rw[cntL] at y;rcases(show m=1∨m=2 by omega) with rfl|rfl <;> omega
theorem zpz {n:Nat}(h:CnA ts n)(p:Nat):cm 2 (bloP ts (fns ts n) p) p:=by
 unfold bloP;refine zgb (z07 h.stmL ⟨by omega,by omega⟩) fun l q y=>zd1 ?_;rw[cntP];omega
theorem z08 {n:Nat}(h:CnA ts n)(p:Nat):cm 1 (varP ts (fns ts n) p) p:=by
 unfold varP;refine zbu (zbu (zb9 (zyy _) fun v q y=>zci (zb9 (h.bin _ _) fun x A C=>zd1 ?_) (zd1 ?_)))
 ·rw[cntP,cntL,cntL,cntL];omega
 ·rw[cntP,cntL,cntL];omega
theorem z4d {n:Nat}(h:CnA ts n)(p:Nat):cm 2 (decP ts (fns ts n) p) p:=by
 have y:∀ A l q,cntL l+2 * p<=2 * q->1+p<=q->cm 2 (funR ts (fns ts n) A l q) p:=fun A l q E C=>by
  unfold funR;refine zbu (zgb (z06 (zyz 9) h.parL) fun M D U=>zci (zb9 (zpz h _) fun b I K=>zd1 ?_) (zb9 (zyy _) fun v I F=>zb9 (zpz h _) fun b q3 K=>zd1 ?_))
  ·rw[cntP,zdl,zdl,zdm];omega
  ·rw[cntP,zdl,zdl,zdl,zdm,zdm];omega
 unfold decP;refine zci (zl1 (z4b p) (zb5 (zry p) (by omega))) (zci (zl1 (z08 h p) ?_) (zci ?_ (zci ?_ trivial)))
 ·unfold varP;exact zcr (by simp) fun _=>zex fun _=>zax (zil _) fun v q C=>zbd (fun _=>zax ((adA (ts:=ts) n).bin _ _) fun x D N=>zc2 (by omega)) fun _=>zc2 (by omega)
 ·unfold strP;refine zbu (zbu (zbu (zgb (z07 h.fieL ⟨by omega,by omega⟩) fun l q E=>zd1 ?_)));rw[cntP];omega
 ·unfold funP;refine zbu (zci (zb9 (z4c _) fun v q F=>zbu (y _ _ _ ?_ ?_)) (y _ _ _ ?_ ?_))
  ·rw[zdm];omega
  ·have:=zd3 v;omega
  ·rw[cntL];omega
  ·omega
theorem cnA (n:Nat):CnA ts n:=by
 induction n with
 | zero=>constructor <;> (intros;trivial)
 | succ n ih=>
  constructor
  ·intro l p;exact zci (ih.una _) (zb9 (ih.bin _ _) fun t q h=>ih.binL _ _ _ _ _ (by omega))
  ·intro l I t p N h;refine zci (zb9 (ih.bin _ _) fun u q M=>zci (zd1 ?_) (ih.binL _ _ _ _ _ ?_)) (zd1 (by omega))
   ·rw[cntP,cntL,cntL,cntL];omega
   ·rw[cntP,cntL,cntL,cntL];omega
  ·intro p;refine zci (zb9 (ih.una _) fun u q M=>zd1 ?_) (ih.post _);rw[cntP,cntL,cntL];omega
  ·intro p;exact zb9 (ih.prim _) fun t q h=>ih.posL _ _ _ _ (by omega)
  ·intro I t p N h;refine zci (zbu (ih.posL _ _ _ _ ?_)) (zci (zgb (z06 (ih.bin 0) ih.argL) fun l q V=>ih.posL _ _ _ _ ?_) (zd1 (by omega)))
   ·rw[cntP,cntL,cntL];omega
   ·rw[cntP,zdl,zdm];omega
  ·intro p;refine zci (zb9 (ih.bin _ _) fun t q h=>zbu (zd1 ?_)) (zci (zvy _ _) (zyx _));omega
  ·intro l p;refine zhc (zgr (ih.bin _ _) fun t q h=>?_) (zkx (by omega));have A:=ih.argL (l++[t]) q;rw[zem] at A;exact zl2 A (by omega)
  ·intro l p;refine zhc (zgr (zyz _ _) fun t q h=>?_) (zkx (by omega));have A:=ih.parL (l++[t]) q;rw[zem] at A;exact zl2 A (by omega)
  ·intro l p;refine zhc (zkx (by omega)) (zgr (zyz _ _) fun t q h=>?_);have A:=ih.fieL (l++[t]) q;have C:=ih.fieL (l++[t]) (q+1);rw[zem] at A C;exact zhc (zl2 A (by omega)) (zf2 (zl2 C (by omega)))
  ·intro p;have D:∀ q,cm 2 ((fns ts n).bin 0 q) q:=fun q=>zl1 (ih.bin 0 q) (zb5 ((adA (ts:=ts) n).bin 0 q) (by omega));refine zci (zpz ih p) (zci (zl1 (z08 ih p) ?_) (zci (ih.bran _) (zci ?_ (zci ?_ (zci ?_ ?_)))))
   ·unfold varP;exact zcr (by simp) fun _=>zex fun _=>zax (zil _) fun v q U=>zbd (fun _=>zax ((adA (ts:=ts) n).bin _ _) fun x F Z=>zc2 (by omega)) fun _=>zc2 (by omega)
   ·unfold looP;refine zbu (zb9 (D _) fun x q E=>zb9 (zpz ih _) fun b F K=>zd1 ?_);rw[cntP,cntL,cntL,cntL];omega
   ·unfold resP;refine zbu (zci (zb9 (D _) fun x q E=>zd1 ?_) (zd1 ?_))
    ·rw[cntP,cntL,cntL];omega
    ·rw[cntP,cntL];omega
   ·unfold shoP;refine zbu (zbu (zb9 (D _) fun x q E=>zd1 ?_));rw[cntP,cntL,cntL];omega
   ·unfold simP;refine zb9 (ih.bin 0 p) fun x q E=>zci (zb9 (ih.bin 0 _) fun y F X=>zd1 ?_) (zd1 ?_)
    ·have:=zd3 x;rw[cntP,cntL,cntL,cntL];omega
    ·have:=zd3 x;rw[cntP,cntL,cntL];omega
  ·intro p;have D:∀ q,cm 2 ((fns ts n).bin 0 q) q:=fun q=>zl1 (ih.bin 0 q) (zb5 ((adA (ts:=ts) n).bin 0 q) (by omega));refine zbu (zb9 (D _) fun x q E=>zb9 (zpz ih _) fun b F K=>zci (zb9 (zci (ih.bran _) (zpz ih _)) fun c Y hc=>zd1 ?_) (zd1 ?_))
   ·rw[cntP,cntL,cntL,cntL,cntL];omega
   ·rw[cntP,cntL,cntL,cntL];omega
  ·intro l p;refine zhc (zkx (by omega)) (zgr (ih.stmt _) fun t q h=>?_);have A:=ih.stmL (l++[t]) q;have C:=ih.stmL (l++[t]) (q+1);rw[zem] at A C;exact zhc (zl2 A (by omega)) (zf2 (zl2 C (by omega)))
  ·intro l p;refine zhc (zgr (z4a _) fun t q h=>zf2 ?_) (zkx (by omega));have C:=ih.impL (l++[t]) (q+1);rw[zem] at C;exact zl2 C (by omega)
  ·intro l p;refine zhc (zgr (z4d ih _) fun t q h=>zf2 ?_) (zkx (by omega));have C:=ih.decL (l++[t]) (q+1);rw[zem] at C;exact zl2 C (by omega)
theorem zr9 {t:Pt}{q:Nat}(h:filO ts=.ok t q):cntP t<=2 * q:=by
 have y:cm 2 (filO ts) 0:=by
  unfold filO filP;refine zbu (zbu (zbu (zgb ((cnA _).impL [] _) fun l q D=>zgb ((cnA _).decL l _) fun l' A C=>zd1 ?_)));have E:cntL []=0:=by rw[cntL]
  rw[cntP];omega
 rw[h] at y;have F:cntP t+2 * 0<=2 * q:=y;omega
end
set_option maxHeartbeats 4000000
section
variable {P:Program}{ops:Array Oper}{Q:Exit->Act->List Frame->World->Prop}{i:Nat}{rest:List Nat}{a:Act}{cs cs':List Frame}{w w':World}{o:Oper}{v:Value}
structure WpO (P:Program) (ops:Array Oper) (Q:Exit->Act->List Frame->World->Prop) (l:List Nat) (a:Act) (cs:List Frame) (w:World):Prop where
 out:wpOpsS P ops Q l a cs w
theorem zon (h:Q .normal a cs w):WpO P ops Q [] a cs w:=⟨h⟩
def oAt (ops:Array Oper) (i:Nat):Oper:=(ops[i]?).getD ((ops[0]?).getD ⟨none,.move (.tmp 0),0,"",#[],none⟩)
theorem zh8 (h:(ops[i]?).isSome=true):ops[i]?=some (oAt ops i):=by
 unfold oAt
 cases hh:ops[i]? with
 | none=>rw[hh] at h;cases h
 | some o=>rfl
theorem zcq (a':Act)(v:Value)(w':World)(ho:(ops[i]?).isSome=true)(hw:Region.wanted (oAt ops i) (yielded ops a.tmps)=true)(hr:(execOp a.eval (oAt ops i)).run P w=.ok (.value v) w')(ha:a.put (oAt ops i).dst v=a')(h:WpO P ops Q rest a' cs w'):WpO P ops Q (i::rest) a cs w:=by
 refine⟨?_⟩;rw[wpOpsS,zh8 ho];simp only[hw,hr,if_true];rw[<-ha] at h;exact h.out
theorem zsa (a':Act)(w':World)(ho:(ops[i]?).isSome=true)(hw:Region.wanted (oAt ops i) (yielded ops a.tmps)=true)(hr:(execOp a.eval (oAt ops i)).run P w=.ok .skip w')(ha:a.put (oAt ops i).dst undef=a')(h:WpO P ops Q rest a' cs w'):WpO P ops Q (i::rest) a cs w:=by
 refine⟨?_⟩;rw[wpOpsS,zh8 ho];simp only[hw,hr,if_true];rw[<-ha] at h;exact h.out
theorem zl3 (a':Act)(v:Value)(cs':List Frame)(ho:(ops[i]?).isSome=true)(hw:Region.wanted (oAt ops i) (yielded ops a.tmps)=true)(hr:(execOp a.eval (oAt ops i)).run P w=.ok .recover w)(hc:recoverD cs=some (v,cs'))(ha:a.put (oAt ops i).dst v=a')(h:WpO P ops Q rest a' cs' w):WpO P ops Q (i::rest) a cs w:=by
 refine⟨?_⟩;rw[wpOpsS,zh8 ho];simp only[hw,hr,hc,if_true];rw[<-ha] at h;exact h.out
theorem zsb (a':Act)(ho:(ops[i]?).isSome=true)(hw:Region.wanted (oAt ops i) (yielded ops a.tmps)=true)(hr:(execOp a.eval (oAt ops i)).run P w=.ok .recover w)(hc:recoverD cs=none)(ha:a.put (oAt ops i).dst .nilIface=a')(h:WpO P ops Q rest a' cs w):WpO P ops Q (i::rest) a cs w:=by
 refine⟨?_⟩;rw[wpOpsS,zh8 ho];simp only[hw,hr,hc,if_true];rw[<-ha] at h;exact h.out
theorem zjo (a':Act)(ty:TypeId)(x y:Operand)(g:Nat)(cells:Array Value)(t:TypeId)(old:Array Value)(ho:(ops[i]?).isSome=true)(hw:Region.wanted (oAt ops i) (yielded ops a.tmps)=true)(hop:(oAt ops i).op=.store ty x y)(hx:a.eval x=.pointer (some ⟨g,0,none⟩))(hy:a.eval y=.agg cells)
  (hg:w.heap[g]?=some (.cells old t (0,0))) (hi:(P.info? ty).map (·.size)=some cells.size) (hold:old.size=cells.size) (h1:cells.all (·.oneCell')=true) (ha:a.put (oAt ops i).dst undef=a')
  (h:WpO P ops Q rest a' cs (w.setRow g cells)):WpO P ops Q (i::rest) a cs w :=
 zsa a' (w.setRow g cells) ho hw (by
  unfold execOp;simp only[hop,hx,hy,Instr.storeAt,Instr.sureAddr,Sem.run_bind,Sem.run_pure,Result.andThen_ok,run_storeVar_row w g t ty old cells hg hi hold h1]) ha h
end
theorem zm8 (k:Nat)(s z0 z1:Int)(older:List PanicEntry)(w:World)(hk:w.heap[k]?=some (.cells #[.int .i64 z0,.int .i64 z1] 28 (0,0))) :
  CallsD Tryz.prog 52 #[.pointer (some ⟨k,0,none⟩)] (.panicking ({ v:=.iface 88 (.agg (wroC s)),recovered:=false }::older)) w fun e u' w'=>
   e=.returned (.tuple #[])∧u'=.panicking ({ v:=.iface 88 (.agg (wroC s)),recovered:=true }::older)∧w'.heap[k]?=some (.cells (wroC s) 28 (0,0))∧w.grownBy w' (some k):=by
 refine callsD_of_wpS Tryz.func52 rfl fun M cs N=>?_;apply wpS_seq;apply wpS_region;rw[Tryz.ntmps52];refine WpO.out ?_;show WpO _ _ _ [0,1,2,3,4,5,6,7] ⟨#[.pointer (some ⟨k,0,none⟩),undef,undef,undef,undef,undef,undef,undef,undef,undef,undef],[]⟩ _ _;refine zl3 ⟨#[.pointer (some ⟨k,0,none⟩),undef,undef,undef,.iface 88 (.agg (wroC s)),undef,undef,undef,undef,undef,undef],[]⟩ (.iface 88 (.agg (wroC s))) ({ M with mode:=.panicking ({ v:=.iface 88 (.agg (wroC s)),recovered:=true }::older) }::cs) (by kernel_rfl) (by kernel_rfl) (by kernel_rfl) (by simp[recoverD,N]) (by kernel_rfl) ?_;refine zcq ⟨#[.pointer (some ⟨k,0,none⟩),undef,undef,undef,.iface 88 (.agg (wroC s)),.tuple #[.agg (wroC s),.bool true],undef,undef,undef,undef,undef],[]⟩ (.tuple #[.agg (wroC s),.bool true]) w (by kernel_rfl) (by kernel_rfl) (by kernel_rfl) (by kernel_rfl) ?_;refine zcq ⟨#[.pointer (some ⟨k,0,none⟩),undef,undef,.tuple #[.agg (wroC s),.bool true],.iface 88 (.agg (wroC s)),.tuple #[.agg (wroC s),.bool true],undef,undef,undef,undef,undef],[]⟩ (.tuple #[.agg (wroC s),.bool true]) w (by kernel_rfl) (by kernel_rfl) (by kernel_rfl) (by kernel_rfl) ?_;refine zcq ⟨#[.pointer (some ⟨k,0,none⟩),undef,undef,.tuple #[.agg (wroC s),.bool true],.iface 88 (.agg (wroC s)),.tuple #[.agg (wroC s),.bool true],.agg (wroC s),undef,undef,undef,undef],[]⟩ (.agg (wroC s)) w (by kernel_rfl) (by kernel_rfl) (by kernel_rfl) (by kernel_rfl) ?_;refine zcq ⟨#[.pointer (some ⟨k,0,none⟩),undef,undef,.tuple #[.agg (wroC s),.bool true],.iface 88 (.agg (wroC s)),.tuple #[.agg (wroC s),.bool true],.agg (wroC s),.bool true,undef,undef,undef],[]⟩ (.bool true) w (by kernel_rfl) (by kernel_rfl) (by kernel_rfl) (by kernel_rfl) ?_;refine zcq ⟨#[.pointer (some ⟨k,0,none⟩),.pointer (some ⟨w.heap.size,0,none⟩),undef,.tuple #[.agg (wroC s),.bool true],.iface 88 (.agg (wroC s)),.tuple #[.agg (wroC s),.bool true],.agg (wroC s),.bool true,undef,undef,undef],[]⟩ (.pointer (some ⟨w.heap.size,0,none⟩)) (w.alloc (.cells #[.int .i64 0,.int .i64 0] 88)) (by kernel_rfl) (by kernel_rfl) (by kernel_rfl) (by kernel_rfl) ?_
 have E:=Yd w (.cells #[.int .i64 0,.int .i64 0] 88);have F:Below w.heap.size w (w.alloc (.cells #[.int .i64 0,.int .i64 0] 88)):=(Yb _ _).alloc (Ya _) _;generalize w.alloc (.cells #[.int .i64 0,.int .i64 0] 88)=X at E F ⊢;refine zjo ⟨#[.pointer (some ⟨k,0,none⟩),.pointer (some ⟨w.heap.size,0,none⟩),undef,.tuple #[.agg (wroC s),.bool true],.iface 88 (.agg (wroC s)),.tuple #[.agg (wroC s),.bool true],.agg (wroC s),.bool true,undef,undef,undef],[]⟩ 88 (.tmp 1) (.tmp 6) w.heap.size (wroC s) 88 _ (by kernel_rfl) (by kernel_rfl) (by kernel_rfl) (by kernel_rfl) (by kernel_rfl) E (by kernel_rfl) rfl (by simp[wroC,Value.oneCell']) (by kernel_rfl) ?_;have D:=zad (cs:=wroC s) E;have y:Below w.heap.size w (X.setRow w.heap.size (wroC s)):=zak F (Ya _) _;generalize X.setRow w.heap.size (wroC s)=Y at D y ⊢;refine zcq ⟨#[.pointer (some ⟨k,0,none⟩),.pointer (some ⟨w.heap.size,0,none⟩),.bool true,.tuple #[.agg (wroC s),.bool true],.iface 88 (.agg (wroC s)),.tuple #[.agg (wroC s),.bool true],.agg (wroC s),.bool true,undef,undef,undef],[]⟩ (.bool true) Y (by kernel_rfl) (by kernel_rfl) (by kernel_rfl) (by kernel_rfl) ?_;have A:Y.heap[k]?=some (.cells #[.int .i64 z0,.int .i64 z1] 28 (0,0)):=(y.block _ (zaa hk)).trans hk;have aa:=zaa hk;have c0:Y.cell? ⟨w.heap.size,0,none⟩=some (.int .i64 210):=Yp 0 D rfl;have c1:Y.cell? ⟨w.heap.size,1,none⟩=some (.int .i64 s):=Yp 1 D rfl;have d0:Y.cell? ⟨k,0,none⟩=some (.int .i64 z0):=Yp 0 A rfl;have d1:Y.cell? ⟨k,1,none⟩=some (.int .i64 z1):=Yp 1 A rfl;have f0:Y.frozen? ⟨k,0,none⟩=false:=Yj _ _ _ _ _ A;have Z:Y.frozen? ⟨k,1,none⟩=false:=Yj _ _ _ _ _ A;have K:Hid (((Y.setCell ⟨k,0,none⟩ (.int .i64 210)).setCell ⟨k,1,none⟩ (.int .i64 s)).heap[k]?=some (.cells (wroC s) 28 (0,0))):=Yf _ _ 1 _ _ _ (Yf _ _ 0 _ _ _ A);have V:Hid (w.grownBy ((Y.setCell ⟨k,0,none⟩ (.int .i64 210)).setCell ⟨k,1,none⟩ (.int .i64 s)) (some k)):=by
  have C:=((Yb 0 Y).setCell (p:=⟨k,0,none⟩) (Yk _) (.int .i64 210)).setCell (p:=⟨k,1,none⟩) (Yk _) (.int .i64 s);exact⟨C.os.trans y.os,C.tape.trans y.tape,C.output.trans y.output,Yo y.size C.size,fun j U I=>(Ye _ _ _ _ (fun e=>I (by rw[show j=k from e]))).trans ((Ye _ _ _ _ (fun e=>I (by rw[show j=k from e]))).trans (y.block j U))⟩
 clear E F D y A;refine zon ?_;show Code.wpS _ _ _ _ _ _;refine wpS_of_wp ?_
 go_wp2
 exact⟨rfl,_,rfl,_,by kernel_rfl,rfl,rfl,K,V⟩
theorem zp0 (k:Nat)(w:World) :
  CallsD Tryz.prog 52 #[.pointer (some ⟨k,0,none⟩)] .returning w fun e u' w'=>
   e=.returned (.tuple #[])∧u'=.returning∧Below w.heap.size w w':=by
 refine callsD_of_wpS Tryz.func52 rfl fun F cs D=>?_;apply wpS_seq;apply wpS_region;rw[Tryz.ntmps52];refine WpO.out ?_;show WpO _ _ _ [0,1,2,3,4,5,6,7] ⟨#[.pointer (some ⟨k,0,none⟩),undef,undef,undef,undef,undef,undef,undef,undef,undef,undef],[]⟩ _ _;refine zsb ⟨#[.pointer (some ⟨k,0,none⟩),undef,undef,undef,.nilIface,undef,undef,undef,undef,undef,undef],[]⟩ (by kernel_rfl) (by kernel_rfl) (by kernel_rfl) (by simp[recoverD,D]) (by kernel_rfl) ?_;refine zcq ⟨#[.pointer (some ⟨k,0,none⟩),undef,undef,undef,.nilIface,.tuple #[.agg #[.int .i64 0,.int .i64 0],.bool false],undef,undef,undef,undef,undef],[]⟩ (.tuple #[.agg #[.int .i64 0,.int .i64 0],.bool false]) w (by kernel_rfl) (by kernel_rfl) (by kernel_rfl) (by kernel_rfl) ?_;refine zcq ⟨#[.pointer (some ⟨k,0,none⟩),undef,undef,.tuple #[.agg #[.int .i64 0,.int .i64 0],.bool false],.nilIface,.tuple #[.agg #[.int .i64 0,.int .i64 0],.bool false],undef,undef,undef,undef,undef],[]⟩ (.tuple #[.agg #[.int .i64 0,.int .i64 0],.bool false]) w (by kernel_rfl) (by kernel_rfl) (by kernel_rfl) (by kernel_rfl) ?_;refine zcq ⟨#[.pointer (some ⟨k,0,none⟩),undef,undef,.tuple #[.agg #[.int .i64 0,.int .i64 0],.bool false],.nilIface,.tuple #[.agg #[.int .i64 0,.int .i64 0],.bool false],.agg #[.int .i64 0,.int .i64 0],undef,undef,undef,undef],[]⟩ (.agg #[.int .i64 0,.int .i64 0]) w (by kernel_rfl) (by kernel_rfl) (by kernel_rfl) (by kernel_rfl) ?_;refine zcq ⟨#[.pointer (some ⟨k,0,none⟩),undef,undef,.tuple #[.agg #[.int .i64 0,.int .i64 0],.bool false],.nilIface,.tuple #[.agg #[.int .i64 0,.int .i64 0],.bool false],.agg #[.int .i64 0,.int .i64 0],.bool false,undef,undef,undef],[]⟩ (.bool false) w (by kernel_rfl) (by kernel_rfl) (by kernel_rfl) (by kernel_rfl) ?_;refine zcq ⟨#[.pointer (some ⟨k,0,none⟩),.pointer (some ⟨w.heap.size,0,none⟩),undef,.tuple #[.agg #[.int .i64 0,.int .i64 0],.bool false],.nilIface,.tuple #[.agg #[.int .i64 0,.int .i64 0],.bool false],.agg #[.int .i64 0,.int .i64 0],.bool false,undef,undef,undef],[]⟩ (.pointer (some ⟨w.heap.size,0,none⟩)) (w.alloc (.cells #[.int .i64 0,.int .i64 0] 88)) (by kernel_rfl) (by kernel_rfl) (by kernel_rfl) (by kernel_rfl) ?_
 have A:=Yd w (.cells #[.int .i64 0,.int .i64 0] 88);have C:Below w.heap.size w (w.alloc (.cells #[.int .i64 0,.int .i64 0] 88)):=(Yb _ _).alloc (Ya _) _;generalize w.alloc (.cells #[.int .i64 0,.int .i64 0] 88)=X at A C ⊢;refine zjo ⟨#[.pointer (some ⟨k,0,none⟩),.pointer (some ⟨w.heap.size,0,none⟩),undef,.tuple #[.agg #[.int .i64 0,.int .i64 0],.bool false],.nilIface,.tuple #[.agg #[.int .i64 0,.int .i64 0],.bool false],.agg #[.int .i64 0,.int .i64 0],.bool false,undef,undef,undef],[]⟩ 88 (.tmp 1) (.tmp 6) w.heap.size #[.int .i64 0,.int .i64 0] 88 _ (by kernel_rfl) (by kernel_rfl) (by kernel_rfl) (by kernel_rfl) (by kernel_rfl) A (by kernel_rfl) rfl (by simp[Value.oneCell']) (by kernel_rfl) ?_;have y:Below w.heap.size w (X.setRow w.heap.size #[.int .i64 0,.int .i64 0]):=zak C (Ya _) _;generalize X.setRow w.heap.size #[.int .i64 0,.int .i64 0]=Y at y ⊢;refine zcq ⟨#[.pointer (some ⟨k,0,none⟩),.pointer (some ⟨w.heap.size,0,none⟩),.bool false,.tuple #[.agg #[.int .i64 0,.int .i64 0],.bool false],.nilIface,.tuple #[.agg #[.int .i64 0,.int .i64 0],.bool false],.agg #[.int .i64 0,.int .i64 0],.bool false,undef,undef,undef],[]⟩ (.bool false) Y (by kernel_rfl) (by kernel_rfl) (by kernel_rfl) (by kernel_rfl) ?_;have E:=J y;clear A C y;refine zon ?_;show Code.wpS _ _ _ _ _ _;refine wpS_of_wp ?_
 go_wp2
 refine⟨rfl,.returning,?_,_,by kernel_rfl,rfl,rfl,E⟩
 cases F
 cases D
 rfl
theorem zcl {P:Program}{fn:Func}{p q:Tmp}{ty ty2:TypeId}(h:fn.results=#[.cell p ty,.cell q ty2])(tmps:Array Value)(w:World)(g g2:Nat)(t t2:TypeId)(cs cs2:Array Value)(fr fr2:Nat × Nat)(d d2:TypeDesc)
  (hp:tmps.getD p undef=.pointer (some ⟨g,0,none⟩)) (hq:tmps.getD q undef=.pointer (some ⟨g2,0,none⟩)) (hg:w.heap[g]?=some (.cells cs t fr)) (hg2:w.heap[g2]?=some (.cells cs2 t2 fr2))
  (hu:P.underlying ty=some d) (hd:(match d with | .struct _ | .array _ _=>true|_=>false)=true) (hi:(P.info? ty).map (·.size)=some cs.size)
  (hu2:P.underlying ty2=some d2) (hd2:(match d2 with | .struct _ | .array _ _=>true|_=>false)=true) (hi2:(P.info? ty2).map (·.size)=some cs2.size) :
  (results fn tmps).run P w=.ok (.tuple #[.agg cs,.agg cs2]) w:=by
 have A:tmps[p]?.getD undef=.pointer (some ⟨g,0,none⟩):=by simpa using hp
 have y:tmps[q]?.getD undef=.pointer (some ⟨g2,0,none⟩):=by simpa using hq
 simp[results,h,A,y,asAddr,run_loadVar_row w g t ty cs fr d hg hu hd hi,run_loadVar_row w g2 t2 ty2 cs2 fr2 d2 hg2 hu2 hd2 hi2]
theorem TrAt.other {B:Nat}{w:World}{v:Value}{L:List Nd}(h:TrAt B w v L){k:Nat}{old:Array Value}{t:TypeId}(hk:w.heap[k]?=some (.cells old t (0,0)))(ht:t=25∨t=28)(hB:k<B)(i:Nat)(x:Value):TrAt B (w.setCell ⟨k,i,none⟩ x) v L:=by
 obtain⟨N,S,C,E,A⟩:=h;refine⟨N,S,C.keep fun q D=>Ye _ _ _ _ fun e=>?_,E.keep (fun _ h=>h) fun j y=>Ye _ _ _ _ fun e=>?_,fun j y=>⟨(A j y).1,by simp;exact(A j y).2⟩⟩
 ·exact C.ne hk (by rcases ht with rfl|rfl <;> decide) (by rw[D,show q=k from e])
 ·have F:j=k:=e;have:=(A j y).1;omega
def RdP (w:World) (ts:List Tok) (e:Ending) (w':World):Prop :=
 Below w.heap.size w w'∧match filO ts with
   | .ok t _=>cntP t<=400000∧∃ v,e=.returned (.tuple #[.agg #[v],.agg #[.int .i64 0,.int .i64 0]])∧TrAt w.heap.size w' v (layP 0 t)
   | .bad s=>e=.returned (.tuple #[.agg #[.slice none 0 0],.agg (wroC s)])
   | .out=>False
theorem zky (w:World)(st:Option Addr)(cap:Nat)(ts:List Tok)(few:ts.length<=100000)(ok:∀ t ∈ ts,-1000000000000000000<=t.pos∧t.pos<=1000000000000000000∧t.text.size<=100000)
  (henv:∀ W:World,(∀ k,k<w.heap.size->W.heap[k]?=w.heap[k]?)->RowsT W st ts∧Tabl W) :
  Calls Tryz.prog 29 #[.slice st ts.length cap] w (RdP w ts):=by
 have ah:=J henv;have aj:Hid (∀ t ∈ ts,-1000000000000000000<=t.pos∧t.pos<=1000000000000000000∧t.text.size<=100000):=ok;clear henv ok;have am:∀ (fn:Fn) (first cap:Array Value) (w:World),(Instr.makeFunc fn first cap).run Tryz.prog w=.ok (.func fn first cap) w:=fun _ _ _ _=>rfl
 go_enter_defers Tryz.func29,Tryz.ntmps29
 go_wp2_with fail
 refine zag (fun W=>W.heap[w.heap.size]?=some (.cells #[.slice none 0 0] 25 (0,0))∧W.heap[w.heap.size+1]?=some (.cells #[.int .i64 0,.int .i64 0] 28 (0,0))∧W.heap[w.heap.size+1+1]?=some (.cells #[.slice st ts.length cap,.int .i64 0] 91 (0,0))∧Below w.heap.size w W) ?_ ?_
 ·have n0:=Yd w (.cells #[.slice none 0 0] 25);have n1:=Yd (w.alloc (.cells #[.slice none 0 0] 25)) (.cells #[.int .i64 0,.int .i64 0] 28);have n2:=Yd ((w.alloc (.cells #[.slice none 0 0] 25)).alloc (.cells #[.int .i64 0,.int .i64 0] 28)) (.cells #[.slice st ts.length cap,.int .i64 0] 91);simp only[World.size_alloc] at n1 n2;exact⟨(Yn _ _ _ (by simp;try omega)).trans ((Yn _ _ _ (by simp)).trans n0),(Yn _ _ _ (by simp)).trans n1,n2,(((Yb _ _).alloc (Ya _) _).alloc (by simp) _).alloc (by simp;try omega) _⟩
 rintro W ⟨hz,hs,A,M⟩;have an:w.heap.size+1+1<W.heap.size:=zaa A;have hR:Rdr (w.heap.size+1+1+1) W (w.heap.size+1+1) st cap ts 0:=⟨A,Yk _,few,aj.out,by omega,by omega,fun W' ai=>ah.out W' fun k V=>(ai k (by omega) (by omega)).trans (M.block k V)⟩;refine(zvx (12 * ts.length+12) hR zkn).mono ?_;rintro e W4 ⟨E,Y⟩;have Z:W4.heap[w.heap.size]?=some (.cells #[.slice none 0 0] 25 (0,0)):=(E.block _ (by omega) (by simp;try omega)).trans hz;have X:W4.heap[w.heap.size+1]?=some (.cells #[.int .i64 0,.int .i64 0] 28 (0,0)):=(E.block _ (by omega) (by simp;try omega)).trans hs;have F:Below w.heap.size w W4:=⟨E.os.trans M.os,E.tape.trans M.tape,E.output.trans M.output,Yo M.size E.size,fun k V=>(E.block k (by omega) (by simp;try omega)).trans (M.block k V)⟩;have HX:Hid (filP ts (12 * ts.length+12) 0=filO ts):=rfl;rw[HX.out] at Y;clear HX E hR M hz hs A;obtain⟨r,A⟩:∃ r,filO ts=r:=⟨_,rfl⟩;rw[A] at Y
 cases r with
 | out=>exact Y.elim
 | bad s=>
  cases Y
  refine leaves_cons (f:=52) (args:=#[.pointer (some ⟨w.heap.size+1,0,none⟩)]) (by simp) (by kernel_rfl) ?_;refine(zm8 (w.heap.size+1) s 0 0 [] W4 X).mono ?_;rintro e u' y ⟨rfl,rfl,C,N⟩;have K:y.heap[w.heap.size]?=some (.cells #[.slice none 0 0] 25 (0,0)):=(N.block _ (zaa Z) (by simp;try omega)).trans Z;have U:Below w.heap.size w y:=⟨N.os.trans F.os,N.tape.trans F.tape,N.output.trans F.output,Yo F.size N.size,fun k V=>(N.block k (Yg V F.size) (by simp;try omega)).trans (F.block k V)⟩;refine⟨_,zcl Tryz.results29 _ _ w.heap.size (w.heap.size+1) _ _ _ _ (0,0) (0,0) _ _ rfl rfl K C Tryz.underlying25 rfl (by kernel_rfl) Tryz.underlying28 rfl (by kernel_rfl),U,?_⟩;rw[A]
 | ok t q=>
  obtain⟨b,rfl,hP,ae⟩:=Y;have al:=zaa X;have af:cntP t<=400000:=by
   have h1:=zr9 A;have h2:=ae.le;omega
  have HP:Hid _:=hP;have ac:Hid _:=F;clear hP ae F
  go_wp2_with fail
  refine(zl0 HP (fun j h=>h.2) af).mono ?_;rintro e y ⟨v,rfl,ab,U⟩;obtain⟨I,D,rfl⟩:=ab.shape;have K:=(U.block _ (zaa Z)).trans Z;have C:=(U.block _ (zaa X)).trans X;have HT:Hid (TrAt w.heap.size (((y.setCell ⟨w.heap.size,0,none⟩ (.slice I (layP 0 t).length D)).setCell ⟨w.heap.size+1,0,none⟩ (.int .i64 0)).setCell ⟨w.heap.size+1,1,none⟩ (.int .i64 0)) (.slice I (layP 0 t).length D) (layP 0 t)):=by
   have h1:=ab.other K (.inl rfl) (by omega) 0 (.slice I (layP 0 t).length D);have ag:=(Ye y ⟨w.heap.size,0,none⟩ (w.heap.size+1) (.slice I (layP 0 t).length D) (by simp)).trans C;have h2:=h1.other ag (.inr rfl) (by omega) 0 (.int .i64 0);have ak:=Yf _ _ 0 _ _ (.int .i64 0) ag;exact(h2.other ak (.inr rfl) (by omega) 1 (.int .i64 0)).mono (by omega)
  have HZ:Hid ((((y.setCell ⟨w.heap.size,0,none⟩ (.slice I (layP 0 t).length D)).setCell ⟨w.heap.size+1,0,none⟩ (.int .i64 0)).setCell ⟨w.heap.size+1,1,none⟩ (.int .i64 0)).heap[w.heap.size]?=some (.cells #[.slice I (layP 0 t).length D] 25 (0,0))) :=
   (Ye _ _ _ _ (by simp)).trans ((Ye _ _ _ _ (by simp)).trans (Yf _ _ 0 _ _ _ K))
  have HS:Hid ((((y.setCell ⟨w.heap.size,0,none⟩ (.slice I (layP 0 t).length D)).setCell ⟨w.heap.size+1,0,none⟩ (.int .i64 0)).setCell ⟨w.heap.size+1,1,none⟩ (.int .i64 0)).heap[w.heap.size+1]?=some (.cells #[.int .i64 0,.int .i64 0] 28 (0,0))) :=
   Yf _ _ 1 _ _ _ (Yf _ _ 0 _ _ _ ((Ye _ _ _ _ (by simp)).trans C))
  have HB:Hid (Below w.heap.size w (((y.setCell ⟨w.heap.size,0,none⟩ (.slice I (layP 0 t).length D)).setCell ⟨w.heap.size+1,0,none⟩ (.int .i64 0)).setCell ⟨w.heap.size+1,1,none⟩ (.int .i64 0))) :=
   (((ac.out.trans (U.mono (by omega))).setCell (p:=⟨w.heap.size,0,none⟩) (Ya _) _).setCell (p:=⟨w.heap.size+1,0,none⟩) (Nat.le_succ _) _).setCell (p:=⟨w.heap.size+1,1,none⟩) (Nat.le_succ _) _
  have z0:y.cell? ⟨w.heap.size,0,none⟩=some (.slice none 0 0):=Yp 0 K rfl;have f0:y.frozen? ⟨w.heap.size,0,none⟩=false:=Yj _ _ _ _ _ K;have s0:y.cell? ⟨w.heap.size+1,0,none⟩=some (.int .i64 0):=Yp 0 C rfl;have s1:y.cell? ⟨w.heap.size+1,1,none⟩=some (.int .i64 0):=Yp 1 C rfl;have g0:y.frozen? ⟨w.heap.size+1,0,none⟩=false:=Yj _ _ _ _ _ C;have g1:y.frozen? ⟨w.heap.size+1,1,none⟩=false:=Yj _ _ _ _ _ C;have HR:Hid _:=A;clear K C Z X ab U HP ac A;generalize (layP 0 t).length=nn at HT HZ HS HB ⊢
  go_wp2
  refine leaves_cons (f:=52) (args:=#[.pointer (some ⟨w.heap.size+1,0,none⟩)]) (by simp) (by kernel_rfl) ?_;refine(zp0 (w.heap.size+1) _).mono ?_;rintro e u' W6 ⟨rfl,rfl,aa⟩;refine⟨_,zcl Tryz.results29 _ _ w.heap.size (w.heap.size+1) _ _ _ _ (0,0) (0,0) _ _ rfl rfl ((aa.block _ (zaa HZ)).trans HZ) ((aa.block _ (zaa HS)).trans HS) Tryz.underlying25 rfl (by kernel_rfl) Tryz.underlying28 rfl (by kernel_rfl),HB.out.trans (aa.mono HB.out.size),?_⟩;rw[HR.out];exact⟨af,_,rfl,HT.out.below aa⟩
def risB:Int->List Tok->Bool
 | _,[]=>true
 | last,t::r=>if t.pos<=last then false else risB t.pos r
theorem zp1 (sp:Option Addr)(cap:Nat)(ts:List Tok)(w:World)(hr:RowsT w sp ts)(hm:ts.length<=100000) :
  Calls Tryz.prog 28 #[.slice sp ts.length cap] w fun e w'=>e=.returned (.bool (risB (-1) ts))∧Below w.heap.size w w':=by
 have N:=J hr;clear hr
 go_enter Tryz.func28,Tryz.ntmps28
 go_wp2
 go_loopw [3,8] (fun l i wr=>∃ (t:Nat) (A:Int),t<=ts.length∧i=.int .i64 t∧l=.int .i64 A∧Below w.heap.size w wr∧risB A (ts.drop t)=risB (-1) ts) (fun l i _=>ts.length - (intOf i).toNat)
 case atStart=>exact⟨0,-1,Yk _,rfl,rfl,Yb _ _,rfl⟩
 case round=>
  obtain⟨t,A,V,rfl,rfl,M,F⟩:=hrel;have C:=J M;have D:=J F;clear M F
  by_cases hlt:t<ts.length
  ·have hd:decide ((t:Int)<ts.length)=true:=by simp;omega
   obtain⟨b,o,rfl,-⟩:=N.out (by omega);obtain⟨x,E⟩:∃ x,ts[t]?=some x:=⟨_,Yh (by omega)⟩;obtain⟨Z,Y,X⟩:=zf6 (RowsAt.below N C) E;have I:Hid (ts.drop t=x::ts.drop (t+1)):=by
    have U:=List.getElem?_eq_some_iff.1 E;show ts.drop t=x::ts.drop (t+1);rw[<-List.getElem_cons_drop (h:=hlt),U.2]
   clear E;have K:Hid (Below w.heap.size w (wr.alloc (.cells x.cells 38 (0,0)))):=C.out.alloc C.out.size _
   by_cases hp:x.pos<=A
   ·have y:Hid (false=risB (-1) ts):=by rw[<-D.out,I.out,risB,if_pos hp];exact rfl
    go_wp2
    go_ret
    exact⟨by rw[<-y.out];exact rfl,K.out⟩
   ·have y:Hid (risB x.pos (ts.drop (t+1))=risB (-1) ts):=by rw[<-D.out,I.out,risB,if_neg hp];exact rfl
    go_wp2
    refine⟨⟨t+1,x.pos,by omega,by congr 1,rfl,K.out,y.out⟩,?_⟩;show ts.length - ((t:Int)+1).toNat<ts.length - (t:Int).toNat;omega
  ·have hd:decide ((t:Int)<ts.length)=false:=by simp;omega
   have y:Hid (true=risB (-1) ts):=by rw[<-D.out,List.drop_eq_nil_of_le (by omega)];exact rfl
   go_wp2
   go_ret
   exact⟨by rw[<-y.out];exact rfl,C.out⟩
def dpF:(Nat->Int)->Nat->Int->List Nd->Int
 | _,_,m,[]=>m
 | D,i,m,d::r=>dpF (fun j=>if j ∈ d.kids then D i+1 else upd D i (D i+1) j) (i+1) (max m (D i+1)) r
theorem zsc (n:Nat)(hn:n<=400000)(w:World):(Instr.makeSlice 51 (.int .i64 n) (.int .i64 n)).run Tryz.prog w=.ok (.slice (some ⟨w.heap.size,0,none⟩) n n) (w.alloc (.cells (arr .i64 n fun _=>0) 3)):=by
 have h:(Tryz.prog.info? 3).map (fun i=>(i.zero,i.size,i.bytes))=some (some (.int .i64 0),1,8):=by kernel_rfl
 cases hi:Tryz.prog.info? 3 with
 | none=>rw[hi] at h;cases h
 | some i=>
  rw[hi] at h;simp only[Option.map_some,Option.some.injEq,Prod.mk.injEq] at h;obtain⟨A,y,C⟩:=h;have h:=run_makeSlice (P:=Tryz.prog) w 51 3 i (.int .i64 0) Tryz.underlying51 hi A .i64 .i64 n n (by omega) (by omega) (by rw[y];omega) (by rw[C];omega) (by omega);rw[show((n:Int)).toNat=n by omega,y,Nat.mul_one] at h;have e:madeCells (Value.int .i64 0).cells n=arr .i64 n fun _=>0:=by
   apply Array.ext
   ·simp[madeCells,arr,Value.cells]
   ·intro j E D;simp[madeCells,arr,Value.cells,Nat.mod_one]
  rw[h,e]
theorem zcs {w:World}{b o i:Nat}{N:List NdM}(h:RowsAt w 7 NdM.cells (some ⟨b,o,none⟩) N){m:NdM}(hm:N[i]?=some m)(j:Nat)(u:Value)(hu:m.cells[j]?=some u):w.cell? ⟨b,o+i * 7+j,none⟩=some u:=by
 obtain⟨C,A,e,y⟩:=h (by have:=(List.getElem?_eq_some_iff.1 hm).1;omega);injection e with e;injection e with e1 e2;subst e1 e2;exact y i m hm j u hu
theorem zfo (w:World)(sp:Option Addr)(cap:Nat) (N:List NdM) (S:Nat->Prop) (L:List Nd)(hN:RowsAt w 7 NdM.cells sp N)(hP:Rep w S N L)(hn:L.length<=400000)(hk:∀ d ∈ L,(∀ k ∈ d.kids,k<L.length)∧d.kids.length<=400000) :
  Calls Tryz.prog 30 #[.agg #[.slice sp L.length cap]] w fun e w'=>e=.returned (.int .i64 (dpF (fun _=>0) 0 0 L))∧Below w.heap.size w w':=by
 have Y:=J hN;have V:=J hP;have M:=J hk;have ap:=zsc L.length hn;clear hN hP hk
 go_enter Tryz.func30,Tryz.ntmps30
 go_wp2
 refine zdq (fun W=>W.heap[w.heap.size+1]?=some (.cells (arr .i64 L.length fun _=>0) 3 (0,0))∧Below w.heap.size w W) ?_ ?_
 ·exact⟨by have h:=Yd (w.alloc (.cells #[.slice sp L.length cap] 25)) (.cells (arr .i64 L.length fun _=>0) 3);simpa using h,((Yb _ _).alloc (Ya _) _).alloc (by simp) _⟩
 rintro W0 ⟨aj,Z⟩;clear ap
 go_loopw [4,16] (fun l i wr=>∃ (t:Nat) (D:Nat->Int) (m:Int),t<=L.length∧i=.int .i64 t∧l=.int .i64 m∧Below w.heap.size w wr∧wr.heap[w.heap.size+1]?=some (.cells (arr .i64 L.length D) 3 (0,0))∧(∀ j,0<=D j∧D j<=t)∧dpF D t m (L.drop t)=dpF (fun _=>0) 0 0 L) (fun l i _=>L.length - (intOf i).toNat)
 case atStart=>exact⟨0,fun _=>0,0,Yk _,rfl,rfl,Z,aj,fun _=>by simp,rfl⟩
 case round=>
  obtain⟨t,D,m,ht,rfl,rfl,hB,ae,hD,ai⟩:=hrel;have E:=J hB;have F:=J ae;have X:=J ai;have HD:=J hD;clear hB ai ae hD
  by_cases hlt:t<L.length
  ·have hd:decide ((t:Int)<L.length)=true:=by simp;omega
   have ay:N.length=L.length:=V.out.1;obtain⟨b,o,rfl,-⟩:=Y.out (by omega);obtain⟨d,C⟩:∃ d,L[t]?=some d:=⟨_,Yh (by omega)⟩;obtain⟨x,y⟩:∃ x,N[t]?=some x:=⟨_,Yh (by omega)⟩;have hR:=RowsAt.below Y E;have k0:wr.cell? ⟨b,o+t * 7,none⟩=some (.int .i64 x.k):=zcs hR y 0 _ rfl;have k1:wr.cell? ⟨b,o+t * 7+1,none⟩=some (.string x.x):=zcs hR y 1 _ rfl;have k2:wr.cell? ⟨b,o+t * 7+2,none⟩=some (.int .i64 x.n):=zcs hR y 2 _ rfl;have k3:wr.cell? ⟨b,o+t * 7+3,none⟩=some (.slice x.ks x.kn x.kc):=zcs hR y 3 _ rfl;have k4:wr.cell? ⟨b,o+t * 7+4,none⟩=some (.int .i64 x.a):=zcs hR y 4 _ rfl;have k5:wr.cell? ⟨b,o+t * 7+5,none⟩=some (.int .i64 x.f):=zcs hR y 5 _ rfl;have k6:wr.cell? ⟨b,o+t * 7+6,none⟩=some (.int .i64 x.t):=zcs hR y 6 _ rfl;obtain⟨-,aa,af,-,-⟩:=V.out.2 t x d y C;have aq:=J af;have ab:Hid (L.drop t=d::L.drop (t+1)):=by
    have hg:=List.getElem?_eq_some_iff.1 C;show L.drop t=d::L.drop (t+1);rw[<-List.getElem_cons_drop (h:=hlt),hg.2]
   have ax:Hid (∀ k ∈ d.kids,k<L.length):=(M d (Ym C)).1;have aA:=(M d (Ym C)).2;clear C y af hR;rw[aa] at k3;clear aa;have aC:=zaa F;have I:=zrg F t (D t+1);have ca:=zh3 F hlt;have fa:wr.frozen? ⟨w.heap.size+1,t,none⟩=false:=Yj _ _ _ _ _ F;have cb:=zh3 I hlt;have cu:upd D t (D t+1) t=D t+1:=by simp[upd]
   rw[cu] at cb;clear cu;have ah:Hid (((wr.setCell ⟨w.heap.size+1,t,none⟩ (.int .i64 (D t+1))).alloc (.cells #[.int .i64 x.k,.string x.x,.int .i64 x.n,.slice x.ks d.kids.length x.kc,.int .i64 x.a,.int .i64 x.f,.int .i64 x.t] 53 (0,0))).heap[w.heap.size+1]?=some (.cells (arr .i64 L.length (upd D t (D t+1))) 3 (0,0))):=(Yn _ _ _ (zaa I)).trans I;have am:Hid (Below w.heap.size w ((wr.setCell ⟨w.heap.size+1,t,none⟩ (.int .i64 (D t+1))).alloc (.cells #[.int .i64 x.k,.string x.x,.int .i64 x.n,.slice x.ks d.kids.length x.kc,.int .i64 x.a,.int .i64 x.f,.int .i64 x.t] 53 (0,0)))):=(E.out.setCell (p:=⟨w.heap.size+1,t,none⟩) (Nat.le_succ _) _).alloc (by simp;exact E.out.size) _;obtain⟨aD,aB⟩:=HD.out t;clear I
   go_wp2_with fail
   refine zdq (fun W=>W.heap[w.heap.size+1]?=some (.cells (arr .i64 L.length (upd D t (D t+1))) 3 (0,0))∧Below w.heap.size w W) ⟨ah.out,am.out⟩ ?_;rintro W1 ⟨ac,ag⟩;have av:Hid (dpF (fun j=>if j ∈ d.kids then D t+1 else upd D t (D t+1) j) (t+1) (max m (D t+1)) (L.drop (t+1))=dpF (fun _=>0) 0 0 L):=by
    rw[<-X.out,ab.out];exact rfl
   have ar:Hid (∀ j,0<=(if j ∈ d.kids then D t+1 else upd D t (D t+1) j)∧(if j ∈ d.kids then D t+1 else upd D t (D t+1) j)<=((t+1:Nat):Int)):=fun j=>by
    have K:=HD.out j;unfold upd
    split
    ·omega
    ·split <;> omega
   clear k0 k1 k2 k3 k4 k5 k6 ca fa cb F E ah am X ab Y V M aj Z ay
   go_loopw [36] (fun i w2=>∃ u:Nat,u<=d.kids.length∧i=.int .i64 u∧Below w.heap.size w w2∧w2.heap[w.heap.size+1]?=some (.cells (arr .i64 L.length (fun j=>if j ∈ d.kids.take u then D t+1 else upd D t (D t+1) j)) 3 (0,0))) (fun i _=>d.kids.length - (intOf i).toNat)
   case atStart=>exact⟨0,Yk _,rfl,ag,by simpa using ac⟩
   case round=>
    obtain⟨u,hu,rfl,ak,al⟩:=hrel;have U:=J ak;have A:=J al;clear ak al ac ag
    by_cases hul:u<d.kids.length
    ·have az:decide ((u:Int)<d.kids.length)=true:=by simp;omega
     obtain⟨k,hk⟩:∃ k,d.kids[u]?=some k:=⟨_,Yh hul⟩;obtain⟨b2,o2,aE,hc⟩:=aq.out (by omega);have an:k<L.length:=ax.out k (Ym hk);have q0:wr.cell? ⟨b2,o2+u,none⟩=some (.int .i64 k):=by
      have K:=hc u k hk 0 (.int .i64 k) rfl;rw[Nat.mul_one,Nat.add_zero] at K;exact(U.out.cell (block_lt_of_cell K)).trans K
     have q1:wr.cell? ⟨w.heap.size+1,t,none⟩=some (.int .i64 (D t+1)):=by
      rw[zh3 A.out hlt]
      congr 2
      simp[upd]
     have q2:=zh3 A an;have f2:wr.frozen? ⟨w.heap.size+1,k,none⟩=false:=Yj _ _ _ _ _ A;have au:Hid ((wr.setCell ⟨w.heap.size+1,k,none⟩ (.int .i64 (D t+1))).heap[w.heap.size+1]?=some (.cells (arr .i64 L.length (fun j=>if j ∈ d.kids.take (u+1) then D t+1 else upd D t (D t+1) j)) 3 (0,0))):=by
      show _=_;rw[zrg A.out k (D t+1)]
      congr 2
      refine zrf fun j _=>?_;rw[List.take_add_one,hk];unfold upd
      by_cases hjk:j=k
      ·subst hjk;simp
      ·simp[hjk]
     have aw:Hid (Below w.heap.size w (wr.setCell ⟨w.heap.size+1,k,none⟩ (.int .i64 (D t+1)))):=U.out.setCell (p:=⟨w.heap.size+1,k,none⟩) (Nat.le_succ _) _;clear hc hk;generalize (if k ∈ d.kids.take u then D t+1 else upd D t (D t+1) k)=old at q2
     go_wp2
     refine⟨⟨u+1,by omega,by congr 1,aw.out,au.out⟩,?_⟩;show d.kids.length - ((u:Int)+1).toNat<d.kids.length - (u:Int).toNat;omega
    ·have az:decide ((u:Int)<d.kids.length)=false:=by simp;omega
     have ao:Hid (wr.heap[w.heap.size+1]?=some (.cells (arr .i64 L.length (fun j=>if j ∈ d.kids then D t+1 else upd D t (D t+1) j)) 3 (0,0))):=by
      have h:=A.out
      rwa [List.take_of_length_le (by omega)] at h
     go_wp2
     refine⟨⟨t+1,_,_,by omega,by congr 1,rfl,U.out,ao.out,ar.out,av.out⟩,?_⟩;show L.length - ((t:Int)+1).toNat<L.length - (t:Int).toNat;omega
  ·have hd:decide ((t:Int)<L.length)=false:=by simp;omega
   have HM:Hid (m=dpF (fun _=>0) 0 0 L):=by rw[<-X.out,List.drop_eq_nil_of_le (by omega)];exact rfl
   go_wp2
   go_ret
   exact⟨by rw[<-HM.out];exact rfl,E.out⟩
theorem zsd:∀ (l:List Pt)(i:Nat),(∀ k ∈ kidI i l,i<=k∧k<i+cntL l)∧(kidI i l).length<=cntL l
 | [],i=>by simp[kidI]
 | t::r,i=>by
  have h:=zsd r (i+cntP t);have h1:1<=cntP t:=by cases t;rw[cntP];omega
  rw[kidI,cntL];refine⟨fun k y=>?_,by rw[List.length_cons];omega⟩;rcases List.mem_cons.1 y with rfl|y
  ·omega
  ·have:=h.1 k y;omega
mutual
theorem ze3:∀ (t:Pt)(i:Nat),∀ d ∈ layP i t,(∀ k ∈ d.kids,k<i+cntP t)∧d.kids.length<=cntP t
 | .mk k x n a f t l,i=>by
  rw[layP,cntP];intro d hd;rcases List.mem_cons.1 hd with rfl|hd
  ·have h:=zsd l (i+1);exact⟨fun k hk=>by have:=h.1 k hk;omega,by have:=h.2;show(kidI (i+1) l).length<=_;omega⟩
  ·have h:=zoo l (i+1) d hd;exact⟨fun k hk=>by have:=h.1 k hk;omega,by have:=h.2;omega⟩
theorem zoo:∀ (l:List Pt)(i:Nat),∀ d ∈ layL i l,(∀ k ∈ d.kids,k<i+cntL l)∧d.kids.length<=cntL l
 | [],i=>by simp[layL]
 | t::r,i=>by
  rw[layL,cntL];intro d hd;rcases List.mem_append.1 hd with hd|hd
  ·have h:=ze3 t i d hd;exact⟨fun k hk=>by have:=h.1 k hk;omega,by have:=h.2;omega⟩
  ·have h:=zoo r (i+cntP t) d hd;exact⟨fun k hk=>by have:=h.1 k hk;omega,by have:=h.2;omega⟩
end
mutual
theorem zco:∀ (t:Pt)(i:Nat),(layP i t).length=cntP t
 | .mk k x n a f t l,i=>by
  rw[layP,cntP,List.length_cons,zop l];omega
theorem zop:∀ (l:List Pt)(i:Nat),(layL i l).length=cntL l
 | [],i=>by simp[layL,cntL]
 | t::r,i=>by rw[layL,cntL,List.length_append,zco t,zop r]
end
theorem zbn {α:Type}{w W:World}{m:Nat}{cs:α->Array Value}{sp:Option Addr}{xs:List α}(h:∀ k,k<w.heap.size->W.heap[k]?=w.heap[k]?)(hr:RowsAt w m cs sp xs):RowsAt W m cs sp xs:=fun hl=>by
 obtain⟨b,o,e,hc⟩:=hr hl;exact⟨b,o,e,fun i x hx j u hu=>(World.cell?_of_block (a:=⟨b,o+i * m+j,Option.none⟩) (h b (block_lt_of_cell (hc i x hx j u hu)))).trans (hc i x hx j u hu)⟩
theorem zcm {w W:World}(h:∀ k,k<w.heap.size->W.heap[k]?=w.heap[k]?)(hT:Tabl w):Tabl W:=by
 obtain⟨F,C⟩:=hT;refine⟨F,fun i l A=>?_⟩;obtain⟨y,D⟩:=C i l A;exact⟨(World.cell?_of_block (a:=⟨1,i,Option.none⟩) (h _ (block_lt_of_cell y))).trans y,zbn h D⟩
def parO (ts:List Tok):(Int × Int) ⊕ Pt :=
 if chkO ts≠0 then .inl (2,0) else if risB (-1) ts=false then .inl (2,0) else
 match filO ts with
 | .ok t _=>if 2048<(layP 0 t).length then .inl (3,0) else if 24<dpF (fun _=>0) 0 0 (layP 0 t) then .inl (3,0) else .inr t
 | .bad s=>.inl (210,s)
 | .out=>.inl (0,0)
end Go.Proofs.YtmclgbkijeidaaaGreatDoor
