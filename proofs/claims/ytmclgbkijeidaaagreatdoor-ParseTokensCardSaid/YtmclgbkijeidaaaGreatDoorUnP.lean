import Derived.Test.YtmclgbkijeidaaaGreatDoorUnO
import Derived.Recover
import Derived.Defers
import Derived.Test.YtmclgbkijeidaaaGreatDoorUnE
namespace Go.Proofs.YtmclgbkijeidaaaGreatDoor
set_option maxRecDepth 100000
open Go.RowKit
def cm (m:Nat) (r:Rs Pt) (p:Nat):Prop:=match r with | .ok t q=>cntP t+m * p<=m * q|_=>True
def dm (m:Nat) (r:Rs (List Pt)) (c p:Nat):Prop:=match r with | .ok l q=>cntL l+m * p<=c+m * q|_=>True
section
variable {ts:List Tok}{m:Nat}
theorem zdb {t:Pt}{p q:Nat}(h:cntP t+m * p<=m * q):cm m (.ok t q) p:=h
theorem ziv {l:List Pt}{c p q:Nat}(h:cntL l+m * p<=c+m * q):dm m (.ok l q) c p:=h
theorem zbn {b:Bool}{s:Int}{k:Rs Pt}{p:Nat}(h:cm m k p):cm m (Rs.need b s k) p:=by unfold Rs.need;split;exact h;trivial
theorem zes {b:Bool}{s:Int}{k:Rs (List Pt)}{c p:Nat}(h:dm m k c p):dm m (Rs.need b s k) c p:=by unfold Rs.need;split;exact h;trivial
theorem zb4 {c:Prop} [Decidable c] {a b:Rs Pt}{p:Nat}(h:cm m a p)(h':cm m b p):cm m (if c then a else b) p:=by split;exact h;exact h'
theorem zfy {c:Prop} [Decidable c] {a b:Rs (List Pt)}{k p:Nat}(h:dm m a k p)(h':dm m b k p):dm m (if c then a else b) k p:=by split;exact h;exact h'
theorem zbz {m':Nat}{x:Rs Pt}{f:Pt->Nat->Rs Pt}{p p':Nat}(h:cm m' x p')(hf:∀ t q,cntP t+m' * p'<=m' * q->cm m (f t q) p):cm m (x.bind f) p:=by
 cases x with
 | ok t q=>exact hf t q h
 | bad s=>trivial
 | out=>trivial
theorem ze2 {m' c:Nat}{x:Rs (List Pt)}{f:List Pt->Nat->Rs Pt}{p p':Nat}(h:dm m' x c p')(hf:∀ l q,cntL l+m' * p'<=c+m' * q->cm m (f l q) p):cm m (x.bind f) p:=by
 cases x with
 | ok t q=>exact hf t q h
 | bad s=>trivial
 | out=>trivial
theorem zff {m' c:Nat}{x:Rs Pt}{f:Pt->Nat->Rs (List Pt)}{p p':Nat}(h:cm m' x p')(hf:∀ t q,cntP t+m' * p'<=m' * q->dm m (f t q) c p):dm m (x.bind f) c p:=by
 cases x with
 | ok t q=>exact hf t q h
 | bad s=>trivial
 | out=>trivial
theorem zk6 {m' c c':Nat}{x:Rs (List Pt)}{f:List Pt->Nat->Rs (List Pt)}{p p':Nat}(h:dm m' x c' p')(hf:∀ l q,cntL l+m' * p'<=c'+m' * q->dm m (f l q) c p):dm m (x.bind f) c p:=by
 cases x with
 | ok t q=>exact hf t q h
 | bad s=>trivial
 | out=>trivial
theorem zjq {x:Rs Pt}{p:Nat}(h:cm 1 x p)(ha:ad x p):cm 2 x p:=by
 cases x with
 | ok t q=>
  have h1:cntP t+1 * p<=1 * q:=h;have h2:p<=q:=ha;show cntP t+2 * p<=2 * q;omega
 | bad s=>trivial
 | out=>trivial
theorem zpg (k:Int)(p:Nat):cm 1 (leaP ts k p) p:=by
 show cntP (.mk _ _ _ _ _ _ [])+1 * p<=1 * (p+1);rw[cntP,cntL];omega
theorem zqu (k:Int)(p:Nat):cm 1 (worP ts k p) p:=zbn (zpg k p)
theorem zqv (p:Nat):cm 1 (va1P ts p) p:=by
 unfold va1P;refine zb4 (zdb ?_) (zb4 (zdb ?_) (zb4 (zpg _ _) trivial)) <;> (rw[cntP,cntL];omega)
theorem zsw (p:Nat):cm 1 (valP ts p) p:=by
 unfold valP;refine zb4 (zb4 (zbz (zqv _) fun v q h=>zdb ?_) trivial) (zqv _);rw[cntP,cntL,cntL];omega
theorem zqw (p:Nat):cm 1 (typP ts p) p:=by
 unfold typP;refine zb4 (zpg _ _) (zb4 (zbz (zqu _ _) fun v q h=>zbn (zbn (zdb ?_))) (zqu _ _));rw[cntP,cntL,cntL];omega
theorem zqx (k:Int)(p:Nat):cm 1 (tydP ts k p) p:=by
 unfold tydP;refine zbn (zbz (zqw _) fun v q h=>zdb ?_);rw[cntP,cntL,cntL];omega
theorem zsx (p:Nat):cm 1 (impP ts p) p:=by
 unfold impP;refine zbn (zbn (zdb ?_));rw[cntP,cntL];omega
theorem zsy (p:Nat):cm 1 (conP ts p) p:=by
 unfold conP;refine zbn (zbn (zbn (zbz (zsw _) fun v q h=>zdb ?_)));rw[cntP,cntL,cntL];omega
theorem zsz (p:Nat):cm 1 (recP ts p) p:=by
 unfold recP;refine zbn (zbz (zqu _ _) fun v q h=>zdb ?_);rw[cntP,cntL,cntL];omega
theorem zeh:∀ a b:List Pt,cntL (a++b)=cntL a+cntL b
 | [],b=>by simp[cntL]
 | t::a,b=>by rw[List.cons_append,cntL,cntL,zeh a b,Nat.add_assoc]
theorem ze3 (t:Pt):cntL [t]=cntP t:=by rw[cntL,cntL];rfl
theorem zjr {x:Rs (List Pt)}{c c' p p':Nat}(h:dm m x c p)(hc:c+m * p'<=c'+m * p):dm m x c' p':=by
 cases x with
 | ok l q=>
  have h1:cntL l+m * p<=c+m * q:=h;show cntL l+m * p'<=c'+m * q;omega
 | bad s=>trivial
 | out=>trivial
structure CnA (ts:List Tok) (n:Nat):Prop where
 bin:∀ l p,cm 1 ((fns ts n).bin l p) p
 binL:∀ l fr t p p0,cntP t+p0<=p->cm 1 ((fns ts n).binL l fr t p) p0
 una:∀ p,cm 1 ((fns ts n).una p) p
 post:∀ p,cm 1 ((fns ts n).post p) p
 posL:∀ fr t p p0,cntP t+p0<=p->cm 1 ((fns ts n).posL fr t p) p0
 prim:∀ p,cm 1 ((fns ts n).prim p) p
 argL:∀ l p,dm 1 ((fns ts n).argL l p) (cntL l) p
 parL:∀ l p,dm 1 ((fns ts n).parL l p) (cntL l) p
 fieL:∀ l p,dm 1 ((fns ts n).fieL l p) (cntL l) p
 stmt:∀ p,cm 2 ((fns ts n).stmt p) p
 bran:∀ p,cm 2 ((fns ts n).bran p) p
 stmL:∀ l p,dm 2 ((fns ts n).stmL l p) (cntL l) p
 impL:∀ l p,dm 1 ((fns ts n).impL l p) (cntL l) p
 decL:∀ l p,dm 2 ((fns ts n).decL l p) (cntL l) p
theorem zsh {one:Nat->Rs Pt}{more:List Pt->Nat->Rs (List Pt)}{p:Nat}(h1:∀ p,cm 1 (one p) p)(h2:∀ l q,dm 1 (more l q) (cntL l) q):dm 1 (lisP ts one more p) 0 (p+1):=by
 unfold lisP;refine zes (zfy (ziv ?_) (zff (h1 _) fun v q h=>zk6 (h2 _ _) fun l q' h'=>zes (ziv ?_)))
 ·rw[cntL];omega
 ·rw[ze3] at h';omega
theorem zsi {more:List Pt->Nat->Rs (List Pt)}{p:Nat}(h2:∀ l q,dm m (more l q) (cntL l) q)(hm:1<=m∧m<=2):dm m (linP ts more p) 0 (p+1):=by
 unfold linP;refine zes (zk6 (h2 _ _) fun l q' h'=>zes (ziv ?_));rw[cntL] at h';rcases(show m=1∨m=2 by omega) with rfl|rfl <;> omega
theorem zl6 {n:Nat}(h:CnA ts n)(p:Nat):cm 2 (bloP ts (fns ts n) p) p:=by
 unfold bloP;refine ze2 (zsi h.stmL ⟨by omega,by omega⟩) fun l q hq=>zdb ?_;rw[cntP];omega
theorem zsj {n:Nat}(h:CnA ts n)(p:Nat):cm 1 (varP ts (fns ts n) p) p:=by
 unfold varP;refine zbn (zbn (zbz (zqw _) fun v q hv=>zb4 (zbz (h.bin _ _) fun x q' hx=>zdb ?_) (zdb ?_)))
 ·rw[cntP,cntL,cntL,cntL];omega
 ·rw[cntP,cntL,cntL];omega
theorem zs0 {n:Nat}(h:CnA ts n)(p:Nat):cm 2 (decP ts (fns ts n) p) p:=by
 have hfun:∀ fr l q,cntL l+2 * p<=2 * q->1+p<=q->cm 2 (funR ts (fns ts n) fr l q) p:=fun fr l q hl hq=>by
  unfold funR;refine zbn (ze2 (zsh (zqx 9) h.parL) fun ps q' hp=>zb4 (zbz (zl6 h _) fun b q'' hb=>zdb ?_) (zbz (zqw _) fun v q'' hv=>zbz (zl6 h _) fun b q3 hb=>zdb ?_))
  ·rw[cntP,zeh,zeh,ze3];omega
  ·rw[cntP,zeh,zeh,zeh,ze3,ze3];omega
 unfold decP;refine zb4 (zjq (zsy p) (zbx (znj p) (by omega))) (zb4 (zjq (zsj h p) ?_) (zb4 ?_ (zb4 ?_ trivial)))
 ·unfold varP;exact zca (by simp) fun _=>zdz fun _=>zaw (zg6 _) fun v q hq=>za6 (fun _=>zaw ((adA (ts:=ts) n).bin _ _) fun x q' hq'=>zck (by omega)) fun _=>zck (by omega)
 ·unfold strP;refine zbn (zbn (zbn (ze2 (zsi h.fieL ⟨by omega,by omega⟩) fun l q hl=>zdb ?_)));rw[cntP];omega
 ·unfold funP;refine zbn (zb4 (zbz (zsz _) fun v q hv=>zbn (hfun _ _ _ ?_ ?_)) (hfun _ _ _ ?_ ?_))
  ·rw[ze3];omega
  ·have:=zfx v;omega
  ·rw[cntL];omega
  ·omega
theorem cnA (n:Nat):CnA ts n:=by
 induction n with
 | zero=>constructor <;> (intros;trivial)
 | succ n ih=>
  constructor
  ·intro l p;exact zb4 (ih.una _) (zbz (ih.bin _ _) fun t q h=>ih.binL _ _ _ _ _ (by omega))
  ·intro l fr t p p0 h;refine zb4 (zbz (ih.bin _ _) fun u q hu=>zb4 (zdb ?_) (ih.binL _ _ _ _ _ ?_)) (zdb (by omega))
   ·rw[cntP,cntL,cntL,cntL];omega
   ·rw[cntP,cntL,cntL,cntL];omega
  ·intro p;refine zb4 (zbz (ih.una _) fun u q hu=>zdb ?_) (ih.post _);rw[cntP,cntL,cntL];omega
  ·intro p;exact zbz (ih.prim _) fun t q h=>ih.posL _ _ _ _ (by omega)
  ·intro fr t p p0 h;refine zb4 (zbn (ih.posL _ _ _ _ ?_)) (zb4 (ze2 (zsh (ih.bin 0) ih.argL) fun l q hl=>ih.posL _ _ _ _ ?_) (zdb (by omega)))
   ·rw[cntP,cntL,cntL];omega
   ·rw[cntP,zeh,ze3];omega
  ·intro p;refine zb4 (zbz (ih.bin _ _) fun t q h=>zbn (zdb ?_)) (zb4 (zpg _ _) (zqv _));omega
  ·intro l p;refine zfy (zff (ih.bin _ _) fun t q h=>?_) (ziv (by omega));have h2:=ih.argL (l++[t]) q;rw[zdu] at h2;exact zjr h2 (by omega)
  ·intro l p;refine zfy (zff (zqx _ _) fun t q h=>?_) (ziv (by omega));have h2:=ih.parL (l++[t]) q;rw[zdu] at h2;exact zjr h2 (by omega)
  ·intro l p;refine zfy (ziv (by omega)) (zff (zqx _ _) fun t q h=>?_);have h2:=ih.fieL (l++[t]) q;have h3:=ih.fieL (l++[t]) (q+1);rw[zdu] at h2 h3;exact zfy (zjr h2 (by omega)) (zes (zjr h3 (by omega)))
  ·intro p;have hb:∀ q,cm 2 ((fns ts n).bin 0 q) q:=fun q=>zjq (ih.bin 0 q) (zbx ((adA (ts:=ts) n).bin 0 q) (by omega));refine zb4 (zl6 ih p) (zb4 (zjq (zsj ih p) ?_) (zb4 (ih.bran _) (zb4 ?_ (zb4 ?_ (zb4 ?_ ?_)))))
   ·unfold varP;exact zca (by simp) fun _=>zdz fun _=>zaw (zg6 _) fun v q hq=>za6 (fun _=>zaw ((adA (ts:=ts) n).bin _ _) fun x q' hq'=>zck (by omega)) fun _=>zck (by omega)
   ·unfold looP;refine zbn (zbz (hb _) fun x q hx=>zbz (zl6 ih _) fun b q' hb'=>zdb ?_);rw[cntP,cntL,cntL,cntL];omega
   ·unfold resP;refine zbn (zb4 (zbz (hb _) fun x q hx=>zdb ?_) (zdb ?_))
    ·rw[cntP,cntL,cntL];omega
    ·rw[cntP,cntL];omega
   ·unfold shoP;refine zbn (zbn (zbz (hb _) fun x q hx=>zdb ?_));rw[cntP,cntL,cntL];omega
   ·unfold simP;refine zbz (ih.bin 0 p) fun x q hx=>zb4 (zbz (ih.bin 0 _) fun y q' hy=>zdb ?_) (zdb ?_)
    ·have:=zfx x;rw[cntP,cntL,cntL,cntL];omega
    ·have:=zfx x;rw[cntP,cntL,cntL];omega
  ·intro p;have hb:∀ q,cm 2 ((fns ts n).bin 0 q) q:=fun q=>zjq (ih.bin 0 q) (zbx ((adA (ts:=ts) n).bin 0 q) (by omega));refine zbn (zbz (hb _) fun x q hx=>zbz (zl6 ih _) fun b q' hb'=>zb4 (zbz (zb4 (ih.bran _) (zl6 ih _)) fun c q'' hc=>zdb ?_) (zdb ?_))
   ·rw[cntP,cntL,cntL,cntL,cntL];omega
   ·rw[cntP,cntL,cntL,cntL];omega
  ·intro l p;refine zfy (ziv (by omega)) (zff (ih.stmt _) fun t q h=>?_);have h2:=ih.stmL (l++[t]) q;have h3:=ih.stmL (l++[t]) (q+1);rw[zdu] at h2 h3;exact zfy (zjr h2 (by omega)) (zes (zjr h3 (by omega)))
  ·intro l p;refine zfy (zff (zsx _) fun t q h=>zes ?_) (ziv (by omega));have h3:=ih.impL (l++[t]) (q+1);rw[zdu] at h3;exact zjr h3 (by omega)
  ·intro l p;refine zfy (zff (zs0 ih _) fun t q h=>zes ?_) (ziv (by omega));have h3:=ih.decL (l++[t]) (q+1);rw[zdu] at h3;exact zjr h3 (by omega)
theorem znu {t:Pt}{q:Nat}(h:filO ts=.ok t q):cntP t<=2 * q:=by
 have hc:cm 2 (filO ts) 0:=by
  unfold filO filP;refine zbn (zbn (zbn (ze2 ((cnA _).impL [] _) fun l q hl=>ze2 ((cnA _).decL l _) fun l' q' hl'=>zdb ?_)));have h0:cntL []=0:=by rw[cntL]
  rw[cntP];omega
 rw[h] at hc;have h2:cntP t+2 * 0<=2 * q:=hc;omega
end
set_option maxHeartbeats 4000000
section
variable {P:Program}{ops:Array Oper}{Q:Exit->Act->List Frame->World->Prop}{i:Nat}{rest:List Nat}{a:Act}{cs cs':List Frame}{w w':World}{o:Oper}{v:Value}
structure WpO (P:Program) (ops:Array Oper) (Q:Exit->Act->List Frame->World->Prop) (l:List Nat) (a:Act) (cs:List Frame) (w:World):Prop where
 out:wpOpsS P ops Q l a cs w
theorem zk7 (h:Q .normal a cs w):WpO P ops Q [] a cs w:=⟨h⟩
def oAt (ops:Array Oper) (i:Nat):Oper:=(ops[i]?).getD ((ops[0]?).getD ⟨none,.move (.tmp 0),0,"",#[],none⟩)
theorem zgs (h:(ops[i]?).isSome=true):ops[i]?=some (oAt ops i):=by
 unfold oAt
 cases hh:ops[i]? with
 | none=>rw[hh] at h;cases h
 | some o=>rfl
theorem zb8 (a':Act)(v:Value)(w':World)(ho:(ops[i]?).isSome=true)(hw:Region.wanted (oAt ops i) (yielded ops a.tmps)=true)(hr:(execOp a.eval (oAt ops i)).run P w=.ok (.value v) w')(ha:a.put (oAt ops i).dst v=a')(h:WpO P ops Q rest a' cs w'):WpO P ops Q (i::rest) a cs w:=by
 refine⟨?_⟩;rw[wpOpsS,zgs ho];simp only[hw,hr,if_true];rw[<-ha] at h;exact h.out
theorem znv (a':Act)(w':World)(ho:(ops[i]?).isSome=true)(hw:Region.wanted (oAt ops i) (yielded ops a.tmps)=true)(hr:(execOp a.eval (oAt ops i)).run P w=.ok .skip w')(ha:a.put (oAt ops i).dst undef=a')(h:WpO P ops Q rest a' cs w'):WpO P ops Q (i::rest) a cs w:=by
 refine⟨?_⟩;rw[wpOpsS,zgs ho];simp only[hw,hr,if_true];rw[<-ha] at h;exact h.out
theorem zjs (a':Act)(v:Value)(cs':List Frame)(ho:(ops[i]?).isSome=true)(hw:Region.wanted (oAt ops i) (yielded ops a.tmps)=true)(hr:(execOp a.eval (oAt ops i)).run P w=.ok .recover w)(hc:recoverD cs=some (v,cs'))(ha:a.put (oAt ops i).dst v=a')(h:WpO P ops Q rest a' cs' w):WpO P ops Q (i::rest) a cs w:=by
 refine⟨?_⟩;rw[wpOpsS,zgs ho];simp only[hw,hr,hc,if_true];rw[<-ha] at h;exact h.out
theorem znw (a':Act)(ho:(ops[i]?).isSome=true)(hw:Region.wanted (oAt ops i) (yielded ops a.tmps)=true)(hr:(execOp a.eval (oAt ops i)).run P w=.ok .recover w)(hc:recoverD cs=none)(ha:a.put (oAt ops i).dst .nilIface=a')(h:WpO P ops Q rest a' cs w):WpO P ops Q (i::rest) a cs w:=by
 refine⟨?_⟩;rw[wpOpsS,zgs ho];simp only[hw,hr,hc,if_true];rw[<-ha] at h;exact h.out
theorem zh3 (a':Act)(ty:TypeId)(x y:Operand)(g:Nat)(cells:Array Value)(t:TypeId)(old:Array Value)(ho:(ops[i]?).isSome=true)(hw:Region.wanted (oAt ops i) (yielded ops a.tmps)=true)(hop:(oAt ops i).op=.store ty x y)(hx:a.eval x=.pointer (some ⟨g,0,none⟩))(hy:a.eval y=.agg cells)
  (hg:w.heap[g]?=some (.cells old t (0,0))) (hi:(P.info? ty).map (·.size)=some cells.size) (hold:old.size=cells.size) (h1:cells.all (·.oneCell')=true) (ha:a.put (oAt ops i).dst undef=a')
  (h:WpO P ops Q rest a' cs (w.setRow g cells)):WpO P ops Q (i::rest) a cs w :=
 znv a' (w.setRow g cells) ho hw (by
  unfold execOp;simp only[hop,hx,hy,Instr.storeAt,Instr.sureAddr,Sem.run_bind,Sem.run_pure,Result.andThen_ok,run_storeVar_row w g t ty old cells hg hi hold h1]) ha h
end
theorem zkb (k:Nat)(s z0 z1:Int)(older:List PanicEntry)(w:World)(hk:w.heap[k]?=some (.cells #[.int .i64 z0,.int .i64 z1] 28 (0,0))) :
  CallsD Tryz.prog 52 #[.pointer (some ⟨k,0,none⟩)] (.panicking ({ v:=.iface 88 (.agg (wroC s)),recovered:=false }::older)) w fun e u' w'=>
   e=.returned (.tuple #[])∧u'=.panicking ({ v:=.iface 88 (.agg (wroC s)),recovered:=true }::older)∧w'.heap[k]?=some (.cells (wroC s) 28 (0,0))∧w.grownBy w' (some k):=by
 refine callsD_of_wpS Tryz.func52 rfl fun c₀ cs hu=>?_;apply wpS_seq;apply wpS_region;rw[Tryz.ntmps52];refine WpO.out ?_;show WpO _ _ _ [0,1,2,3,4,5,6,7] ⟨#[.pointer (some ⟨k,0,none⟩),undef,undef,undef,undef,undef,undef,undef,undef,undef,undef],[]⟩ _ _;refine zjs ⟨#[.pointer (some ⟨k,0,none⟩),undef,undef,undef,.iface 88 (.agg (wroC s)),undef,undef,undef,undef,undef,undef],[]⟩ (.iface 88 (.agg (wroC s))) ({ c₀ with mode:=.panicking ({ v:=.iface 88 (.agg (wroC s)),recovered:=true }::older) }::cs) (by kernel_rfl) (by kernel_rfl) (by kernel_rfl) (by simp[recoverD,hu]) (by kernel_rfl) ?_;refine zb8 ⟨#[.pointer (some ⟨k,0,none⟩),undef,undef,undef,.iface 88 (.agg (wroC s)),.tuple #[.agg (wroC s),.bool true],undef,undef,undef,undef,undef],[]⟩ (.tuple #[.agg (wroC s),.bool true]) w (by kernel_rfl) (by kernel_rfl) (by kernel_rfl) (by kernel_rfl) ?_;refine zb8 ⟨#[.pointer (some ⟨k,0,none⟩),undef,undef,.tuple #[.agg (wroC s),.bool true],.iface 88 (.agg (wroC s)),.tuple #[.agg (wroC s),.bool true],undef,undef,undef,undef,undef],[]⟩ (.tuple #[.agg (wroC s),.bool true]) w (by kernel_rfl) (by kernel_rfl) (by kernel_rfl) (by kernel_rfl) ?_;refine zb8 ⟨#[.pointer (some ⟨k,0,none⟩),undef,undef,.tuple #[.agg (wroC s),.bool true],.iface 88 (.agg (wroC s)),.tuple #[.agg (wroC s),.bool true],.agg (wroC s),undef,undef,undef,undef],[]⟩ (.agg (wroC s)) w (by kernel_rfl) (by kernel_rfl) (by kernel_rfl) (by kernel_rfl) ?_;refine zb8 ⟨#[.pointer (some ⟨k,0,none⟩),undef,undef,.tuple #[.agg (wroC s),.bool true],.iface 88 (.agg (wroC s)),.tuple #[.agg (wroC s),.bool true],.agg (wroC s),.bool true,undef,undef,undef],[]⟩ (.bool true) w (by kernel_rfl) (by kernel_rfl) (by kernel_rfl) (by kernel_rfl) ?_;refine zb8 ⟨#[.pointer (some ⟨k,0,none⟩),.pointer (some ⟨w.heap.size,0,none⟩),undef,.tuple #[.agg (wroC s),.bool true],.iface 88 (.agg (wroC s)),.tuple #[.agg (wroC s),.bool true],.agg (wroC s),.bool true,undef,undef,undef],[]⟩ (.pointer (some ⟨w.heap.size,0,none⟩)) (w.alloc (.cells #[.int .i64 0,.int .i64 0] 88)) (by kernel_rfl) (by kernel_rfl) (by kernel_rfl) (by kernel_rfl) ?_
 have hn:=heap_alloc_new w (.cells #[.int .i64 0,.int .i64 0] 88);have hb:Below w.heap.size w (w.alloc (.cells #[.int .i64 0,.int .i64 0] 88)):=(Below.refl _ _).alloc (Nat.le_refl _) _;generalize w.alloc (.cells #[.int .i64 0,.int .i64 0] 88)=X at hn hb ⊢;refine zh3 ⟨#[.pointer (some ⟨k,0,none⟩),.pointer (some ⟨w.heap.size,0,none⟩),undef,.tuple #[.agg (wroC s),.bool true],.iface 88 (.agg (wroC s)),.tuple #[.agg (wroC s),.bool true],.agg (wroC s),.bool true,undef,undef,undef],[]⟩ 88 (.tmp 1) (.tmp 6) w.heap.size (wroC s) 88 _ (by kernel_rfl) (by kernel_rfl) (by kernel_rfl) (by kernel_rfl) (by kernel_rfl) hn (by kernel_rfl) rfl (by simp[wroC,Value.oneCell']) (by kernel_rfl) ?_;have hrow:=zad (cs:=wroC s) hn;have hb2:Below w.heap.size w (X.setRow w.heap.size (wroC s)):=zai hb (Nat.le_refl _) _;generalize X.setRow w.heap.size (wroC s)=Y at hrow hb2 ⊢;refine zb8 ⟨#[.pointer (some ⟨k,0,none⟩),.pointer (some ⟨w.heap.size,0,none⟩),.bool true,.tuple #[.agg (wroC s),.bool true],.iface 88 (.agg (wroC s)),.tuple #[.agg (wroC s),.bool true],.agg (wroC s),.bool true,undef,undef,undef],[]⟩ (.bool true) Y (by kernel_rfl) (by kernel_rfl) (by kernel_rfl) (by kernel_rfl) ?_;have hkY:Y.heap[k]?=some (.cells #[.int .i64 z0,.int .i64 z1] 28 (0,0)):=(hb2.block _ (zaa hk)).trans hk;have hklt:=zaa hk;have c0:Y.cell? ⟨w.heap.size,0,none⟩=some (.int .i64 210):=(cell_of_row _ _ 0 _ _ _ hrow).trans rfl;have c1:Y.cell? ⟨w.heap.size,1,none⟩=some (.int .i64 s):=(cell_of_row _ _ 1 _ _ _ hrow).trans rfl;have d0:Y.cell? ⟨k,0,none⟩=some (.int .i64 z0):=(cell_of_row _ _ 0 _ _ _ hkY).trans rfl;have d1:Y.cell? ⟨k,1,none⟩=some (.int .i64 z1):=(cell_of_row _ _ 1 _ _ _ hkY).trans rfl;have f0:Y.frozen? ⟨k,0,none⟩=false:=frozen_of_row _ _ _ _ _ hkY;have f1:Y.frozen? ⟨k,1,none⟩=false:=frozen_of_row _ _ _ _ _ hkY;have HROW:Hid (((Y.setCell ⟨k,0,none⟩ (.int .i64 210)).setCell ⟨k,1,none⟩ (.int .i64 s)).heap[k]?=some (.cells (wroC s) 28 (0,0))):=heap_setCell_same _ _ 1 _ _ _ (heap_setCell_same _ _ 0 _ _ _ hkY);have HG:Hid (w.grownBy ((Y.setCell ⟨k,0,none⟩ (.int .i64 210)).setCell ⟨k,1,none⟩ (.int .i64 s)) (some k)):=by
  have h1:=((Below.refl 0 Y).setCell (p:=⟨k,0,none⟩) (Nat.zero_le _) (.int .i64 210)).setCell (p:=⟨k,1,none⟩) (Nat.zero_le _) (.int .i64 s);exact⟨h1.os.trans hb2.os,h1.tape.trans hb2.tape,h1.output.trans hb2.output,Nat.le_trans hb2.size h1.size,fun j hj hjk=>(heap_setCell_other _ _ _ _ (fun e=>hjk (by rw[show j=k from e]))).trans ((heap_setCell_other _ _ _ _ (fun e=>hjk (by rw[show j=k from e]))).trans (hb2.block j hj))⟩
 clear hn hb hrow hb2 hkY;refine zk7 ?_;show Code.wpS _ _ _ _ _ _;refine wpS_of_wp ?_
 go_wp2
 exact⟨rfl,_,rfl,_,by kernel_rfl,rfl,rfl,HROW,HG⟩
theorem zl7 (k:Nat)(w:World) :
  CallsD Tryz.prog 52 #[.pointer (some ⟨k,0,none⟩)] .returning w fun e u' w'=>
   e=.returned (.tuple #[])∧u'=.returning∧Below w.heap.size w w':=by
 refine callsD_of_wpS Tryz.func52 rfl fun c₀ cs hu=>?_;apply wpS_seq;apply wpS_region;rw[Tryz.ntmps52];refine WpO.out ?_;show WpO _ _ _ [0,1,2,3,4,5,6,7] ⟨#[.pointer (some ⟨k,0,none⟩),undef,undef,undef,undef,undef,undef,undef,undef,undef,undef],[]⟩ _ _;refine znw ⟨#[.pointer (some ⟨k,0,none⟩),undef,undef,undef,.nilIface,undef,undef,undef,undef,undef,undef],[]⟩ (by kernel_rfl) (by kernel_rfl) (by kernel_rfl) (by simp[recoverD,hu]) (by kernel_rfl) ?_;refine zb8 ⟨#[.pointer (some ⟨k,0,none⟩),undef,undef,undef,.nilIface,.tuple #[.agg #[.int .i64 0,.int .i64 0],.bool false],undef,undef,undef,undef,undef],[]⟩ (.tuple #[.agg #[.int .i64 0,.int .i64 0],.bool false]) w (by kernel_rfl) (by kernel_rfl) (by kernel_rfl) (by kernel_rfl) ?_;refine zb8 ⟨#[.pointer (some ⟨k,0,none⟩),undef,undef,.tuple #[.agg #[.int .i64 0,.int .i64 0],.bool false],.nilIface,.tuple #[.agg #[.int .i64 0,.int .i64 0],.bool false],undef,undef,undef,undef,undef],[]⟩ (.tuple #[.agg #[.int .i64 0,.int .i64 0],.bool false]) w (by kernel_rfl) (by kernel_rfl) (by kernel_rfl) (by kernel_rfl) ?_;refine zb8 ⟨#[.pointer (some ⟨k,0,none⟩),undef,undef,.tuple #[.agg #[.int .i64 0,.int .i64 0],.bool false],.nilIface,.tuple #[.agg #[.int .i64 0,.int .i64 0],.bool false],.agg #[.int .i64 0,.int .i64 0],undef,undef,undef,undef],[]⟩ (.agg #[.int .i64 0,.int .i64 0]) w (by kernel_rfl) (by kernel_rfl) (by kernel_rfl) (by kernel_rfl) ?_;refine zb8 ⟨#[.pointer (some ⟨k,0,none⟩),undef,undef,.tuple #[.agg #[.int .i64 0,.int .i64 0],.bool false],.nilIface,.tuple #[.agg #[.int .i64 0,.int .i64 0],.bool false],.agg #[.int .i64 0,.int .i64 0],.bool false,undef,undef,undef],[]⟩ (.bool false) w (by kernel_rfl) (by kernel_rfl) (by kernel_rfl) (by kernel_rfl) ?_;refine zb8 ⟨#[.pointer (some ⟨k,0,none⟩),.pointer (some ⟨w.heap.size,0,none⟩),undef,.tuple #[.agg #[.int .i64 0,.int .i64 0],.bool false],.nilIface,.tuple #[.agg #[.int .i64 0,.int .i64 0],.bool false],.agg #[.int .i64 0,.int .i64 0],.bool false,undef,undef,undef],[]⟩ (.pointer (some ⟨w.heap.size,0,none⟩)) (w.alloc (.cells #[.int .i64 0,.int .i64 0] 88)) (by kernel_rfl) (by kernel_rfl) (by kernel_rfl) (by kernel_rfl) ?_
 have hn:=heap_alloc_new w (.cells #[.int .i64 0,.int .i64 0] 88);have hb:Below w.heap.size w (w.alloc (.cells #[.int .i64 0,.int .i64 0] 88)):=(Below.refl _ _).alloc (Nat.le_refl _) _;generalize w.alloc (.cells #[.int .i64 0,.int .i64 0] 88)=X at hn hb ⊢;refine zh3 ⟨#[.pointer (some ⟨k,0,none⟩),.pointer (some ⟨w.heap.size,0,none⟩),undef,.tuple #[.agg #[.int .i64 0,.int .i64 0],.bool false],.nilIface,.tuple #[.agg #[.int .i64 0,.int .i64 0],.bool false],.agg #[.int .i64 0,.int .i64 0],.bool false,undef,undef,undef],[]⟩ 88 (.tmp 1) (.tmp 6) w.heap.size #[.int .i64 0,.int .i64 0] 88 _ (by kernel_rfl) (by kernel_rfl) (by kernel_rfl) (by kernel_rfl) (by kernel_rfl) hn (by kernel_rfl) rfl (by simp[Value.oneCell']) (by kernel_rfl) ?_;have hb2:Below w.heap.size w (X.setRow w.heap.size #[.int .i64 0,.int .i64 0]):=zai hb (Nat.le_refl _) _;generalize X.setRow w.heap.size #[.int .i64 0,.int .i64 0]=Y at hb2 ⊢;refine zb8 ⟨#[.pointer (some ⟨k,0,none⟩),.pointer (some ⟨w.heap.size,0,none⟩),.bool false,.tuple #[.agg #[.int .i64 0,.int .i64 0],.bool false],.nilIface,.tuple #[.agg #[.int .i64 0,.int .i64 0],.bool false],.agg #[.int .i64 0,.int .i64 0],.bool false,undef,undef,undef],[]⟩ (.bool false) Y (by kernel_rfl) (by kernel_rfl) (by kernel_rfl) (by kernel_rfl) ?_;have HB:=hid hb2;clear hn hb hb2;refine zk7 ?_;show Code.wpS _ _ _ _ _ _;refine wpS_of_wp ?_
 go_wp2
 refine⟨rfl,.returning,?_,_,by kernel_rfl,rfl,rfl,HB⟩
 cases c₀
 cases hu
 rfl
theorem zbr {P:Program}{fn:Func}{p q:Tmp}{ty ty2:TypeId}(h:fn.results=#[.cell p ty,.cell q ty2])(tmps:Array Value)(w:World)(g g2:Nat)(t t2:TypeId)(cs cs2:Array Value)(fr fr2:Nat × Nat)(d d2:TypeDesc)
  (hp:tmps.getD p undef=.pointer (some ⟨g,0,none⟩)) (hq:tmps.getD q undef=.pointer (some ⟨g2,0,none⟩)) (hg:w.heap[g]?=some (.cells cs t fr)) (hg2:w.heap[g2]?=some (.cells cs2 t2 fr2))
  (hu:P.underlying ty=some d) (hd:(match d with | .struct _ | .array _ _=>true|_=>false)=true) (hi:(P.info? ty).map (·.size)=some cs.size)
  (hu2:P.underlying ty2=some d2) (hd2:(match d2 with | .struct _ | .array _ _=>true|_=>false)=true) (hi2:(P.info? ty2).map (·.size)=some cs2.size) :
  (results fn tmps).run P w=.ok (.tuple #[.agg cs,.agg cs2]) w:=by
 have hp':tmps[p]?.getD undef=.pointer (some ⟨g,0,none⟩):=by simpa using hp
 have hq':tmps[q]?.getD undef=.pointer (some ⟨g2,0,none⟩):=by simpa using hq
 simp[results,h,hp',hq',asAddr,run_loadVar_row w g t ty cs fr d hg hu hd hi,run_loadVar_row w g2 t2 ty2 cs2 fr2 d2 hg2 hu2 hd2 hi2]
theorem TrAt.other {B:Nat}{w:World}{v:Value}{L:List Nd}(h:TrAt B w v L){k:Nat}{old:Array Value}{t:TypeId}(hk:w.heap[k]?=some (.cells old t (0,0)))(ht:t=25∨t=28)(hB:k<B)(i:Nat)(x:Value):TrAt B (w.setCell ⟨k,i,none⟩ x) v L:=by
 obtain⟨N,S,h1,h2,h3⟩:=h;refine⟨N,S,h1.keep fun q hq=>heap_setCell_other _ _ _ _ fun e=>?_,h2.keep (fun _ h=>h) fun j hj=>heap_setCell_other _ _ _ _ fun e=>?_,fun j hj=>⟨(h3 j hj).1,by simp;exact(h3 j hj).2⟩⟩
 ·exact h1.ne hk (by rcases ht with rfl|rfl <;> decide) (by rw[hq,show q=k from e])
 ·have h5:j=k:=e;have:=(h3 j hj).1;omega
def RdP (w:World) (ts:List Tok) (e:Ending) (w':World):Prop :=
 Below w.heap.size w w'∧match filO ts with
   | .ok t _=>cntP t<=400000∧∃ v,e=.returned (.tuple #[.agg #[v],.agg #[.int .i64 0,.int .i64 0]])∧TrAt w.heap.size w' v (layP 0 t)
   | .bad s=>e=.returned (.tuple #[.agg #[.slice none 0 0],.agg (wroC s)])
   | .out=>False
theorem zph (w:World)(st:Option Addr)(cap:Nat)(ts:List Tok)(few:ts.length<=100000)(ok:∀ t ∈ ts,-1000000000000000000<=t.pos∧t.pos<=1000000000000000000∧t.text.size<=100000)
  (henv:∀ W:World,(∀ k,k<w.heap.size->W.heap[k]?=w.heap[k]?)->RowsT W st ts∧Tabl W) :
  Calls Tryz.prog 29 #[.slice st ts.length cap] w (RdP w ts):=by
 have HENV:=hid henv;have HOK:Hid (∀ t ∈ ts,-1000000000000000000<=t.pos∧t.pos<=1000000000000000000∧t.text.size<=100000):=ok;clear henv ok;have hmf:∀ (fn:Fn) (first cap:Array Value) (w:World),(Instr.makeFunc fn first cap).run Tryz.prog w=.ok (.func fn first cap) w:=fun _ _ _ _=>rfl
 go_enter_defers Tryz.func29,Tryz.ntmps29
 go_wp2_with fail
 refine zaf (fun W=>W.heap[w.heap.size]?=some (.cells #[.slice none 0 0] 25 (0,0))∧W.heap[w.heap.size+1]?=some (.cells #[.int .i64 0,.int .i64 0] 28 (0,0))∧W.heap[w.heap.size+1+1]?=some (.cells #[.slice st ts.length cap,.int .i64 0] 91 (0,0))∧Below w.heap.size w W) ?_ ?_
 ·have n0:=heap_alloc_new w (.cells #[.slice none 0 0] 25);have n1:=heap_alloc_new (w.alloc (.cells #[.slice none 0 0] 25)) (.cells #[.int .i64 0,.int .i64 0] 28);have n2:=heap_alloc_new ((w.alloc (.cells #[.slice none 0 0] 25)).alloc (.cells #[.int .i64 0,.int .i64 0] 28)) (.cells #[.slice st ts.length cap,.int .i64 0] 91);simp only[World.size_alloc] at n1 n2;exact⟨(Below.heap_alloc _ _ _ (by simp;try omega)).trans ((Below.heap_alloc _ _ _ (by simp)).trans n0),(Below.heap_alloc _ _ _ (by simp)).trans n1,n2,(((Below.refl _ _).alloc (Nat.le_refl _) _).alloc (by simp) _).alloc (by simp;try omega) _⟩
 rintro W ⟨hz,hs,hr,hB⟩;have hsz:w.heap.size+1+1<W.heap.size:=zaa hr;have hR:Rdr (w.heap.size+1+1+1) W (w.heap.size+1+1) st cap ts 0:=⟨hr,Nat.zero_le _,few,HOK.out,by omega,by omega,fun W' hW'=>HENV.out W' fun k hk=>(hW' k (by omega) (by omega)).trans (hB.block k hk)⟩;refine(zpf (12 * ts.length+12) hR zkv).mono ?_;rintro e W4 ⟨hG,hm⟩;have hz4:W4.heap[w.heap.size]?=some (.cells #[.slice none 0 0] 25 (0,0)):=(hG.block _ (by omega) (by simp;try omega)).trans hz;have hs4:W4.heap[w.heap.size+1]?=some (.cells #[.int .i64 0,.int .i64 0] 28 (0,0)):=(hG.block _ (by omega) (by simp;try omega)).trans hs;have hB4:Below w.heap.size w W4:=⟨hG.os.trans hB.os,hG.tape.trans hB.tape,hG.output.trans hB.output,Nat.le_trans hB.size hG.size,fun k hk=>(hG.block k (by omega) (by simp;try omega)).trans (hB.block k hk)⟩;have HX:Hid (filP ts (12 * ts.length+12) 0=filO ts):=rfl;rw[HX.out] at hm;clear HX hG hR hB hz hs hr;obtain⟨r,hr⟩:∃ r,filO ts=r:=⟨_,rfl⟩;rw[hr] at hm
 cases r with
 | out=>exact hm.elim
 | bad s=>
  cases hm
  refine leaves_cons (f:=52) (args:=#[.pointer (some ⟨w.heap.size+1,0,none⟩)]) (by simp) (by kernel_rfl) ?_;refine(zkb (w.heap.size+1) s 0 0 [] W4 hs4).mono ?_;rintro e u' W5 ⟨rfl,rfl,hs5,hG5⟩;have hz5:W5.heap[w.heap.size]?=some (.cells #[.slice none 0 0] 25 (0,0)):=(hG5.block _ (zaa hz4) (by simp;try omega)).trans hz4;have hB5:Below w.heap.size w W5:=⟨hG5.os.trans hB4.os,hG5.tape.trans hB4.tape,hG5.output.trans hB4.output,Nat.le_trans hB4.size hG5.size,fun k hk=>(hG5.block k (Nat.lt_of_lt_of_le hk hB4.size) (by simp;try omega)).trans (hB4.block k hk)⟩;refine⟨_,zbr Tryz.results29 _ _ w.heap.size (w.heap.size+1) _ _ _ _ (0,0) (0,0) _ _ rfl rfl hz5 hs5 Tryz.underlying25 rfl (by kernel_rfl) Tryz.underlying28 rfl (by kernel_rfl),hB5,?_⟩;rw[hr]
 | ok t q=>
  obtain⟨b,rfl,hP,hRd⟩:=hm;have hb4:=zaa hs4;have hcnt:cntP t<=400000:=by
   have h1:=znu hr;have h2:=hRd.le;omega
  have HP:Hid _:=hP;have HB4:Hid _:=hB4;clear hP hRd hB4
  go_wp2_with fail
  refine(zjp HP.out (fun j h=>h.2) hcnt).mono ?_;rintro e W5 ⟨v,rfl,hT5,hB5⟩;obtain⟨s5,c5,rfl⟩:=hT5.shape;have hz5:=(hB5.block _ (zaa hz4)).trans hz4;have hs5:=(hB5.block _ (zaa hs4)).trans hs4;have HT:Hid (TrAt w.heap.size (((W5.setCell ⟨w.heap.size,0,none⟩ (.slice s5 (layP 0 t).length c5)).setCell ⟨w.heap.size+1,0,none⟩ (.int .i64 0)).setCell ⟨w.heap.size+1,1,none⟩ (.int .i64 0)) (.slice s5 (layP 0 t).length c5) (layP 0 t)):=by
   have h1:=hT5.other hz5 (.inl rfl) (by omega) 0 (.slice s5 (layP 0 t).length c5);have hs6:=(heap_setCell_other W5 ⟨w.heap.size,0,none⟩ (w.heap.size+1) (.slice s5 (layP 0 t).length c5) (by simp)).trans hs5;have h2:=h1.other hs6 (.inr rfl) (by omega) 0 (.int .i64 0);have hs7:=heap_setCell_same _ _ 0 _ _ (.int .i64 0) hs6;exact(h2.other hs7 (.inr rfl) (by omega) 1 (.int .i64 0)).mono (by omega)
  have HZ:Hid ((((W5.setCell ⟨w.heap.size,0,none⟩ (.slice s5 (layP 0 t).length c5)).setCell ⟨w.heap.size+1,0,none⟩ (.int .i64 0)).setCell ⟨w.heap.size+1,1,none⟩ (.int .i64 0)).heap[w.heap.size]?=some (.cells #[.slice s5 (layP 0 t).length c5] 25 (0,0))) :=
   (heap_setCell_other _ _ _ _ (by simp)).trans ((heap_setCell_other _ _ _ _ (by simp)).trans (heap_setCell_same _ _ 0 _ _ _ hz5))
  have HS:Hid ((((W5.setCell ⟨w.heap.size,0,none⟩ (.slice s5 (layP 0 t).length c5)).setCell ⟨w.heap.size+1,0,none⟩ (.int .i64 0)).setCell ⟨w.heap.size+1,1,none⟩ (.int .i64 0)).heap[w.heap.size+1]?=some (.cells #[.int .i64 0,.int .i64 0] 28 (0,0))) :=
   heap_setCell_same _ _ 1 _ _ _ (heap_setCell_same _ _ 0 _ _ _ ((heap_setCell_other _ _ _ _ (by simp)).trans hs5))
  have HB:Hid (Below w.heap.size w (((W5.setCell ⟨w.heap.size,0,none⟩ (.slice s5 (layP 0 t).length c5)).setCell ⟨w.heap.size+1,0,none⟩ (.int .i64 0)).setCell ⟨w.heap.size+1,1,none⟩ (.int .i64 0))) :=
   (((HB4.out.trans (hB5.mono (by omega))).setCell (p:=⟨w.heap.size,0,none⟩) (Nat.le_refl _) _).setCell (p:=⟨w.heap.size+1,0,none⟩) (Nat.le_succ _) _).setCell (p:=⟨w.heap.size+1,1,none⟩) (Nat.le_succ _) _
  have z0:W5.cell? ⟨w.heap.size,0,none⟩=some (.slice none 0 0):=(cell_of_row _ _ 0 _ _ _ hz5).trans rfl;have f0:W5.frozen? ⟨w.heap.size,0,none⟩=false:=frozen_of_row _ _ _ _ _ hz5;have s0:W5.cell? ⟨w.heap.size+1,0,none⟩=some (.int .i64 0):=(cell_of_row _ _ 0 _ _ _ hs5).trans rfl;have s1:W5.cell? ⟨w.heap.size+1,1,none⟩=some (.int .i64 0):=(cell_of_row _ _ 1 _ _ _ hs5).trans rfl;have g0:W5.frozen? ⟨w.heap.size+1,0,none⟩=false:=frozen_of_row _ _ _ _ _ hs5;have g1:W5.frozen? ⟨w.heap.size+1,1,none⟩=false:=frozen_of_row _ _ _ _ _ hs5;have HR:Hid _:=hr;clear hz5 hs5 hz4 hs4 hT5 hB5 HP HB4 hr;generalize (layP 0 t).length=nn at HT HZ HS HB ⊢
  go_wp2
  refine leaves_cons (f:=52) (args:=#[.pointer (some ⟨w.heap.size+1,0,none⟩)]) (by simp) (by kernel_rfl) ?_;refine(zl7 (w.heap.size+1) _).mono ?_;rintro e u' W6 ⟨rfl,rfl,hB6⟩;refine⟨_,zbr Tryz.results29 _ _ w.heap.size (w.heap.size+1) _ _ _ _ (0,0) (0,0) _ _ rfl rfl ((hB6.block _ (zaa HZ.out)).trans HZ.out) ((hB6.block _ (zaa HS.out)).trans HS.out) Tryz.underlying25 rfl (by kernel_rfl) Tryz.underlying28 rfl (by kernel_rfl),HB.out.trans (hB6.mono HB.out.size),?_⟩;rw[HR.out];exact⟨hcnt,_,rfl,HT.out.below hB6⟩
def risB:Int->List Tok->Bool
 | _,[]=>true
 | last,t::r=>if t.pos<=last then false else risB t.pos r
theorem zh4 (sp:Option Addr)(cap:Nat)(ts:List Tok)(w:World)(hr:RowsT w sp ts)(hm:ts.length<=100000) :
  Calls Tryz.prog 28 #[.slice sp ts.length cap] w fun e w'=>e=.returned (.bool (risB (-1) ts))∧Below w.heap.size w w':=by
 have HR:=hid hr;clear hr
 go_enter Tryz.func28,Tryz.ntmps28
 go_wp2
 go_loopw [3,8] (fun l i wr=>∃ (t:Nat) (last:Int),t<=ts.length∧i=.int .i64 t∧l=.int .i64 last∧Below w.heap.size w wr∧risB last (ts.drop t)=risB (-1) ts) (fun l i _=>ts.length - (intOf i).toNat)
 case atStart=>exact⟨0,-1,Nat.zero_le _,rfl,rfl,Below.refl _ _,rfl⟩
 case round=>
  obtain⟨t,last,ht,rfl,rfl,hB,hch⟩:=hrel;have HB:=hid hB;have HCH:=hid hch;clear hB hch
  by_cases hlt:t<ts.length
  ·have hd:decide ((t:Int)<ts.length)=true:=by simp;omega
   obtain⟨b,o,rfl,-⟩:=HR.out (by omega);obtain⟨x,hx⟩:∃ x,ts[t]?=some x:=⟨_,List.getElem?_eq_getElem (by omega)⟩;obtain⟨k0,k1,k2⟩:=zcn (RowsAt.below HR.out HB.out) hx;have HD:Hid (ts.drop t=x::ts.drop (t+1)):=by
    have hg:=List.getElem?_eq_some_iff.1 hx;show ts.drop t=x::ts.drop (t+1);rw[<-List.getElem_cons_drop (h:=hlt),hg.2]
   clear hx;have HA:Hid (Below w.heap.size w (wr.alloc (.cells x.cells 38 (0,0)))):=HB.out.alloc HB.out.size _
   by_cases hp:x.pos<=last
   ·have HN:Hid (false=risB (-1) ts):=by rw[<-HCH.out,HD.out,risB,if_pos hp];exact rfl
    go_wp2
    go_ret
    exact⟨by rw[<-HN.out];exact rfl,HA.out⟩
   ·have HN:Hid (risB x.pos (ts.drop (t+1))=risB (-1) ts):=by rw[<-HCH.out,HD.out,risB,if_neg hp];exact rfl
    go_wp2
    refine⟨⟨t+1,x.pos,by omega,by congr 1,rfl,HA.out,HN.out⟩,?_⟩;show ts.length - ((t:Int)+1).toNat<ts.length - (t:Int).toNat;omega
  ·have hd:decide ((t:Int)<ts.length)=false:=by simp;omega
   have HN:Hid (true=risB (-1) ts):=by rw[<-HCH.out,List.drop_eq_nil_of_le (by omega)];exact rfl
   go_wp2
   go_ret
   exact⟨by rw[<-HN.out];exact rfl,HB.out⟩
def dpF:(Nat->Int)->Nat->Int->List Nd->Int
 | _,_,m,[]=>m
 | D,i,m,d::r=>dpF (fun j=>if j ∈ d.kids then D i+1 else upd D i (D i+1) j) (i+1) (max m (D i+1)) r
theorem znx (n:Nat)(hn:n<=400000)(w:World):(Instr.makeSlice 51 (.int .i64 n) (.int .i64 n)).run Tryz.prog w=.ok (.slice (some ⟨w.heap.size,0,none⟩) n n) (w.alloc (.cells (arr .i64 n fun _=>0) 3)):=by
 have h:(Tryz.prog.info? 3).map (fun i=>(i.zero,i.size,i.bytes))=some (some (.int .i64 0),1,8):=by kernel_rfl
 cases hi:Tryz.prog.info? 3 with
 | none=>rw[hi] at h;cases h
 | some i=>
  rw[hi] at h;simp only[Option.map_some,Option.some.injEq,Prod.mk.injEq] at h;obtain⟨hz,hs,hb⟩:=h;have h:=run_makeSlice (P:=Tryz.prog) w 51 3 i (.int .i64 0) Tryz.underlying51 hi hz .i64 .i64 n n (by omega) (by omega) (by rw[hs];omega) (by rw[hb];omega) (by omega);rw[show((n:Int)).toNat=n by omega,hs,Nat.mul_one] at h;have e:madeCells (Value.int .i64 0).cells n=arr .i64 n fun _=>0:=by
   apply Array.ext
   ·simp[madeCells,arr,Value.cells]
   ·intro j h1 h2;simp[madeCells,arr,Value.cells,Nat.mod_one]
  rw[h,e]
theorem zcb {w:World}{b o i:Nat}{N:List NdM}(h:RowsAt w 7 NdM.cells (some ⟨b,o,none⟩) N){m:NdM}(hm:N[i]?=some m)(j:Nat)(u:Value)(hu:m.cells[j]?=some u):w.cell? ⟨b,o+i * 7+j,none⟩=some u:=by
 obtain⟨b',o',e,hc⟩:=h (by have:=(List.getElem?_eq_some_iff.1 hm).1;omega);injection e with e;injection e with e1 e2;subst e1 e2;exact hc i m hm j u hu
theorem zkc (w:World)(sp:Option Addr)(cap:Nat) (N:List NdM) (S:Nat->Prop) (L:List Nd)(hN:RowsAt w 7 NdM.cells sp N)(hP:Rep w S N L)(hn:L.length<=400000)(hk:∀ d ∈ L,(∀ k ∈ d.kids,k<L.length)∧d.kids.length<=400000) :
  Calls Tryz.prog 30 #[.agg #[.slice sp L.length cap]] w fun e w'=>e=.returned (.int .i64 (dpF (fun _=>0) 0 0 L))∧Below w.heap.size w w':=by
 have HN:=hid hN;have HP:=hid hP;have HK:=hid hk;have hmk:=znx L.length hn;clear hN hP hk
 go_enter Tryz.func30,Tryz.ntmps30
 go_wp2
 refine zdd (fun W=>W.heap[w.heap.size+1]?=some (.cells (arr .i64 L.length fun _=>0) 3 (0,0))∧Below w.heap.size w W) ?_ ?_
 ·exact⟨by have h:=heap_alloc_new (w.alloc (.cells #[.slice sp L.length cap] 25)) (.cells (arr .i64 L.length fun _=>0) 3);simpa using h,((Below.refl _ _).alloc (Nat.le_refl _) _).alloc (by simp) _⟩
 rintro W0 ⟨hK0,hB0⟩;clear hmk
 go_loopw [4,16] (fun l i wr=>∃ (t:Nat) (D:Nat->Int) (m:Int),t<=L.length∧i=.int .i64 t∧l=.int .i64 m∧Below w.heap.size w wr∧wr.heap[w.heap.size+1]?=some (.cells (arr .i64 L.length D) 3 (0,0))∧(∀ j,0<=D j∧D j<=t)∧dpF D t m (L.drop t)=dpF (fun _=>0) 0 0 L) (fun l i _=>L.length - (intOf i).toNat)
 case atStart=>exact⟨0,fun _=>0,0,Nat.zero_le _,rfl,rfl,hB0,hK0,fun _=>by simp,rfl⟩
 case round=>
  obtain⟨t,D,m,ht,rfl,rfl,hB,hrow,hD,hch⟩:=hrel;have HB:=hid hB;have HROW:=hid hrow;have HCH:=hid hch;have HD:=hid hD;clear hB hch hrow hD
  by_cases hlt:t<L.length
  ·have hd:decide ((t:Int)<L.length)=true:=by simp;omega
   have hNl:N.length=L.length:=HP.out.1;obtain⟨b,o,rfl,-⟩:=HN.out (by omega);obtain⟨d,hx⟩:∃ d,L[t]?=some d:=⟨_,List.getElem?_eq_getElem (by omega)⟩;obtain⟨x,hm⟩:∃ x,N[t]?=some x:=⟨_,List.getElem?_eq_getElem (by omega)⟩;have hR:=RowsAt.below HN.out HB.out;have k0:wr.cell? ⟨b,o+t * 7,none⟩=some (.int .i64 x.k):=zcb hR hm 0 _ rfl;have k1:wr.cell? ⟨b,o+t * 7+1,none⟩=some (.string x.x):=zcb hR hm 1 _ rfl;have k2:wr.cell? ⟨b,o+t * 7+2,none⟩=some (.int .i64 x.n):=zcb hR hm 2 _ rfl;have k3:wr.cell? ⟨b,o+t * 7+3,none⟩=some (.slice x.ks x.kn x.kc):=zcb hR hm 3 _ rfl;have k4:wr.cell? ⟨b,o+t * 7+4,none⟩=some (.int .i64 x.a):=zcb hR hm 4 _ rfl;have k5:wr.cell? ⟨b,o+t * 7+5,none⟩=some (.int .i64 x.f):=zcb hR hm 5 _ rfl;have k6:wr.cell? ⟨b,o+t * 7+6,none⟩=some (.int .i64 x.t):=zcb hR hm 6 _ rfl;obtain⟨-,hkn,hkr,-,-⟩:=HP.out.2 t x d hm hx;have HKR:=hid hkr;have HDR:Hid (L.drop t=d::L.drop (t+1)):=by
    have hg:=List.getElem?_eq_some_iff.1 hx;show L.drop t=d::L.drop (t+1);rw[<-List.getElem_cons_drop (h:=hlt),hg.2]
   have HKD:Hid (∀ k ∈ d.kids,k<L.length):=(HK.out d (List.mem_of_getElem? hx)).1;have hkl:=(HK.out d (List.mem_of_getElem? hx)).2;clear hx hm hkr hR;rw[hkn] at k3;clear hkn;have hlt1:=zaa HROW.out;have hrB:=zmr HROW.out t (D t+1);have ca:=zgi HROW.out hlt;have fa:wr.frozen? ⟨w.heap.size+1,t,none⟩=false:=frozen_of_row _ _ _ _ _ HROW.out;have cb:=zgi hrB hlt;have cu:upd D t (D t+1) t=D t+1:=by simp[upd]
   rw[cu] at cb;clear cu;have HRB:Hid (((wr.setCell ⟨w.heap.size+1,t,none⟩ (.int .i64 (D t+1))).alloc (.cells #[.int .i64 x.k,.string x.x,.int .i64 x.n,.slice x.ks d.kids.length x.kc,.int .i64 x.a,.int .i64 x.f,.int .i64 x.t] 53 (0,0))).heap[w.heap.size+1]?=some (.cells (arr .i64 L.length (upd D t (D t+1))) 3 (0,0))):=(Below.heap_alloc _ _ _ (zaa hrB)).trans hrB;have HBB:Hid (Below w.heap.size w ((wr.setCell ⟨w.heap.size+1,t,none⟩ (.int .i64 (D t+1))).alloc (.cells #[.int .i64 x.k,.string x.x,.int .i64 x.n,.slice x.ks d.kids.length x.kc,.int .i64 x.a,.int .i64 x.f,.int .i64 x.t] 53 (0,0)))):=(HB.out.setCell (p:=⟨w.heap.size+1,t,none⟩) (Nat.le_succ _) _).alloc (by simp;exact HB.out.size) _;obtain⟨hd0,hd1⟩:=HD.out t;clear hrB
   go_wp2_with fail
   refine zdd (fun W=>W.heap[w.heap.size+1]?=some (.cells (arr .i64 L.length (upd D t (D t+1))) 3 (0,0))∧Below w.heap.size w W) ⟨HRB.out,HBB.out⟩ ?_;rintro W1 ⟨hr1,hb1⟩;have HNX:Hid (dpF (fun j=>if j ∈ d.kids then D t+1 else upd D t (D t+1) j) (t+1) (max m (D t+1)) (L.drop (t+1))=dpF (fun _=>0) 0 0 L):=by
    rw[<-HCH.out,HDR.out];exact rfl
   have HDN:Hid (∀ j,0<=(if j ∈ d.kids then D t+1 else upd D t (D t+1) j)∧(if j ∈ d.kids then D t+1 else upd D t (D t+1) j)<=((t+1:Nat):Int)):=fun j=>by
    have h1:=HD.out j;unfold upd
    split
    ·omega
    ·split <;> omega
   clear k0 k1 k2 k3 k4 k5 k6 ca fa cb HROW HB HRB HBB HCH HDR HN HP HK hK0 hB0 hNl
   go_loopw [36] (fun i w2=>∃ u:Nat,u<=d.kids.length∧i=.int .i64 u∧Below w.heap.size w w2∧w2.heap[w.heap.size+1]?=some (.cells (arr .i64 L.length (fun j=>if j ∈ d.kids.take u then D t+1 else upd D t (D t+1) j)) 3 (0,0))) (fun i _=>d.kids.length - (intOf i).toNat)
   case atStart=>exact⟨0,Nat.zero_le _,rfl,hb1,by simpa using hr1⟩
   case round=>
    obtain⟨u,hu,rfl,hB2,hr2⟩:=hrel;have HB2:=hid hB2;have HR2:=hid hr2;clear hB2 hr2 hr1 hb1
    by_cases hul:u<d.kids.length
    ·have hd2:decide ((u:Int)<d.kids.length)=true:=by simp;omega
     obtain⟨k,hk⟩:∃ k,d.kids[u]?=some k:=⟨_,List.getElem?_eq_getElem hul⟩;obtain⟨b2,o2,hks,hc⟩:=HKR.out (by omega);have hkL:k<L.length:=HKD.out k (List.mem_of_getElem? hk);have q0:wr.cell? ⟨b2,o2+u,none⟩=some (.int .i64 k):=by
      have h1:=hc u k hk 0 (.int .i64 k) rfl;rw[Nat.mul_one,Nat.add_zero] at h1;exact(HB2.out.cell (block_lt_of_cell h1)).trans h1
     have q1:wr.cell? ⟨w.heap.size+1,t,none⟩=some (.int .i64 (D t+1)):=by
      rw[zgi HR2.out hlt]
      congr 2
      simp[upd]
     have q2:=zgi HR2.out hkL;have f2:wr.frozen? ⟨w.heap.size+1,k,none⟩=false:=frozen_of_row _ _ _ _ _ HR2.out;have HR3:Hid ((wr.setCell ⟨w.heap.size+1,k,none⟩ (.int .i64 (D t+1))).heap[w.heap.size+1]?=some (.cells (arr .i64 L.length (fun j=>if j ∈ d.kids.take (u+1) then D t+1 else upd D t (D t+1) j)) 3 (0,0))):=by
      show _=_;rw[zmr HR2.out k (D t+1)]
      congr 2
      refine zmq fun j _=>?_;rw[List.take_add_one,hk];unfold upd
      by_cases hjk:j=k
      ·subst hjk;simp
      ·simp[hjk]
     have HB3:Hid (Below w.heap.size w (wr.setCell ⟨w.heap.size+1,k,none⟩ (.int .i64 (D t+1)))):=HB2.out.setCell (p:=⟨w.heap.size+1,k,none⟩) (Nat.le_succ _) _;clear hc hk;generalize (if k ∈ d.kids.take u then D t+1 else upd D t (D t+1) k)=old at q2
     go_wp2
     refine⟨⟨u+1,by omega,by congr 1,HB3.out,HR3.out⟩,?_⟩;show d.kids.length - ((u:Int)+1).toNat<d.kids.length - (u:Int).toNat;omega
    ·have hd2:decide ((u:Int)<d.kids.length)=false:=by simp;omega
     have HR4:Hid (wr.heap[w.heap.size+1]?=some (.cells (arr .i64 L.length (fun j=>if j ∈ d.kids then D t+1 else upd D t (D t+1) j)) 3 (0,0))):=by
      have h:=HR2.out
      rwa [List.take_of_length_le (by omega)] at h
     go_wp2
     refine⟨⟨t+1,_,_,by omega,by congr 1,rfl,HB2.out,HR4.out,HDN.out,HNX.out⟩,?_⟩;show L.length - ((t:Int)+1).toNat<L.length - (t:Int).toNat;omega
  ·have hd:decide ((t:Int)<L.length)=false:=by simp;omega
   have HM:Hid (m=dpF (fun _=>0) 0 0 L):=by rw[<-HCH.out,List.drop_eq_nil_of_le (by omega)];exact rfl
   go_wp2
   go_ret
   exact⟨by rw[<-HM.out];exact rfl,HB.out⟩
mutual
def dpP:Pt->Nat | .mk _ _ _ _ _ _ l=>dpL l+1
def dpL:List Pt->Nat | []=>0|t::r=>max (dpP t) (dpL r)
end
theorem zqe:∀ (L:List Nd) (D D':Nat->Int)(i:Nat)(m:Int),(∀ j,i<=j->D j=D' j)->dpF D i m L=dpF D' i m L
 | [],_,_,_,_,_=>rfl
 | d::r,D,D',i,m,h=>by
  rw[dpF,dpF,h i (Nat.le_refl _)];refine zqe r _ _ _ _ fun j hj=>?_;have hne:j≠i:=by omega
  show(if j ∈ d.kids then _ else upd D i _ j)=(if j ∈ d.kids then _ else upd D' i _ j)
  split
  ·rfl
  ·unfold upd;rw[if_neg hne,if_neg hne];exact h j (by omega)
theorem zqf:∀ (l:List Pt)(i j:Nat),j ∈ kidI i l->j<i+cntL l
 | [],i,j,h=>by simp[kidI] at h
 | t::r,i,j,h=>by
  rw[kidI,List.mem_cons] at h;rw[cntL];have h1:=zfx t;rcases h with h|h
  ·omega
  ·have:=zqf r (i+cntP t) j h;omega
theorem zl8 (D:Nat->Int)(i:Nat)(m:Int):dpF D i m []=m:=rfl
mutual
theorem zny:∀ (t:Pt)(i:Nat) (D:Nat->Int)(m:Int)(rest:List Nd),dpF D i m (layP i t++rest)=dpF D (i+cntP t) (max m (D i+dpP t)) rest
 | .mk k x n a f t l,i,D,m,rest=>by
  rw[layP,List.cons_append,dpF,znz l (i+1) _ _ (D i+1) rest (fun j hj=>?_) (by omega),cntP,dpP,show i+1+cntL l=i+(1+cntL l) by omega,show max (max m (D i+1)) (D i+1+(dpL l:Int))=max m (D i+((dpL l+1:Nat):Int)) by push_cast;omega]
  ·refine zqe rest _ _ _ _ fun j hj=>?_;show(if j ∈ kidI (i+1) l then _ else upd D i _ j)=_;rw[if_neg (fun h=>by have:=zqf l (i+1) j h;omega)];unfold upd;rw[if_neg (by omega)]
  ·show(if j ∈ kidI (i+1) l then _ else _)=_;rw[if_pos hj]
theorem znz:∀ (l:List Pt)(i:Nat) (D:Nat->Int)(m c:Int)(rest:List Nd),(∀ j,j ∈ kidI i l->D j=c)->c<=m->dpF D i m (layL i l++rest)=dpF D (i+cntL l) (max m (c+dpL l)) rest
 | [],i,D,m,c,rest,_,hc=>by
  rw[layL,List.nil_append,cntL,dpL,Nat.add_zero,show max m (c+((0:Nat):Int))=m by push_cast;omega]
 | t::r,i,D,m,c,rest,hD,hc=>by
  rw[layL,List.append_assoc,zny t i D m,hD i (by rw[kidI];exact List.mem_cons_self ..),znz r (i+cntP t) D _ c rest (fun j hj=>hD j (by rw[kidI];exact List.mem_cons_of_mem _ hj)) (by omega),cntL,dpL,show i+cntP t+cntL r=i+(cntP t+cntL r) by omega,
   show max (max m (c+(dpP t:Int))) (c+(dpL r:Int))=max m (c+((max (dpP t) (dpL r):Nat):Int)) by push_cast;omega]
end
theorem zqy (t:Pt):dpF (fun _=>0) 0 0 (layP 0 t)=dpP t:=by
 have h:=zny t 0 (fun _=>0) 0 [];rw[List.append_nil,zl8] at h;rw[h];omega
theorem zk8:∀ (l:List Pt)(t:Pt),dpL (l++[t])=max (dpL l) (dpP t)
 | [],t=>by simp[dpL]
 | a::l,t=>by rw[List.cons_append,dpL,dpL,zk8 l t];omega
mutual
theorem zqg:∀ t:Pt,dpP t<=cntP t
 | .mk _ _ _ _ _ _ l=>by have:=zkd l;rw[dpP,cntP];omega
theorem zkd:∀ l:List Pt,dpL l<=cntL l
 | []=>Nat.le_refl _
 | t::r=>by have h1:=zqg t;have h2:=zkd r;rw[dpL,cntL];omega
end
theorem zn0:∀ (l:List Pt)(i:Nat),(∀ k ∈ kidI i l,i<=k∧k<i+cntL l)∧(kidI i l).length<=cntL l
 | [],i=>by simp[kidI]
 | t::r,i=>by
  have h:=zn0 r (i+cntP t);have h1:1<=cntP t:=by cases t;rw[cntP];omega
  rw[kidI,cntL];refine⟨fun k hk=>?_,by rw[List.length_cons];omega⟩;rcases List.mem_cons.1 hk with rfl|hk
  ·omega
  ·have:=h.1 k hk;omega
mutual
theorem zke:∀ (t:Pt)(i:Nat),∀ d ∈ layP i t,(∀ k ∈ d.kids,k<i+cntP t)∧d.kids.length<=cntP t
 | .mk k x n a f t l,i=>by
  rw[layP,cntP];intro d hd;rcases List.mem_cons.1 hd with rfl|hd
  ·have h:=zn0 l (i+1);exact⟨fun k hk=>by have:=h.1 k hk;omega,by have:=h.2;show(kidI (i+1) l).length<=_;omega⟩
  ·have h:=zk9 l (i+1) d hd;exact⟨fun k hk=>by have:=h.1 k hk;omega,by have:=h.2;omega⟩
theorem zk9:∀ (l:List Pt)(i:Nat),∀ d ∈ layL i l,(∀ k ∈ d.kids,k<i+cntL l)∧d.kids.length<=cntL l
 | [],i=>by simp[layL]
 | t::r,i=>by
  rw[layL,cntL];intro d hd;rcases List.mem_append.1 hd with hd|hd
  ·have h:=zke t i d hd;exact⟨fun k hk=>by have:=h.1 k hk;omega,by have:=h.2;omega⟩
  ·have h:=zk9 r (i+cntP t) d hd;exact⟨fun k hk=>by have:=h.1 k hk;omega,by have:=h.2;omega⟩
end
mutual
theorem ziw:∀ (t:Pt)(i:Nat),(layP i t).length=cntP t
 | .mk k x n a f t l,i=>by
  rw[layP,cntP,List.length_cons,zla l];omega
theorem zla:∀ (l:List Pt)(i:Nat),(layL i l).length=cntL l
 | [],i=>by simp[layL,cntL]
 | t::r,i=>by rw[layL,cntL,List.length_append,ziw t,zla r]
end
theorem zdo {α:Type}{w W:World}{m:Nat}{cs:α->Array Value}{sp:Option Addr}{xs:List α}(h:∀ k,k<w.heap.size->W.heap[k]?=w.heap[k]?)(hr:RowsAt w m cs sp xs):RowsAt W m cs sp xs:=fun hl=>by
 obtain⟨b,o,e,hc⟩:=hr hl;exact⟨b,o,e,fun i x hx j u hu=>(World.cell?_of_block (a:=⟨b,o+i * m+j,Option.none⟩) (h b (block_lt_of_cell (hc i x hx j u hu)))).trans (hc i x hx j u hu)⟩
theorem zdp {w W:World}(h:∀ k,k<w.heap.size->W.heap[k]?=w.heap[k]?)(hT:Tabl w):Tabl W:=by
 obtain⟨F,hF⟩:=hT;refine⟨F,fun i l hi=>?_⟩;obtain⟨h1,h2⟩:=hF i l hi;exact⟨(World.cell?_of_block (a:=⟨1,i,Option.none⟩) (h _ (block_lt_of_cell h1))).trans h1,zdo h h2⟩
def parO (ts:List Tok):(Int × Int) ⊕ Pt :=
 if chkO ts≠0 then .inl (2,0) else if risB (-1) ts=false then .inl (2,0) else
 match filO ts with
 | .ok t _=>if 2048<(layP 0 t).length then .inl (3,0) else if 24<dpF (fun _=>0) 0 0 (layP 0 t) then .inl (3,0) else .inr t
 | .bad s=>.inl (210,s)
 | .out=>.inl (0,0)
theorem zn1 {t:Tok}(h:alnB t=true):t.text.size<=4096:=by
 unfold alnB lexO at h;have e:t.text.size=t.text.data.toList.length:=by simp
 by_cases h4:4096<t.text.data.toList.length
 ·rw[if_pos h4] at h
  cases h
 ·omega
theorem zqz {L:List UInt8}:∀ (f p:Nat)(ts:List Tok),∀ x ∈ (lexG L f p ts).1,x ∈ ts∨x.text.data.toList.length<=L.length - p:=by
 intro f
 induction f with
 | zero=>exact fun p ts x hx=>.inl hx
 | succ f ih=>
  intro p ts x hx;obtain⟨k,n,e,hl⟩:∃ k n e,lookR (L.drop p) (clo (lastT ts))=(k,n,e):=⟨_,_,_,rfl⟩
  by_cases h1:p<L.length∨clo (lastT ts)=true
  ·by_cases he:e=0
   ·subst he
    by_cases hk:k=0
    ·subst hk;rw[zdn h1 hl] at hx;rcases ih _ _ x hx with h|h
     ·exact .inl h
     ·exact .inr (by omega)
    ·by_cases ht:ts.length=1024
     ·rw[zde h1 hl hk ht] at hx;simp at hx
     ·rw[zc7 h1 hl hk ht] at hx;rcases ih _ _ x hx with h|h
      ·rcases List.mem_append.1 h with h|h
       ·exact .inl h
       ·rw[List.mem_singleton] at h;subst h;refine .inr ?_;show((L.drop p).take n).length<=_;rw[List.length_take,List.length_drop];omega
      ·exact .inr (by omega)
   ·rw[zdm h1 hl he] at hx;simp at hx
  ·rw[lexG,if_neg h1] at hx;exact .inl hx
theorem zq0 {L:List UInt8}:∀ (f p:Nat)(ts:List Tok),(lexG L f p ts).1=[]∨∃ z,(lexG L f p ts).1=ts++z:=by
 intro f
 induction f with
 | zero=>exact fun p ts=>.inr ⟨[],by rw[List.append_nil];rfl⟩
 | succ f ih=>
  intro p ts;obtain⟨k,n,e,hl⟩:∃ k n e,lookR (L.drop p) (clo (lastT ts))=(k,n,e):=⟨_,_,_,rfl⟩
  by_cases h1:p<L.length∨clo (lastT ts)=true
  ·by_cases he:e=0
   ·subst he
    by_cases hk:k=0
    ·subst hk;rw[zdn h1 hl];exact ih _ _
    ·by_cases ht:ts.length=1024
     ·rw[zde h1 hl hk ht];exact .inl rfl
     ·rw[zc7 h1 hl hk ht];rcases ih (p+n) (ts++[⟨k,strU ((L.drop p).take n),p⟩]) with h|⟨z,h⟩
      ·exact .inl h
      ·exact .inr ⟨_,by rw[h,List.append_assoc]⟩
   ·rw[zdm h1 hl he];exact .inl rfl
  ·rw[lexG,if_neg h1];exact .inr ⟨[],by rw[List.append_nil]⟩
theorem zix {t:Tok}(h:alnB t=true):lookR t.text.data.toList false=(t.kind,t.text.data.toList.length,0)∧t.kind≠0∧t.text.data.toList≠[]:=by
 have h4:=zn1 h;have e4:t.text.size=t.text.data.toList.length:=by simp
 unfold alnB lexO at h;generalize hLe:t.text.data.toList=L at h e4 ⊢;rw[if_neg (by omega)] at h
 by_cases h0:0<L.length
 ·obtain⟨k,n,e,hl⟩:∃ k n e,lookR (L.drop 0) (clo (lastT []))=(k,n,e):=⟨_,_,_,rfl⟩;have hl':lookR L false=(k,n,e):=hl
  by_cases he:e=0
  ·subst he;have hs:=zcs hl' (fun e=>by rw[e] at h0;simp at h0)
   by_cases hk:k=0
   ·subst hk;rw[zdn (.inl h0) hl] at h
    exfalso
    have hx:=zqz (L:=L) (2 * L.length) (0+n) []
    cases hr:(lexG L (2 * L.length) (0+n) []).1 with
    | nil=>rw[hr] at h;cases h
    | cons x xs=>
     rw[hr] at h hx;have h5:=hx x (by simp);simp only[tkEq,Bool.and_eq_true,beq_iff_eq] at h;rw[ByteArray.toList_eq,ByteArray.toList_eq,hLe] at h;rw[h.2] at h5;rcases h5 with h5|h5
     ·simp at h5
     ·rcases hs.2 with h6|h6
      ·omega
      ·exact absurd h6.1 (by decide)
   ·rw[zc7 (.inl h0) hl hk (by simp)] at h;rcases zq0 (L:=L) (2 * L.length) (0+n) ([]++[⟨k,strU ((L.drop 0).take n),((0:Nat):Int)⟩]) with h5|⟨z,h5⟩
    ·rw[h5] at h;cases h
    ·rw[h5] at h;simp only[List.nil_append,List.cons_append,tkEq,Bool.and_eq_true,beq_iff_eq] at h;rw[zc6,ByteArray.toList_eq,hLe,List.drop_zero] at h;have h6:=congrArg List.length h.2;rw[List.length_take] at h6;have hn:n=L.length:=by omega
     rw[hl',hn,h.1];refine⟨rfl,?_,fun e=>by rw[e] at h0;simp at h0⟩;rw[<-h.1];exact hk
  ·rw[zdm (.inl h0) hl he] at h
   cases h
 ·rw[zex h0 rfl] at h
  cases h
theorem zpi {t:Tok}(h:bareB t=true):clo t=false∧t.kind=5∧t.text.toList=[]:=by
 unfold bareB at h;rw[Bool.and_eq_true,beq_iff_eq,List.isEmpty_iff] at h;refine⟨?_,h.1,h.2⟩;unfold clo;rw[h.1];rfl
end Go.Proofs.YtmclgbkijeidaaaGreatDoor
