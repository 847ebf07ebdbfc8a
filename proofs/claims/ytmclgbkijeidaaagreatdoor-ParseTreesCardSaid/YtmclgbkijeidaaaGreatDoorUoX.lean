import Derived.Test.YtmclgbkijeidaaaGreatDoorUoW
import Derived.Test.YtmclgbkijeidaaaGreatDoorUoU
import Derived.Test.YtmclgbkijeidaaaGreatDoorUoQaG
import Derived.Test.YtmclgbkijeidaaaGreatDoorUoS
import Derived.Test.YtmclgbkijeidaaaGreatDoorUoL
import Derived.Test.YtmclgbkijeidaaaGreatDoorUoN
import Derived.Deep.DeepCutAuto
import Derived.Deep.Cut
import Derived.Deep.CutRange
import Derived.Deep.CutBlock
namespace Go.Proofs.YtmclgbkijeidaaaGreatDoor
open Go.RowKit
theorem zb8 {R:Prop}(F G:Int->ByteArray->Int->Int->Int->Int->Int->Option Addr->Nat->Nat->World->Option Addr->Nat->Nat->World->Prop)(hc:∀ e0 e1 e2 e3 e4 e5 e6 e7 e8 e9 W' sp sn sc W2,F e0 e1 e2 e3 e4 e5 e6 e7 e8 e9 W' sp sn sc W2->G e0 e1 e2 e3 e4 e5 e6 e7 e8 e9 W' sp sn sc W2)
  (hb:(∀ e0 e1 e2 e3 e4 e5 e6 e7 e8 e9 W' sp sn sc W2,F e0 e1 e2 e3 e4 e5 e6 e7 e8 e9 W' sp sn sc W2->G e0 e1 e2 e3 e4 e5 e6 e7 e8 e9 W' sp sn sc W2)->R):R:=hb hc
theorem zan {P:Program}{ops:Array Oper}{Q:Exit->Act->World->Prop}{K:Act->World->Prop}{a:Act}{w:World}{i:Nat}{oi:Oper}(hi:ops[i]?=some oi)(hg:oi.guard=none)(h:oi.wp P a w K Q):wpOp P ops Q i K a w:=by
 unfold wpOp;simp only[hi,zeu hg,if_true];exact .inl h
theorem if_t {α:Type}{c:Prop} [Decidable c] {a b r:α}(h:(if c then a else b)=r)(hc:c):a=r:=by rw[if_pos hc] at h;exact h
theorem if_f {α:Type}{c:Prop} [Decidable c] {a b r:α}(h:(if c then a else b)=r)(hc:¬ c):b=r:=by rw[if_neg hc] at h;exact h
theorem zlk (W:World)(g:Nat):W.grownBy (W.setCell ⟨g,2,none⟩ (.bool true)) (some g):=by
 have y:=(Yb 0 W).setCell (p:=⟨g,2,none⟩) (Yk _) (.bool true);exact⟨y.os,y.tape,y.output,y.size,fun k C A=>Ye _ _ _ _ fun e=>A (by rw[show k=g from e])⟩
theorem Qdr.sz {T:Nat}{w:World}{g:Nat}{st:Option Addr}{cap:Nat}{ts:List Tok}{p:Nat}{bad:Bool}(h:Qdr T w g st cap ts p bad):(nxQ ts p).text.size<=100000:=by
 rw[zk5];exact(h.bound p).2.2
def muQ (ts:List Tok) (g:Nat) (w:World):Nat:=match w.cell? ⟨g,2,none⟩,w.cell? ⟨g,1,none⟩ with
 | some (.bool b),some (.int _ n)=>muS ts ⟨n.toNat,b⟩
 | _,_=>0
theorem zdo {T:Nat}{w:World}{g:Nat}{st:Option Addr}{cap:Nat}{ts:List Tok}{s:Qs}(h:QdS T w g st cap ts s):muQ ts g w=muS ts s:=by
 unfold muQ;rw[h.c2,h.c1];rfl
def Few (l:List Pt) (s:Qs):Prop:=l.length<=s.p+1∧(s.bad=false->l.length<=s.p)
theorem Few.more {l:List Pt}{q s:Qs}{t:Pt}(h:Few l q)(hq:q.bad=false)(hl:LtQ q s):Few (l++[t]) s:=by
 have C:=h.2 hq;have D:=hl.1;refine⟨by rw[List.length_append];simp;omega,fun A=>?_⟩;rcases hl.2 with y|⟨-,y⟩
 ·rw[A] at y;cases y
 ·rw[List.length_append];simp;omega
theorem Few.le {l:List Pt}{q s:Qs}(h:Few l q)(hl:LeQ q s):Few l s:=by
 have C:=hl.1;refine⟨by have:=h.1;omega,fun A=>?_⟩;rcases hl.2 with y|y
 ·rw[A] at y;cases y
 ·have:=h.2 y;omega
theorem Few.lt {l:List Pt}{T:Nat}{w:World}{g:Nat}{st:Option Addr}{cap:Nat}{ts:List Tok}{s:Qs}(h:Few l s)(hR:QdS T w g st cap ts s):l.length<=150000:=by
 have y:=hR.le;have D:=hR.few;have C:=h.1;have A:s.p<=ts.length:=y;omega
structure Fr (T:Nat) (w W0 W:World) (g:Nat) (st:Option Addr) (cap:Nat) (ts:List Tok) (s:Qs):Prop where
 b0:Below w.heap.size w W0
 s0:W0.heap.size=w.heap.size+1
 hg:g<w.heap.size
 hT:T<=w.heap.size
 hG:W0.grownBy W (some g)
 hR:QdS T W g st cap ts s
 hZ:W.heap[w.heap.size]?=some (.cells (paQ 0 ⟨#[]⟩ 0 0 0 0 0 (.slice none 0 0)) 63 (0,0))
section
variable {T:Nat}{w W0 W W':World}{g:Nat}{st:Option Addr}{cap:Nat}{ts:List Tok}{s s':Qs}
theorem zcu (hR:QdS T w g st cap ts s):Fr T w (w.alloc (.cells (paQ 0 ⟨#[]⟩ 0 0 0 0 0 (.slice none 0 0)) 63)) (w.alloc (.cells (paQ 0 ⟨#[]⟩ 0 0 0 0 0 (.slice none 0 0)) 63)) g st cap ts s:=by
 have y:Below w.heap.size w (w.alloc (.cells (paQ 0 ⟨#[]⟩ 0 0 0 0 0 (.slice none 0 0)) 63)):=(Yb _ _).alloc (Ya _) _;exact⟨y,World.size_alloc ..,hR.lt,hR.hT,zby _ _,hR.low y,Yd _ _⟩
theorem Fr.size (h:Fr T w W0 W g st cap ts s):W0.heap.size<=W.heap.size:=h.hG.size
theorem Fr.call (h:Fr T w W0 W g st cap ts s)(hg:W.grownBy W' (some g))(hR:QdS T W' g st cap ts s'):Fr T w W0 W' g st cap ts s' :=
 ⟨h.b0,h.s0,h.hg,h.hT,zab h.hG hg,hR,(hg.block _ (by have:=h.s0;have:=h.size;omega) (fun e=>by injection e with e;have:=h.hg;omega)).trans h.hZ⟩
theorem Fr.on (h:Fr T w W0 W g st cap ts s)(hb:Below W0.heap.size W W'):Fr T w W0 W' g st cap ts s :=
 ⟨h.b0,h.s0,h.hg,h.hT,zaw h.hG hb,h.hR.below (by have:=h.s0;have:=h.hT;omega) hb,(hb.block _ (by have:=h.s0;omega)).trans h.hZ⟩
theorem Fr.low (h:Fr T w W0 W g st cap ts s)(hb:Below W.heap.size W W'):Fr T w W0 W' g st cap ts s:=h.on (hb.mono h.size)
theorem Fr.gB (h:Fr T w W0 W g st cap ts s):g<W0.heap.size:=by have:=h.s0;have:=h.hg;omega
structure Tl (W0 W:World) (b:Nat) (t:Tok):Prop where
 hB:W0.heap.size<=b
 row:W.heap[b]?=some (.cells t.cells 38 (0,0))
theorem Tl.call {b:Nat}{t:Tok}(h:Tl W0 W b t)(hg0:g<W0.heap.size)(hg:W.grownBy W' (some g)):Tl W0 W' b t :=
 ⟨h.hB,(hg.block _ (zaa h.row) (fun e=>by injection e with e;have:=h.hB;omega)).trans h.row⟩
theorem Tl.low {b:Nat}{t:Tok}(h:Tl W0 W b t)(hb:Below W.heap.size W W'):Tl W0 W' b t:=⟨h.hB,(hb.block _ (zaa h.row)).trans h.row⟩
theorem Tl.cells {b:Nat}{t:Tok}(h:Tl W0 W b t):W.cell? ⟨b,0,none⟩=some (.int .i64 t.kind)∧W.cell? ⟨b,1,none⟩=some (.string t.text)∧W.cell? ⟨b,2,none⟩=some (.int .i64 t.pos) :=
 ⟨Yp 0 h.row rfl,Yp 1 h.row rfl,Yp 2 h.row rfl⟩
theorem zea (h:Fr T w W0 W g st cap ts s)(t:Tok):∃ W2,Sem.run Tryz.prog (storeCells ⟨W.heap.size,0,none⟩ t.cells.toList) (W.alloc (.cells #[.int .i64 0,.string ⟨#[]⟩,.int .i64 0] 38))=.ok () W2∧Below W.heap.size W W2∧Fr T w W0 W2 g st cap ts s∧Tl W0 W2 W.heap.size t:=by
 obtain⟨W2,C,y,A⟩:=zgu W t;exact⟨W2,C,y,h.low y,h.size,A⟩
theorem zdp {z:Nat}(h:Fr T w W0 W g st cap ts s)(hz:z<W.heap.size)(k:Int)(t:Tok)(x:ByteArray):∃ W2,Sem.run Tryz.prog (storeCells ⟨W.heap.size,0,none⟩ (begE k t x).cells.toList) (W.alloc (.cells #[.int .i64 0,.string ⟨#[]⟩,.int .i64 0,.slice none 0 0,.int .i64 0,.int .i64 0,.int .i64 0,.int .i64 0,.slice none 0 0] 63))=.ok () W2∧Below W.heap.size W W2∧Fr T w W0 W2 g st cap ts s∧Qk W0.heap.size z W2 W.heap.size k x 0 t.pos t.pos 0 t.pos (.slice none 0 0) []:=by
 obtain⟨W2,C,y,A⟩:=zic W (begE k t x);exact⟨W2,C,y,h.low y,Qk.new h.size (Yg hz y.size) A⟩
structure Vl (W0 W:World) (b N:Nat) (v:Qv) (e:Qe):Prop where
 hB:W0.heap.size<=b
 hN:N<=W.heap.size
 row:W.heap[b]?=some (.cells e.cells 63 (0,0))
 ex:∃ S:Nat->Prop,QV W S v e∧∀ j,S j->W0.heap.size<=j∧j<N∧j≠b
theorem Vl.call {b N:Nat}{v:Qv}{e:Qe}(h:Vl W0 W b N v e)(hg0:g<W0.heap.size)(hg:W.grownBy W' (some g)):Vl W0 W' b N v e:=by
 obtain⟨F,E,D,S,C,y⟩:=h;exact⟨F,Yo E hg.size,(hg.block _ (zaa D) (fun e=>by injection e with e;omega)).trans D,S,⟨C.is.keep (fun _ h=>h) fun j A=>hg.block j (by have:=(y j A).2.1;omega) (fun e=>by injection e with e;have:=(y j A).1;omega),C.bg⟩,y⟩
theorem zpl {A:World}{v:Qv}{e:Qe}(h:Fr T w W0 W g st cap ts s)(hA:W0.heap.size<=A.heap.size)(hv:QV W (fun j=>A.heap.size<=j∧j<W.heap.size) v e):∃ W2,Sem.run Tryz.prog (storeCells ⟨W.heap.size,0,none⟩ e.cells.toList) (W.alloc (.cells #[.int .i64 0,.string ⟨#[]⟩,.int .i64 0,.slice none 0 0,.int .i64 0,.int .i64 0,.int .i64 0,.int .i64 0,.slice none 0 0] 63))=.ok () W2∧Below W.heap.size W W2∧Fr T w W0 W2 g st cap ts s∧Vl W0 W2 W.heap.size W.heap.size v e:=by
 obtain⟨W2,E,y,D⟩:=zic W e;exact⟨W2,E,y,h.low y,h.size,y.size,D,fun j=>A.heap.size<=j∧j<W.heap.size,⟨hv.is.keep (fun _ h=>h) fun j C=>y.block j C.2,hv.bg⟩,fun j C=>⟨by omega,C.2,by omega⟩⟩
theorem zhk {b:Nat}{e0:Qe}{v:Qv}{e:Qe}(h:Fr T w W0 W g st cap ts s)(hB:W0.heap.size<=b)(hr0:W.heap[b]?=some (.cells e0.cells 63 (0,0)))(hv:QV W (fun j=>W0.heap.size<=j∧j<W.heap.size∧j≠b) v e):∃ W2,Sem.run Tryz.prog (storeCells ⟨b,0,none⟩ e.cells.toList) W=.ok () W2∧Below b W W2∧Fr T w W0 W2 g st cap ts s∧Vl W0 W2 b W.heap.size v e:=by
 obtain⟨W2,D,A,C,E⟩:=zxt hr0 (cs:=e.cells) rfl e.one;exact⟨W2,D,A,h.on (A.mono hB),⟨hB,A.size,C,fun j=>W0.heap.size<=j∧j<W.heap.size∧j≠b,⟨hv.is.keep (fun _ h=>h) fun j y=>E j y.2.2,hv.bg⟩,fun j y=>y⟩⟩
theorem zbb {v:Qv}{e:Qe}(h:Fr T w W0 W g st cap ts s)(hv:QV W (fun j=>W0.heap.size<=j∧j<W.heap.size) v e):∃ W2,Sem.run Tryz.prog (storeCells ⟨w.heap.size,0,none⟩ e.cells.toList) W=.ok () W2∧W2.heap[w.heap.size]?=some (.cells e.cells 63 (0,0))∧QoP T w g st cap ts (v,s) (.returned (.agg e.cells)) W2:=by
 obtain⟨W2,A,y,E,D⟩:=zxt h.hZ (cs:=e.cells) rfl e.one;have I:=h.s0;have F:=y.size;refine⟨W2,A,E,e,rfl,⟨hv.is.keep (fun j C=>⟨by omega,by omega⟩) fun j C=>D j (by omega),hv.bg⟩,?_,?_⟩
 ·exact zaw (zab (zae h.b0) h.hG) y
 ·exact h.hR.below h.hT y
theorem ze6 {v:Qv}{e:Qe}(h:Fr T w W0 W g st cap ts s)(hv:QV W (fun j=>W0.heap.size<=j∧j<W.heap.size) v e):QoP T w g st cap ts (v,s) (.returned (.agg e.cells)) (W.setRow w.heap.size e.cells):=by
 have y:Below w.heap.size W (W.setRow w.heap.size e.cells):=zak (Yb _ _) (Ya _) _;have C:=h.s0;have D:=y.size;exact⟨e,rfl,⟨hv.is.keep (fun j A=>⟨by omega,by omega⟩) fun j A=>setRow_other _ _ _ _ (by omega),hv.bg⟩,zaw (zab (zae h.b0) h.hG) y,h.hR.below h.hT y⟩
def WoP (T:Nat) (w:World) (g:Nat) (st:Option Addr) (cap:Nat) (ts:List Tok) (k:Int) (r:Qv × Qs) (e:Ending) (w':World):Prop :=
 e=.returned (.agg (⟨k,r.1.x,0,r.1.a,r.1.f,0,r.1.bg,none,0,0⟩:Qe).cells)∧w.grownBy w' (some g)∧QdS T w' g st cap ts r.2
theorem zw6 (h:Fr T w W0 W g st cap ts s)(k:Int)(x:ByteArray)(a f bg:Int):WoP T w g st cap ts k (⟨k,x,0,a,f,0,bg,[]⟩,s) (.returned (.agg (⟨k,x,0,a,f,0,bg,none,0,0⟩:Qe).cells)) (W.setRow w.heap.size (⟨k,x,0,a,f,0,bg,none,0,0⟩:Qe).cells):=by
 have y:Below w.heap.size W (W.setRow w.heap.size (⟨k,x,0,a,f,0,bg,none,0,0⟩:Qe).cells):=zak (Yb _ _) (Ya _) _;exact⟨rfl,zaw (zab (zae h.b0) h.hG) y,h.hR.below h.hT y⟩
theorem ze0 {b z:Nat}{k:Int}{x:ByteArray}{n a f t bg:Int}{v0:Value}{l0:List Pt}{v:Qv}{e:Qe}{S:Nat->Prop}(h:Fr T w W0 W g st cap ts s)(hQ:Qk W0.heap.size z W b k x n a f t bg v0 l0)(hv:QV W S v e)(hS:∀ j,S j->W0.heap.size<=j∧j<W.heap.size∧j≠b∧j≠z) :
  (W.alloc (.cells e.cells 63)).cell? ⟨b,8,none⟩=some v0∧(W.alloc (.cells e.cells 63)).frozen? ⟨b,8,none⟩=false ∧
  ∃ W2,(W.alloc (.cells e.cells 63)).setCell ⟨b,8,none⟩ (.slice (some ⟨W.heap.size,0,none⟩) 1 1)=W2∧Fr T w W0 W2 g st cap ts s∧Qk W0.heap.size z W2 b k x n a f t bg (.slice (some ⟨W.heap.size,0,none⟩) 1 1) [v.pt]∧Below b W W2∧∀ j,j≠b->j<W.heap.size->W2.heap[j]?=W.heap[j]?:=by
 have F:=hQ.lt;have y:(W.alloc (.cells e.cells 63)).heap[b]?=some (.cells (paQ k x n a f t bg v0) 63 (0,0)):=(Yn _ _ _ F).trans hQ.row;have C:Below b W ((W.alloc (.cells e.cells 63)).setCell ⟨b,8,none⟩ (.slice (some ⟨W.heap.size,0,none⟩) 1 1)):=((Yb _ _).alloc (Nat.le_of_lt F) _).setCell (Ya _) _;have E:∀ j,j≠b->j<W.heap.size->((W.alloc (.cells e.cells 63)).setCell ⟨b,8,none⟩ (.slice (some ⟨W.heap.size,0,none⟩) 1 1)).heap[j]?=W.heap[j]?:=fun j A I=>(Ye _ _ _ _ A).trans (Yn _ _ _ I);refine⟨Yp 8 y rfl,Yj _ _ _ _ _ y,_,rfl,h.on (C.mono hQ.hB),?_,C,E⟩;have D:W.heap.size≠b:=by omega
 have K:=hQ.hz;exact hQ.one C.size E ((Ye _ _ _ _ D).trans (Yd _ _)) h.size D (by omega) hv.is (fun j A=>by have:=hS j A;exact⟨this.1,this.2.1,this.2.2.1,this.2.2.2,by omega⟩) (Yf _ _ 8 _ _ _ y)
theorem zbf {b z:Nat}{k:Int}{x:ByteArray}{n a f t bg:Int}{v:Value}{l:List Pt}(h:Fr T w W0 W g st cap ts s)(hQ:Qk W0.heap.size z W b k x n a f t bg v l) :
  ∃ sp len cp,v=.slice sp len cp∧Calls Tryz.prog 49 #[.pointer (some ⟨g,0,none⟩),.agg (⟨k,x,n,a,f,t,bg,sp,len,cp⟩:Qe).cells] W fun e W'=>∃ q:Qe,e=.returned (.agg q.cells)∧Below W.heap.size W W'∧Fr T w W0 W' g st cap ts s∧QV W' (fun j=>W0.heap.size<=j∧j<W'.heap.size∧j≠z) ⟨k,x,n,a,f,behI ts s.p,bg,l⟩ q:=by
 obtain⟨sp,len,cp,C,D⟩:=hQ.fin;refine⟨sp,len,cp,C,(zgd _ h.hR).mono ?_⟩;rintro e W' ⟨rfl,A⟩;have E:=A.size;exact⟨_,rfl,A,h.low A,D.ends.keep (fun j y=>⟨y.1,by omega,y.2.2⟩) fun j y=>A.block _ y.2.1,rfl⟩
theorem ze7 (h:Fr T w W0 W g st cap ts s)(k:Int)(t:Tok)(x:ByteArray) :
  Calls Tryz.prog 49 #[.pointer (some ⟨g,0,none⟩),.agg (begE k t x).cells] W fun e W'=>e=.returned (.agg (⟨k,x,0,t.pos,t.pos,behI ts s.p,t.pos,none,0,0⟩:Qe).cells)∧Below W.heap.size W W'∧Fr T w W0 W' g st cap ts s:=by
 refine(zgd _ h.hR).mono ?_;rintro e W' ⟨rfl,y⟩;exact⟨rfl,y,h.low y⟩
theorem zeg {S:Nat->Prop}(k:Int)(x:ByteArray)(n a f t bg:Int):QV W S ⟨k,x,n,a,f,t,bg,[]⟩ ⟨k,x,n,a,f,t,bg,none,0,0⟩:=⟨QAt.fresh _ _ _ _ _ _ _,rfl⟩
structure Tq (W0 W:World) (b:Nat) (e:Qe):Prop where
 hB:W0.heap.size<=b
 row:W.heap[b]?=some (.cells e.cells 63 (0,0))
theorem Tq.call {b:Nat}{e:Qe}(h:Tq W0 W b e)(hg0:g<W0.heap.size)(hg:W.grownBy W' (some g)):Tq W0 W' b e :=
 ⟨h.hB,(hg.block _ (zaa h.row) (fun e=>by injection e with e;have:=h.hB;omega)).trans h.row⟩
theorem Tq.low {b:Nat}{e:Qe}(h:Tq W0 W b e)(hb:Below W.heap.size W W'):Tq W0 W' b e:=⟨h.hB,(hb.block _ (zaa h.row)).trans h.row⟩
theorem Tq.on {b c:Nat}{e:Qe}(h:Tq W0 W b e)(hbc:b≠c)(ho:∀ j,j≠c->j<W.heap.size->W'.heap[j]?=W.heap[j]?):Tq W0 W' b e:=⟨h.hB,(ho _ hbc (zaa h.row)).trans h.row⟩
theorem Tq.qk {z b:Nat}{k:Int}{x:ByteArray}{n a f t bg:Int}(h:Tq W0 W b ⟨k,x,n,a,f,t,bg,none,0,0⟩)(hz:z<W.heap.size):Qk W0.heap.size z W b k x n a f t bg (.slice none 0 0) []:=Qk.new h.hB hz h.row
theorem zhz (h:Fr T w W0 W g st cap ts s)(e:Qe):∃ W2,Sem.run Tryz.prog (storeCells ⟨W.heap.size,0,none⟩ e.cells.toList) (W.alloc (.cells #[.int .i64 0,.string ⟨#[]⟩,.int .i64 0,.slice none 0 0,.int .i64 0,.int .i64 0,.int .i64 0,.int .i64 0,.slice none 0 0] 63))=.ok () W2∧Below W.heap.size W W2∧Fr T w W0 W2 g st cap ts s∧Tq W0 W2 W.heap.size e:=by
 obtain⟨W2,C,y,A⟩:=zic W e;exact⟨W2,C,y,h.low y,h.size,A⟩
theorem zj6 {b z:Nat}{k:Int}{x:ByteArray}{n a f t bg:Int}{v:Value}{l:List Pt}(h:Fr T w W0 W g st cap ts s)(hQ:Qk W0.heap.size z W b k x n a f t bg v l) (W2:World)(hb:Below b W W2)(ho:∀ j,j≠b->j<W.heap.size->W2.heap[j]?=W.heap[j]?)(k':Int)(x':ByteArray)(n' a' f' t' bg':Int)(hr:W2.heap[b]?=some (.cells (paQ k' x' n' a' f' t' bg' v) 63 (0,0))) :
  Fr T w W0 W2 g st cap ts s∧Qk W0.heap.size z W2 b k' x' n' a' f' t' bg' v l:=⟨h.on (hb.mono hQ.hB),hQ.turn hb.size ho hr⟩
theorem zb3 {b z:Nat}{k:Int}{x:ByteArray}{n a f t bg:Int}{v:Value}{l:List Pt}{vx:Qv}{e:Qe}(h:Fr T w W0 W g st cap ts s)(hQ:Qk W0.heap.size z W b k x n a f t bg v l)(hl:l.length<=200000)(hg:W.grownBy W' (some g))(hR:QdS T W' g st cap ts s')(hv:QV W' (fun j=>W.heap.size<=j∧j<W'.heap.size) vx e) :
  W'.cell? ⟨b,8,none⟩=some v∧(W'.alloc (.cells e.cells 63)).cell? ⟨b,8,none⟩=some v ∧
  ∃ v' w1 W2,(Builtin.append_ #[61,61] 61 #[v,.slice (some ⟨W'.heap.size,0,none⟩) 1 1]).run Tryz.prog (W'.alloc (.cells e.cells 63))=.ok v' w1∧w1.cell? ⟨b,8,none⟩=some v∧w1.frozen? ⟨b,8,none⟩=false ∧
   w1.setCell ⟨b,8,none⟩ v'=W2∧Fr T w W0 W2 g st cap ts s'∧Qk W0.heap.size z W2 b k x n a f t bg v' (l++[vx.pt])∧(z≠b->W2.heap[z]?=W'.heap[z]?)∧W'.heap.size<=W2.heap.size:=by
 have A:=hQ.grow h.gB hg;have M:=h.call hg hR;have Y:=hQ.lt;have aa:=A.lt;have X:=hg.size;have y:Below W'.heap.size W' (W'.alloc (.cells e.cells 63)):=(Yb _ _).alloc (Ya _) _;have D:=A.below y;have N:∀ j,(W.heap.size<=j∧j<W'.heap.size)->W0.heap.size<=j∧j<(W'.alloc (.cells e.cells 63)).heap.size∧j≠b∧j≠z∧v.ownBlock≠some j:=fun j E=>by
  have Z:=h.size;have F:=hQ.hz;have h3:=y.size;exact⟨by omega,by omega,by omega,by omega,fun e=>by have:=(hQ.own e).2;omega⟩
 obtain⟨v',w1,I,C,q3,V,K,-⟩:=D.app 61 (Yd _ _) (hv.is.keep (fun _ h=>h) fun j E=>y.block j E.2) N hl;refine⟨Yp 8 A.row rfl,Yp 8 D.row rfl,v',w1,_,I,Yp 8 C rfl,Yj _ _ _ _ _ C,rfl,(M.low y).on q3,V,fun U=>?_,Yo y.size q3.size⟩;have F:=A.hz;exact(Ye _ _ _ _ U).trans ((K.block z (by have:=y.size;omega) (fun e=>hQ.oz e.symm)).trans (y.block z F))
theorem z0o {b z:Nat}{k:Int}{x:ByteArray}{n a f t bg:Int}{v:Value}{l:List Pt}{vx:Qv}{e:Qe}{S:Nat->Prop}(h:Fr T w W0 W g st cap ts s)(hQ:Qk W0.heap.size z W b k x n a f t bg v l)(hl:l.length<=200000)(hv:QV W S vx e)(hS:∀ j,S j->W0.heap.size<=j∧j<W.heap.size∧j≠b∧j≠z∧v.ownBlock≠some j) :
  ∃ sp sn sc w1 W2,(Builtin.append_ #[61,61] 61 #[v,.slice (some ⟨W.heap.size,0,none⟩) 1 1]).run Tryz.prog (W.alloc (.cells e.cells 63))=.ok (.slice sp sn sc) w1∧w1.cell? ⟨b,8,none⟩=some v∧w1.frozen? ⟨b,8,none⟩=false ∧
   w1.setCell ⟨b,8,none⟩ (.slice sp sn sc)=W2∧Fr T w W0 W2 g st cap ts s∧Qk W0.heap.size z W2 b k x n a f t bg (.slice sp sn sc) (l++[vx.pt])∧(z≠b->W2.heap[z]?=W.heap[z]?):=by
 have N:=hQ.lt;have y:Below W.heap.size W (W.alloc (.cells e.cells 63)):=(Yb _ _).alloc (Ya _) _;have I:=hQ.below y;obtain⟨M,w1,E,C,q3,D,F,-⟩:=I.app 61 (Yd _ _) (hv.is.keep (fun _ h=>h) fun j A=>y.block j (hS j A).2.1) (fun j A=>by have:=y.size;have:=hS j A;exact⟨this.1,by omega,this.2.2⟩) hl;obtain⟨sp,sn,sc,rfl⟩:=D.sl;refine⟨sp,sn,sc,w1,_,E,Yp 8 C rfl,Yj _ _ _ _ _ C,rfl,(h.low y).on q3,D,fun K=>?_⟩;exact(Ye _ _ _ _ K).trans ((F.block z (by have:=y.size;have:=hQ.hz;omega) (fun e=>hQ.oz e.symm)).trans (y.block z hQ.hz))
end
set_option maxRecDepth 100000
set_option maxHeartbeats 4000000
theorem zh0 {W0 W:World}{b c:Nat}{t:Tok}{cs:Array Value}(h:Tl W0 W b t)(hc:W.heap[c]?=some (.cells cs 63 (0,0))):b≠c:=by
 intro e;have y:=h.row;rw[e,hc] at y;injection y with y;injection y with y h2 h3;exact absurd h2 (by decide)
theorem z4w {α β:Type}{c:Prop} [Decidable c] {a b:Option α}{k:α->Option β}{r:Option β}(h:(if c then a else b).bind k=r)(hc:c):a.bind k=r:=by rw[if_pos hc] at h;exact h
theorem z4x {α β:Type}{c:Prop} [Decidable c] {a b:Option α}{k:α->Option β}{r:Option β}(h:(if c then a else b).bind k=r)(hc:¬ c):b.bind k=r:=by rw[if_neg hc] at h;exact h
section
variable {T:Nat}{w W0 W W':World}{g:Nat}{st:Option Addr}{cap:Nat}{ts:List Tok}{s s':Qs}
theorem zi9 (k:Int)(hK:∀ (w:World) s,QdS T w g st cap ts s->Calls Tryz.prog 98 #[.pointer (some ⟨g,0,none⟩)] w (QoP T w g st cap ts (kinD ts s)))(hR:QdS T w g st cap ts s):Calls Tryz.prog 71 #[.pointer (some ⟨g,0,none⟩),.int .i64 k] w (QoP T w g st cap ts (tydD ts k s)):=by
 have A:=J (zcu hR);have bh:=hR.few;have a6:=hR.le;clear hR;have HK:=J hK;clear hK;obtain⟨r,D⟩:∃ r,tydD ts k s=r:=⟨_,rfl⟩;rw[D];unfold tydD at D
 dsimp only[tak] at D
 have C:=J D;clear D
 go_enter Tryz.func71,Tryz.ntmps71
 go_wp2_with fail
 refine zag (fun W=>Fr T w W W g st cap ts s) A.out ?_;intro W0 hF;clear A;have A:=J hF;clear hF;refine(zah ⟨#[110,97,109,101]⟩ A.out.hR).mono ?_;rintro e W1 ⟨rfl,g1,r1⟩;obtain⟨y,N⟩:∃ t,takT ts ⟨#[110,97,109,101]⟩ s=t:=⟨_,rfl⟩;obtain⟨I,M⟩:∃ s2,takS ts ⟨#[110,97,109,101]⟩ s=s2:=⟨_,rfl⟩;rw[show takT ts ⟨#[110,97,109,101]⟩ ⟨s.p,s.bad⟩=y from N];have q1:QdS T W1 g st cap ts I:=M ▸ r1;have bc:Hid (LtQ s I):=J (M ▸ zam _ _)
 try rw[N] at C
 try rw[M] at C
 have an:=J (A.out.call g1 q1);clear N M r1 q1 g1 A;obtain⟨W4,aD,b4,f4,l4⟩:=zea an y;have ac:=J l4;have ai:=J (f4);clear b4 f4 l4 an;obtain⟨aY,aI,aN⟩:=ac.out.cells
 go_wp2_with fail
 clear aD aY aI aN;refine(zau k y y.text W4).mono ?_;rintro e W8 ⟨rfl,b8⟩;have aj:=J (ac.out.low b8);have U:=J (ai.out.low b8);clear b8 ai ac;obtain⟨aQ,aT,ab,ar,ag⟩:=zdp (z:=w.heap.size) U.out (zaa U.out.hZ) k y y.text;have a2:=J (aj.out.low ab);have V:=J ag;have ba:=ab.size;have E:=J (ar);clear ab ar ag U aj
 go_wp2_with fail
 clear aT;refine(HK _ I E.out.hR).mono ?_;rintro e aR ⟨ap,rfl,X,K,Z⟩;obtain⟨⟨aA,aZ⟩,hk14⟩:∃ r,kinD ts I=r:=⟨_,rfl⟩;rw[hk14] at C X Z
 try dsimp only at C
 have ah:=J X;have bf:=V.out.lt;have Y:=J (V.out.grow E.out.gB K);have a3:=K.size;have aa:=J (E.out.call K Z);have a8:=E.out.size;clear hk14 X K Z E V;obtain⟨az,am,a5,ak,av,al,aE,aB⟩:=ze0 aa Y (v:=aA) (e:=ap) (S:=(fun j=>aQ.heap.size<=j∧j<aR.heap.size)) ah.out (fun j F=>by have:=Y.out.lt;have:=aa.out.s0;exact⟨by omega,F.2,by omega,by omega⟩);have ae:=J al;have ax:=J (av);obtain⟨e0,e1,e2,e3,e4,e5,e6,e7,e8,e9⟩:=ap
 dsimp only[Qe.cells,paQ] at az am ak
 try unfold Qe.cells paQ
 clear ah av al aE aB aa Y;obtain⟨aK,aW,aO,aV,aX,aF,aJ,aH,aC,aG⟩:=row9 ae.out.row
 go_wp2_with fail
 clear az am ak aK aW aO aV aX aF aJ aH aC aG;obtain⟨a4,a0,a7,aL,aw⟩:=zbf ax ae;injection aL with u1 u2 u3;subst u1 u2 u3;refine aw.mono ?_;rintro e bb ⟨a1,rfl,aP,aq,ay⟩;have ao:=J ay;have aU:=J (aq);clear aw aP aq ay ax ae;obtain⟨a9,be,au,af⟩:=zbb aU (v:=(⟨k,y.text,0,y.pos,y.pos,behI ts aZ.p,y.pos,[aA.pt]⟩:Qv)) ⟨ao.out.is.keep (fun j F=>⟨F.1,F.2.1⟩) fun _ _=>rfl,ao.out.bg⟩;have HP:=J af;have aM:=J au;clear af au
 go_wp2
 have hx:=C.out;exact zao Tryz.results71 rfl aM (hx ▸ HP.out)
end
theorem zfs {w:World}{b o i:Nat}{es:List Qe}(h:RowsAt w 9 Qe.cells (some ⟨b,o,none⟩) es){e:Qe}(he:es[i]?=some e)(j:Nat)(v:Value)(hv:e.cells[j]?=some v):w.cell? ⟨b,o+i * 9+j,none⟩=some v:=by
 obtain⟨D,C,y,A⟩:=h (by have:=(List.getElem?_eq_some_iff.1 he).1;omega);injection y with y;injection y with e1 e2;subst e1 e2;exact A i e he j v hv
theorem zu1 {w:World}{b o i:Nat}{es:List Qe}(h:RowsAt w 9 Qe.cells (some ⟨b,o,none⟩) es){k:Int}{x:ByteArray}{n a f t bg:Int}{sp:Option Addr}{len cp:Nat}(he:es[i]?=some ⟨k,x,n,a,f,t,bg,sp,len,cp⟩) :
  w.cell? ⟨b,o+i * 9,none⟩=some (.int .i64 k)∧w.cell? ⟨b,o+i * 9+1,none⟩=some (.string x)∧w.cell? ⟨b,o+i * 9+2,none⟩=some (.int .i64 n)∧w.cell? ⟨b,o+i * 9+3,none⟩=some (.slice none 0 0)∧w.cell? ⟨b,o+i * 9+4,none⟩=some (.int .i64 a) ∧
  w.cell? ⟨b,o+i * 9+5,none⟩=some (.int .i64 f)∧w.cell? ⟨b,o+i * 9+6,none⟩=some (.int .i64 t)∧w.cell? ⟨b,o+i * 9+7,none⟩=some (.int .i64 bg)∧w.cell? ⟨b,o+i * 9+8,none⟩=some (.slice sp len cp) :=
 ⟨zfs h he 0 _ rfl,zfs h he 1 _ rfl,zfs h he 2 _ rfl,zfs h he 3 _ rfl,zfs h he 4 _ rfl,zfs h he 5 _ rfl,zfs h he 6 _ rfl,zfs h he 7 _ rfl,zfs h he 8 _ rfl⟩
theorem zw7 {l:List Pt}{q:Nat}{t:Pt}(h:l[q]?=some t):dpL (l.take (q+1))=max (dpL (l.take q)) (dpP t):=by
 rw[show l.take (q+1)=l.take q++[t] by rw[List.take_add_one,h];rfl,zph]
theorem zyl:∀ (l:List Pt)(q:Nat),dpL (l.take q)<=dpL l
 | [],q=>by simp[dpL]
 | t::r,0=>by simp[dpL]
 | t::r,q+1=>by have:=zyl r q;rw[List.take_succ_cons,dpL,dpL];omega
theorem zq5 (n:Nat):∀ (t:Pt)(w:World)(e:Qe) (S:Nat->Prop),cntP t<=n->QAt w S t e->(∀ j,S j->j<w.heap.size)->cntP t<=400000 ->
  Calls Tryz.prog 27 #[.agg e.cells] w fun e' w'=>e'=.returned (.int .i64 (dpP t))∧Below w.heap.size w w':=by
 induction n with
 | zero=>intro t w e S h;cases t with | mk k x n a f t l=>rw[cntP] at h;omega
 | succ n ih=>
  intro t w e S am I D ab;have aq:=J ih;clear ih
  cases I with
  | mk k x nn a f tt l bg es sp cap hr hs hl hk=>
  have ax:1+cntL l<=n+1:=am;have aA:1+cntL l<=400000:=ab;have aB:=zgq l;have az:=znz l;clear am ab;obtain⟨y,C⟩:∃ q,es.length=q:=⟨_,rfl⟩;have aj:=J C;have ak:l.length=y:=hl.symm.trans C;have ac:=J ak;have aC:y<=400000:=by omega
  have ah:Hid (∀ W,Below w.heap.size w W->RowsAt W 9 Qe.cells sp es):=J fun W h=>hr.stay fun q I=>h.block _ (D _ (hs q I));have au:Hid (∀ W,Below w.heap.size w W->∀ (i:Nat) (e':Qe) (t':Pt),es[i]?=some e'->l[i]?=some t'->QAt W S t' e'∧∀ j,S j->j<W.heap.size):=J fun W h i e' t' K V=>⟨(hk i e' t' K V).keep (fun _ h=>h) fun j U=>h.block j (D j U),fun j U=>Yg (D j U) h.size⟩;rw[C];clear hr hs hk D C hl ak
  go_enter Tryz.func27,Tryz.ntmps27
  unfold Qe.cells paQ
  go_wp2_with fail
  refine zdq (fun W=>W.heap[w.heap.size]?=some (.cells (paQ k x nn a f tt bg (.slice sp y cap)) 63 (0,0))∧Below w.heap.size w W) ⟨Yd _ _,(Yb _ _).alloc (Ya _) _⟩ ?_;rintro W1 ⟨M,Y⟩;have av:Hid (∀ W,Below W1.heap.size W1 W->W.heap[w.heap.size]?=some (.cells (paQ k x nn a f tt bg (.slice sp y cap)) 63 (0,0))∧Below w.heap.size w W):=J fun W h=>⟨(h.block _ (zaa M)).trans M,Y.trans (h.mono Y.size)⟩;clear M Y
  go_loopw [3,4] (fun nv i wr=>∃ (q m:Nat),q<=y∧i=.int .i64 q∧nv=.int .i64 m∧m=dpL (l.take q)∧Below W1.heap.size W1 wr) (fun _ i _=>y - (intOf i).toNat)
  case atStart=>exact⟨0,0,Yk _,rfl,rfl,by simp[dpL],Yb _ _⟩
  case round=>
   obtain⟨q,m,I,rfl,rfl,hm,X⟩:=hrel;have HB:=J X;have HM:=J hm;have aw:m<=400000:=by have:=zyl l q;omega
   obtain⟨ae,ai⟩:=av.out wr X;have F:=J ai;obtain⟨-,-,-,-,-,-,-,-,c8,-⟩:=row9 ae;clear ae ai X hm
   by_cases hlt:q<y
   ·have hd:decide ((q:Int)<y)=true:=by simp;omega
    obtain⟨e',Z⟩:∃ e',es[q]?=some e':=⟨_,Yh (by have:=aj.out;omega)⟩;obtain⟨t',E⟩:∃ t',l[q]?=some t':=⟨_,Yh (by have:=ac.out;omega)⟩;have HT:=J E;obtain⟨ag,al⟩:=au.out wr F q e' t' Z E;have an:=J ag;have ar:=J al;obtain⟨b,o,rfl,-⟩:=ah.out wr F (by have:=aj.out;omega);obtain⟨e0,K,V,e3,e4,e5,e6,e7,e8,e9⟩:=e';obtain⟨d0,d1,d2,d3,d4,d5,d6,d7,d8⟩:=zu1 (ah wr F) Z;have ay:=zgp l q t' E;have ao:=zyi t';clear Z E ag al
    go_wp2_with fail
    refine(aq t' wr ⟨e0,K,V,e3,e4,e5,e6,e7,e8,e9⟩ S (by omega) an.out ar (by omega)).mono ?_;rintro e W2 ⟨rfl,b2⟩;have af:Hid (Below W1.heap.size W1 W2):=J (HB.out.trans (b2.mono HB.out.size));clear b2 c8 d0 d1 d2 d3 d4 d5 d6 d7 d8;have aa:=J (zw7 HT);obtain⟨A,N⟩:∃ A,dpP t'=A:=⟨_,rfl⟩;rw[N] at aa ao ⊢;have aD:=J N;clear N
    by_cases hgt:m<A
    ·have ap:decide ((A:Int) > m)=true:=by simp;omega
     go_wp2
     exact⟨⟨q+1,A,by omega,by congr 1,rfl,by rw[aa.out,<-HM.out];omega,af.out⟩,by simp[intOf];omega⟩
    ·have ap:decide ((A:Int) > m)=false:=by simp;omega
     go_wp2
     exact⟨⟨q+1,m,by omega,by congr 1,rfl,by rw[aa.out,<-HM.out];omega,af.out⟩,by simp[intOf];omega⟩
   ·have hd:decide ((q:Int)<y)=false:=by simp;omega
    have HE:Hid (m=dpL l):=J (by rw[HM.out,show q=l.length by have:=ac.out;omega,List.take_length])
    go_wp2
    go_ret
    exact⟨by rw[HE.out,dpP];rfl,F.out⟩
theorem Rep.app {w:World}{S S':Nat->Prop}{N N':List NdM}{L L':List Nd}(h:Rep w S N L)(h':Rep w S' N' L'):Rep w (fun q=>S q∨S' q) (N++N') (L++L') :=
 ⟨by simp[h.1,h'.1],fun i m d y A=>by
  by_cases hi:i<N.length
  ·rw[List.getElem?_append_left hi] at y;rw[List.getElem?_append_left (by rw[<-h.1];exact hi)] at A;obtain⟨a,b,c,e,f⟩:=h.2 i m d y A;exact⟨a,b,c,e,fun q C=>.inl (f q C)⟩
  ·rw[List.getElem?_append_right (by omega)] at y;rw[List.getElem?_append_right (by rw[<-h.1];omega),<-h.1] at A;obtain⟨a,b,c,e,f⟩:=h'.2 _ m d y A;exact⟨a,b,c,e,fun q C=>.inr (f q C)⟩⟩
theorem Rep.nil (w:World) (S:Nat->Prop):Rep w S [] []:=⟨rfl,fun i m d h=>by simp at h⟩
theorem zie {B C:Nat}{w:World}{u v:Value}{N:List NdM}{ks:List Nat}(hn:OwnN B w u N)(hi:OwnI C w v ks){q:Nat}(hq:v.ownBlock=some q):u.ownBlock≠some q:=by
 intro e;rcases hn.2 with⟨rfl,A⟩ | ⟨g',cap,cur,rfl,-,h2,-⟩
 ·cases e
 ·have y:g'=q:=by injection e
  exact hi.ne h2 (by decide) (by rw[hq,y])
structure LyR (B:Nat) (w:World) (pb:Nat) (cs:Array Value) (v:Value) (N0:List NdM) (m:NdM) (l:List Pt) (a b:Nat) (W:World) (u:Value):Prop where
 row:W.heap[pb]?=some (.cells cs 63 (0,0))
 gro:w.grownBy W v.ownBlock
 own:u.ownBlock=v.ownBlock∨∃ q,u.ownBlock=some q∧w.heap.size<=q
 ex:∃ (ks:Option Addr) (kn kc:Nat) (N':List NdM) (S:Nat->Prop),OwnN B W u (N0++⟨m.k,m.x,m.n,ks,kn,kc,m.a,m.f,m.t⟩::N')∧OwnI w.heap.size W (.slice ks kn kc) (kidI (N0.length+1) (l.take a))∧Rep W S N' (layL (N0.length+1) (l.take b)) ∧
  ∀ q,S q->w.heap.size<=q∧q<W.heap.size∧u.ownBlock≠some q∧(Value.slice ks kn kc).ownBlock≠some q
def LayS (B:Nat) (w:World) (v:Value) (N0:List NdM) (t:Pt) (e:Ending) (w':World):Prop :=
 ∃ (v':Value) (N':List NdM) (S':Nat->Prop),e=.returned v'∧OwnN B w' v' (N0++N')∧Rep w' S' N' (layP N0.length t)∧w.grownBy w' v.ownBlock∧(v'.ownBlock=v.ownBlock∨∃ q,v'.ownBlock=some q∧w.heap.size<=q)∧∀ j,S' j->w.heap.size<=j∧j<w'.heap.size∧v'.ownBlock≠some j
section
variable {B pb:Nat}{w W W1:World}{cs:Array Value}{v u:Value}{N0:List NdM}{m:NdM}{l:List Pt}{a b j:Nat}{tj:Pt}
set_option maxRecDepth 100000 in
theorem zw8 (hown:OwnN B w v N0)(hB:B<=w.heap.size)(hb:Below w.heap.size w W1)(hs:W1.heap.size=w.heap.size+1)(hr:W1.heap[w.heap.size]?=some (.cells cs 63 (0,0)))(hm:m.ks=none∧m.kn=0∧m.kc=0)(hl:N0.length+1<=1000000) :
  ∃ v1 W2,(Builtin.append_ #[23,23] 23 #[v,.slice (some ⟨W1.heap.size,0,none⟩) 1 1]).run Tryz.prog (W1.alloc (.cells m.cells 53))=.ok v1 W2∧LyR B w w.heap.size cs v N0 m l 0 0 W2 v1:=by
 have y:Below W1.heap.size W1 (W1.alloc (.cells m.cells 53)):=(Yb _ _).alloc (Ya _) _;have K:=Yd W1 (.cells m.cells 53);have Z:=y.size;have F:=hown.below hb;obtain⟨v1,W2,I,N,A,C⟩:=zdn (ys:=[m]) (cap:=1) elN 23 (F.below y) (fun e=>by cases e) (zar K) (by simp;omega) (by omega);have V:=A.size;have D:∀ q,v.ownBlock=some q->q<w.heap.size:=fun q e=>(hown.lt e).2;refine⟨v1,W2,I,(A.block _ (by omega) fun e=>by have:=D _ e.symm;omega).trans ((y.block _ (by omega)).trans hr),⟨A.os.trans (y.os.trans hb.os),A.tape.trans (y.tape.trans hb.tape),A.output.trans (y.output.trans hb.output),by omega,fun k E M=>(A.block k (by omega) M).trans ((y.block k (by omega)).trans (hb.block k E))⟩,?_,none,0,0,[],fun _=>False,?_,zcz _ _,Rep.nil _ _,fun _ h=>h.elim⟩
 ·rcases C with C|C
  ·exact .inl C
  ·exact .inr ⟨_,C,by omega⟩
 ·obtain⟨k,x,n,Y,X,U,a,f,t⟩:=m;obtain⟨rfl,rfl,rfl⟩:=hm;exact N
theorem LyR.len (h:LyR B w pb cs v N0 m l a b W u):∃ s c,u=.slice s (N0.length+1+cntL (l.take b)) c:=by
 obtain⟨K,F,D,I,S,A,M,C,E⟩:=h.ex;obtain⟨s,c,e⟩:=A.shape;have y:=C.1;rw[zga] at y;refine⟨s,c,?_⟩;rw[e,List.length_append,List.length_cons,y,show N0.length+(cntL (l.take b)+1)=N0.length+1+cntL (l.take b) by omega]
set_option maxRecDepth 100000 in
theorem z3s (h:LyR B w pb cs v N0 m l j j W u)(htj:l[j]?=some tj)(hl:N0.length+1+cntL l<=500000) :
  ∃ gu c ks kn kc s7 n7 c7 W7 W8,u=.slice (some ⟨gu,0,none⟩) (N0.length+1+cntL (l.take j)) c∧W.cell? ⟨gu,N0.length * 7+3,none⟩=some (.slice ks kn kc) ∧
   (Builtin.append_ #[51,51] 51 #[.slice ks kn kc,.slice (some ⟨W.heap.size,0,none⟩) 1 1]).run Tryz.prog (W.alloc (.cells #[.int .i64 ((N0.length+1+cntL (l.take j):Nat):Int)] 3))=.ok (.slice s7 n7 c7) W7 ∧
   W7.cell? ⟨gu,N0.length * 7+3,none⟩=some (.slice ks kn kc)∧W7.frozen? ⟨gu,N0.length * 7+3,none⟩=false∧W7.setCell ⟨gu,N0.length * 7+3,none⟩ (.slice s7 n7 c7)=W8∧LyR B w pb cs v N0 m l (j+1) j W8 u:=by
 obtain⟨s,c,ak⟩:=h.len;obtain⟨M,C,Y,ks,kn,kc,N',S,E,N,h3,h4⟩:=h;have aA:=C.size;have A:Below W.heap.size W (W.alloc (.cells #[.int .i64 ((N0.length+1+cntL (l.take j):Nat):Int)] 3)):=(Yb _ _).alloc (Ya _) _;have ac:=Yd W (.cells #[.int .i64 ((N0.length+1+cntL (l.take j):Nat):Int)] 3);have ay:=A.size;have aB:=zgq l;have av:j<l.length:=(List.getElem?_eq_some_iff.1 htj).1;obtain⟨v7,W7,au,U,D,ai⟩:=zdn (ys:=[N0.length+1+cntL (l.take j)]) (cap:=1) elI 51 (N.below A) (fun e=>by cases e) (zar ac) (by rw[zd2,List.length_take,List.length_singleton];omega) (by omega);obtain⟨s7,c7,rfl⟩:=OwnG.shape U;have aC:=D.size;have an:∀ q,(Value.slice ks kn kc).ownBlock=some q->u.ownBlock≠some q:=fun q y=>zie E N y;have K:∀ q,q<W.heap.size->(Value.slice ks kn kc).ownBlock≠some q->W7.heap[q]?=W.heap[q]?:=fun q y hn=>(D.block q (by omega) fun e=>hn e.symm).trans (A.block q y);have aa:OwnN B W7 u (N0++⟨m.k,m.x,m.n,ks,kn,kc,m.a,m.f,m.t⟩::N'):=E.keep fun q y=>K q (E.lt y).2 fun e=>an q e y;subst ak;obtain⟨gu,ar,ax,az,ag,am,Z⟩:=OwnN.set aa (i:=N0.length) (m:=⟨m.k,m.x,m.n,ks,kn,kc,m.a,m.f,m.t⟩) (by simp) s7 (kidI (N0.length+1) (l.take j)++[N0.length+1+cntL (l.take j)]).length c7;obtain⟨al,ah,-,-,ap,-,-⟩:=OwnN.set E (i:=N0.length) (m:=⟨m.k,m.x,m.n,ks,kn,kc,m.a,m.f,m.t⟩) (by simp) s7 (kidI (N0.length+1) (l.take j)++[N0.length+1+cntL (l.take j)]).length c7;subst ar;obtain rfl:gu=al:=by injection ah with e;injection e
 have I:∀ q,q≠gu->(W7.setCell ⟨gu,N0.length * 7+3,none⟩ (.slice s7 (kidI (N0.length+1) (l.take j)++[N0.length+1+cntL (l.take j)]).length c7)).heap[q]?=W7.heap[q]?:=fun q y=>Ye _ _ _ _ y;have F:=(Yb 0 W7).setCell (p:=⟨gu,N0.length * 7+3,none⟩) (Yk _) (.slice s7 (kidI (N0.length+1) (l.take j)++[N0.length+1+cntL (l.take j)]).length c7);have aw:=F.size;refine⟨gu,c,ks,kn,kc,s7,(kidI (N0.length+1) (l.take j)++[N0.length+1+cntL (l.take j)]).length,c7,W7,_,rfl,ap,au,ag,am,rfl,?_,⟨F.os.trans (D.os.trans (A.os.trans C.os)),F.tape.trans (D.tape.trans (A.tape.trans C.tape)),F.output.trans (D.output.trans (A.output.trans C.output)),by omega,fun k hk ab=>?_⟩,Y,s7,(kidI (N0.length+1) (l.take j)++[N0.length+1+cntL (l.take j)]).length,c7,N',S,?_,?_,?_,?_⟩
 ·have ao:(Value.slice (some ⟨gu,0,none⟩) (N0.length+1+cntL (l.take j)) c).ownBlock≠some pb:=E.ne M (by decide);have aj:(Value.slice ks kn kc).ownBlock≠some pb:=N.ne M (by decide);exact(I pb fun e=>ao (by rw[e];rfl)).trans ((K pb (zaa M) aj).trans M)
 ·have af:k≠gu:=fun e=>by
   rcases Y with h|⟨q,h,y⟩
   ·exact ab (by rw[<-h,e];rfl)
   ·have:gu=q:=by injection h
    omega
  have ae:(Value.slice ks kn kc).ownBlock≠some k:=fun e=>by have:=(N.lt e).1;omega
  exact(I k af).trans ((K k (by omega) ae).trans (C.block k hk ab))
 ·rw[List.set_append_right _ _ (Ya _),Nat.sub_self,List.set_cons_zero] at Z;exact Z
 ·have aq:∀ q,(Value.slice s7 (kidI (N0.length+1) (l.take j)++[N0.length+1+cntL (l.take j)]).length c7).ownBlock=some q->q≠gu:=fun q y e=>zie aa U y (by rw[e];rfl);rw[show l.take (j+1)=l.take j++[tj] by rw[List.take_add_one,htj];rfl,zhb];exact(U.keep fun q y=>I q (aq q y))
 ·exact h3.keep (fun _ h=>h) fun q y=>by
   obtain⟨X,q2,q3,V⟩:=h4 q y;exact(I q fun e=>q3 (by rw[e];rfl)).trans (K q q2 V)
 ·intro q y;obtain⟨X,q2,q3,V⟩:=h4 q y;refine⟨X,by omega,q3,fun e=>?_⟩;rcases ai with h|h
  ·exact V (h.symm.trans e)
  ·rw[h] at e;injection e with e;omega
set_option maxRecDepth 100000 in
theorem z3t (h:LyR B w pb cs v N0 m l (j+1) j W u)(htj:l[j]?=some tj) :
  ∃ N,OwnN B W u N∧N.length=N0.length+1+cntL (l.take j)∧∀ e W9,LayS B W u N tj e W9->∃ v9,e=.returned v9∧LyR B w pb cs v N0 m l (j+1) (j+1) W9 v9:=by
 obtain⟨M,C,Y,F,I,E,N',S,K,D,h3,U⟩:=h;have X:=h3.1;rw[zga] at X;have Z:(N0++(⟨m.k,m.x,m.n,F,I,E,m.a,m.f,m.t⟩:NdM)::N').length=N0.length+1+cntL (l.take j):=by rw[List.length_append,List.length_cons,X];omega
 refine⟨_,K,Z,?_⟩;rintro e W9 ⟨v9,N9,S9,rfl,k1,k2,A,k4,k5⟩;have ab:∀ q,(Value.slice F I E).ownBlock=some q->u.ownBlock≠some q:=fun q y=>zie K D y;have ae:=A.size;have ac:=C.size;refine⟨v9,rfl,(A.block pb (zaa M) fun e=>K.ne M (by decide) e.symm).trans M,⟨A.os.trans C.os,A.tape.trans C.tape,A.output.trans C.output,by omega,fun k hk aa=>(A.block k (by omega) fun e=>?_).trans (C.block k hk aa)⟩,?_,F,I,E,N'++N9,fun q=>S q∨S9 q,?_,?_,?_,?_⟩
 ·rcases Y with h|⟨q,h,y⟩
  ·exact aa (e.trans h)
  ·rw[h] at e;injection e with e;omega
 ·rcases k4 with h|⟨q,h,y⟩
  ·rw[h];exact Y
  ·exact .inr ⟨q,h,by omega⟩
 ·rw[List.append_assoc,List.cons_append] at k1;exact k1
 ·exact D.keep fun q y=>A.block q (D.lt y).2 fun e=>ab q y e.symm
 ·rw[show l.take (j+1)=l.take j++[tj] by rw[List.take_add_one,htj];rfl,zha,<-Z];exact(h3.keep (fun _ h=>h) fun q y=>A.block q (U q y).2.1 fun e=>(U q y).2.2.1 e.symm).app k2
 ·rintro q (y|y)
  ·obtain⟨V,q2,q3,q4⟩:=U q y;refine⟨V,by omega,fun e=>?_,q4⟩;rcases k4 with h|⟨r,h,hr⟩
   ·exact q3 (h.symm.trans e)
   ·rw[h] at e;injection e with e;omega
  ·obtain⟨V,q2,q3⟩:=k5 q y;exact⟨by omega,q2,q3,fun e=>by have:=(D.lt e).2;omega⟩
set_option maxRecDepth 100000 in
theorem z3u (h:LyR B w pb cs v N0 m l l.length l.length W u):LayS B w v N0 (.mk m.k m.x m.n m.a m.f m.t l) (.returned u) W:=by
 obtain⟨ab,U,X,I,kn,M,N',S,F,A,K,D⟩:=h;rw[List.take_length] at A K;obtain⟨su,cu,e,Z,Y,V⟩:=OwnG.rows elI A;injection e with C E e3;subst C E e3;refine⟨u,_,fun q=>(Value.slice I (kidI (N0.length+1) l).length M).ownBlock=some q∨S q,rfl,F,?_,U,X,?_⟩
 ·rw[layP];refine Rep.app (N:=[_]) (L:=[_]) ⟨rfl,fun i m' d' C E=>?_⟩ K;have hi:i=0:=by have:=(List.getElem?_eq_some_iff.1 C).1;simp at this;omega
  subst hi;obtain rfl:_=m':=by simpa using C
  obtain rfl:_=d':=by simpa using E
  exact⟨⟨rfl,rfl,rfl,rfl,rfl,rfl⟩,rfl,Z,⟨Y,V⟩,fun q y=>by have aa:I=some q:=y;rw[aa];rfl⟩
 ·rintro q (y|y)
  ·exact⟨(A.lt y).1,(A.lt y).2,zie F A y⟩
  ·exact⟨(D q y).1,(D q y).2.1,(D q y).2.2.1⟩
end
theorem zu2 (B:Nat) (SP:Nat->Prop)(hSP:∀ j,SP j->j<B)(n:Nat):∀ (t:Pt)(w:World)(e:Qe)(v:Value) (N0:List NdM),cntP t<=n->QAt w SP t e->OwnN B w v N0->B<=w.heap.size->N0.length+cntP t<=500000 ->
  Calls Tryz.prog 26 #[v,.agg e.cells] w (LayS B w v N0 t):=by
 induction n with
 | zero=>intro t w e v N0 h;cases t with | mk k x n a f t l=>rw[cntP] at h;omega
 | succ n ih=>
  intro t w e v N0 av X U hB ae;have aB:=J ih;have am:=J hSP;clear ih hSP
  cases X with
  | mk k x nn a f tt l bg es sp cap hr hs hl hk=>
  have aI:1+cntL l<=n+1:=av;have aL:N0.length+(1+cntL l)<=500000:=ae;have aM:=zgq l;clear av ae;obtain⟨y,K⟩:∃ q,es.length=q:=⟨_,rfl⟩;have aq:=J K;have aa:=J (K.symm.trans hl);have aN:y<=500000:=by have:=aa.out;omega
  have ak:Hid (∀ W,Below B w W->RowsAt W 9 Qe.cells sp es):=J fun W h=>hr.stay fun q X=>h.block _ (am _ (hs q X));have aE:Hid (∀ W,Below B w W->∀ (i:Nat) (A:Qe) (t':Pt),es[i]?=some A->l[i]?=some t'->QAt W SP t' A):=J fun W h i A t' Z e2=>(hk i A t' Z e2).keep (fun _ h=>h) fun j hj=>h.block j (am j hj);have aF:=J U;have aD:Hid (∀ q,v.ownBlock=some q->B<=q):=J fun q e=>(U.lt e).1;obtain⟨s0,c0,ab⟩:=U.shape;rw[K];clear hr hs hk U K hl;subst ab;have au:OwnN B w (.slice s0 N0.length c0) N0:=aF.out;obtain⟨v1,W2,M,ah⟩:=zw8 (B:=B) (cs:=paQ k x nn a f tt bg (.slice sp y cap)) (m:=⟨k,x,nn,none,0,0,a,f,tt⟩) (l:=l) (W1:=w.alloc (.cells (paQ k x nn a f tt bg (.slice sp y cap)) 63)) au hB ((Yb _ _).alloc (Ya _) _) (by simp) (Yd _ _) ⟨rfl,rfl,rfl⟩ (by omega);have al:=J ah
  dsimp only[NdM.cells,paQ] at M
  simp only[World.size_alloc] at M;have aK:N0.length<=500000:=by omega
  clear au ah
  go_enter Tryz.func26,Tryz.ntmps26
  unfold Qe.cells paQ
  go_wp2_with (at_builtin;refine za8 (.tmp 9) (.tmp 12) 23 (by rfl) (by rfl) (by rfl) (by rfl) M ?_)
  clear M
  go_loopw [0,6] (fun lv i wr=>∃ j:Nat,j<=y∧i=.int .i64 j∧LyR B w w.heap.size (paQ k x nn a f tt bg (.slice sp y cap)) (.slice s0 N0.length c0) N0 ⟨k,x,nn,none,0,0,a,f,tt⟩ l j j wr lv) (fun _ i _=>y - (intOf i).toNat)
  case atStart=>exact⟨0,Yk _,rfl,al.out⟩
  case round=>
   clear al;obtain⟨j,hj,rfl,hL⟩:=hrel;have HL:=J hL;have ai:=hL.row;obtain⟨-,-,-,-,-,-,-,-,c8,-⟩:=row9 ai;clear hL ai
   by_cases hlt:j<y
   ·have hd:decide ((j:Int)<y)=true:=by simp;omega
    obtain⟨A,an⟩:∃ A,es[j]?=some A:=⟨_,Yh (by have:=aq.out;omega)⟩;obtain⟨t',E⟩:∃ t',l[j]?=some t':=⟨_,Yh (by have:=aa.out;omega)⟩;have HE:=J an;have HT:=J E;have aJ:=zgp l j t' E;obtain⟨gu,cu,ks,kn,kc,s7,n7,c7,W7,D,ab,k1,k2,k3,k4,k5,I⟩:=z3s HL E (by omega);subst ab;have aG:=J I;have aj:=I.row;have C:=I.gro;have Y:Hid (Below B w D):=J ⟨C.os,C.tape,C.output,C.size,fun q X=>C.block q (by omega) fun e=>by have:=aD.out q e.symm;omega⟩;obtain⟨N,ag,aC,ao⟩:=z3t I E;have af:=J ag;have az:=J ao;obtain⟨-,-,-,-,-,-,-,-,p8,-⟩:=row9 aj;obtain⟨F,V⟩:∃ F,N0.length+1+cntL (l.take j)=F:=⟨_,rfl⟩;rw[V] at k2 aC;have ac:=J V;have aH:N0.length<F:=by omega
    rw[V];clear an E I aj C ag ao V;obtain⟨b,o,rfl,-⟩:=ak.out D Y (by have:=aq.out;omega);obtain⟨e0,Z,e2,e3,e4,e5,e6,e7,e8,e9⟩:=A;obtain⟨d0,d1,d2,d3,d4,d5,d6,d7,d8⟩:=zu1 (ak D Y) HE.out;have ay:=J (aE D Y j _ t' HE HT);have ax:Hid (OwnN B D (.slice (some ⟨gu,0,none⟩) F cu) N):=J (by rw[<-ac.out];exact af);clear af
    go_wp2_with (at_builtin;refine za8 (.tmp 27) (.tmp 30) 51 (by rfl) (by rfl) (by rfl) (by rfl) k2 ?_)
    refine(aB t' D ⟨e0,Z,e2,e3,e4,e5,e6,e7,e8,e9⟩ (.slice (some ⟨gu,0,none⟩) F cu) N (by omega) ay.out ax (Yo hB Y.out.size) (by have:=ac.out;omega)).mono ?_;rintro e W9 ap;obtain⟨v9,rfl,ar⟩:=az.out _ _ (by rw[ac.out];exact ap);have aA:=J ar;clear ap ar d0 d1 d2 d3 d4 d5 d6 d7 d8 k1 k2 k3 k4 k5 p8 c8
    go_wp2
    exact⟨⟨j+1,by omega,by congr 1,aA.out⟩,by simp[intOf];omega⟩
   ·have hd:decide ((j:Int)<y)=false:=by simp;omega
    obtain rfl:j=y:=by omega
    have aw:Hid (LayS B w (.slice s0 N0.length c0) N0 (.mk k x nn a f tt l) (.returned u0) wr):=J (by
     have h:=HL.out;rw[aa.out] at h;exact z3u h)
    clear HL
    go_wp2
    go_ret
    exact aw
theorem PrF.low {w W W':World}{B:Nat}(h:PrF w W)(hB:w.heap.size+2<=B)(hb:Below B W W'):PrF w W' :=
 ⟨h.b.trans (hb.mono (by omega)),(hb.block _ (by omega)).trans h.z,(hb.block _ (by omega)).trans h.s⟩
structure DoF (w W:World) (bp bt:Nat) (e:Qe) (L:List Nd) (s:Option Addr) (c:Nat):Prop where
 fr:PrF w W
 pr:W.heap[bp]?=some (.cells e.cells 63 (0,0))
 tr:W.heap[bt]?=some (.cells #[.slice s L.length c] 25 (0,0))
 ly:TrAt (w.heap.size+2) W (.slice s L.length c) L
theorem DoF.low {w W W':World}{bp bt:Nat}{e:Qe}{L:List Nd}{s:Option Addr}{c:Nat}(h:DoF w W bp bt e L s c)(hb:Below W.heap.size W W'):DoF w W' bp bt e L s c :=
 ⟨h.fr.below hb,(hb.block _ (zaa h.pr)).trans h.pr,(hb.block _ (zaa h.tr)).trans h.tr,h.ly.below hb⟩
theorem zw9 (w:World)(st:Option Addr)(cap:Nat)(ts:List Tok)(hr:RowsT w st ts)(few:ts.length<=100000)(ok:∀ t ∈ ts,-1000000000000000000<=t.pos∧t.pos<=1000000000000000000∧t.text.size<=100000)(v:Qv)(s:Qs)(hf:filD ts (filN ts) ⟨0,false⟩=some (v,s))(hc:s.bad=false->cntP v.pt<=2 * s.p)
  (hF:∀ (T:Nat) (g:Nat) (W:World) (q:Qs) (n:Nat) (r:Qv × Qs),QdS T W g st cap ts q->filD ts n q=some r->Calls Tryz.prog 24 #[.pointer (some ⟨g,0,none⟩)] W (QoP T W g st cap ts r)) :
  Calls Tryz.prog 9 #[.slice st ts.length cap] w (PrP w (docO v s ts)):=by
 have HR:Hid (∀ W,(∀ k,k<w.heap.size->W.heap[k]?=w.heap[k]?)->RowsT W st ts):=J fun W h=>zbn h hr;have ar:=J ok;have ao:=J hf;have HC:=J hc;have aq:=J hF;clear hr ok hf hc hF
 go_enter Tryz.func9,Tryz.ntmps9
 go_wp2_with fail
 refine zag (fun W=>PrF w W∧QdS (w.heap.size+1+1+1) W (w.heap.size+1+1) st cap ts ⟨0,false⟩) ?_ ?_
 ·have t1:=zfa w (.cells #[.slice none 0 0] 25) (.cells #[.int .i64 0,.int .i64 0] 28);have t2:=zgc w (.cells #[.slice none 0 0] 25) (.cells #[.int .i64 0,.int .i64 0] 28);have tb:=zep w (.cells #[.slice none 0 0] 25) (.cells #[.int .i64 0,.int .i64 0] 28);have aa:((w.alloc (.cells #[.slice none 0 0] 25)).alloc (.cells #[.int .i64 0,.int .i64 0] 28)).heap.size=w.heap.size+2:=by simp
  have n3:=Yd ((w.alloc (.cells #[.slice none 0 0] 25)).alloc (.cells #[.int .i64 0,.int .i64 0] 28)) (.cells #[.slice st ts.length cap,.int .i64 0,.bool false] 60);rw[show((w.alloc (.cells #[.slice none 0 0] 25)).alloc (.cells #[.int .i64 0,.int .i64 0] 28)).heap.size=w.heap.size+1+1 from aa] at n3;exact⟨⟨tb.alloc tb.size _,(Yn _ _ _ (by rw[aa];omega)).trans t1,(Yn _ _ _ (by rw[aa];omega)).trans t2⟩,⟨n3,Yk _,few,ar.out,by omega,by simp,fun W hW=>HR.out W fun k hk=>(hW k (by omega) (by omega)).trans ((Yn _ _ _ (by rw[aa];omega)).trans (tb.block k hk))⟩⟩
 rintro W ⟨f,q⟩;have aB:=q.hT;refine(aq _ _ _ _ _ _ q ao).mono ?_;rintro e W1 ⟨e1,rfl,hv,N,hq⟩;have gb:Below (w.heap.size+2) W W1:=⟨N.os,N.tape,N.output,N.size,fun k hk=>N.block k (by omega) (fun e=>by injection e with e;omega)⟩;have F1:=J (f.low (Ya _) gb);have aE:=N.size;obtain⟨V,aj,b2,r2⟩:=zic W1 e1;have F2:=J (F1.out.below b2);have U:=J (hq.low b2);have V2:Hid (QV V (fun j=>w.heap.size+2<=j∧j<W1.heap.size) v e1):=J ⟨hv.is.keep (fun j D=>⟨by omega,D.2⟩) fun j D=>b2.block j D.2,hv.bg⟩;have Y:=J r2;have aD:=b2.size;clear f q hv N hq gb F1 b2 r2;obtain⟨p,bad⟩:=s
 cases bad
 ·have ay:cntP v.pt<=2 * p:=HC.out rfl;have ax:p<=ts.length:=U.out.le;have am:cntP v.pt<=400000:=by omega
  clear HC;have K:Hid (docO v ⟨p,false⟩ ts=if 2048<cntP v.pt then .inl (3,0) else if 24<dpP v.pt then .inl (3,0) else .inr v.pt):=J rfl;have c2:=U.out.c2
  go_upto_region 5 with fail
  clear aj;obtain⟨y0,y1,y2,y3,y4,Z,y6,y7,y8,y9⟩:=e1;have af:=Y;unfold Qe.cells paQ at af;obtain⟨h0,h1,h2,h3,h4,h5,h6,h7,h8,-⟩:=row9 af.out;unfold Qe.cells paQ
  go_wp2_with fail
  refine(zu2 V.heap.size (fun j=>w.heap.size+2<=j∧j<W1.heap.size) (fun j D=>by have:=zaa Y.out;omega) (cntP v.pt) v.pt V ⟨y0,y1,y2,y3,y4,Z,y6,y7,y8,y9⟩ (.slice none 0 0) [] (Ya _) V2.out.is (zcz _ _) (Ya _) (by simp;omega)).mono ?_;rintro e C ⟨v3,N3,S3,rfl,k1,k2,X,k4,k5⟩;have M:Below V.heap.size V C:=⟨X.os,X.tape,X.output,X.size,fun k hk=>X.block k hk (fun e=>by cases e)⟩;have ag:TrAt V.heap.size C v3 (layP 0 v.pt):=⟨N3,S3,k1,k2,fun j D=>⟨(k5 j D).1,(k5 j D).2.1⟩⟩;obtain⟨I,F,rfl⟩:=ag.shape;have ai:=J ag;have E:=J (F2.out.below M);have V3:Hid (QAt C (fun j=>w.heap.size+2<=j∧j<W1.heap.size) v.pt ⟨y0,y1,y2,y3,y4,Z,y6,y7,y8,y9⟩):=J (V2.out.is.keep (fun _ h=>h) fun j D=>M.block j (by omega));have R3:=J ((M.block _ (zaa Y.out)).trans Y.out);have av:=M.size;clear k1 k2 X k4 k5 M ag h0 h1 h2 h3 h4 h5 h6 h7 h8 c2 Y af F2 U V2;have ac:=zco v.pt 0;obtain⟨L,hL⟩:∃ L,layP 0 v.pt=L:=⟨_,rfl⟩;rw[hL] at ac ai ⊢;have ap:=J hL;have ak:=J ac;clear hL ac
  go_upto_region 6 with fail
  refine zdq (fun W=>DoF w W W1.heap.size C.heap.size ⟨y0,y1,y2,y3,y4,Z,y6,y7,y8,y9⟩ L I F∧QAt W (fun j=>w.heap.size+2<=j∧j<W1.heap.size) v.pt ⟨y0,y1,y2,y3,y4,Z,y6,y7,y8,y9⟩) ?_ ?_
  ·have ba:Below C.heap.size C (C.alloc (.cells #[.slice I L.length F] 25)):=(Yb _ _).alloc (Ya _) _;exact⟨⟨E.out.below ba,(ba.block _ (zaa R3.out)).trans R3.out,Yd _ _,(ai.out.below ba).mono (by omega)⟩,V3.out.keep (fun _ h=>h) fun j D=>ba.block j (by omega)⟩
  rintro W4 ⟨d4,q4⟩;have A:=J d4;have Q4:=J q4;have aC:=zaa d4.tr;have aw:=zaa d4.pr;clear E V3 R3 ai d4 q4;have t0:W4.cell? ⟨C.heap.size,0,none⟩=some (.slice I L.length F):=Yp 0 A.out.tr rfl;have R4:=A.out.pr;unfold Qe.cells paQ at R4;obtain⟨h0,h1,h2,h3,h4,h5,h6,h7,h8,-⟩:=row9 R4;clear R4;obtain⟨c0,c1,c2⟩:=A.out.fr.c;obtain⟨f0,f1,f2⟩:=A.out.fr.f;have ae:=zaa A.out.fr.z;have ab:=zaa A.out.fr.s
  by_cases g2:2048<cntP v.pt
  ·have HY:Hid (docO v ⟨p,false⟩ ts=.inl (3,0)):=J (by rw[K.out,if_pos g2]);have au:(L.length:Int) > 2048:=by have:=ak.out;omega
   clear K g2
   go_wp2
   exact bodyPost_ret (zcl Tryz.results9 _ _ w.heap.size (w.heap.size+1) _ _ _ _ (0,0) (0,0) _ _ rfl rfl (zbj A.out.fr _ _ _).2.1 (zbj A.out.fr _ _ _).2.2 Tryz.underlying25 rfl (by kernel_rfl) Tryz.underlying28 rfl (by kernel_rfl)) rfl (by rw[HY.out];exact⟨(zbj A.out.fr _ _ _).1,rfl⟩)
  ·have au:¬ (L.length:Int) > 2048:=by have:=ak.out;omega
   go_wp2_with fail
   refine(zq5 (cntP v.pt) v.pt W4 ⟨y0,y1,y2,y3,y4,Z,y6,y7,y8,y9⟩ _ (Ya _) Q4.out (fun j D=>by omega) am).mono ?_;rintro e W5 ⟨rfl,b5⟩;have y:=J (A.out.low b5);clear A Q4 b5 t0 h0 h1 h2 h3 h4 h5 h6 h7 h8 c0 c1 c2 f0 f1 f2 ae ab;have t0:W5.cell? ⟨C.heap.size,0,none⟩=some (.slice I L.length F):=Yp 0 y.out.tr rfl;obtain⟨c0,c1,c2⟩:=y.out.fr.c;obtain⟨f0,f1,f2⟩:=y.out.fr.f;have ae:=zaa y.out.fr.z;have ab:=zaa y.out.fr.s;have az:=zaa y.out.tr
   by_cases g3:24<dpP v.pt
   ·have HY:Hid (docO v ⟨p,false⟩ ts=.inl (3,0)):=J (by rw[K.out,if_neg g2,if_pos g3]);have an:(dpP v.pt:Int) > 24:=by omega
    clear K g2 g3
    go_wp2
    exact bodyPost_ret (zcl Tryz.results9 _ _ w.heap.size (w.heap.size+1) _ _ _ _ (0,0) (0,0) _ _ rfl rfl (zbj y.out.fr _ _ _).2.1 (zbj y.out.fr _ _ _).2.2 Tryz.underlying25 rfl (by kernel_rfl) Tryz.underlying28 rfl (by kernel_rfl)) rfl (by rw[HY.out];exact⟨(zbj y.out.fr _ _ _).1,rfl⟩)
   ·have HY:Hid (docO v ⟨p,false⟩ ts=.inr v.pt):=J (by rw[K.out,if_neg g2,if_neg g3]);have an:¬ (dpP v.pt:Int) > 24:=by omega
    clear K g2 g3;have al:Hid (TrAt w.heap.size (((W5.setCell ⟨w.heap.size,0,none⟩ (.slice I L.length F)).setCell ⟨w.heap.size+1,0,none⟩ (.int .i64 0)).setCell ⟨w.heap.size+1,1,none⟩ (.int .i64 0)) (.slice I L.length F) L):=J (by
     have t1:=y.out.ly.other y.out.fr.z (.inl rfl) (by omega) 0 (.slice I L.length F);have r1:=(Ye W5 ⟨w.heap.size,0,none⟩ (w.heap.size+1) (.slice I L.length F) (by simp)).trans y.out.fr.s;have t2:=t1.other r1 (.inr rfl) (by omega) 0 (.int .i64 0);exact(t2.other (Yf _ _ 0 _ _ (.int .i64 0) r1) (.inr rfl) (by omega) 1 (.int .i64 0)).mono (by omega))
    have ah:=J (zbj y.out.fr (.slice I L.length F) 0 0)
    go_wp2
    exact bodyPost_ret (zcl Tryz.results9 _ _ w.heap.size (w.heap.size+1) _ _ _ _ (0,0) (0,0) _ _ rfl rfl ah.out.2.1 ah.out.2.2 Tryz.underlying25 rfl (by kernel_rfl) Tryz.underlying28 rfl (by kernel_rfl)) rfl (by rw[HY.out];exact⟨ah.out.1,_,rfl,by rw[ap.out];exact al.out⟩)
 ·have K:Hid (docO v ⟨p,true⟩ ts=.inl (210,herI ts p)):=J rfl;have c2:=U.out.c2;have aA:∀ (a b c:Value) (W:World),(Instr.field 38 (.agg #[a,b,c]) 2).run Tryz.prog W=.ok c W:=fun _ _ _ _=>rfl
  go_wp2_with fail
  refine(zbk U.out).mono ?_;rintro e C ⟨rfl,M⟩;have hp:=zbv (ts:=ts) p;obtain⟨t,ht⟩:∃ t,nxQ ts p=t:=⟨_,rfl⟩
  dsimp only
  rw[ht] at hp ⊢;have E:=J (F2.out.below M);have HP:=J hp;clear M F2 U V2 Y aj c2 hp ht;obtain⟨c0,c1,c2⟩:=E.out.c;obtain⟨f0,f1,f2⟩:=E.out.f;have ae:=zaa E.out.z;have ab:=zaa E.out.s;unfold Tok.cells
  go_wp2
  exact bodyPost_ret (zcl Tryz.results9 _ _ w.heap.size (w.heap.size+1) _ _ _ _ (0,0) (0,0) _ _ rfl rfl (zbj E.out _ _ _).2.1 (zbj E.out _ _ _).2.2 Tryz.underlying25 rfl (by kernel_rfl) Tryz.underlying28 rfl (by kernel_rfl)) rfl (by rw[K.out,<-HP.out];exact⟨(zbj E.out _ _ _).1,rfl⟩)
end Go.Proofs.YtmclgbkijeidaaaGreatDoor
