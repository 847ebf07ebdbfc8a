import Derived.Test.YtmclgbkijeidaaaGreatDoorUnH
import Derived.Test.YtmclgbkijeidaaaGreatDoorUnI
import Derived.Test.YtmclgbkijeidaaaGreatDoorUnG
import Derived.Test.YtmclgbkijeidaaaGreatDoorUnE
namespace Go.Proofs.YtmclgbkijeidaaaGreatDoor
open Go.RowKit
theorem zby {R:Prop}(F G:Int->ByteArray->Int->Int->Int->Int->Int->Option Addr->Nat->Nat->World->Option Addr->Nat->Nat->World->Prop)(hc:∀ e0 e1 e2 e3 e4 e5 e6 e7 e8 e9 W' sp sn sc W2,F e0 e1 e2 e3 e4 e5 e6 e7 e8 e9 W' sp sn sc W2->G e0 e1 e2 e3 e4 e5 e6 e7 e8 e9 W' sp sn sc W2)
  (hb:(∀ e0 e1 e2 e3 e4 e5 e6 e7 e8 e9 W' sp sn sc W2,F e0 e1 e2 e3 e4 e5 e6 e7 e8 e9 W' sp sn sc W2->G e0 e1 e2 e3 e4 e5 e6 e7 e8 e9 W' sp sn sc W2)->R):R:=hb hc
theorem zam {P:Program}{ops:Array Oper}{Q:Exit->Act->World->Prop}{K:Act->World->Prop}{a:Act}{w:World}{i:Nat}{oi:Oper}(hi:ops[i]?=some oi)(hg:oi.guard=none)(h:oi.wp P a w K Q):wpOp P ops Q i K a w:=by
 unfold wpOp;simp only[hi,zel hg,if_true];exact .inl h
theorem if_t {α:Type}{c:Prop} [Decidable c] {a b r:α}(h:(if c then a else b)=r)(hc:c):a=r:=by rw[if_pos hc] at h;exact h
theorem if_f {α:Type}{c:Prop} [Decidable c] {a b r:α}(h:(if c then a else b)=r)(hc:¬ c):b=r:=by rw[if_neg hc] at h;exact h
theorem zin (W:World)(g:Nat):W.grownBy (W.setCell ⟨g,2,none⟩ (.bool true)) (some g):=by
 have hs:=(Below.refl 0 W).setCell (p:=⟨g,2,none⟩) (Nat.zero_le _) (.bool true);exact⟨hs.os,hs.tape,hs.output,hs.size,fun k hk hkg=>heap_setCell_other _ _ _ _ fun e=>hkg (by rw[show k=g from e])⟩
theorem Qdr.sz {T:Nat}{w:World}{g:Nat}{st:Option Addr}{cap:Nat}{ts:List Tok}{p:Nat}{bad:Bool}(h:Qdr T w g st cap ts p bad):(nxQ ts p).text.size<=100000:=by
 rw[zij];exact(h.bound p).2.2
def muQ (ts:List Tok) (g:Nat) (w:World):Nat:=match w.cell? ⟨g,2,none⟩,w.cell? ⟨g,1,none⟩ with
 | some (.bool b),some (.int _ n)=>muS ts ⟨n.toNat,b⟩
 | _,_=>0
theorem zc1 {T:Nat}{w:World}{g:Nat}{st:Option Addr}{cap:Nat}{ts:List Tok}{s:Qs}(h:QdS T w g st cap ts s):muQ ts g w=muS ts s:=by
 unfold muQ;rw[h.c2,h.c1];rfl
def Few (l:List Pt) (s:Qs):Prop:=l.length<=s.p+1∧(s.bad=false->l.length<=s.p)
theorem Few.more {l:List Pt}{q s:Qs}{t:Pt}(h:Few l q)(hq:q.bad=false)(hl:LtQ q s):Few (l++[t]) s:=by
 have h1:=h.2 hq;have h2:=hl.1;refine⟨by rw[List.length_append];simp;omega,fun hs=>?_⟩;rcases hl.2 with h3|⟨-,h3⟩
 ·rw[hs] at h3;cases h3
 ·rw[List.length_append];simp;omega
theorem Few.le {l:List Pt}{q s:Qs}(h:Few l q)(hl:LeQ q s):Few l s:=by
 have h2:=hl.1;refine⟨by have:=h.1;omega,fun hs=>?_⟩;rcases hl.2 with h3|h3
 ·rw[hs] at h3;cases h3
 ·have:=h.2 h3;omega
theorem Few.lt {l:List Pt}{T:Nat}{w:World}{g:Nat}{st:Option Addr}{cap:Nat}{ts:List Tok}{s:Qs}(h:Few l s)(hR:QdS T w g st cap ts s):l.length<=150000:=by
 have h1:=hR.le;have h2:=hR.few;have h3:=h.1;have h4:s.p<=ts.length:=h1;omega
structure Fr (T:Nat) (w W0 W:World) (g:Nat) (st:Option Addr) (cap:Nat) (ts:List Tok) (s:Qs):Prop where
 b0:Below w.heap.size w W0
 s0:W0.heap.size=w.heap.size+1
 hg:g<w.heap.size
 hT:T<=w.heap.size
 hG:W0.grownBy W (some g)
 hR:QdS T W g st cap ts s
 hZ:W.heap[w.heap.size]?=some (.cells (paQ 0 ⟨#[]⟩ 0 0 0 0 0 (.slice none 0 0)) 63 (0,0))
section
variable {T:Nat}{w W0 W W':World}{g:Nat}{st:Option Addr}{cap:Nat}{ts:List Tok}{s s':Qs}
theorem zb9 (hR:QdS T w g st cap ts s):Fr T w (w.alloc (.cells (paQ 0 ⟨#[]⟩ 0 0 0 0 0 (.slice none 0 0)) 63)) (w.alloc (.cells (paQ 0 ⟨#[]⟩ 0 0 0 0 0 (.slice none 0 0)) 63)) g st cap ts s:=by
 have hb:Below w.heap.size w (w.alloc (.cells (paQ 0 ⟨#[]⟩ 0 0 0 0 0 (.slice none 0 0)) 63)):=(Below.refl _ _).alloc (Nat.le_refl _) _;exact⟨hb,World.size_alloc ..,hR.lt,hR.hT,zbp _ _,hR.low hb,heap_alloc_new _ _⟩
theorem Fr.size (h:Fr T w W0 W g st cap ts s):W0.heap.size<=W.heap.size:=h.hG.size
theorem Fr.call (h:Fr T w W0 W g st cap ts s)(hg:W.grownBy W' (some g))(hR:QdS T W' g st cap ts s'):Fr T w W0 W' g st cap ts s' :=
 ⟨h.b0,h.s0,h.hg,h.hT,zab h.hG hg,hR,(hg.block _ (by have:=h.s0;have:=h.size;omega) (fun e=>by injection e with e;have:=h.hg;omega)).trans h.hZ⟩
theorem Fr.on (h:Fr T w W0 W g st cap ts s)(hb:Below W0.heap.size W W'):Fr T w W0 W' g st cap ts s :=
 ⟨h.b0,h.s0,h.hg,h.hT,zav h.hG hb,h.hR.below (by have:=h.s0;have:=h.hT;omega) hb,(hb.block _ (by have:=h.s0;omega)).trans h.hZ⟩
theorem Fr.low (h:Fr T w W0 W g st cap ts s)(hb:Below W.heap.size W W'):Fr T w W0 W' g st cap ts s:=h.on (hb.mono h.size)
theorem Fr.gB (h:Fr T w W0 W g st cap ts s):g<W0.heap.size:=by have:=h.s0;have:=h.hg;omega
structure Tl (W0 W:World) (b:Nat) (t:Tok):Prop where
 hB:W0.heap.size<=b
 row:W.heap[b]?=some (.cells t.cells 38 (0,0))
theorem Tl.call {b:Nat}{t:Tok}(h:Tl W0 W b t)(hg0:g<W0.heap.size)(hg:W.grownBy W' (some g)):Tl W0 W' b t :=
 ⟨h.hB,(hg.block _ (zaa h.row) (fun e=>by injection e with e;have:=h.hB;omega)).trans h.row⟩
theorem Tl.low {b:Nat}{t:Tok}(h:Tl W0 W b t)(hb:Below W.heap.size W W'):Tl W0 W' b t:=⟨h.hB,(hb.block _ (zaa h.row)).trans h.row⟩
theorem Tl.cells {b:Nat}{t:Tok}(h:Tl W0 W b t):W.cell? ⟨b,0,none⟩=some (.int .i64 t.kind)∧W.cell? ⟨b,1,none⟩=some (.string t.text)∧W.cell? ⟨b,2,none⟩=some (.int .i64 t.pos) :=
 ⟨(cell_of_row _ _ 0 _ _ _ h.row).trans rfl,(cell_of_row _ _ 1 _ _ _ h.row).trans rfl,(cell_of_row _ _ 2 _ _ _ h.row).trans rfl⟩
theorem zdg (h:Fr T w W0 W g st cap ts s)(t:Tok):∃ W2,Sem.run Tryz.prog (storeCells ⟨W.heap.size,0,none⟩ t.cells.toList) (W.alloc (.cells #[.int .i64 0,.string ⟨#[]⟩,.int .i64 0] 38))=.ok () W2∧Below W.heap.size W W2∧Fr T w W0 W2 g st cap ts s∧Tl W0 W2 W.heap.size t:=by
 obtain⟨W2,hs,hb,hr⟩:=zfc W t;exact⟨W2,hs,hb,h.low hb,h.size,hr⟩
theorem zc2 {z:Nat}(h:Fr T w W0 W g st cap ts s)(hz:z<W.heap.size)(k:Int)(t:Tok)(x:ByteArray):∃ W2,Sem.run Tryz.prog (storeCells ⟨W.heap.size,0,none⟩ (begE k t x).cells.toList) (W.alloc (.cells #[.int .i64 0,.string ⟨#[]⟩,.int .i64 0,.slice none 0 0,.int .i64 0,.int .i64 0,.int .i64 0,.int .i64 0,.slice none 0 0] 63))=.ok () W2∧Below W.heap.size W W2∧Fr T w W0 W2 g st cap ts s∧Qk W0.heap.size z W2 W.heap.size k x 0 t.pos t.pos 0 t.pos (.slice none 0 0) []:=by
 obtain⟨W2,hs,hb,hr⟩:=zgp W (begE k t x);exact⟨W2,hs,hb,h.low hb,Qk.new h.size (Nat.lt_of_lt_of_le hz hb.size) hr⟩
structure Vl (W0 W:World) (b N:Nat) (v:Qv) (e:Qe):Prop where
 hB:W0.heap.size<=b
 hN:N<=W.heap.size
 row:W.heap[b]?=some (.cells e.cells 63 (0,0))
 ex:∃ S:Nat->Prop,QV W S v e∧∀ j,S j->W0.heap.size<=j∧j<N∧j≠b
theorem Vl.call {b N:Nat}{v:Qv}{e:Qe}(h:Vl W0 W b N v e)(hg0:g<W0.heap.size)(hg:W.grownBy W' (some g)):Vl W0 W' b N v e:=by
 obtain⟨h1,hN,h2,S,h3,h4⟩:=h;exact⟨h1,Nat.le_trans hN hg.size,(hg.block _ (zaa h2) (fun e=>by injection e with e;omega)).trans h2,S,⟨h3.is.keep (fun _ h=>h) fun j hj=>hg.block j (by have:=(h4 j hj).2.1;omega) (fun e=>by injection e with e;have:=(h4 j hj).1;omega),h3.bg⟩,h4⟩
theorem zk2 {A:World}{v:Qv}{e:Qe}(h:Fr T w W0 W g st cap ts s)(hA:W0.heap.size<=A.heap.size)(hv:QV W (fun j=>A.heap.size<=j∧j<W.heap.size) v e):∃ W2,Sem.run Tryz.prog (storeCells ⟨W.heap.size,0,none⟩ e.cells.toList) (W.alloc (.cells #[.int .i64 0,.string ⟨#[]⟩,.int .i64 0,.slice none 0 0,.int .i64 0,.int .i64 0,.int .i64 0,.int .i64 0,.slice none 0 0] 63))=.ok () W2∧Below W.heap.size W W2∧Fr T w W0 W2 g st cap ts s∧Vl W0 W2 W.heap.size W.heap.size v e:=by
 obtain⟨W2,hs,hb,hr⟩:=zgp W e;exact⟨W2,hs,hb,h.low hb,h.size,hb.size,hr,fun j=>A.heap.size<=j∧j<W.heap.size,⟨hv.is.keep (fun _ h=>h) fun j hj=>hb.block j hj.2,hv.bg⟩,fun j hj=>⟨by omega,hj.2,by omega⟩⟩
theorem zfr {b:Nat}{e0:Qe}{v:Qv}{e:Qe}(h:Fr T w W0 W g st cap ts s)(hB:W0.heap.size<=b)(hr0:W.heap[b]?=some (.cells e0.cells 63 (0,0)))(hv:QV W (fun j=>W0.heap.size<=j∧j<W.heap.size∧j≠b) v e):∃ W2,Sem.run Tryz.prog (storeCells ⟨b,0,none⟩ e.cells.toList) W=.ok () W2∧Below b W W2∧Fr T w W0 W2 g st cap ts s∧Vl W0 W2 b W.heap.size v e:=by
 obtain⟨W2,hs,hb,hr,ho⟩:=zp6 hr0 (cs:=e.cells) rfl e.one;exact⟨W2,hs,hb,h.on (hb.mono hB),⟨hB,hb.size,hr,fun j=>W0.heap.size<=j∧j<W.heap.size∧j≠b,⟨hv.is.keep (fun _ h=>h) fun j hj=>ho j hj.2.2,hv.bg⟩,fun j hj=>hj⟩⟩
theorem za5 {v:Qv}{e:Qe}(h:Fr T w W0 W g st cap ts s)(hv:QV W (fun j=>W0.heap.size<=j∧j<W.heap.size) v e):∃ W2,Sem.run Tryz.prog (storeCells ⟨w.heap.size,0,none⟩ e.cells.toList) W=.ok () W2∧W2.heap[w.heap.size]?=some (.cells e.cells 63 (0,0))∧QoP T w g st cap ts (v,s) (.returned (.agg e.cells)) W2:=by
 obtain⟨W2,hs,hb,hr,ho⟩:=zp6 h.hZ (cs:=e.cells) rfl e.one;have h0:=h.s0;have hsz:=hb.size;refine⟨W2,hs,hr,e,rfl,⟨hv.is.keep (fun j hj=>⟨by omega,by omega⟩) fun j hj=>ho j (by omega),hv.bg⟩,?_,?_⟩
 ·exact zav (zab (zae h.b0) h.hG) hb
 ·exact h.hR.below h.hT hb
theorem zd4 {v:Qv}{e:Qe}(h:Fr T w W0 W g st cap ts s)(hv:QV W (fun j=>W0.heap.size<=j∧j<W.heap.size) v e):QoP T w g st cap ts (v,s) (.returned (.agg e.cells)) (W.setRow w.heap.size e.cells):=by
 have hb:Below w.heap.size W (W.setRow w.heap.size e.cells):=zai (Below.refl _ _) (Nat.le_refl _) _;have h0:=h.s0;have hsz:=hb.size;exact⟨e,rfl,⟨hv.is.keep (fun j hj=>⟨by omega,by omega⟩) fun j hj=>setRow_other _ _ _ _ (by omega),hv.bg⟩,zav (zab (zae h.b0) h.hG) hb,h.hR.below h.hT hb⟩
def WoP (T:Nat) (w:World) (g:Nat) (st:Option Addr) (cap:Nat) (ts:List Tok) (k:Int) (r:Qv × Qs) (e:Ending) (w':World):Prop :=
 e=.returned (.agg (⟨k,r.1.x,0,r.1.a,r.1.f,0,r.1.bg,none,0,0⟩:Qe).cells)∧w.grownBy w' (some g)∧QdS T w' g st cap ts r.2
theorem zo9 (h:Fr T w W0 W g st cap ts s)(k:Int)(x:ByteArray)(a f bg:Int):WoP T w g st cap ts k (⟨k,x,0,a,f,0,bg,[]⟩,s) (.returned (.agg (⟨k,x,0,a,f,0,bg,none,0,0⟩:Qe).cells)) (W.setRow w.heap.size (⟨k,x,0,a,f,0,bg,none,0,0⟩:Qe).cells):=by
 have hb:Below w.heap.size W (W.setRow w.heap.size (⟨k,x,0,a,f,0,bg,none,0,0⟩:Qe).cells):=zai (Below.refl _ _) (Nat.le_refl _) _;exact⟨rfl,zav (zab (zae h.b0) h.hG) hb,h.hR.below h.hT hb⟩
theorem zdy {b z:Nat}{k:Int}{x:ByteArray}{n a f t bg:Int}{v0:Value}{l0:List Pt}{v:Qv}{e:Qe}{S:Nat->Prop}(h:Fr T w W0 W g st cap ts s)(hQ:Qk W0.heap.size z W b k x n a f t bg v0 l0)(hv:QV W S v e)(hS:∀ j,S j->W0.heap.size<=j∧j<W.heap.size∧j≠b∧j≠z) :
  (W.alloc (.cells e.cells 63)).cell? ⟨b,8,none⟩=some v0∧(W.alloc (.cells e.cells 63)).frozen? ⟨b,8,none⟩=false ∧
  ∃ W2,(W.alloc (.cells e.cells 63)).setCell ⟨b,8,none⟩ (.slice (some ⟨W.heap.size,0,none⟩) 1 1)=W2∧Fr T w W0 W2 g st cap ts s∧Qk W0.heap.size z W2 b k x n a f t bg (.slice (some ⟨W.heap.size,0,none⟩) 1 1) [v.pt]∧Below b W W2∧∀ j,j≠b->j<W.heap.size->W2.heap[j]?=W.heap[j]?:=by
 have hb:=hQ.lt;have hr1:(W.alloc (.cells e.cells 63)).heap[b]?=some (.cells (paQ k x n a f t bg v0) 63 (0,0)):=(Below.heap_alloc _ _ _ hb).trans hQ.row;have hB2:Below b W ((W.alloc (.cells e.cells 63)).setCell ⟨b,8,none⟩ (.slice (some ⟨W.heap.size,0,none⟩) 1 1)):=((Below.refl _ _).alloc (Nat.le_of_lt hb) _).setCell (Nat.le_refl _) _;have ho:∀ j,j≠b->j<W.heap.size->((W.alloc (.cells e.cells 63)).setCell ⟨b,8,none⟩ (.slice (some ⟨W.heap.size,0,none⟩) 1 1)).heap[j]?=W.heap[j]?:=fun j hj hl=>(heap_setCell_other _ _ _ _ hj).trans (Below.heap_alloc _ _ _ hl);refine⟨(cell_of_row _ _ 8 _ _ _ hr1).trans rfl,frozen_of_row _ _ _ _ _ hr1,_,rfl,h.on (hB2.mono hQ.hB),?_,hB2,ho⟩;have hne:W.heap.size≠b:=by omega
 have hz:=hQ.hz;exact hQ.one hB2.size ho ((heap_setCell_other _ _ _ _ hne).trans (heap_alloc_new _ _)) h.size hne (by omega) hv.is (fun j hj=>by have:=hS j hj;exact⟨this.1,this.2.1,this.2.2.1,this.2.2.2,by omega⟩) (heap_setCell_same _ _ 8 _ _ _ hr1)
theorem za7 {b z:Nat}{k:Int}{x:ByteArray}{n a f t bg:Int}{v:Value}{l:List Pt}(h:Fr T w W0 W g st cap ts s)(hQ:Qk W0.heap.size z W b k x n a f t bg v l) :
  ∃ sp len cp,v=.slice sp len cp∧Calls Tryz.prog 49 #[.pointer (some ⟨g,0,none⟩),.agg (⟨k,x,n,a,f,t,bg,sp,len,cp⟩:Qe).cells] W fun e W'=>∃ q:Qe,e=.returned (.agg q.cells)∧Below W.heap.size W W'∧Fr T w W0 W' g st cap ts s∧QV W' (fun j=>W0.heap.size<=j∧j<W'.heap.size∧j≠z) ⟨k,x,n,a,f,behI ts s.p,bg,l⟩ q:=by
 obtain⟨sp,len,cp,hv,hat⟩:=hQ.fin;refine⟨sp,len,cp,hv,(ze0 _ h.hR).mono ?_⟩;rintro e W' ⟨rfl,hb⟩;have hsz:=hb.size;exact⟨_,rfl,hb,h.low hb,hat.ends.keep (fun j hj=>⟨hj.1,by omega,hj.2.2⟩) fun j hj=>hb.block _ hj.2.1,rfl⟩
theorem zd5 (h:Fr T w W0 W g st cap ts s)(k:Int)(t:Tok)(x:ByteArray) :
  Calls Tryz.prog 49 #[.pointer (some ⟨g,0,none⟩),.agg (begE k t x).cells] W fun e W'=>e=.returned (.agg (⟨k,x,0,t.pos,t.pos,behI ts s.p,t.pos,none,0,0⟩:Qe).cells)∧Below W.heap.size W W'∧Fr T w W0 W' g st cap ts s:=by
 refine(ze0 _ h.hR).mono ?_;rintro e W' ⟨rfl,hb⟩;exact⟨rfl,hb,h.low hb⟩
theorem zdk {S:Nat->Prop}(k:Int)(x:ByteArray)(n a f t bg:Int):QV W S ⟨k,x,n,a,f,t,bg,[]⟩ ⟨k,x,n,a,f,t,bg,none,0,0⟩:=⟨QAt.fresh _ _ _ _ _ _ _,rfl⟩
structure Tq (W0 W:World) (b:Nat) (e:Qe):Prop where
 hB:W0.heap.size<=b
 row:W.heap[b]?=some (.cells e.cells 63 (0,0))
theorem Tq.call {b:Nat}{e:Qe}(h:Tq W0 W b e)(hg0:g<W0.heap.size)(hg:W.grownBy W' (some g)):Tq W0 W' b e :=
 ⟨h.hB,(hg.block _ (zaa h.row) (fun e=>by injection e with e;have:=h.hB;omega)).trans h.row⟩
theorem Tq.low {b:Nat}{e:Qe}(h:Tq W0 W b e)(hb:Below W.heap.size W W'):Tq W0 W' b e:=⟨h.hB,(hb.block _ (zaa h.row)).trans h.row⟩
theorem Tq.on {b c:Nat}{e:Qe}(h:Tq W0 W b e)(hbc:b≠c)(ho:∀ j,j≠c->j<W.heap.size->W'.heap[j]?=W.heap[j]?):Tq W0 W' b e:=⟨h.hB,(ho _ hbc (zaa h.row)).trans h.row⟩
theorem Tq.qk {z b:Nat}{k:Int}{x:ByteArray}{n a f t bg:Int}(h:Tq W0 W b ⟨k,x,n,a,f,t,bg,none,0,0⟩)(hz:z<W.heap.size):Qk W0.heap.size z W b k x n a f t bg (.slice none 0 0) []:=Qk.new h.hB hz h.row
theorem zgc (h:Fr T w W0 W g st cap ts s)(e:Qe):∃ W2,Sem.run Tryz.prog (storeCells ⟨W.heap.size,0,none⟩ e.cells.toList) (W.alloc (.cells #[.int .i64 0,.string ⟨#[]⟩,.int .i64 0,.slice none 0 0,.int .i64 0,.int .i64 0,.int .i64 0,.int .i64 0,.slice none 0 0] 63))=.ok () W2∧Below W.heap.size W W2∧Fr T w W0 W2 g st cap ts s∧Tq W0 W2 W.heap.size e:=by
 obtain⟨W2,hs,hb,hr⟩:=zgp W e;exact⟨W2,hs,hb,h.low hb,h.size,hr⟩
theorem zhz {b z:Nat}{k:Int}{x:ByteArray}{n a f t bg:Int}{v:Value}{l:List Pt}(h:Fr T w W0 W g st cap ts s)(hQ:Qk W0.heap.size z W b k x n a f t bg v l) (W2:World)(hb:Below b W W2)(ho:∀ j,j≠b->j<W.heap.size->W2.heap[j]?=W.heap[j]?)(k':Int)(x':ByteArray)(n' a' f' t' bg':Int)(hr:W2.heap[b]?=some (.cells (paQ k' x' n' a' f' t' bg' v) 63 (0,0))) :
  Fr T w W0 W2 g st cap ts s∧Qk W0.heap.size z W2 b k' x' n' a' f' t' bg' v l:=⟨h.on (hb.mono hQ.hB),hQ.turn hb.size ho hr⟩
theorem zbt {b z:Nat}{k:Int}{x:ByteArray}{n a f t bg:Int}{v:Value}{l:List Pt}{vx:Qv}{e:Qe}(h:Fr T w W0 W g st cap ts s)(hQ:Qk W0.heap.size z W b k x n a f t bg v l)(hl:l.length<=200000)(hg:W.grownBy W' (some g))(hR:QdS T W' g st cap ts s')(hv:QV W' (fun j=>W.heap.size<=j∧j<W'.heap.size) vx e) :
  W'.cell? ⟨b,8,none⟩=some v∧(W'.alloc (.cells e.cells 63)).cell? ⟨b,8,none⟩=some v ∧
  ∃ v' w1 W2,(Builtin.append_ #[61,61] 61 #[v,.slice (some ⟨W'.heap.size,0,none⟩) 1 1]).run Tryz.prog (W'.alloc (.cells e.cells 63))=.ok v' w1∧w1.cell? ⟨b,8,none⟩=some v∧w1.frozen? ⟨b,8,none⟩=false ∧
   w1.setCell ⟨b,8,none⟩ v'=W2∧Fr T w W0 W2 g st cap ts s'∧Qk W0.heap.size z W2 b k x n a f t bg v' (l++[vx.pt])∧(z≠b->W2.heap[z]?=W'.heap[z]?)∧W'.heap.size<=W2.heap.size:=by
 have hQ':=hQ.grow h.gB hg;have hF':=h.call hg hR;have hb:=hQ.lt;have hb':=hQ'.lt;have hs:=hg.size;have ha:Below W'.heap.size W' (W'.alloc (.cells e.cells 63)):=(Below.refl _ _).alloc (Nat.le_refl _) _;have hQa:=hQ'.below ha;have hS:∀ j,(W.heap.size<=j∧j<W'.heap.size)->W0.heap.size<=j∧j<(W'.alloc (.cells e.cells 63)).heap.size∧j≠b∧j≠z∧v.ownBlock≠some j:=fun j hj=>by
  have h1:=h.size;have h2:=hQ.hz;have h3:=ha.size;exact⟨by omega,by omega,by omega,by omega,fun e=>by have:=(hQ.own e).2;omega⟩
 obtain⟨v',w1,q1,q2,q3,q4,q5,-⟩:=hQa.app 61 (heap_alloc_new _ _) (hv.is.keep (fun _ h=>h) fun j hj=>ha.block j hj.2) hS hl;refine⟨(cell_of_row _ _ 8 _ _ _ hQ'.row).trans rfl,(cell_of_row _ _ 8 _ _ _ hQa.row).trans rfl,v',w1,_,q1,(cell_of_row _ _ 8 _ _ _ q2).trans rfl,frozen_of_row _ _ _ _ _ q2,rfl,(hF'.low ha).on q3,q4,fun hz=>?_,Nat.le_trans ha.size q3.size⟩;have h2:=hQ'.hz;exact(heap_setCell_other _ _ _ _ hz).trans ((q5.block z (by have:=ha.size;omega) (fun e=>hQ.oz e.symm)).trans (ha.block z h2))
theorem zqq {b z:Nat}{k:Int}{x:ByteArray}{n a f t bg:Int}{v:Value}{l:List Pt}{vx:Qv}{e:Qe}{S:Nat->Prop}(h:Fr T w W0 W g st cap ts s)(hQ:Qk W0.heap.size z W b k x n a f t bg v l)(hl:l.length<=200000)(hv:QV W S vx e)(hS:∀ j,S j->W0.heap.size<=j∧j<W.heap.size∧j≠b∧j≠z∧v.ownBlock≠some j) :
  ∃ sp sn sc w1 W2,(Builtin.append_ #[61,61] 61 #[v,.slice (some ⟨W.heap.size,0,none⟩) 1 1]).run Tryz.prog (W.alloc (.cells e.cells 63))=.ok (.slice sp sn sc) w1∧w1.cell? ⟨b,8,none⟩=some v∧w1.frozen? ⟨b,8,none⟩=false ∧
   w1.setCell ⟨b,8,none⟩ (.slice sp sn sc)=W2∧Fr T w W0 W2 g st cap ts s∧Qk W0.heap.size z W2 b k x n a f t bg (.slice sp sn sc) (l++[vx.pt])∧(z≠b->W2.heap[z]?=W.heap[z]?):=by
 have hb:=hQ.lt;have ha:Below W.heap.size W (W.alloc (.cells e.cells 63)):=(Below.refl _ _).alloc (Nat.le_refl _) _;have hQa:=hQ.below ha;obtain⟨v',w1,q1,q2,q3,q4,q5,-⟩:=hQa.app 61 (heap_alloc_new _ _) (hv.is.keep (fun _ h=>h) fun j hj=>ha.block j (hS j hj).2.1) (fun j hj=>by have:=ha.size;have:=hS j hj;exact⟨this.1,by omega,this.2.2⟩) hl;obtain⟨sp,sn,sc,rfl⟩:=q4.sl;refine⟨sp,sn,sc,w1,_,q1,(cell_of_row _ _ 8 _ _ _ q2).trans rfl,frozen_of_row _ _ _ _ _ q2,rfl,(h.low ha).on q3,q4,fun hz=>?_⟩;exact(heap_setCell_other _ _ _ _ hz).trans ((q5.block z (by have:=ha.size;have:=hQ.hz;omega) (fun e=>hQ.oz e.symm)).trans (ha.block z hQ.hz))
end
set_option maxRecDepth 100000
set_option maxHeartbeats 4000000
theorem zge {W0 W:World}{b c:Nat}{t:Tok}{cs:Array Value}(h:Tl W0 W b t)(hc:W.heap[c]?=some (.cells cs 63 (0,0))):b≠c:=by
 intro e;have h1:=h.row;rw[e,hc] at h1;injection h1 with h1;injection h1 with h1 h2 h3;exact absurd h2 (by decide)
theorem zsu {α β:Type}{c:Prop} [Decidable c] {a b:Option α}{k:α->Option β}{r:Option β}(h:(if c then a else b).bind k=r)(hc:c):a.bind k=r:=by rw[if_pos hc] at h;exact h
theorem zsv {α β:Type}{c:Prop} [Decidable c] {a b:Option α}{k:α->Option β}{r:Option β}(h:(if c then a else b).bind k=r)(hc:¬ c):b.bind k=r:=by rw[if_neg hc] at h;exact h
section
variable {T:Nat}{w W0 W W':World}{g:Nat}{st:Option Addr}{cap:Nat}{ts:List Tok}{s s':Qs}
theorem zg5 (k:Int)(hK:∀ (w:World) s,QdS T w g st cap ts s->Calls Tryz.prog 98 #[.pointer (some ⟨g,0,none⟩)] w (QoP T w g st cap ts (kinD ts s)))(hR:QdS T w g st cap ts s):Calls Tryz.prog 71 #[.pointer (some ⟨g,0,none⟩),.int .i64 k] w (QoP T w g st cap ts (tydD ts k s)):=by
 have HF:=hid (zb9 hR);have hfe:=hR.few;have hle:=hR.le;clear hR;have HK:=hid hK;clear hK;obtain⟨r,hX⟩:∃ r,tydD ts k s=r:=⟨_,rfl⟩;rw[hX];unfold tydD at hX
 dsimp only[tak] at hX
 have HX:=hid hX;clear hX
 go_enter Tryz.func71,Tryz.ntmps71
 go_wp2_with fail
 refine zaf (fun W=>Fr T w W W g st cap ts s) HF.out ?_;intro W0 hF;clear HF;have HF:=hid hF;clear hF;refine(zag ⟨#[110,97,109,101]⟩ HF.out.hR).mono ?_;rintro e W1 ⟨rfl,g1,r1⟩;obtain⟨t1,ht⟩:∃ t,takT ts ⟨#[110,97,109,101]⟩ s=t:=⟨_,rfl⟩;obtain⟨s1,hs⟩:∃ s2,takS ts ⟨#[110,97,109,101]⟩ s=s2:=⟨_,rfl⟩;rw[show takT ts ⟨#[110,97,109,101]⟩ ⟨s.p,s.bad⟩=t1 from ht];have q1:QdS T W1 g st cap ts s1:=hs ▸ r1;have HT1:Hid (LtQ s s1):=hid (hs ▸ zal _ _)
 try rw[ht] at HX
 try rw[hs] at HX
 have HF3:=hid (HF.out.call g1 q1);clear ht hs r1 q1 g1 HF;obtain⟨W4,hst4,b4,f4,l4⟩:=zdg HF3.out t1;have Ht4n:=hid l4;have HF6:=hid (f4);clear b4 f4 l4 HF3;obtain⟨c7a,c7b,c7c⟩:=Ht4n.out.cells
 go_wp2_with fail
 clear hst4 c7a c7b c7c;refine(zat k t1 t1.text W4).mono ?_;rintro e W8 ⟨rfl,b8⟩;have Ht9n:=hid (Ht4n.out.low b8);have HF10:=hid (HF6.out.low b8);clear b8 HF6 Ht4n;obtain⟨W11,hst11,b11,f11,l11⟩:=zc2 (z:=w.heap.size) HF10.out (zaa HF10.out.hZ) k t1 t1.text;have Ht12n:=hid (Ht9n.out.low b11);have Hp11p:=hid l11;have hn11:=b11.size;have HF13:=hid (f11);clear b11 f11 l11 HF10 Ht9n
 go_wp2_with fail
 clear hst11;refine(HK.out _ s1 HF13.out.hR).mono ?_;rintro e W14 ⟨e14,rfl,q14,g14,r14⟩;obtain⟨⟨v14,s14⟩,hk14⟩:∃ r,kinD ts s1=r:=⟨_,rfl⟩;rw[hk14] at HX q14 r14
 try dsimp only at HX
 have HV14:=hid q14;have hb14p:=Hp11p.out.lt;have Hp15p:=hid (Hp11p.out.grow HF13.out.gB g14);have hs14:=g14.size;have HF16:=hid (HF13.out.call g14 r14);have hl14:=HF13.out.size;clear hk14 q14 g14 r14 HF13 Hp11p;obtain⟨c17,f17,W17,hw17,g17,q17,b17,o17⟩:=zdy HF16.out Hp15p.out (v:=v14) (e:=e14) (S:=(fun j=>W11.heap.size<=j∧j<W14.heap.size)) HV14.out (fun j hj=>by have:=Hp15p.out.lt;have:=HF16.out.s0;exact⟨by omega,hj.2,by omega,by omega⟩);have Hp17p:=hid q17;have HF18:=hid (g17);obtain⟨e0,e1,e2,e3,e4,e5,e6,e7,e8,e9⟩:=e14
 dsimp only[Qe.cells,paQ] at c17 f17 hw17
 try unfold Qe.cells paQ
 clear HV14 g17 q17 b17 o17 HF16 Hp15p;obtain⟨r19a,r19b,r19c,r19d,r19e,r19f,r19g,r19h,r19i,r19z⟩:=row9 Hp17p.out.row
 go_wp2_with fail
 clear c17 f17 hw17 r19a r19b r19c r19d r19e r19f r19g r19h r19i r19z;obtain⟨sp20,ln20,cp20,hv20,hd20⟩:=za7 HF18.out Hp17p.out;injection hv20 with u1 u2 u3;subst u1 u2 u3;refine hd20.mono ?_;rintro e W20 ⟨e20,rfl,b20,f20,q20⟩;have HV20:=hid q20;have HF22:=hid (f20);clear hd20 b20 f20 q20 HF18 Hp17p;obtain⟨W23,hst23,hr23,hp23⟩:=za5 HF22.out (v:=(⟨k,t1.text,0,t1.pos,t1.pos,behI ts s14.p,t1.pos,[v14.pt]⟩:Qv)) ⟨HV20.out.is.keep (fun j hj=>⟨hj.1,hj.2.1⟩) fun _ _=>rfl,HV20.out.bg⟩;have HP:=hid hp23;have HRR:=hid hr23;clear hp23 hr23
 go_wp2
 have hx:=HX.out;exact zan Tryz.results71 rfl HRR.out (hx ▸ HP.out)
end
theorem zfs (k f:Int)(w:World):Calls Tryz.prog 101 #[.int .i64 k,.int .i64 f] w fun e w'=>e=.returned (.pointer (some ⟨w.heap.size,0,none⟩))∧Mk w.heap.size w' w.heap.size k ⟨#[]⟩ 0 f f 0 (.slice none 0 0) []∧Below w.heap.size w w':=by
 go_enter Tryz.func101,Tryz.ntmps101
 go_wp2
 go_ret
 exact⟨rfl,Mk.new w k ⟨#[]⟩ 0 f f 0,(Below.refl _ _).alloc (Nat.le_refl _) _⟩
section
variable {T:Nat}{w:World}{g:Nat}{st:Option Addr}{cap:Nat}{ts:List Tok}{p:Nat}
theorem zbi (k:Int)(hR:Rdr T w g st cap ts p):Calls Tryz.prog 74 #[.pointer (some ⟨g,0,none⟩),.int .i64 k] w fun e w'=>∃ b,e=.returned (.pointer (some ⟨b,0,none⟩))∧Mk w.heap.size w' b k ⟨#[]⟩ 0 (herI ts p) (herI ts p) 0 (.slice none 0 0) []∧Below w.heap.size w w':=by
 have HR:=hid hR;clear hR
 go_enter Tryz.func74,Tryz.ntmps74
 go_wp2_with fail
 refine(zgl HR.out).mono ?_;rintro e W ⟨rfl,b0⟩
 go_wp2_with fail
 refine(zfs k (herI ts p) W).mono ?_;rintro e W1 ⟨rfl,hM,b1⟩
 go_wp2
 go_ret
 exact⟨_,rfl,hM.mono b0.size,b0.trans (b1.mono b0.size)⟩
end
section
variable {B:Nat}{w:World}{b:Nat}{k:Int}{x:ByteArray}{n a f t:Int}{v:Value}{l:List Pt}
theorem Mk.word (h:Mk B w b k x n a f t v l)(x':ByteArray)(a':Int){W:World}(hb:Below w.heap.size w W):Mk B ((W.setCell ⟨b,1,none⟩ (.string x')).setCell ⟨b,4,none⟩ (.int .i64 a')) b k x' n a' f t v l∧Below B w ((W.setCell ⟨b,1,none⟩ (.string x')).setCell ⟨b,4,none⟩ (.int .i64 a'))∧∀ j,j≠b->j<w.heap.size->((W.setCell ⟨b,1,none⟩ (.string x')).setCell ⟨b,4,none⟩ (.int .i64 a')).heap[j]?=w.heap[j]?:=by
 have hM:=h.below hb;have h1:=heap_setCell_same _ _ 1 _ _ (.string x') hM.row;have h2:=heap_setCell_same _ _ 4 _ _ (.int .i64 a') h1;refine⟨hM.turn (by simp) (fun j hj _=>(heap_setCell_other _ _ _ _ hj).trans (heap_setCell_other _ _ _ _ hj)) h2,?_⟩;have hb':Below B w W:=⟨hb.os,hb.tape,hb.output,hb.size,fun k hk=>hb.block k (by have:=h.hB;have:=h.lt;omega)⟩;exact⟨(hb'.setCell (p:=⟨b,1,none⟩) h.hB _).setCell (p:=⟨b,4,none⟩) h.hB _,fun j hj hl=>(heap_setCell_other _ _ _ _ hj).trans ((heap_setCell_other _ _ _ _ hj).trans (hb.block j hl))⟩
theorem zft (t':Tok)(hM:Mk B w b k x n a f t v l):Calls Tryz.prog 76 #[.pointer (some ⟨b,0,none⟩),.agg t'.cells] w fun e w'=>e=.returned (.tuple #[])∧Mk B w' b k t'.text n t'.pos f t v l∧Below B w w'∧∀ j,j≠b->j<w.heap.size->w'.heap[j]?=w.heap[j]?:=by
 have HM:=hid hM;clear hM;unfold Tok.cells
 go_enter Tryz.func76,Tryz.ntmps76
 go_wp2
 refine zdd (fun W=>Below w.heap.size w W∧W.heap[w.heap.size]?=some (.cells t'.cells 38 (0,0))) ⟨(Below.refl _ _).alloc (Nat.le_refl _) _,heap_alloc_new _ _⟩ ?_;rintro W ⟨hB,hz⟩;have HB:=hid hB;have hM:=HM.out.below hB;have k1:W.cell? ⟨w.heap.size,1,none⟩=some (.string t'.text):=(cell_of_row _ _ 1 _ _ _ hz).trans rfl;have k2:W.cell? ⟨w.heap.size,2,none⟩=some (.int .i64 t'.pos):=(cell_of_row _ _ 2 _ _ _ hz).trans rfl;have c1:W.cell? ⟨b,1,none⟩=some (.string x):=(cell_of_row _ _ 1 _ _ _ hM.row).trans rfl;have c4:W.cell? ⟨b,4,none⟩=some (.int .i64 a):=(cell_of_row _ _ 4 _ _ _ hM.row).trans rfl;have f1:W.frozen? ⟨b,1,none⟩=false:=frozen_of_row _ _ _ _ _ hM.row;have f4:W.frozen? ⟨b,4,none⟩=false:=frozen_of_row _ _ _ _ _ hM.row;clear hM hz hB
 go_region
 go_end0
 obtain⟨h1,h2,h3⟩:=HM.out.word t'.text t'.pos HB.out;exact⟨rfl,h1.keep (Nat.le_refl _) fun _ _ _=>rfl,h2.drew,h3⟩
theorem zco (t':Tok)(hM:Mk B w b k x n a f t v l):Calls Tryz.prog 76 #[.pointer (some ⟨b,0,none⟩),.agg t'.cells] w fun e w'=>e=.returned (.tuple #[])∧Mk B w' b k t'.text n t'.pos f t v l∧Below B w w' :=
 (zft t' hM).mono fun _ _ ⟨h1,h2,h3,_⟩=>⟨h1,h2,h3⟩
theorem Mk.more {bs2:List Nat}{l2:List Pt}{sp:Option Addr}{cp:Nat}{S2:Nat->Prop}(h:Mk B w b k x n a f t v l)(hr:RowsP w sp bs2)(hn:sp=none->bs2.length=0∧cp=0)(hp:PsAt w S2 bs2 l2)
  (hS:∀ j,S2 j->B<=j∧j<w.heap.size∧j≠b∧v.ownBlock≠some j) (hl:l.length+l2.length<=1000000) :
  ∃ s0 n0 c0 s1 n1 c1 W,v=.slice s0 n0 c0∧(Builtin.append_ #[111,111] 111 #[v,.slice sp bs2.length cp]).run Tryz.prog w=.ok (.slice s1 n1 c1) W∧W.cell? ⟨b,7,none⟩=some v∧W.frozen? ⟨b,7,none⟩=false ∧
   Mk B (W.setCell ⟨b,7,none⟩ (.slice s1 n1 c1)) b k x n a f t (.slice s1 n1 c1) (l++l2)∧Below B w (W.setCell ⟨b,7,none⟩ (.slice s1 n1 c1)):=by
 have hlt:=h.lt;obtain⟨hB,h1,bs,S,h2,h3,h4⟩:=h;obtain⟨s0,c0,rfl,-⟩:=OwnG.shape h2;obtain⟨v',W,hrun,ho,hg,hq⟩:=zdi elP 111 h2 hn hr (by rw[h3.1,hp.1];exact hl) (by omega);obtain⟨s1,c1,rfl⟩:=OwnG.shape ho;have hne:(Value.slice s0 bs.length c0).ownBlock≠some b:=h2.ne h1 (by decide);have hk:∀ j,j<w.heap.size->(Value.slice s0 bs.length c0).ownBlock≠some j->W.heap[j]?=w.heap[j]?:=fun j hj hn=>hg.block j hj fun e=>hn e.symm;have hrow:W.heap[b]?=some (.cells (paC k x n a f t (.slice s0 bs.length c0)) 113 (0,0)):=(hk b hlt hne).trans h1;have hnew:∀ j,j<w.heap.size->(Value.slice s0 bs.length c0).ownBlock≠some j->(Value.slice s1 (bs++bs2).length c1).ownBlock≠some j:=fun j hj hn e=>by
  rcases hq with hq|hq
  ·exact hn (hq.symm.trans e)
  ·rw[hq] at e;injection e with e;omega
 have hset:=heap_setCell_same _ _ 7 _ _ (.slice s1 (bs++bs2).length c1) hrow;refine⟨s0,_,c0,s1,_,c1,W,rfl,hrun,(cell_of_row _ _ 7 _ _ _ hrow).trans rfl,frozen_of_row _ _ _ _ _ hrow,⟨hB,hset,bs++bs2,fun j=>S j∨S2 j,?_,?_,?_⟩,?_⟩
 ·refine ho.keep fun q hq'=>heap_setCell_other _ _ _ _ fun e=>?_;exact hnew b hlt hne (by rw[hq',show q=b from e])
 ·refine PsAt.app ?_ ?_
  ·exact h3.keep (fun _ h=>.inl h) fun j hj=>(heap_setCell_other _ _ _ _ (h4 j hj).2.2.1).trans (hk j (h4 j hj).2.1 (h4 j hj).2.2.2)
  ·exact hp.keep (fun _ h=>.inr h) fun j hj=>(heap_setCell_other _ _ _ _ (hS j hj).2.2.1).trans (hk j (hS j hj).2.1 (hS j hj).2.2.2)
 ·rintro j hj;have hsz:(W.setCell ⟨b,7,none⟩ (.slice s1 (bs++bs2).length c1)).heap.size=W.heap.size:=by simp
  rw[hsz];have hle:=hg.size;rcases hj with hj|hj
  ·obtain⟨q1,q2,q3,q4⟩:=h4 j hj;exact⟨q1,by omega,q3,hnew j q2 q4⟩
  ·obtain⟨q1,q2,q3,q4⟩:=hS j hj;exact⟨q1,by omega,q3,hnew j q2 q4⟩
 ·have hb:Below B w W:=⟨hg.os,hg.tape,hg.output,hg.size,fun j hj=>hk j (by omega) fun e=>by have:=(h2.lt e).1;omega⟩;exact hb.setCell (p:=⟨b,7,none⟩) hB _
theorem zcm {bs2:List Nat}{l2:List Pt}{sp:Option Addr}{cp:Nat}{S2:Nat->Prop}(hM:Mk B w b k x n a f t v l)(hr:RowsP w sp bs2)(hn:sp=none->bs2.length=0∧cp=0)(hp:PsAt w S2 bs2 l2)
  (hS:∀ j,S2 j->B<=j∧j<w.heap.size∧j≠b∧v.ownBlock≠some j) (hl:l.length+l2.length<=1000000) :
  Calls Tryz.prog 80 #[.pointer (some ⟨b,0,none⟩),.slice sp bs2.length cp] w fun e w'=>e=.returned (.tuple #[])∧(∃ v',Mk B w' b k x n a f t v' (l++l2))∧Below B w w':=by
 obtain⟨s0,n0,c0,s1,n1,c1,W,rfl,hrun,hc,hz,hM',hb⟩:=hM.more hr hn hp hS hl;have HM:Hid _:=hM';have HBB:Hid _:=hb;have d7:w.cell? ⟨b,7,none⟩=some (.slice s0 n0 c0):=(cell_of_row _ _ 7 _ _ _ hM.row).trans rfl;clear hM hr hn hp hS hl hM' hb
 go_enter Tryz.func80,Tryz.ntmps80
 go_wp2_with (refine zaz (.tmp 8) (.tmp 9) 111 (by rfl) (by rfl) (by rfl) (by rfl) hrun ?_)
 go_end0
 exact⟨rfl,⟨_,HM.out⟩,HBB.out⟩
end
section
variable {T B:Nat}{w:World}{g:Nat}{st:Option Addr}{cap:Nat}{ts:List Tok}{p:Nat}{b:Nat}{k:Int}{x:ByteArray}{n a f t:Int}{v:Value}{l:List Pt}
theorem Mk.numb (h:Mk B w b k x n a f t v l)(u:Int):Mk B (w.setCell ⟨b,6,none⟩ (.int .i64 u)) b k x n a f u v l∧Below B w (w.setCell ⟨b,6,none⟩ (.int .i64 u))∧w.cell? ⟨b,6,none⟩=some (.int .i64 t)∧w.frozen? ⟨b,6,none⟩=false :=
 ⟨h.turn (by simp) (fun j hj _=>heap_setCell_other _ _ _ _ hj) (heap_setCell_same _ _ 6 _ _ (.int .i64 u) h.row),(Below.refl _ _).setCell (p:=⟨b,6,none⟩) h.hB _,(cell_of_row _ _ 6 _ _ _ h.row).trans rfl,frozen_of_row _ _ _ _ _ h.row⟩
theorem Mk.text (h:Mk B w b k x n a f t v l)(u:ByteArray):Mk B (w.setCell ⟨b,1,none⟩ (.string u)) b k u n a f t v l∧Below B w (w.setCell ⟨b,1,none⟩ (.string u))∧w.cell? ⟨b,1,none⟩=some (.string x)∧w.frozen? ⟨b,1,none⟩=false :=
 ⟨h.turn (by simp) (fun j hj _=>heap_setCell_other _ _ _ _ hj) (heap_setCell_same _ _ 1 _ _ (.string u) h.row),(Below.refl _ _).setCell (p:=⟨b,1,none⟩) h.hB _,(cell_of_row _ _ 1 _ _ _ h.row).trans rfl,frozen_of_row _ _ _ _ _ h.row⟩
theorem Mk.nums (h:Mk B w b k x n a f t v l)(u:Int):Mk B (w.setCell ⟨b,2,none⟩ (.int .i64 u)) b k x u a f t v l∧Below B w (w.setCell ⟨b,2,none⟩ (.int .i64 u))∧w.cell? ⟨b,2,none⟩=some (.int .i64 n)∧w.frozen? ⟨b,2,none⟩=false :=
 ⟨h.turn (by simp) (fun j hj _=>heap_setCell_other _ _ _ _ hj) (heap_setCell_same _ _ 2 _ _ (.int .i64 u) h.row),(Below.refl _ _).setCell (p:=⟨b,2,none⟩) h.hB _,(cell_of_row _ _ 2 _ _ _ h.row).trans rfl,frozen_of_row _ _ _ _ _ h.row⟩
theorem Mk.kind (h:Mk B w b k x n a f t v l)(u:Int):Mk B (w.setCell ⟨b,0,none⟩ (.int .i64 u)) b u x n a f t v l∧Below B w (w.setCell ⟨b,0,none⟩ (.int .i64 u))∧w.cell? ⟨b,0,none⟩=some (.int .i64 k)∧w.frozen? ⟨b,0,none⟩=false :=
 ⟨h.turn (by simp) (fun j hj _=>heap_setCell_other _ _ _ _ hj) (heap_setCell_same _ _ 0 _ _ (.int .i64 u) h.row),(Below.refl _ _).setCell (p:=⟨b,0,none⟩) h.hB _,(cell_of_row _ _ 0 _ _ _ h.row).trans rfl,frozen_of_row _ _ _ _ _ h.row⟩
theorem za4 {bs2:List Nat}{l2:List Pt}{sp:Option Addr}{cp:Nat}{S2:Nat->Prop}(hR:Rdr T w g st cap ts p)(hTB:T<=B)(hM:Mk B w b k x n a f t v l)(hr:RowsP w sp bs2)(hn:sp=none->bs2.length=0∧cp=0)(hp:PsAt w S2 bs2 l2)
  (hS:∀ j,S2 j->B<=j∧j<w.heap.size∧j≠b∧v.ownBlock≠some j) (hl:l.length+l2.length<=1000000) :
  Calls Tryz.prog 83 #[.pointer (some ⟨g,0,none⟩),.pointer (some ⟨b,0,none⟩),.slice sp bs2.length cp] w fun e w'=>e=.returned (.pointer (some ⟨b,0,none⟩))∧(∃ v',Mk B w' b k x n a f (behI ts p) v' (l++l2))∧Below B w w':=by
 have HR:=hid hR;have HM:=hid hM;have HRR:=hid hr;have HN:=hid hn;have HP:=hid hp;have HS:=hid hS;clear hR hM hr hn hp hS
 go_enter Tryz.func83,Tryz.ntmps83
 go_wp2_with fail
 refine(zcm HM.out HRR.out HN.out HP.out HS.out hl).mono ?_;rintro e W1 ⟨rfl,⟨v1,hM1⟩,b1⟩;have HM1:=hid hM1;clear hM1 HRR HN HP HS
 go_wp2_with fail
 refine(zhr (HR.out.below hTB b1)).mono ?_;rintro e W2 ⟨rfl,b2⟩;have HM2:=hid (HM1.out.below b2);have HB2:Hid (Below B w W2):=b1.trans ⟨b2.os,b2.tape,b2.output,b2.size,fun j hj=>b2.block j (by have:=HM1.out.hB;have:=HM1.out.lt;omega)⟩;obtain⟨hM3,b3,c6,z6⟩:=HM2.out.numb (behI ts p);have HM3:Hid _:=hM3;have HB3:Hid _:=b3;clear hM3 b3 b1 b2 HM1
 go_wp2
 go_ret
 exact⟨rfl,⟨_,HM3.out⟩,HB2.out.trans HB3.out⟩
def PtP (T:Nat) (w:World) (g:Nat) (st:Option Addr) (cap:Nat) (ts:List Tok) (r:Rs Pt) (e:Ending) (w':World):Prop :=
 w.grownBy w' (some g)∧match r with
 | .ok t q=>∃ b,e=.returned (.pointer (some ⟨b,0,none⟩))∧PtAt w' (fun j=>w.heap.size<=j∧j<w'.heap.size) b t∧Rdr T w' g st cap ts q
 | .bad s=>e=wroE s
 | .out=>False
theorem zef (k:Int)(hR:Rdr T w g st cap ts p)(hp:p<ts.length):Calls Tryz.prog 153 #[.pointer (some ⟨g,0,none⟩),.int .i64 k] w fun e w'=>w.grownBy w' (some g)∧∃ b v,e=.returned (.pointer (some ⟨b,0,none⟩))∧Mk w.heap.size w' b k (nxT ts p).text 0 (nxT ts p).pos (herI ts p) (behI ts (p+1)) v []∧Rdr T w' g st cap ts (p+1):=by
 have HR:=hid hR;have hT:=hR.hT;have hg:=hR.lt;clear hR
 go_enter Tryz.func153,Tryz.ntmps153
 go_wp2_with fail
 refine(zbi k HR.out).mono ?_;rintro e W1 ⟨b,rfl,hM,b1⟩;have HM1:Hid _:=hM;have HB1:Hid (Below w.heap.size w W1):=b1;clear hM b1
 go_wp2_with fail
 refine(zez (HR.out.low HB1.out) hp).mono ?_;rintro e W2 ⟨rfl,g2,r2⟩;have HM2:Hid _:=HM1.out.grow hg g2;have HG2:=hid (zab (zae HB1.out) g2);have HR2:Hid (Rdr T W2 g st cap ts (p+1)):=r2;clear g2 r2 HM1 HB1
 go_wp2_with fail
 refine(zco (nxT ts p) HM2.out).mono ?_;rintro e W3 ⟨rfl,hM3,b3⟩;have HM3:Hid _:=hM3;have HG3:=hid (zav HG2.out b3);have HR3:=hid (HR2.out.below hT b3);clear hM3 b3 HM2 HG2 HR2
 go_wp2_with fail
 refine(za4 (bs2:=[]) (l2:=[]) (S2:=fun _=>False) HR3.out hT HM3.out RowsAt.none (fun _=>⟨rfl,rfl⟩) (PsAt.nil _ _) (fun _ h=>h.elim) (by simp)).mono ?_;rintro e W4 ⟨rfl,⟨v4,hM4⟩,b4⟩;have HM4:Hid _:=hM4;have HG4:=hid (zav HG3.out b4);have HR4:=hid (HR3.out.below hT b4);clear hM4 b4 HM3 HG3 HR3
 go_wp2
 go_ret
 exact⟨HG4.out,b,v4,rfl,HM4.out,HR4.out⟩
end
def ad {α:Type}(r:Rs α) (k:Nat):Prop:=match r with | .ok _ q=>k<=q|_=>True
theorem zbx {α:Type}{r:Rs α}{k m:Nat}(h:ad r k)(hm:m<=k):ad r m:=by
 cases r with
 | ok v q=>exact Nat.le_trans hm h
 | bad s=>trivial
 | out=>trivial
theorem zaw {α β:Type}{r:Rs α}{f:α->Nat->Rs β}{k m:Nat}(h:ad r k)(hf:∀ v q,k<=q->ad (f v q) m):ad (r.bind f) m:=by
 cases r with
 | ok v q=>exact hf v q h
 | bad s=>trivial
 | out=>trivial
theorem zio {β:Type}{b:Bool}{s:Int}{k:Rs β}{m:Nat}(h:b=true->ad k m):ad (Rs.need b s k) m:=by
 unfold Rs.need
 split
 ·rename_i hb;exact h hb
 ·trivial
theorem za6 {β:Type}{c:Prop} [Decidable c] {a b:Rs β}{m:Nat}(h:c->ad a m)(h':¬ c->ad b m):ad (if c then a else b) m:=by
 split
 ·rename_i hc;exact h hc
 ·rename_i hc;exact h' hc
section
variable {ts:List Tok}
theorem zca {β:Type}{s:List UInt8}{p m:Nat}{k:Nat->Rs β}(hs:s≠[])(h:p<ts.length->ad (k (p+1)) m):ad (expP ts s p k) m:=zio fun hb=>h (zcg hb hs)
theorem zjj {β:Type}{n:Int}{p m:Nat}{k:Tok->Nat->Rs β}(hn:n≠0)(h:p<ts.length->ad (k (nxT ts p) (p+1)) m):ad (kinP ts n p k) m:=zio fun hb=>h (zfl hb hn)
theorem zdz {β:Type}{p m:Nat}{k:Tok->Nat->Rs β}(h:p<ts.length->ad (k (nxT ts p) (p+1)) m):ad (namP ts p k) m:=zio fun hb=>h (zdq hb)
theorem zng (k:Int)(p:Nat):ad (leaP ts k p) (p+1):=Nat.le_refl _
theorem znh (k:Int)(p:Nat):ad (worP ts k p) (p+1):=zio fun _=>Nat.le_refl _
theorem zni (p:Nat):ad (va1P ts p) (p+1):=by
 unfold va1P;refine za6 (fun _=>Nat.le_refl _) fun _=>za6 (fun _=>Nat.le_refl _) fun _=>za6 (fun _=>zng _ _) fun _=>trivial
theorem zsf (p:Nat):ad (valP ts p) (p+1):=by
 unfold valP;refine za6 (fun _=>za6 (fun _=>zaw (zni _) fun v q h=>?_) fun _=>trivial) fun _=>zni _;show p+1<=q;omega
theorem zg6 (p:Nat):ad (typP ts p) (p+1):=by
 unfold typP;refine za6 (fun _=>zng _ _) fun _=>za6 (fun _=>zaw (znh _ _) fun v q h=>zca (by simp) fun _=>zdz fun _=>?_) fun _=>znh _ _;show p+1<=q+1+1;omega
theorem zh0 (k:Int)(p:Nat):ad (tydP ts k p) (p+2):=by
 unfold tydP;refine zdz fun _=>zaw (zg6 _) fun v q h=>?_;show p+2<=q;omega
theorem zqb (p:Nat):ad (impP ts p) (p+2):=by
 unfold impP;exact zca (by simp) fun _=>zjj (by simp) fun _=>Nat.le_refl _
theorem znj (p:Nat):ad (conP ts p) (p+1):=by
 unfold conP;refine zca (by simp) fun _=>zdz fun _=>zca (by simp) fun _=>zaw (zsf _) fun v q h=>?_;show p+1<=q;omega
theorem zqc (p:Nat):ad (recP ts p) (p+1):=by
 unfold recP;refine zdz fun _=>zaw (znh _ _) fun v q h=>?_;show p+1<=q;omega
theorem zck {α:Type}{v:α}{k q:Nat}(h:k<=q):ad (Rs.ok v q) k:=h
structure AdA (ts:List Tok) (n:Nat):Prop where
 bin:∀ l p,ad ((fns ts n).bin l p) (p+1)
 binL:∀ l fr t p,ad ((fns ts n).binL l fr t p) p
 una:∀ p,ad ((fns ts n).una p) (p+1)
 post:∀ p,ad ((fns ts n).post p) (p+1)
 posL:∀ fr t p,ad ((fns ts n).posL fr t p) p
 prim:∀ p,ad ((fns ts n).prim p) (p+1)
 argL:∀ l p,ad ((fns ts n).argL l p) p
 parL:∀ l p,ad ((fns ts n).parL l p) p
 fieL:∀ l p,ad ((fns ts n).fieL l p) p
 stmt:∀ p,ad ((fns ts n).stmt p) (p+1)
 bran:∀ p,ad ((fns ts n).bran p) (p+1)
 stmL:∀ l p,ad ((fns ts n).stmL l p) p
 impL:∀ l p,ad ((fns ts n).impL l p) p
 decL:∀ l p,ad ((fns ts n).decL l p) p
theorem zqd {n p:Nat}(h:AdA ts n):ad (bloP ts (fns ts n) p) (p+1):=by
 unfold bloP linP;refine zaw (k:=p+1) (zca (by simp) fun hp=>zaw (h.stmL _ _) fun l q hq=>zca (by simp) fun _=>zck (by omega)) fun l q hq=>zck hq
theorem zk3 {one:Nat->Rs Pt}{more:List Pt->Nat->Rs (List Pt)}{p:Nat}(h1:p<ts.length->ad (one (p+1)) (p+1))(h2:∀ l q,p<ts.length->p+1<=q->ad (more l q) q):ad (lisP ts one more p) (p+1):=by
 unfold lisP;refine zca (by simp) fun hp=>za6 (fun _=>zck (by omega)) fun _=>zaw (h1 hp) fun v q hq=>zaw (h2 _ _ hp hq) fun l q' hq'=>zca (by simp) fun _=>zck (by omega)
theorem adA (n:Nat):AdA ts n:=by
 induction n with
 | zero=>constructor <;> (intros;trivial)
 | succ n ih=>
  have hvar:∀ p,ad (varP ts (fns ts n) p) (p+1):=fun p=>by
   unfold varP;refine zca (by simp) fun _=>zdz fun _=>zaw (zg6 _) fun v q hq=>za6 (fun _=>zaw (ih.bin _ _) fun x q' hq'=>zck (by omega)) fun _=>zck (by omega)
  have hblo:∀ p,ad (bloP ts (fns ts n) p) (p+1):=fun p=>zqd ih
  constructor
  ·intro l p;show ad (if l=5 then(fns ts n).una p else((fns ts n).bin (l+1) p).bind fun t q=>(fns ts n).binL l (herI ts p) t q) (p+1);refine za6 (fun h=>ih.una _) fun h=>zaw (ih.bin _ _) fun t q hq=>zbx (ih.binL _ _ _ _) hq
  ·intro l fr t p;refine za6 (fun h=>?_) fun _=>zck (Nat.le_refl _);have hp:=zku h;refine zaw (ih.bin _ _) fun u q hq=>za6 (fun _=>zck (by omega)) fun _=>zbx (ih.binL _ _ _ _) (by omega)
  ·intro p;refine za6 (fun h=>?_) fun _=>ih.post _;have hp:p<ts.length:=by
    rw[Bool.or_eq_true] at h;rcases h with h|h <;> exact zcg h (by simp)
   exact zaw (ih.una _) fun u q hq=>zck (by omega)
  ·intro p;exact zaw (ih.prim _) fun t q hq=>zbx (ih.posL _ _ _) hq
  ·intro fr t p;refine za6 (fun h=>?_) fun _=>za6 (fun h=>?_) fun _=>zck (Nat.le_refl _)
   ·exact zdz fun hp=>zbx (ih.posL _ _ _) (by omega)
   ·have hp:=zcg h (by simp);exact zaw (zk3 (fun _=>zbx (ih.bin _ _) (by omega)) fun l q _ hq=>ih.argL _ _) fun l q hq=>zbx (ih.posL _ _ _) (by omega)
  ·intro p;refine za6 (fun h=>?_) fun _=>za6 (fun _=>zng _ _) fun _=>zni _;have hp:=zcg h (by simp);exact zaw (ih.bin _ _) fun t q hq=>zca (by simp) fun _=>zck (by omega)
  ·intro l p;refine za6 (fun h=>?_) fun _=>zck (Nat.le_refl _);have hp:=zcg h (by simp);exact zaw (ih.bin _ _) fun t q hq=>zbx (ih.argL _ _) (by omega)
  ·intro l p;refine za6 (fun h=>?_) fun _=>zck (Nat.le_refl _);have hp:=zcg h (by simp);exact zaw (zh0 _ _) fun t q hq=>zbx (ih.parL _ _) (by omega)
  ·intro l p;refine za6 (fun _=>zck (Nat.le_refl _)) fun _=>?_;refine zaw (zh0 _ _) fun t q hq=>za6 (fun h=>?_) fun _=>zjj (by simp) fun h=>zbx (ih.fieL _ _) (by omega);have:=zcg h (by simp);exact zbx (ih.fieL _ _) (by omega)
  ·intro p;refine za6 (fun h=>?_) fun _=>za6 (fun h=>?_) fun _=>za6 (fun h=>ih.bran _) fun _=>za6 (fun h=>?_) fun _=>za6 (fun h=>?_) fun _=>za6 (fun h=>?_) fun _=>?_
   ·exact hblo p
   ·exact hvar p
   ·unfold looP;refine zca (by simp) fun hp=>zaw (ih.bin _ _) fun x q hq=>zaw (hblo q) fun b q' hq'=>zck (by omega)
   ·unfold resP;refine zca (by simp) fun hp=>za6 (fun _=>zaw (ih.bin _ _) fun x q hq=>zck (by omega)) fun _=>zck (by omega)
   ·unfold shoP;refine zdz fun hp=>zca (by simp) fun _=>zaw (ih.bin _ _) fun x q hq=>zck (by omega)
   ·unfold simP;refine zaw (ih.bin _ _) fun x q hq=>za6 (fun h=>?_) fun _=>zck (by omega);have:=zcg h (by simp);exact zaw (ih.bin _ _) fun y q' hq'=>zck (by omega)
  ·intro p;unfold fns
   dsimp only
   refine zca (by simp) fun hp=>zaw (ih.bin _ _) fun x q hq=>zaw (hblo q) fun b q' hq'=>za6 (fun h=>?_) fun _=>zck (by omega);have:=zcg h (by simp);refine zaw (k:=q'+1) (za6 (fun _=>zbx (ih.bran _) (by omega)) fun _=>zbx (hblo _) (by omega)) fun c q'' hq''=>zck (by omega)
  ·intro l p;refine za6 (fun _=>zck (Nat.le_refl _)) fun _=>zaw (ih.stmt _) fun t q hq=>za6 (fun h=>?_) fun _=>zjj (by simp) fun h=>zbx (ih.stmL _ _) (by omega);have:=zcg h (by simp);exact zbx (ih.stmL _ _) (by omega)
  ·intro l p;refine za6 (fun h=>?_) fun _=>zck (Nat.le_refl _);have:=zcg h (by simp);exact zaw (zqb _) fun t q hq=>zjj (by simp) fun _=>zbx (ih.impL _ _) (by omega)
  ·intro l p;refine za6 (fun hp=>?_) fun _=>zck (Nat.le_refl _);have hdec:ad (decP ts (fns ts n) p) (p+1):=by
    have hlis:∀ q,p+1<=q->ad (lisP ts (tydP ts 9) (fns ts n).parL q) (q+1):=fun q hq=>zk3 (fun _=>zbx (zh0 _ _) (by omega)) fun l q' _ hq'=>ih.parL _ _;have hfun:∀ fr l q,p+1<=q->ad (funR ts (fns ts n) fr l q) (q+1):=fun fr l q hq=>by
     unfold funR;refine zdz fun _=>zaw (hlis _ (by omega)) fun ps q' hq'=>za6 (fun _=>zaw (hblo _) fun b q'' hq''=>zck (by omega)) fun _=>zaw (zg6 _) fun v q'' hq''=>zaw (hblo _) fun b q3 hq3=>zck (by omega)
    unfold decP;refine za6 (fun _=>znj _) fun _=>za6 (fun _=>hvar p) fun _=>za6 (fun _=>?_) fun _=>za6 (fun _=>?_) fun _=>trivial
    ·unfold strP linP;refine zca (by simp) fun _=>zdz fun _=>zca (by simp) fun _=>zaw (k:=p+1) (zca (by simp) fun _=>zaw (ih.fieL _ _) fun l q hq=>zca (by simp) fun _=>zck (by omega)) fun l q hq=>zck hq
    ·unfold funP;refine zca (by simp) fun _=>za6 (fun _=>zaw (zqc _) fun v q hq=>zca (by simp) fun _=>zbx (hfun _ _ _ (by omega)) (by omega)) fun _=>zbx (hfun _ _ _ (by omega)) (by omega)
   exact zaw hdec fun t q hq=>zjj (by simp) fun _=>zbx (ih.decL _ _) (by omega)
theorem zqr (n p:Nat):ad (decP ts (fns ts n) p) (p+1):=by
 have ih:=adA (ts:=ts) n;have hvar:∀ p,ad (varP ts (fns ts n) p) (p+1):=fun p=>by
  unfold varP;refine zca (by simp) fun _=>zdz fun _=>zaw (zg6 _) fun v q hq=>za6 (fun _=>zaw (ih.bin _ _) fun x q' hq'=>zck (by omega)) fun _=>zck (by omega)
 have hblo:∀ p,ad (bloP ts (fns ts n) p) (p+1):=fun p=>zqd ih;have hlis:∀ q,p+1<=q->ad (lisP ts (tydP ts 9) (fns ts n).parL q) (q+1):=fun q hq=>zk3 (fun _=>zbx (zh0 _ _) (by omega)) fun l q' _ hq'=>ih.parL _ _;have hfun:∀ fr l q,p+1<=q->ad (funR ts (fns ts n) fr l q) (q+1):=fun fr l q hq=>by
  unfold funR;refine zdz fun _=>zaw (hlis _ (by omega)) fun ps q' hq'=>za6 (fun _=>zaw (hblo _) fun b q'' hq''=>zck (by omega)) fun _=>zaw (zg6 _) fun v q'' hq''=>zaw (hblo _) fun b q3 hq3=>zck (by omega)
 unfold decP;refine za6 (fun _=>znj _) fun _=>za6 (fun _=>hvar p) fun _=>za6 (fun _=>?_) fun _=>za6 (fun _=>?_) fun _=>trivial
 ·unfold strP linP;refine zca (by simp) fun _=>zdz fun _=>zca (by simp) fun _=>zaw (k:=p+1) (zca (by simp) fun _=>zaw (ih.fieL _ _) fun l q hq=>zca (by simp) fun _=>zck (by omega)) fun l q hq=>zck hq
 ·unfold funP;refine zca (by simp) fun _=>za6 (fun _=>zaw (zqc _) fun v q hq=>zca (by simp) fun _=>zbx (hfun _ _ _ (by omega)) (by omega)) fun _=>zbx (hfun _ _ _ (by omega)) (by omega)
end
section
variable {α β:Type}{ts:List Tok}{p:Nat}{s:List UInt8}{r:Rs β}
theorem zda {k:Nat->Rs β}(hb:isT ts p s=false)(h:expP ts s p k=r):r=.bad (herI ts p):=by
 rw[<-h];unfold expP Rs.need;rw[hb];rfl
theorem zcl {k:Nat->Rs β}(hb:isT ts p s=true)(h:expP ts s p k=r):k (p+1)=r:=by
 rw[<-h];unfold expP Rs.need;rw[hb];rfl
theorem zeq {k:Tok->Nat->Rs β}(hb:namB ts p=false)(h:namP ts p k=r):r=.bad (herI ts p):=by
 rw[<-h];unfold namP Rs.need;rw[hb];rfl
theorem zdt {k:Tok->Nat->Rs β}(hb:namB ts p=true)(h:namP ts p k=r):k (nxT ts p) (p+1)=r:=by
 rw[<-h];unfold namP Rs.need;rw[hb];rfl
theorem zjk {n:Int}{k:Tok->Nat->Rs β}(hb:((nxT ts p).kind == n)=false)(h:kinP ts n p k=r):r=.bad (herI ts p):=by
 rw[<-h];unfold kinP Rs.need;rw[hb];rfl
theorem zg7 {n:Int}{k:Tok->Nat->Rs β}(hb:((nxT ts p).kind == n)=true)(h:kinP ts n p k=r):k (nxT ts p) (p+1)=r:=by
 rw[<-h];unfold kinP Rs.need;rw[hb];rfl
theorem za3 {x:Rs α}{f:α->Nat->Rs β}{v:α}{q:Nat}(hx:x=.ok v q)(h:x.bind f=r):f v q=r:=by rw[<-h,hx];rfl
theorem zas {x:Rs α}{f:α->Nat->Rs β}{c:Int}(hx:x=.bad c)(h:x.bind f=r):r=.bad c:=by rw[<-h,hx];rfl
theorem zay {x:Rs α}{f:α->Nat->Rs β}(h:x.bind f=r)(hr:r≠.out):x≠.out:=by rintro rfl;exact hr h.symm
theorem za8 {c:Bool}{a b:Rs β}(hc:c=true)(h:(if c then a else b)=r):a=r:=by rw[<-h,hc];rfl
theorem zbu {c:Bool}{a b:Rs β}(hc:c=false)(h:(if c then a else b)=r):b=r:=by rw[<-h,hc];rfl
end
section
variable {T:Nat}{w W:World}{g:Nat}{st:Option Addr}{cap:Nat}{ts:List Tok}{r:Rs Pt}{s:Int}
theorem zap (hG:w.grownBy W (some g))(hr:r=.bad s):PtP T w g st cap ts r (wroE s) W:=by subst hr;exact⟨hG,rfl⟩
theorem zbj {b:Nat}{t:Pt}{q:Nat}(hG:w.grownBy W (some g))(hr:Rs.ok t q=r)(ht:PtAt W (fun j=>w.heap.size<=j∧j<W.heap.size) b t)(hR:Rdr T W g st cap ts q):PtP T w g st cap ts r (.returned (.pointer (some ⟨b,0,none⟩))) W:=by
 subst hr;exact⟨hG,b,rfl,ht,hR⟩
theorem PtP.from {W':World}{e:Ending}(hG:w.grownBy W (some g))(h:PtP T W g st cap ts r e W'):PtP T w g st cap ts r e W':=by
 obtain⟨h1,h2⟩:=h;refine⟨zab hG h1,?_⟩
 cases r with
 | ok t q=>
  obtain⟨b,h3,h4,h5⟩:=h2;exact⟨b,h3,h4.keep (fun j hj=>⟨Nat.le_trans hG.size hj.1,hj.2⟩) fun _ _=>rfl,h5⟩
 | bad s=>exact h2
 | out=>exact h2
end
theorem PtAt.grow {w w':World}{lo hi g b:Nat}{t:Pt}(h:PtAt w (fun j=>lo<=j∧j<hi) b t)(hg:g<lo)(hh:hi<=w.heap.size)(hw:w.grownBy w' (some g)):PtAt w' (fun j=>lo<=j∧j<hi) b t :=
 h.keep (fun _ h=>h) fun j hj=>hw.block j (by omega) (fun e=>by injection e with e;omega)
theorem PtAt.low {w w':World}{lo hi B b:Nat}{t:Pt}(h:PtAt w (fun j=>lo<=j∧j<hi) b t)(hh:hi<=B)(hw:Below B w w'):PtAt w' (fun j=>lo<=j∧j<hi) b t :=
 h.keep (fun _ h=>h) fun j hj=>hw.block j (by omega)
theorem PtAt.wide {w:World}{lo hi lo' hi' b:Nat}{t:Pt}(h:PtAt w (fun j=>lo<=j∧j<hi) b t)(h1:lo'<=lo)(h2:hi<=hi'):PtAt w (fun j=>lo'<=j∧j<hi') b t :=
 h.keep (fun j hj=>⟨by omega,by omega⟩) fun _ _=>rfl
theorem zb7 {B b lo hi:Nat}{v:Value}{W:World}(hb:b<lo∧∀ q,v.ownBlock=some q->q<lo)(hB:B<=lo)(hh:hi<=W.heap.size):∀ j,(lo<=j∧j<hi)->B<=j∧j<W.heap.size∧j≠b∧v.ownBlock≠some j:=fun j hj=>
 ⟨by omega,by omega,by omega,fun e=>by have:=hb.2 j e;omega⟩
theorem Mk.at {B:Nat}{w:World}{b:Nat}{k:Int}{x:ByteArray}{n a f t:Int}{v:Value}{l:List Pt}(h:Mk B w b k x n a f t v l):b<w.heap.size∧∀ q,v.ownBlock=some q->q<w.heap.size:=⟨h.lt,fun _ hq=>h.own hq⟩
theorem zip {w:World}{g a b:Nat}{ty:TypeId}{fr:Nat × Nat}(h:w.heap[g]?=some (.cells #[.pointer (some ⟨a,0,none⟩),.pointer (some ⟨b,0,none⟩)] ty fr)):RowsP w (some ⟨g,0,none⟩) [a,b]:=fun _=>by
 refine⟨g,0,rfl,fun i x hx j u hu=>?_⟩;have hj:j=0:=by have:=(Array.getElem?_eq_some_iff.1 hu).1;simp[ptrC] at this;omega
 subst hj;rw[cell_of_row _ _ _ _ _ _ h]
 match i,hx with
 | 0,hx=>simp at hx;subst hx;simpa[ptrC] using hu
 | 1,hx=>simp at hx;subst hx;simpa[ptrC] using hu
theorem PsAt.two {w:World}{S:Nat->Prop}{a b:Nat}{s t:Pt}(h:PtAt w S a s)(h':PtAt w S b t):PsAt w S [a,b] [s,t]:=(PsAt.one h).app (PsAt.one h')
end Go.Proofs.YtmclgbkijeidaaaGreatDoor
