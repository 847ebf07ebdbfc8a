import Derived.Test.YtmclgbkijeidaaaGreatDoorUoS
namespace Go.Proofs.YtmclgbkijeidaaaGreatDoor
set_option maxRecDepth 100000
set_option maxHeartbeats 4000000
open Go.RowKit
section
variable {T:Nat}{w w':World}{g:Nat}{st:Option Addr}{cap:Nat}{ts:List Tok}{p q:Nat}{bad bd:Bool}
theorem zao {fn:Func}{q:Tmp}(h:fn.results=#[.cell q 63]){R:Ending->World->Prop}{tm:Array Value}{W:World}{k:Nat}{e:Qe}(hp:tm.getD q undef=.pointer (some ⟨k,0,none⟩))
  (hg:W.heap[k]?=some (.cells e.cells 63 (0,0))) (hR:R (.returned (.agg e.cells)) W):bodyPost Tryz.prog fn R .ret ⟨tm,[]⟩ W :=
 bodyPost_ret (v:=.agg e.cells) (zdr h _ _ k 63 e.cells (0,0) _ hp hg Tryz.underlying63 rfl (by kernel_rfl)) rfl hR
theorem zfa (w:World) (A B:Obj):((w.alloc A).alloc B).heap[w.heap.size]?=some A:=by
 have h:=(Yn (w.alloc A) B w.heap.size (by rw[World.size_alloc];omega));exact h.trans (Yd _ _)
theorem zep (w:World) (A B:Obj):Below w.heap.size w ((w.alloc A).alloc B):=((Yb _ _).alloc (Ya _) _).alloc (by rw[World.size_alloc];omega) _
theorem zgc (w:World) (A B:Obj):((w.alloc A).alloc B).heap[w.heap.size+1]?=some B:=by
 have h:=Yd (w.alloc A) B;rw[World.size_alloc] at h;exact h
theorem zed {ops:Array Oper}{rest:List Oper}{o:Oper}{a:Act}{w:World}{Q:Exit->Act->World->Prop}(hgd:o.guard=none)(x y:Operand)(ho:o.op=.store 63 x y){k:Nat}{z:Array Value}(e:Qe)
  (hx:a.eval x=.pointer (some ⟨k,0,none⟩)) (hy:a.eval y=.agg e.cells) (hz:w.heap[k]?=some (.cells z 63 (0,0))) (hs:z.size=9) (h:wpList Tryz.prog ops Q rest (a.put o.dst undef) (w.setRow k e.cells)):wpList Tryz.prog ops Q (o::rest) a w :=
 wpList_store_row hgd 63 x y ho k e.cells hx hy 63 z hz (by kernel_rfl) hs e.one h
structure Row9 (W:World) (b:Nat) (c0 c1 c2 c3 c4 c5 c6 c7 c8:Value):Prop where
 h0:W.cell? ⟨b,0,none⟩=some c0
 h1:W.cell? ⟨b,1,none⟩=some c1
 h2:W.cell? ⟨b,2,none⟩=some c2
 h3:W.cell? ⟨b,3,none⟩=some c3
 h4:W.cell? ⟨b,4,none⟩=some c4
 h5:W.cell? ⟨b,5,none⟩=some c5
 h6:W.cell? ⟨b,6,none⟩=some c6
 h7:W.cell? ⟨b,7,none⟩=some c7
 h8:W.cell? ⟨b,8,none⟩=some c8
 z:∀ i,W.frozen? ⟨b,i,none⟩=false
theorem row9 {W:World}{b:Nat}{ty:TypeId}{c0 c1 c2 c3 c4 c5 c6 c7 c8:Value}(h:W.heap[b]?=some (.cells #[c0,c1,c2,c3,c4,c5,c6,c7,c8] ty (0,0))):Row9 W b c0 c1 c2 c3 c4 c5 c6 c7 c8 :=
 ⟨Yp 0 h rfl,Yp 1 h rfl,Yp 2 h rfl,Yp 3 h rfl,Yp 4 h rfl,Yp 5 h rfl,Yp 6 h rfl,Yp 7 h rfl,Yp 8 h rfl,fun _=>Yj _ _ _ _ _ h⟩
def begE (k:Int) (t:Tok) (x:ByteArray):Qe:=⟨k,x,0,t.pos,t.pos,0,t.pos,none,0,0⟩
theorem zau (k:Int)(t:Tok)(x:ByteArray)(w:World) :
  Calls Tryz.prog 47 #[.int .i64 k,.agg t.cells,.string x] w fun e w'=>e=.returned (.agg (begE k t x).cells)∧Below w.heap.size w w':=by
 obtain⟨C,y,A⟩:=t;unfold Tok.cells
 go_enter Tryz.func47,Tryz.ntmps47
 go_wp2
 refine zao (k:=w.heap.size+1) (e:=begE k ⟨C,y,A⟩ x) Tryz.results47 rfl ?_ ⟨rfl,zep _ _ _⟩;exact zgc _ _ _
def endE (e:Qe) (t:Int):Qe:={ e with t:=t }
theorem zgd (e:Qe)(hR:Qdr T w g st cap ts p bad) :
  Calls Tryz.prog 49 #[.pointer (some ⟨g,0,none⟩),.agg e.cells] w fun r w'=>r=.returned (.agg (endE e (behI ts p)).cells)∧Below w.heap.size w w':=by
 have V:=J hR;clear hR;obtain⟨k,x,n,a,f,t,bg,sp,len,cap⟩:=e;unfold Qe.cells paQ
 go_enter Tryz.func49,Tryz.ntmps49
 go_wp2_with fail
 refine zag (fun W=>Below w.heap.size w W∧W.heap[w.heap.size]?=some (.cells (paQ k x n a f t bg (.slice sp len cap)) 63 (0,0))∧W.heap[w.heap.size+1]?=some (.cells (paQ 0 ⟨#[]⟩ 0 0 0 0 0 (.slice none 0 0)) 63 (0,0)))
  ⟨zep _ _ _,zfa _ _ _,zgc _ _ _⟩ ?_
 rintro W ⟨A,F,E⟩;refine(zmk (V.out.low A)).mono ?_;rintro e W1 ⟨rfl,C⟩;have M:Hid (Below w.heap.size w W1):=A.trans (C.mono A.size);have D:Hid (W1.heap[w.heap.size]?=some (.cells (paQ k x n a f t bg (.slice sp len cap)) 63 (0,0))):=(C.block _ (zaa F)).trans F;have K:Hid (W1.heap[w.heap.size+1]?=some (.cells (paQ 0 ⟨#[]⟩ 0 0 0 0 0 (.slice none 0 0)) 63 (0,0))):=(C.block _ (zaa E)).trans E;clear A F E C V;have c6:W1.cell? ⟨w.heap.size,6,none⟩=some (.int .i64 t):=Yp 6 D rfl;have f6:W1.frozen? ⟨w.heap.size,6,none⟩=false:=Yj _ _ _ _ _ D;obtain⟨y,aa,N,I,X⟩:∃ y,W1.setCell ⟨w.heap.size,6,none⟩ (.int .i64 (behI ts p))=y∧Below w.heap.size w y∧y.heap[w.heap.size]?=some (.cells (paQ k x n a f (behI ts p) bg (.slice sp len cap)) 63 (0,0))∧y.heap[w.heap.size+1]?=some (.cells (paQ 0 ⟨#[]⟩ 0 0 0 0 0 (.slice none 0 0)) 63 (0,0)) :=
  ⟨_,rfl,M.out.setCell (Ya _) _,Yf _ _ 6 _ _ _ D.out,(Ye _ _ _ _ (Nat.succ_ne_self _)).trans K.out⟩
 obtain⟨Z,h1,h2,h3,h4,h5,h6,h7,h8,-⟩:=row9 I;have Y:=J N;have U:=J X;clear M D K N I X
 go_wp2_with (refine zed (by rfl) (.tmp 4) (.tmp 9) (by rfl) ⟨k,x,n,a,f,behI ts p,bg,sp,len,cap⟩ (by rfl) (by rfl) U.out (by rfl) ?_)
 exact zao Tryz.results49 rfl (zad U) ⟨rfl,zak Y.out (Nat.le_succ _) _⟩
end
end Go.Proofs.YtmclgbkijeidaaaGreatDoor
