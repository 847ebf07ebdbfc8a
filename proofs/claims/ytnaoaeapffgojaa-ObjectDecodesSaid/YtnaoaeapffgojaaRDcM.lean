/- The document's Decode of a commit, on lists. No function of the program is walked here. -/
import Derived.Test.YtnaoaeapffgojaaRDcS
namespace Go.Proofs.Ytnaoaeapffgojaa
open Go.RowKit

theorem tkId_src {n : Nat} (src : Nat → Int) {k : Nat} (h : k + 32 ≤ n) : tkId ((List.range n).map src) (k, 0) = ((k + 32, 0), idL ((List.range 32).map fun j => src (k + j))) := by
  unfold tkId
  rw [tk_src src h]
theorem ids_place {n : Nat} (src : Nat → Int) : ∀ t, 34 + t * 32 ≤ n → (tkIds ((List.range n).map src) t (34, 0)).1 = (34 + t * 32, 0)
  | 0, _ => rfl
  | t + 1, h => by
    simp only [tkIds]
    rw [ids_place src t (by omega), tkId_src src (by omega)]
    show (34 + t * 32 + 32, (0 : Int)) = (34 + (t + 1) * 32, 0)
    rw [show 34 + (t + 1) * 32 = 34 + t * 32 + 32 by omega]
theorem ids_snoc {n : Nat} (src : Nat → Int) {t : Nat} (h : 34 + (t + 1) * 32 ≤ n) : (tkIds ((List.range n).map src) (t + 1) (34, 0)).2 = (tkIds ((List.range n).map src) t (34, 0)).2 ++ [idL ((List.range 32).map fun j => src (34 + t * 32 + j))] := by
  simp only [tkIds]
  rw [ids_place src t (by omega), tkId_src src (by omega)]
theorem com_T {n : Nat} {src : Nat → Int} (h : 33 ≤ n) : cT ((List.range n).map src) = ((33, 0), idL ((List.range 32).map fun j => src (1 + j))) := by
  unfold cT
  rw [tk_first src (by omega)]
  exact tkId_src src (by omega)
theorem com_P {n x : Nat} {src : Nat → Int} (h : 34 ≤ n) (hx : src 33 = (x : Int)) : cP ((List.range n).map src) = tkIds ((List.range n).map src) x (34, 0) := by
  unfold cP
  rw [com_T (by omega)]
  simp only
  rw [tk_byte src (by omega)]
  simp only [num_one]
  rw [hx, Int.toNat_natCast]
theorem com_N {n x : Nat} {src : Nat → Int} (h : 34 + x * 32 + 4 ≤ n) (hx : src 33 = (x : Int)) : cN ((List.range n).map src) = ((34 + x * 32 + 4, 0), (List.range 4).map fun j => src (34 + x * 32 + j)) := by
  unfold cN
  rw [com_P (by omega) hx, ids_place src x (by omega)]
  exact tk_src src (by omega)
theorem com_S {n x s : Nat} {src : Nat → Int} (hx : src 33 = (x : Int)) (hs : src (34 + x * 32 + 4) = (s : Int)) (h : 34 + x * 32 + 5 + s ≤ n) : cS ((List.range n).map src) = ((34 + x * 32 + 5 + s, 0), strL ((List.range s).map fun j => src (34 + x * 32 + 5 + j))) := by
  unfold cS
  rw [com_N (by omega) hx]
  simp only
  unfold tkText
  rw [tk_byte src (by omega)]
  simp only [num_one]
  rw [hs, Int.toNat_natCast, show 34 + x * 32 + 4 + 1 = 34 + x * 32 + 5 from rfl, tk_src src (by omega)]
theorem com_fits {n : Nat} {src : Nat → Int} (hX : decX ((List.range n).map src) = 3) (h0 : (decP ((List.range n).map src)).2 = 0) :
    34 ≤ n ∧ ∀ x : Nat, src 33 = (x : Int) → 34 + x * 32 + 5 ≤ n ∧ ∀ s : Nat, src (34 + x * 32 + 4) = (s : Int) → 34 + x * 32 + 5 + s ≤ n := by
  have hl := len_src n src
  unfold decP at h0
  rw [if_neg (by rw [hX]; omega), if_neg (by rw [hX]; omega), if_pos hX] at h0
  have hzN : (cN ((List.range n).map src)).1.2 = 0 := text_zero h0
  have hzP : (cP ((List.range n).map src)).1.2 = 0 := tk_zero hzN
  have hz2 : (tk ((List.range n).map src) (cT ((List.range n).map src)).1 1).1.2 = 0 := ids_zero _ hzP
  have hzT : (cT ((List.range n).map src)).1.2 = 0 := tk_zero hz2
  have hz1 : (tk ((List.range n).map src) (0, 0) 1).1.2 = 0 := tkId_zero hzT
  have f1 := tk_fits hz1
  have hT : cT ((List.range n).map src) = tkId ((List.range n).map src) (1, 0) := by unfold cT; rw [tk_first src (by omega)]
  rw [hT] at hzT
  have fT : 32 ≤ ((List.range n).map src).length - 1 := tk_fits hzT
  rw [com_T (by omega)] at hz2
  have f2 := tk_fits hz2
  have h34 : 34 ≤ n := by omega
  refine ⟨h34, fun x hx => ?_⟩
  have hP := com_P h34 hx
  rw [hP] at hzP
  have eP := (ids_split x hzP).1
  have hN : cN ((List.range n).map src) = tk ((List.range n).map src) (34 + x * 32, 0) 4 := by unfold cN; rw [hP, eP]
  rw [hN] at hzN
  have f4 := tk_fits hzN
  have hS : cS ((List.range n).map src) = tkText ((List.range n).map src) (34 + x * 32 + 4, 0) := by unfold cS; rw [com_N (by omega) hx]
  rw [hS] at h0
  have hz5 : (tk ((List.range n).map src) (34 + x * 32 + 4, 0) 1).1.2 = 0 := tk_zero h0
  have f5 := tk_fits hz5
  refine ⟨by omega, fun s hs => ?_⟩
  unfold tkText at h0
  rw [tk_byte src (by omega)] at h0
  simp only [num_one] at h0
  rw [hs, Int.toNat_natCast] at h0
  have f6 := tk_fits h0
  omega
theorem com_short {n : Nat} {src : Nat → Int} (hn : 0 < n) (hX : src 0 = 3) (h : ¬ (34 ≤ n ∧ ∀ x : Nat, src 33 = (x : Int) → 34 + x * 32 + 5 ≤ n ∧ ∀ s : Nat, src (34 + x * 32 + 4) = (s : Int) → 34 + x * 32 + 5 + s ≤ n)) : (decP ((List.range n).map src)).2 = 7 := by
  rcases decP_either ((List.range n).map src) with h0 | h0
  · exact absurd (com_fits ((decX_src hn).trans hX) h0) h
  · exact h0
theorem ob_tree (o : Ob) (f : Nat → Int) : setMany o.cells 3 (arr .u8 32 f).toList = Ob.cells { o with tree := f } := by
  apply Array.ext_getElem?
  intro j
  have hl : (arr .u8 32 f).toList.length = 32 := by rw [show (arr .u8 32 f).toList.length = (arr .u8 32 f).size from Array.length_toList, arr_size]
  rw [setMany_get _ _ _ _ (by rw [hl, Ob.size]; omega), hl]
  by_cases h : 3 ≤ j ∧ j < 3 + 32
  · rw [if_pos h, Array.getElem?_toList, arr_get (by omega)]
    have := Ob.cellTree { o with tree := f } (j - 3) (by omega)
    rw [show 3 + (j - 3) = j by omega] at this
    exact this.symm
  · rw [if_neg h]
    by_cases h1 : j = 0
    · subst h1; rw [Ob.cell0, Ob.cell0]
    by_cases h2 : j = 1
    · subst h2; rw [Ob.cell1, Ob.cell1]
    by_cases h3 : j = 2
    · subst h3; rw [Ob.cell2, Ob.cell2]
    by_cases h4 : j = 35
    · subst h4; rw [Ob.cell35, Ob.cell35]
    by_cases h5 : j = 36
    · subst h5; rw [Ob.cell36, Ob.cell36]
    by_cases h6 : j = 37
    · subst h6; rw [Ob.cell37, Ob.cell37]
    rw [Array.getElem?_eq_none (by rw [Ob.size]; omega), Array.getElem?_eq_none (by rw [Ob.size]; omega)]
theorem op_buildOne {P : Program} {Q : Exit → Act → World → Prop} {K : Act → World → Prop} {a : Act} {w w' : World} {o : Oper} {v : Value} (ty : TypeId) (x : Operand) (ho : o.op = .buildSlice ty 1 #[(0, x)]) (u : Value) (hx : a.eval x = u)
    (hr : (Instr.buildSlice ty 1 #[(0, u)]).run P w = .ok v w') (h : K (a.put o.dst v) w') : o.wp P a w K Q := by
  unfold Oper.wp execOp
  simp only [ho, Sem.run_bind, Sem.run_pure, Result.andThen_ok, List.map_toArray, List.map_cons, List.map_nil, hx, hr]
  exact h
/-- Where the loop over the parents is. -/
def Sp (w : World) (q : Ob) (v : Value) (ps : List (Nat → Int)) (W : World) : Prop :=
  Below w.heap.size w W ∧ W.heap[w.heap.size]? = some (.cells zeroOb.cells 30 (0, 0)) ∧ W.heap[w.heap.size + 1]? = some (.cells (Ob.cells { q with ps := v }) 30 (0, 0)) ∧ OwnI (w.heap.size + 2) W v ps
theorem sp_next {w wr W6 w7 : World} {q : Ob} {v v' : Value} {es : List (Nat → Int)} {E : Nat → Int} (h : Sp w q v es wr) (f6 : Below wr.heap.size wr W6) (hO : OwnI (w.heap.size + 2) w7 v' (es ++ [E])) (hG : W6.grownBy w7 v.ownBlock) :
    w7.heap[w.heap.size + 1]? = some (.cells (Ob.cells { q with ps := v }) 30 (0, 0)) ∧ Sp w q v' (es ++ [E]) (w7.setCell ⟨w.heap.size + 1, 35, none⟩ v') := by
  obtain ⟨s1, s2, s3, s4⟩ := h
  have l2 := lt_of_row s2
  have l3 := lt_of_row s3
  have fW6 : Below w.heap.size w W6 := s1.trans (f6.mono s1.size)
  have hO6 : OwnI (w.heap.size + 2) W6 v es := s4.below f6
  have hsz := f6.size
  have r2 : w7.heap[w.heap.size]? = some (.cells zeroOb.cells 30 (0, 0)) := (hG.block _ (by omega) (fun e => by have := (hO6.lt e.symm).1; omega)).trans ((f6.block _ l2).trans s2)
  have r3 : w7.heap[w.heap.size + 1]? = some (.cells (Ob.cells { q with ps := v }) 30 (0, 0)) := (hG.block _ (by omega) (fun e => by have := (hO6.lt e.symm).1; omega)).trans ((f6.block _ l3).trans s3)
  have f7 : Below w.heap.size w w7 := hO6.grown (by omega) (by omega) fW6 hG
  refine ⟨r3, f7.setCell (by show w.heap.size ≤ w.heap.size + 1; omega) _, (heap_setCell_other _ _ _ _ (by show w.heap.size ≠ w.heap.size + 1; omega)).trans r2, ?_, hO.keep fun k hk => heap_setCell_other _ _ _ _ (by have := (hO.lt hk).1; show k ≠ w.heap.size + 1; omega)⟩
  rw [heap_setCell_same _ _ _ _ _ _ r3, ob_ps]
theorem own_parts {B lv cv : Nat} {w : World} {sv : Option Addr} {ps : List (Nat → Int)} (h : OwnI B w (.slice sv lv cv) ps) : lv = ps.length ∧ RowsAt w 32 (arr .u8 32) sv ps ∧ (sv = none → ps.length = 0 ∧ cv = 0) := by
  obtain ⟨sp, cap, h1, h2, h3⟩ := h.rows
  injection h1 with e1 e2 e3
  subst e1 e3
  exact ⟨e2, h2, h3⟩
theorem own_ge {B lv cv : Nat} {w : World} {sv : Option Addr} {ps : List (Nat → Int)} (h : OwnI B w (.slice sv lv cv) ps) : ∀ a, sv = some a → B ≤ a.block := fun a ha => by
  subst ha
  exact (h.lt rfl).1
theorem apart_ps {g lv cv : Nat} {sv : Option Addr} {k num : Int} {tree : Nat → Int} {note : ByteArray} (h : ∀ a, sv = some a → g + 2 ≤ a.block) : Apart ⟨k, .slice none 0 0, .slice none 0 0, tree, .slice sv lv cv, num, note⟩ g := by
  rintro a l cap' (h' | h' | h')
  · injection h' with h'; cases h'
  · injection h' with h'; cases h'
  · injection h' with h'; have := h a h'; omega
end Go.Proofs.Ytnaoaeapffgojaa
