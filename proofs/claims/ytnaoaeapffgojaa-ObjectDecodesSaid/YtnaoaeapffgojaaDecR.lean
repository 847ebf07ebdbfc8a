/- The row of Decode's reader: a pointer to a Reader, and an object. No function of the program is walked here. -/
import Derived.Test.YtnaoaeapffgojaaSevI
namespace Go.Proofs.Ytnaoaeapffgojaa
open Go.RowKit

def zeroOb : Ob := ⟨0, .slice none 0 0, .slice none 0 0, fun _ => 0, .slice none 0 0, 0, ⟨#[]⟩⟩
def ordCells (g : Nat) (o : Ob) : Array Value := #[.pointer (some ⟨g, 0, none⟩)] ++ o.cells
theorem ord_size (g : Nat) (o : Ob) : (ordCells g o).size = 39 := by simp [ordCells, Ob.size]
theorem ord_cell0 (g : Nat) (o : Ob) : (ordCells g o)[0]? = some (.pointer (some ⟨g, 0, none⟩)) := by simp [ordCells, Array.getElem?_append]
theorem ord_cell (g : Nat) (o : Ob) (j : Nat) : (ordCells g o)[1 + j]? = o.cells[j]? := by
  simp only [ordCells, Array.getElem?_append]
  rw [if_neg (by simp)]
  simp
theorem ord_ob {w : World} {h g : Nat} {o : Ob} {t : TypeId} {fr : Nat × Nat} (hr : w.heap[h]? = some (.cells (ordCells g o) t fr)) : ObRow w h 1 o := by
  have hc : ∀ j, w.cell? ⟨h, 1 + j, none⟩ = o.cells[j]? := fun j => (cell_of_row _ _ _ _ _ _ hr).trans (ord_cell g o j)
  refine ⟨(hc 0).trans o.cell0, (hc 1).trans o.cell1, (hc 2).trans o.cell2, (hc 35).trans o.cell35, (hc 36).trans o.cell36, (hc 37).trans o.cell37, fun i hi => ?_⟩
  rw [show 1 + 3 + i = 1 + (3 + i) by omega]
  exact (hc (3 + i)).trans (o.cellTree i hi)
theorem ord_kind (g : Nat) (o : Ob) (k : Int) : (ordCells g o).setIfInBounds 1 (.int .i64 k) = ordCells g { o with kind := k } := by
  simp [ordCells, Ob.cells, Array.setIfInBounds_append_left, Array.setIfInBounds_append_right]
theorem ord_bs (g : Nat) (o : Ob) (v : Value) : (ordCells g o).setIfInBounds 2 v = ordCells g { o with bs := v } := by
  simp [ordCells, Ob.cells, Array.setIfInBounds_append_left, Array.setIfInBounds_append_right]
theorem ord_es (g : Nat) (o : Ob) (v : Value) : (ordCells g o).setIfInBounds 3 v = ordCells g { o with es := v } := by
  simp [ordCells, Ob.cells, Array.setIfInBounds_append_left, Array.setIfInBounds_append_right]
theorem ord_ps (g : Nat) (o : Ob) (v : Value) : (ordCells g o).setIfInBounds 36 v = ordCells g { o with ps := v } := by
  simp [ordCells, Ob.cells, Array.setIfInBounds_append_right, arr_size]
theorem ord_num (g : Nat) (o : Ob) (x : Int) : (ordCells g o).setIfInBounds 37 (.int .u32 x) = ordCells g { o with num := x } := by
  simp [ordCells, Ob.cells, Array.setIfInBounds_append_right, arr_size]
theorem ord_note (g : Nat) (o : Ob) (s : ByteArray) : (ordCells g o).setIfInBounds 38 (.string s) = ordCells g { o with note := s } := by
  simp [ordCells, Ob.cells, Array.setIfInBounds_append_right, arr_size]
theorem ord_tree (g : Nat) (o : Ob) (f : Nat → Int) : setMany (ordCells g o) 4 (arr .u8 32 f).toList = ordCells g { o with tree := f } := by
  apply Array.ext_getElem?
  intro j
  have hl : (arr .u8 32 f).toList.length = 32 := by rw [show (arr .u8 32 f).toList.length = (arr .u8 32 f).size from Array.length_toList, arr_size]
  rw [setMany_get _ _ _ _ (by rw [hl, ord_size]; omega), hl]
  by_cases h : 4 ≤ j ∧ j < 4 + 32
  · rw [if_pos h, Array.getElem?_toList, arr_get (by omega)]
    have := ord_cell g { o with tree := f } (3 + (j - 4))
    rw [show 1 + (3 + (j - 4)) = j by omega, Ob.cellTree _ _ (by omega)] at this
    exact this.symm
  · rw [if_neg h]
    by_cases h0 : j = 0
    · subst h0; rw [ord_cell0, ord_cell0]
    have e : j = 1 + (j - 1) := by omega
    rw [e, ord_cell, ord_cell]
    by_cases h1 : j = 1
    · subst h1; rw [Ob.cell0, Ob.cell0]
    by_cases h2 : j = 2
    · subst h2; rw [Ob.cell1, Ob.cell1]
    by_cases h3 : j = 3
    · subst h3; rw [Ob.cell2, Ob.cell2]
    by_cases h4 : j = 36
    · subst h4; rw [Ob.cell35, Ob.cell35]
    by_cases h5 : j = 37
    · subst h5; rw [Ob.cell36, Ob.cell36]
    by_cases h6 : j = 38
    · subst h6; rw [Ob.cell37, Ob.cell37]
    rw [Array.getElem?_eq_none (by rw [Ob.size]; omega), Array.getElem?_eq_none (by rw [Ob.size]; omega)]
theorem ord_one (g : Nat) (o : Ob) (h1 : o.bs.oneCell' = true) (h2 : o.es.oneCell' = true) (h3 : o.ps.oneCell' = true) : (ordCells g o).all (·.oneCell') = true := by
  have e : (ordCells g o).all (·.oneCell') = (#[Value.pointer (some ⟨g, 0, none⟩)].all (·.oneCell') && o.cells.all (·.oneCell')) := by simp only [ordCells, Array.all_append]
  rw [e, ob_one o h1 h2 h3]
  simp [Value.oneCell']

theorem zero_ord : (Try.prog.info? 49).bind (·.zero) = some (.agg (#[.pointer none] ++ zeroOb.cells)) := by kernel_rfl
theorem places_ord (w : World) : ((Try.prog.fieldsOf 49).mapM fun (f : Field) => (do pure (f.offset, ← sizeOf f.type) : Sem (Nat × Nat))).run Try.prog w = .ok #[(0, 1), (1, 38)] w := by kernel_rfl
theorem build_ord (g : Nat) (w : World) : (Instr.build 49 #[(0, .pointer (some ⟨g, 0, none⟩))]).run Try.prog w = .ok (.agg (ordCells g zeroOb)) w := by
  have hz := zero_ord
  have hp := places_ord w
  have hu : Try.prog.underlying 49 = some (.struct (Try.prog.fieldsOf 49)) := by kernel_rfl
  have hf : Instr.fill ((#[(0, 1), (1, 38)] : Array (Nat × Nat))[·]?) (#[.pointer none] ++ zeroOb.cells) [(0, .pointer (some ⟨g, 0, none⟩))] = some (ordCells g zeroOb) := by kernel_rfl
  cases hq : Try.prog.info? 49 with
  | none => simp [hq] at hz
  | some q =>
    have hq1 : q.zero = some (.agg (#[.pointer none] ++ zeroOb.cells)) := by simpa [hq] using hz
    have hzv : (zeroValue 49).run Try.prog w = .ok (.agg (#[.pointer none] ++ zeroOb.cells)) w := by simp [zeroValue, typeInfo, hq, hq1]
    unfold Instr.build
    simp only [Sem.run_bind, hzv, Result.andThen_ok, run_underlying hu, hp]
    have hc : (Value.agg (#[.pointer none] ++ zeroOb.cells)).cells = #[.pointer none] ++ zeroOb.cells := rfl
    rw [hc, hf]
    rfl
end Go.Proofs.Ytnaoaeapffgojaa
