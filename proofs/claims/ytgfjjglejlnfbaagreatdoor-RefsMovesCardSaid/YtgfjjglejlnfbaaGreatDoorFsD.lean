/- Branches: a Ref's cells. -/
import Derived.Test.YtgfjjglejlnfbaaGreatDoorObs
namespace Go.Proofs.YtgfjjglejlnfbaaGreatDoor
open Go.RowKit

structure Re where
  name : ByteArray
  id : Nat → Int
def Re.cells (e : Re) : Array Value := #[.string e.name] ++ arr .u8 32 e.id
theorem Re.size (e : Re) : e.cells.size = 33 := by simp [Re.cells, arr_size]
theorem Re.cell0 (e : Re) : e.cells[0]? = some (.string e.name) := by simp [Re.cells, Array.getElem?_append]
theorem Re.cellId (e : Re) (j : Nat) (h : j < 32) : e.cells[1 + j]? = some (.int .u8 (e.id j)) := by
  simp only [Re.cells, Array.getElem?_append]
  rw [if_neg (by simp)]
  simp only [List.size_toArray, List.length_cons, List.length_nil, Nat.zero_add, Nat.add_sub_cancel_left]
  exact arr_get h
theorem Re.cut {e : Re} {j : Nat} {u : Value} (h : e.cells[j]? = some u) : (j = 0 ∧ u = .string e.name) ∨ ∃ i, i < 32 ∧ j = 1 + i ∧ u = .int .u8 (e.id i) := by
  have hj : j < 33 := by have := (Array.getElem?_eq_some_iff.1 h).1; rwa [e.size] at this
  by_cases h0 : j = 0
  · subst h0
    rw [e.cell0] at h
    exact .inl ⟨rfl, (Option.some.inj h).symm⟩
  · obtain ⟨i, rfl⟩ : ∃ i, j = 1 + i := ⟨j - 1, by omega⟩
    rw [e.cellId i (by omega)] at h
    exact .inr ⟨i, by omega, rfl, (Option.some.inj h).symm⟩
/-- An element's cells, where branches lie. -/
theorem re_cells {w : World} {b off i : Nat} {fs : List Re} (h : RowsAt w 33 Re.cells (some ⟨b, off, none⟩) fs) {f : Re} (hf : fs[i]? = some f) : ∀ j u, f.cells[j]? = some u → w.cell? ⟨b, off + i * 33 + j, none⟩ = some u := by
  obtain ⟨b', off', e, hc⟩ := h (by have := (List.getElem?_eq_some_iff.1 hf).1; omega)
  injection e with e
  injection e with e1 e2
  subst e1 e2
  exact hc i f hf
end Go.Proofs.YtgfjjglejlnfbaaGreatDoor
