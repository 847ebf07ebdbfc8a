/- Files as cells. No function of the program is walked here. -/
import Derived.Test.YtgfjjglejlnfbaaGreatDoorObs
namespace Go.Proofs.YtgfjjglejlnfbaaGreatDoor
open Go.RowKit

/-- A file. -/
structure Fi where
  path : ByteArray
  text : ByteArray
def Fi.cells (f : Fi) : Array Value := #[.string f.path, .string f.text]
theorem Fi.size (f : Fi) : f.cells.size = 2 := rfl
theorem fi_cell {w : World} {b off i : Nat} {fs : List Fi} (h : RowsAt w 2 Fi.cells (some ⟨b, off, none⟩) fs) {f : Fi} (hf : fs[i]? = some f) : w.cell? ⟨b, off + i * 2, none⟩ = some (.string f.path) ∧ w.cell? ⟨b, off + i * 2 + 1, none⟩ = some (.string f.text) := by
  obtain ⟨b', off', e, hc⟩ := h (by have := (List.getElem?_eq_some_iff.1 hf).1; omega)
  injection e with e
  injection e with e1 e2
  subst e1 e2
  exact ⟨hc i f hf 0 _ rfl, hc i f hf 1 _ rfl⟩
end Go.Proofs.YtgfjjglejlnfbaaGreatDoor
