/- A text of a file of one's own is written. -/
import Derived.Test.YtmbnbehlfbdpnaaMOwC
namespace Go.Proofs.Ytmbnbehlfbdpnaa
open Go.RowKit

theorem flat_set : ∀ (xs : List Fi) (i : Nat) (f : Fi) (s : ByteArray), xs[i]? = some f → (xs.flatMap fiC).set (i * 2 + 1) (.string s) = (xs.set i ⟨f.path, s⟩).flatMap fiC
  | [], i, f, s, h => by simp at h
  | a :: r, 0, f, s, h => by
    obtain rfl : a = f := by simpa using h
    rfl
  | a :: r, i + 1, f, s, h => by
    have ih := flat_set r i f s (by simpa using h)
    rw [List.flatMap_cons, List.set_cons_succ, List.flatMap_cons, ← ih]
    have hl : (fiC a).length = 2 := fiC_len a
    rw [List.set_append_right _ _ (by omega), hl]
    congr 2
    omega
theorem OwnF.set {B : Nat} {w : World} {sp : Option Addr} {n cap : Nat} {xs : List Fi} (h : OwnF B w (.slice sp n cap) xs) {i : Nat} {f : Fi} (hi : xs[i]? = some f) (s : ByteArray) :
    ∃ g, sp = some ⟨g, 0, none⟩ ∧ B ≤ g ∧ g < w.heap.size ∧ w.cell? ⟨g, i * 2 + 1, none⟩ = some (.string f.text) ∧ w.frozen? ⟨g, i * 2 + 1, none⟩ = false ∧ (∃ cs, w.heap[g]? = some (.cells cs 46 (0, 0))) ∧ OwnF B (w.setCell ⟨g, i * 2 + 1, none⟩ (.string s)) (.slice sp n cap) (xs.set i ⟨f.path, s⟩) := by
  have hil := (List.getElem?_eq_some_iff.1 hi).1
  rcases h.2 with ⟨e, h0⟩ | ⟨g, cap', cur, e, h1, h2, h3, h4, h5, h6⟩
  · omega
  · injection e with e1 e2 e3
    subst e1 e2 e3
    refine ⟨g, rfl, h1, lt_of_row h2, ?_, frozen_of_row _ _ _ _ _ h2, ⟨cur, h2⟩, ?_, .inr ⟨g, cap, cur.setIfInBounds (i * 2 + 1) (.string s), by rw [List.length_set], h1, heap_setCell_same _ _ _ _ _ _ h2, by rw [List.length_set]; exact h3, h4, by rw [Array.size_setIfInBounds]; exact h5, ?_⟩⟩
    · rw [cell_of_row _ _ _ _ _ _ h2, ← Array.getElem?_toList]
      have : (cur.toList.take (xs.length * 2))[i * 2 + 1]? = (xs.flatMap fiC)[i * 2 + 1]? := by rw [h6]
      rw [List.getElem?_take, if_pos (by omega), flatF_at xs i 1 f hi (by omega)] at this
      rw [this]
      rfl
    · rw [List.length_set, flatF_length, List.length_set]
    · rw [List.length_set, Array.toList_setIfInBounds, List.take_set, h6]
      exact flat_set xs i f s hi
end Go.Proofs.Ytmbnbehlfbdpnaa
