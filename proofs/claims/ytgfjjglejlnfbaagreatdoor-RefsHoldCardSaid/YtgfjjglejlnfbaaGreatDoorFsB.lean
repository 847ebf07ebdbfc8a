/- Three slices of branches put together. -/
import Derived.Test.YtgfjjglejlnfbaaGreatDoorFsK
import Derived.Deep.RegionWith
namespace Go.Proofs.YtgfjjglejlnfbaaGreatDoor
open Go.RowKit

theorem rowsR_take {w : World} {sp : Option Addr} {fs : List Re} (h : RowsAt w 33 Re.cells sp fs) (k : Nat) : RowsAt w 33 Re.cells sp (fs.take k) := fun hl => by
  obtain ⟨b, off, e, hc⟩ := h (by rw [List.length_take] at hl; omega)
  refine ⟨b, off, e, fun i x hx => hc i x ?_⟩
  have hi := (List.getElem?_eq_some_iff.1 hx).1
  rw [List.length_take] at hi
  rw [List.getElem?_take, if_pos (by omega)] at hx
  exact hx
theorem rowsR_drop {w : World} {b off off2 : Nat} {fs : List Re} (h : RowsAt w 33 Re.cells (some ⟨b, off, none⟩) fs) (k : Nat) (h2 : k < fs.length → off2 = off + k * 33) : RowsAt w 33 Re.cells (some ⟨b, off2, none⟩) (fs.drop k) := fun hl => by
  rw [List.length_drop] at hl
  obtain ⟨b', off', e, hc⟩ := h (by omega)
  injection e with e
  injection e with e1 e2
  subst e1 e2
  refine ⟨b, off2, rfl, fun i x hx j u hu => ?_⟩
  rw [List.getElem?_drop] at hx
  rw [h2 (by omega), show off + k * 33 + i * 33 + j = off + (k + i) * 33 + j by omega]
  exact hc _ x hx j u hu
theorem concat_three {W : World} {g n1 n2 n3 c1 c2 c3 : Nat} {sp1 sp2 sp3 : Option Addr} {l1 l2 l3 : List Re} {t : TypeId} (hg : W.heap[g]? = some (.cells #[.slice sp1 n1 c1, .slice sp2 n2 c2, .slice sp3 n3 c3] t (0, 0))) (e1 : l1.length = n1) (e2 : l2.length = n2) (e3 : l3.length = n3)
    (h1 : RowsAt W 33 Re.cells sp1 l1 ∧ (sp1 = none → l1.length = 0 ∧ c1 = 0)) (h2 : RowsAt W 33 Re.cells sp2 l2 ∧ (sp2 = none → l2.length = 0 ∧ c2 = 0)) (h3 : RowsAt W 33 Re.cells sp3 l3 ∧ (sp3 = none → l3.length = 0 ∧ c3 = 0)) (hz : n1 + n2 + n3 ≤ 10000) :
    Calls Tryz.prog 40 #[.slice (some ⟨g, 0, none⟩) 3 3] W fun e w' => (∃ v, e = .returned v ∧ OwnR W.heap.size w' v (l1 ++ (l2 ++ l3))) ∧ Below W.heap.size W w' := by
  subst e1 e2 e3
  have hR : RowsAt W 1 Pt.cells (some ⟨g, 0, none⟩) [⟨sp1, l1, c1⟩, ⟨sp2, l2, c2⟩, ⟨sp3, l3, c3⟩] := fun _ => by
    refine ⟨g, 0, rfl, fun i x hx j u hu => ?_⟩
    rw [cell_of_row _ _ _ _ _ _ hg]
    match i with
    | 0 =>
      obtain rfl : _ = x := by simpa using hx
      match j with
      | 0 => simpa [Pt.cells] using hu
      | j + 1 => simp [Pt.cells] at hu
    | 1 =>
      obtain rfl : _ = x := by simpa using hx
      match j with
      | 0 => simpa [Pt.cells] using hu
      | j + 1 => simp [Pt.cells] at hu
    | 2 =>
      obtain rfl : _ = x := by simpa using hx
      match j with
      | 0 => simpa [Pt.cells] using hu
      | j + 1 => simp [Pt.cells] at hu
    | i + 3 => simp at hx
  have hP : PtsAt W [⟨sp1, l1, c1⟩, ⟨sp2, l2, c2⟩, ⟨sp3, l3, c3⟩] := fun p hp => by
    rcases List.mem_cons.1 hp with rfl | hp
    · exact h1
    · rcases List.mem_cons.1 hp with rfl | hp
      · exact h2
      · obtain rfl : p = _ := by simpa using hp
        exact h3
  refine (concatR_any (some ⟨g, 0, none⟩) 3 _ W hR hP (by simp) (by simp [sizeP]; omega)).mono fun e w' h => ?_
  obtain ⟨⟨v, rfl, hO⟩, hB⟩ := h
  refine ⟨⟨v, rfl, ?_⟩, hB⟩
  simpa [flatP] using hO
end Go.Proofs.YtgfjjglejlnfbaaGreatDoor
