/- What stands behind the first wrong token is no matter, of tokens whose places rise. No function of the program is walked here. -/
import Derived.Test.YthnoiohganknnabDoorPcF
import Derived.Test.YthnoiohganknnabDoorPcB
namespace Go.Proofs.YthnoiohganknnabDoor
open Go.RowKit

theorem her_far {ts : List Tok} {p : Nat} (h : ts.length < p) : herI ts p = 0 := by
  unfold herI behI
  rw [if_neg (by omega), if_neg (by omega)]
  have e : nxT ts (p - 1) = tokZ := by unfold nxT; rw [List.getD_eq_getElem?_getD, List.getElem?_eq_none (by omega)]; rfl
  rw [e]
  rfl
theorem her_at {ts : List Tok} {p : Nat} (h : p < ts.length) : herI ts p = (nxT ts p).pos := by unfold herI; rw [if_pos h]
/-- What stands behind the first wrong token is no matter, of tokens whose places rise. -/
theorem fil_again {ts us : List Tok} {i : Nat} (hx : ∀ p, p ≤ i → nxT ts p = nxT us p) (h1 : i < ts.length) (h2 : i < us.length) (hb : filO ts = .bad (nxT ts i).pos)
    (hr : ∀ p q, p < q → q < ts.length → (nxT ts p).pos < (nxT ts q).pos) (h0 : ∀ p, p < ts.length → 0 ≤ (nxT ts p).pos) (hl : ¬ (i + 1 = ts.length ∧ (nxT ts i).text.size = 0)) : filO us = .bad (nxT ts i).pos := by
  have hs : ∀ p, i < p → p ≤ ts.length → herI ts p ≠ (nxT ts i).pos := fun p hp hle => by
    rcases Nat.lt_or_ge p ts.length with hlt | hge
    · rw [her_at hlt]
      have := hr i p hp hlt
      omega
    · obtain rfl : p = ts.length := by omega
      unfold herI behI
      rw [if_neg (by omega), if_neg (by omega)]
      rcases Nat.lt_or_ge i (ts.length - 1) with hi | hi
      · have := hr i (ts.length - 1) hi (by omega)
        omega
      · obtain rfl : i = ts.length - 1 := by omega
        have hz : (nxT ts (ts.length - 1)).text.size ≠ 0 := fun e => hl ⟨by omega, e⟩
        omega
  by_cases hz : (nxT ts i).pos = 0
  · have hi0 : i = 0 := by
      rcases Nat.eq_zero_or_pos i with h | h
      · exact h
      · have := hr 0 i h h1
        have := h0 0 (by omega)
        omega
    subst hi0
    unfold filO filP expP Rs.need at hb ⊢
    have he : isT us 0 [112, 97, 99, 107, 97, 103, 101] = isT ts 0 [112, 97, 99, 107, 97, 103, 101] := by unfold isT; rw [hx 0 (Nat.le_refl _)]
    rw [he]
    by_cases hp : isT ts 0 [112, 97, 99, 107, 97, 103, 101] = true
    · rw [if_pos hp] at hb
      dsimp only at hb
      have ih := bdA (ts := ts) (12 * ts.length + 12)
      have hbd : bd ts (namP ts (0 + 1) fun t q => kinP ts 5 q fun _ q => ((fns ts (12 * ts.length + 12)).impL [] q).bind fun l q => ((fns ts (12 * ts.length + 12)).decL l q).bind fun l q => .ok (Pt.mk 1 t.text 0 t.pos (herI ts 0) (behI ts q) l) q) (0 + 1) :=
        bd_nam h1 fun h2 => bd_kin (by simp) h2 fun h3 => bd_bind (ih.impL _ _ h3) (Nat.le_refl _) fun l q _ hq => bd_bind (ih.decL _ _ hq) (Nat.le_refl _) fun l' q' _ hq' => bd_ok (Nat.le_refl _) hq'
      rw [hb] at hbd
      obtain ⟨p', e1, e2, e3⟩ := hbd
      exact (hs p' (by omega) e2 e3.symm).elim
    · rw [if_neg hp, her_at h2, ← hx 0 (Nat.le_refl _)]
  · exact fil_first hx h1 h2 hb fun p hp => by
      rcases Nat.lt_or_ge ts.length p with hlt | hge
      · rw [her_far hlt]
        exact fun e => hz e.symm
      · exact hs p hp hge
end Go.Proofs.YthnoiohganknnabDoor
