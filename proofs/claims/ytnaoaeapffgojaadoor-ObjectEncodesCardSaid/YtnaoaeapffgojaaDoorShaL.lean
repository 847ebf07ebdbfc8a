/- What the schedule is, number by number. No walk. -/
import Derived.Test.YtnaoaeapffgojaaDoorTabs
namespace Go.Proofs.YtnaoaeapffgojaaDoor
open Go.RowKit

theorem hiF_past (f : Nat → Int) : ∀ n i, n + 16 ≤ i → hiF f n i = f i
  | 0, _, _ => rfl
  | n + 1, i, h => by
    unfold hiF upd
    rw [if_neg (by omega)]
    exact hiF_past f n i (by omega)
theorem hiF_keep (f : Nat → Int) (n i : Nat) (h : i < n + 16) : ∀ m, hiF f (n + m) i = hiF f n i
  | 0 => rfl
  | m + 1 => by
    have e : hiF f (n + (m + 1)) i = hiF f (n + m) i := by
      show upd (hiF f (n + m)) (n + m + 16) _ i = _
      unfold upd
      rw [if_neg (by omega)]
    rw [e]; exact hiF_keep f n i h m
theorem hiF_lo (f : Nat → Int) (n i : Nat) (h : i < 16) : hiF f n i = f i := by
  have := hiF_keep f 0 i (by omega) n
  rw [Nat.zero_add] at this
  exact this
theorem sched_lo (B : Nat → Int) (i : Nat) (h : i < 16) : schedF B i = loF B 64 i := hiF_lo _ _ _ h
theorem sched_hi (B : Nat → Int) (n : Nat) (h : n < 48) : schedF B (n + 16) = (s1I (schedF B (n + 14)) + schedF B (n + 9) + s0I (schedF B (n + 1)) + schedF B n) % 4294967296 := by
  obtain ⟨m, hm⟩ : ∃ m, 48 = n + 1 + m := ⟨48 - (n + 1), by omega⟩
  have k : ∀ i, i < n + 16 → schedF B i = hiF (loF B 64) n i := fun i hi => by
    unfold schedF
    rw [hm, Nat.add_assoc]
    exact hiF_keep _ n i hi _
  have k1 : schedF B (n + 16) = hiF (loF B 64) (n + 1) (n + 16) := by
    unfold schedF
    rw [hm]
    exact hiF_keep _ (n + 1) (n + 16) (by omega) m
  rw [k1, k (n + 14) (by omega), k (n + 9) (by omega), k (n + 1) (by omega), k n (by omega)]
  show upd _ _ _ _ = _
  unfold upd
  rw [if_pos rfl]
theorem loF_keep (B : Nat → Int) (t i : Nat) (h : 4 * i + 4 ≤ t) : ∀ m, loF B (t + m) i = loF B t i
  | 0 => rfl
  | m + 1 => by
    have e : loF B (t + (m + 1)) i = loF B (t + m) i := by
      show upd (loF B (t + m)) ((t + m) / 4) _ i = _
      unfold upd
      rw [if_neg (by omega)]
    rw [e]; exact loF_keep B t i h m
theorem loF_none (B : Nat → Int) : ∀ t i, t ≤ 4 * i → loF B t i = 0
  | 0, _, _ => rfl
  | t + 1, i, h => by
    show upd (loF B t) _ _ i = _
    unfold upd
    rw [if_neg (by omega)]
    exact loF_none B t i (by omega)
/-- The number of four bytes, as the program puts it together. -/
def orW (B : Nat → Int) (i : Nat) : Int :=
  bits .or .u32 (bits .or .u32 (bits .or .u32 (bits .or .u32 (0 * 256 % 4294967296) (B (4 * i)) * 256 % 4294967296) (B (4 * i + 1)) * 256 % 4294967296) (B (4 * i + 2)) * 256 % 4294967296) (B (4 * i + 3))
theorem loF_at (B : Nat → Int) (i : Nat) (h : i < 16) : loF B 64 i = orW B i := by
  obtain ⟨m, hm⟩ : ∃ m, 64 = 4 * i + 4 + m := ⟨64 - (4 * i + 4), by omega⟩
  rw [hm, loF_keep B (4 * i + 4) i (Nat.le_refl _) m]
  have st : ∀ t, t / 4 = i → loF B (t + 1) i = bits .or .u32 (loF B t i * 256 % 4294967296) (B t) := fun t ht => by
    show upd (loF B t) (t / 4) _ i = _
    unfold upd
    rw [ht, if_pos rfl]
  rw [st (4 * i + 3) (by omega), st (4 * i + 2) (by omega), st (4 * i + 1) (by omega), st (4 * i) (by omega), loF_none B (4 * i) i (Nat.le_refl _)]
  rfl
/-- A list of 64 numbers is the schedule, if each of its numbers follows from those ahead of it. -/
theorem sched_of_list (B : Nat → Int) (l : Nat → Int) (h0 : ∀ i, i < 16 → orW B i = l i) (h1 : ∀ n, n < 48 → (s1I (l (n + 14)) + l (n + 9) + s0I (l (n + 1)) + l n) % 4294967296 = l (n + 16)) : ∀ i, i < 64 → schedF B i = l i := by
  intro i
  induction i using Nat.strongRecOn with
  | ind i ih =>
    intro hi
    by_cases h : i < 16
    · rw [sched_lo B i h, loF_at B i h, h0 i h]
    · obtain ⟨n, rfl⟩ : ∃ n, i = n + 16 := ⟨i - 16, by omega⟩
      rw [sched_hi B n (by omega), ih (n + 14) (by omega) (by omega), ih (n + 9) (by omega) (by omega), ih (n + 1) (by omega) (by omega), ih n (by omega) (by omega), h1 n (by omega)]
theorem stAt_of_list (K W l : Nat → Int) (s : St) (ss : Nat → St) (hw : ∀ i, i < 64 → W i = l i) (h0 : ss 0 = s) (h1 : ∀ t, t < 64 → stepSt (K t) (l t) (ss t) = ss (t + 1)) : ∀ t, t ≤ 64 → stAt K W s t = ss t
  | 0, _ => h0.symm
  | t + 1, ht => by
    show stepSt (K t) (W t) (stAt K W s t) = _
    rw [stAt_of_list K W l s ss hw h0 h1 t (by omega), hw t (by omega), h1 t (by omega)]

theorem out_bytes (s : St) (i : Nat) : 0 ≤ outF s i ∧ outF s i ≤ 255 := by
  unfold outF
  generalize s.fn (i / 4) / 256 ^ _ = q
  omega
end Go.Proofs.YtnaoaeapffgojaaDoor
