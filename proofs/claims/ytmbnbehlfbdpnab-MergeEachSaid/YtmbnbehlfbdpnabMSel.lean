/- A base merged with itself and another one, and two that are the same: lists. No function of the program is walked here. -/
import Derived.Test.YtmbnbehlfbdpnabMSho
namespace Go.Proofs.Ytmbnbehlfbdpnab
open Go.RowKit

theorem toList_inj {a b : ByteArray} (h : a.toList = b.toList) : a = b := by
  rw [Lib.toList_data, Lib.toList_data] at h
  cases a
  cases b
  simpa using h
theorem mayEq_iff {a b : May} : mayEq a b = true ↔ a = b := by
  constructor
  · intro h
    simp only [mayEq, Bool.and_eq_true, beq_iff_eq] at h
    cases a
    cases b
    obtain ⟨h1, h2⟩ := h
    simp only [May.mk.injEq]
    exact ⟨toList_inj h1, h2⟩
  · rintro rfl
    simp [mayEq]
theorem leastS_there {m : May} {l : List Fi} (h : (leastS m l).there = false) : l = [] ∧ m.there = false := by
  cases l with
  | nil => exact ⟨rfl, h⟩
  | cons f r =>
    simp only [leastS] at h
    split at h
    · cases h
    · rename_i hc
      cases hm : m.there with
      | false => simp [hm] at hc
      | true => rw [hm] at h; cases h
theorem least_none {a b c : List Fi} (h : (leastR a b c).there = false) : a = [] ∧ b = [] ∧ c = [] := by
  obtain ⟨h3, h⟩ := leastS_there h
  obtain ⟨h2, h⟩ := leastS_there h
  obtain ⟨h1, -⟩ := leastS_there h
  exact ⟨h1, h2, h3⟩
/-- The file that one of the three has at a path. -/
def mayF (p : ByteArray) (m : May) : List Fi := if m.there then [⟨p, m.value⟩] else []
theorem take_emit (p : ByteArray) (l : List Fi) : mayF p (takeM p l) ++ takeL p l = l := by
  cases l with
  | nil => rfl
  | cons f r =>
    simp only [takeM, takeL]
    split
    · rename_i h
      have e : f.path = p := toList_inj (by simpa using h)
      subst e
      rfl
    · rfl
theorem emits_o : ∀ (n : Nat) (a b c : List Fi), len3 a b c ≤ n → (pathsL n a b c).flatMap (fun p => mayF p.1 p.2.o) = b
  | 0, a, b, c, h => by
    have : b.length = 0 := by unfold len3 at h; omega
    rw [List.eq_nil_of_length_eq_zero this]
    rfl
  | n + 1, a, b, c, h => by
    simp only [pathsL]
    cases ht : (leastR a b c).there with
    | false => rw [(least_none ht).2.1]; rfl
    | true =>
      have hl := take_less ht
      rw [if_pos rfl, List.flatMap_cons, emits_o n _ _ _ (by omega)]
      exact take_emit _ b
theorem emits_t : ∀ (n : Nat) (a b c : List Fi), len3 a b c ≤ n → (pathsL n a b c).flatMap (fun p => mayF p.1 p.2.t) = c
  | 0, a, b, c, h => by
    have : c.length = 0 := by unfold len3 at h; omega
    rw [List.eq_nil_of_length_eq_zero this]
    rfl
  | n + 1, a, b, c, h => by
    simp only [pathsL]
    cases ht : (leastR a b c).there with
    | false => rw [(least_none ht).2.2]; rfl
    | true =>
      have hl := take_less ht
      rw [if_pos rfl, List.flatMap_cons, emits_t n _ _ _ (by omega)]
      exact take_emit _ c
theorem same_bt : ∀ (n : Nat) (a b : List Fi), ∀ p ∈ pathsL n a b a, p.2.t = p.2.b
  | 0, _, _, p, hp => by simp [pathsL] at hp
  | n + 1, a, b, p, hp => by
    simp only [pathsL] at hp
    split at hp
    · rcases List.mem_cons.1 hp with rfl | hp
      · rfl
      · exact same_bt n _ _ p hp
    · simp at hp
theorem same_bo : ∀ (n : Nat) (a c : List Fi), ∀ p ∈ pathsL n a a c, p.2.o = p.2.b
  | 0, _, _, p, hp => by simp [pathsL] at hp
  | n + 1, a, c, p, hp => by
    simp only [pathsL] at hp
    split at hp
    · rcases List.mem_cons.1 hp with rfl | hp
      · rfl
      · exact same_bo n _ _ p hp
    · simp at hp
theorem same_ot : ∀ (n : Nat) (a b : List Fi), ∀ p ∈ pathsL n a b b, p.2.t = p.2.o
  | 0, _, _, p, hp => by simp [pathsL] at hp
  | n + 1, a, b, p, hp => by
    simp only [pathsL] at hp
    split at hp
    · rcases List.mem_cons.1 hp with rfl | hp
      · rfl
      · exact same_ot n _ _ p hp
    · simp at hp
theorem merged_bt {s : St3} (h : s.t = s.b) : mergedR s = (s.o, true) := by
  unfold mergedR
  split
  · rename_i h1
    rw [mayEq_iff.1 h1, h]
  · rw [if_pos (by rw [h, mayEq_iff.2 rfl]; rfl)]
theorem merged_bo {s : St3} (h : s.o = s.b) : mergedR s = (s.t, true) := by
  unfold mergedR
  rw [if_pos (by rw [h]; exact mayEq_iff.2 rfl)]
theorem merged_ot {s : St3} (h : s.t = s.o) : mergedR s = (s.o, true) := by
  unfold mergedR
  split
  · rw [h]
  · rw [if_pos (by rw [h, mayEq_iff.2 rfl, Bool.or_true])]
theorem flat_congr {α β : Type} {f g : α → List β} : ∀ {l : List α}, (∀ x ∈ l, f x = g x) → l.flatMap f = l.flatMap g
  | [], _ => rfl
  | a :: r, h => by rw [List.flatMap_cons, List.flatMap_cons, h a (by simp), flat_congr fun x hx => h x (by simp [hx])]
theorem flat_nil {α β : Type} {f : α → List β} : ∀ {l : List α}, (∀ x ∈ l, f x = []) → l.flatMap f = []
  | [], _ => rfl
  | a :: r, h => by rw [List.flatMap_cons, h a (by simp), flat_nil fun x hx => h x (by simp [hx])]; rfl
theorem fileOf_may {p : Ps} {m : May} (h : mergedR p.2 = (m, true)) : fileOf p = mayF p.1 m := by
  unfold fileOf mayF
  rw [h]
  rfl
theorem clashOf_none {p : Ps} {m : May} (h : mergedR p.2 = (m, true)) : clashOf p = [] := by
  unfold clashOf
  rw [h]
  rfl
theorem self_bt (a b : List Fi) : joinF (pathsA a b a) = b ∧ joinC (pathsA a b a) = [] :=
  ⟨(flat_congr fun p hp => fileOf_may (merged_bt (same_bt _ _ _ p hp))).trans (emits_o _ a b a (Nat.le_refl _)), flat_nil fun p hp => clashOf_none (merged_bt (same_bt _ _ _ p hp))⟩
theorem self_bo (a c : List Fi) : joinF (pathsA a a c) = c ∧ joinC (pathsA a a c) = [] :=
  ⟨(flat_congr fun p hp => fileOf_may (merged_bo (same_bo _ _ _ p hp))).trans (emits_t _ a a c (Nat.le_refl _)), flat_nil fun p hp => clashOf_none (merged_bo (same_bo _ _ _ p hp))⟩
theorem self_ot (a b : List Fi) : joinF (pathsA a b b) = b ∧ joinC (pathsA a b b) = [] :=
  ⟨(flat_congr fun p hp => fileOf_may (merged_ot (same_ot _ _ _ p hp))).trans (emits_o _ a b b (Nat.le_refl _)), flat_nil fun p hp => clashOf_none (merged_ot (same_ot _ _ _ p hp))⟩
theorem fiEq_refl (a : Fi) : fiEq a a = true := by simp [fiEq]
/-- Files that were cut short are small. -/
theorem cutS_size (n : Nat) (s : ByteArray) : (cutS n s).size ≤ n := by
  unfold cutS
  rw [ByteArray.size_extract]
  omega
theorem shortL_small (fs : List Fi) : FiS (shortL fs) := by
  intro f hf
  obtain ⟨g, -, rfl⟩ := List.mem_map.1 hf
  have h1 := cutS_size 100 g.path
  have h2 := cutS_size 4097 g.text
  exact ⟨by show (cutS 100 g.path).size ≤ 1000000; omega, by show (cutS 4097 g.text).size ≤ 1000000; omega⟩
/-- A slice of the call's own, as it is handed on. -/
theorem own_sl {B : Nat} {w : World} {v : Value} {xs : List Fi} (h : OwnF B w v xs) (hl : xs.length ≤ 1000000) (hs : FiS xs) : ∃ s : Sl, v = .slice s.sp s.fs.length s.cap ∧ s.fs = xs ∧ SlS w s := by
  rcases h.2 with ⟨rfl, h0⟩ | ⟨g, cap, cur, rfl, h1, h2, h3, h4, h5, h6⟩
  · have e : xs = [] := List.eq_nil_of_length_eq_zero h0
    subst e
    exact ⟨⟨none, 0, []⟩, rfl, rfl, ⟨RowsAt.none, Nat.le_refl _, Nat.zero_le _⟩, hl, hs⟩
  · obtain ⟨sp, cap', e, hr, -⟩ := OwnF.rows (xs := xs) h
    injection e with e1 e2 e3
    subst e1 e3
    exact ⟨⟨some ⟨g, 0, none⟩, cap, xs⟩, rfl, rfl, ⟨hr, h3, h4⟩, hl, hs⟩
end Go.Proofs.Ytmbnbehlfbdpnab
