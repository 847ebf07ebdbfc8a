/- Every beginning of an object's bytes is too short. No function of the program is walked here. -/
import Derived.Test.YtnaoaeapffgojaaBkM
namespace Go.Proofs.Ytnaoaeapffgojaa
open Go.RowKit

/-- What is read of a beginning is what is read of the whole, or the bytes have ended. -/
def Cut {α : Type} (k : Nat) (r r' : (Nat × Int) × α) : Prop := (r' = r ∧ r.1.1 ≤ k) ∨ r'.1.2 = 7
theorem tk_cut {L : List Int} {k : Nat} (hk : k ≤ L.length) {p : Nat × Int} (hp : p.1 ≤ k) (n : Nat) : Cut k (tk L p n) (tk (L.take k) p n) := by
  unfold Cut tk
  have hl : (L.take k).length = k := by rw [List.length_take]; omega
  rw [hl]
  by_cases h0 : p.2 = 0
  · rw [if_pos h0, if_pos h0]
    by_cases h1 : k - p.1 < n
    · rw [if_pos h1]
      exact .inr rfl
    · rw [if_neg h1, if_neg (by omega)]
      refine .inl ⟨?_, by show p.1 + n ≤ k; omega⟩
      rw [List.drop_take, List.take_take, Nat.min_eq_left (by omega)]
  · rw [if_neg h0, if_neg h0]
    exact .inl ⟨rfl, hp⟩
theorem tk_err (L : List Int) {p : Nat × Int} (h : p.2 = 7) (n : Nat) : tk L p n = (p, []) := by
  unfold tk
  rw [if_neg (by rw [h]; omega)]
theorem tk_seven {L : List Int} {p : Nat × Int} {n : Nat} (h : (tk L p n).1.2 = 7) : (tk L p n).2 = [] := by
  unfold tk at h ⊢
  split
  · rename_i h0
    rw [if_pos h0] at h
    split
    · rfl
    · rename_i h1
      rw [if_neg h1] at h
      exact absurd h (by show ¬ (0 : Int) = 7; omega)
  · rfl
theorem text_err (L : List Int) {p : Nat × Int} (h : p.2 = 7) : (tkText L p).1.2 = 7 := by
  unfold tkText
  rw [tk_err L h, tk_err L h]
  exact h
theorem text_cut {L : List Int} {k : Nat} (hk : k ≤ L.length) {p : Nat × Int} (hp : p.1 ≤ k) : Cut k (tkText L p) (tkText (L.take k) p) := by
  unfold tkText
  rcases tk_cut hk hp 1 with ⟨h, hle⟩ | h
  · rw [h]
    rcases tk_cut hk hle (numOf (tk L p 1).2).toNat with ⟨h2, hle2⟩ | h2
    · rw [h2]
      exact .inl ⟨rfl, hle2⟩
    · exact .inr h2
  · refine .inr ?_
    rw [tk_err _ h]
    exact h
theorem tkId_err (L : List Int) {p : Nat × Int} (h : p.2 = 7) : (tkId L p).1.2 = 7 := by
  unfold tkId
  rw [tk_err L h]
  exact h
theorem tkId_cut {L : List Int} {k : Nat} (hk : k ≤ L.length) {p : Nat × Int} (hp : p.1 ≤ k) : Cut k (tkId L p) (tkId (L.take k) p) := by
  unfold tkId
  rcases tk_cut hk hp 32 with ⟨h, hle⟩ | h
  · rw [h]
    exact .inl ⟨rfl, hle⟩
  · exact .inr h
theorem ent_err (L : List Int) {p : Nat × Int} (h : p.2 = 7) : (tkEnt L p).1.2 = 7 := by
  have h1 := text_err L h
  have h2 : (tk L (tkText L p).1 1).1.2 = 7 := by rw [tk_err L h1]; exact h1
  exact tkId_err L h2
theorem ent_cut {L : List Int} {k : Nat} (hk : k ≤ L.length) {p : Nat × Int} (hp : p.1 ≤ k) : Cut k (tkEnt L p) (tkEnt (L.take k) p) := by
  unfold tkEnt
  rcases text_cut hk hp with ⟨h, hle⟩ | h
  · rw [h]
    rcases tk_cut hk hle 1 with ⟨h2, hle2⟩ | h2
    · rw [h2]
      rcases tkId_cut hk hle2 with ⟨h3, hle3⟩ | h3
      · rw [h3]
        exact .inl ⟨rfl, hle3⟩
      · exact .inr h3
    · exact .inr (tkId_err _ h2)
  · exact .inr (tkId_err _ (by rw [tk_err _ h]; exact h))
theorem ents_err (L : List Int) {p : Nat × Int} (h : p.2 = 7) : ∀ n, (tkEnts L n p).1.2 = 7
  | 0 => h
  | n + 1 => ent_err L (ents_err L h n)
theorem ents_cut {L : List Int} {k : Nat} (hk : k ≤ L.length) {p : Nat × Int} (hp : p.1 ≤ k) : ∀ n, Cut k (tkEnts L n p) (tkEnts (L.take k) n p)
  | 0 => .inl ⟨rfl, hp⟩
  | n + 1 => by
    simp only [tkEnts]
    rcases ents_cut hk hp n with ⟨h, hle⟩ | h
    · rw [h]
      rcases ent_cut hk hle with ⟨h2, hle2⟩ | h2
      · rw [h2]
        exact .inl ⟨rfl, hle2⟩
      · exact .inr h2
    · exact .inr (ent_err _ h)
theorem ids_err (L : List Int) {p : Nat × Int} (h : p.2 = 7) : ∀ n, (tkIds L n p).1.2 = 7
  | 0 => h
  | n + 1 => tkId_err L (ids_err L h n)
theorem ids_cut {L : List Int} {k : Nat} (hk : k ≤ L.length) {p : Nat × Int} (hp : p.1 ≤ k) : ∀ n, Cut k (tkIds L n p) (tkIds (L.take k) n p)
  | 0 => .inl ⟨rfl, hp⟩
  | n + 1 => by
    simp only [tkIds]
    rcases ids_cut hk hp n with ⟨h, hle⟩ | h
    · rw [h]
      rcases tkId_cut hk hle with ⟨h2, hle2⟩ | h2
      · rw [h2]
        exact .inl ⟨rfl, hle2⟩
      · exact .inr h2
    · exact .inr (tkId_err _ h)
theorem bB_cut {L : List Int} {k : Nat} (hk : k ≤ L.length) (h : tk (L.take k) (0, 0) 1 = tk L (0, 0) 1) (hle : (tk L (0, 0) 1).1.1 ≤ k) : Cut k (bB L) (bB (L.take k)) := by
  unfold bB bN
  rw [h]
  rcases tk_cut hk hle 2 with ⟨h2, hle2⟩ | h2
  · rw [h2]
    exact tk_cut hk hle2 _
  · exact .inr (by rw [tk_err _ h2]; exact h2)
theorem decE_cut {L : List Int} {k : Nat} (hk : k ≤ L.length) (h : tk (L.take k) (0, 0) 1 = tk L (0, 0) 1) (hle : (tk L (0, 0) 1).1.1 ≤ k) : Cut k (decE L) (decE (L.take k)) := by
  unfold decE
  rw [h]
  rcases tk_cut hk hle 1 with ⟨h2, hle2⟩ | h2
  · rw [h2]
    exact ents_cut hk hle2 _
  · exact .inr (ents_err _ h2 _)
theorem cS_cut {L : List Int} {k : Nat} (hk : k ≤ L.length) (h : tk (L.take k) (0, 0) 1 = tk L (0, 0) 1) (hle : (tk L (0, 0) 1).1.1 ≤ k) : Cut k (cS L) (cS (L.take k)) := by
  have hT : Cut k (cT L) (cT (L.take k)) := by
    unfold cT
    rw [h]
    exact tkId_cut hk hle
  have hP : Cut k (cP L) (cP (L.take k)) := by
    unfold cP
    rcases hT with ⟨h1, hle1⟩ | h1
    · rw [h1]
      rcases tk_cut hk hle1 1 with ⟨h2, hle2⟩ | h2
      · rw [h2]
        exact ids_cut hk hle2 _
      · exact .inr (ids_err _ h2 _)
    · exact .inr (ids_err _ (by rw [tk_err _ h1]; exact h1) _)
  have hN : Cut k (cN L) (cN (L.take k)) := by
    unfold cN
    rcases hP with ⟨h1, hle1⟩ | h1
    · rw [h1]
      exact tk_cut hk hle1 4
    · exact .inr (by rw [tk_err _ h1]; exact h1)
  unfold cS
  rcases hN with ⟨h1, hle1⟩ | h1
  · rw [h1]
    exact text_cut hk hle1
  · exact .inr (text_err _ h1)
theorem decP_cut {L : List Int} {k : Nat} (hk : k < L.length) (hp : decP L = (L.length, 0)) : (decP (L.take k)).2 = 7 := by
  have hk' : k ≤ L.length := by omega
  have key : ∀ {α : Type} {r r' : (Nat × Int) × α}, Cut k r r' → r.1 = (L.length, 0) → r'.1.2 = 7 := fun hc hr => by
    rcases hc with ⟨-, hle⟩ | h
    · rw [hr] at hle
      exact absurd hle (by show ¬ L.length ≤ k; omega)
    · exact h
  have h0 : ((0, 0) : Nat × Int).1 ≤ k := Nat.zero_le _
  rcases tk_cut hk' h0 1 with ⟨h, hle⟩ | h
  · have hX : decX (L.take k) = decX L := by unfold decX; rw [h]
    unfold decP at hp ⊢
    rw [hX]
    by_cases h1 : decX L = 1
    · rw [if_pos h1] at hp ⊢
      exact key (bB_cut hk' h hle) hp
    by_cases h2 : decX L = 2
    · rw [if_neg h1, if_pos h2] at hp ⊢
      exact key (decE_cut hk' h hle) hp
    by_cases h3 : decX L = 3
    · rw [if_neg h1, if_neg h2, if_pos h3] at hp ⊢
      exact key (cS_cut hk' h hle) hp
    rw [if_neg h1, if_neg h2, if_neg h3] at hp ⊢
    exact key (tk_cut hk' h0 1) hp
  · have hX : decX (L.take k) = 0 := by unfold decX; rw [tk_seven h]; rfl
    unfold decP
    rw [hX, if_neg (by omega), if_neg (by omega), if_neg (by omega)]
    exact h
end Go.Proofs.Ytnaoaeapffgojaa
