/- Tokens that were printed are lexed as they were. Lists alone: no function of the program is walked here. -/
import Derived.Test.YtcbpnmdphmdemaaLxPr
namespace Go.Proofs.Ytcbpnmdphmdemaa
open Go.RowKit

/-- What may come behind a token that was printed. -/
def SepB (R : List UInt8) : Prop := R = [] ∨ ∃ c r, R = c :: r ∧ (c.toNat = 32 ∨ c.toNat = 10)
theorem run_sep {p : UInt8 → Bool} {R : List UInt8} (hp : ∀ c : UInt8, c.toNat = 32 ∨ c.toNat = 10 → p c = false) (hR : SepB R) : ∀ L : List UInt8, runN p L = L.length → runN p (L ++ R) = L.length
  | [], _ => by
    rcases hR with rfl | ⟨c, r, rfl, hc⟩
    · rfl
    · rw [List.nil_append, runN_cons, hp c hc]
      rfl
  | a :: L, h => by
    rw [runN_cons, List.length_cons] at h
    rw [List.cons_append, runN_cons, List.length_cons]
    cases ha : p a with
    | false => rw [ha] at h; simp at h
    | true =>
      rw [ha] at h
      simp only [if_true] at h ⊢
      rw [run_sep hp hR L (by omega)]
theorem run_sep0 {p : UInt8 → Bool} {R : List UInt8} (hp : ∀ c : UInt8, c.toNat = 32 ∨ c.toNat = 10 → p c = false) (hR : SepB R) : runN p R = 0 := run_sep hp hR [] rfl
theorem unqA_app (R : List UInt8) : ∀ (m : Nat) (L acc : List UInt8) (i : Nat) (v : List UInt8 × Nat), L.length ≤ m → unqA acc i L = some v → unqA acc i (L ++ R) = some v := by
  intro m
  induction m with
  | zero =>
    intro L acc i v hm h
    have : L = [] := List.eq_nil_of_length_eq_zero (by omega)
    subst this
    rw [unqA] at h
    cases h
  | succ m ih =>
    intro L acc i v hm h
    cases L with
    | nil => rw [unqA] at h; cases h
    | cons c r =>
      rw [List.length_cons] at hm
      rw [unqA_cons] at h
      rw [List.cons_append, unqA_cons]
      by_cases h1 : c.toNat = 34
      · rw [if_pos h1] at h ⊢
        exact h
      · rw [if_neg h1] at h ⊢
        by_cases h2 : c.toNat = 92
        · rw [if_pos h2] at h ⊢
          cases r with
          | nil => cases h
          | cons d r' =>
            rw [List.length_cons] at hm
            simp only [List.cons_append]
            cases hp : pairU d with
            | none => simp only [hp] at h; cases h
            | some x =>
              simp only [hp] at h ⊢
              exact ih r' _ _ _ (by omega) h
        · rw [if_neg h2] at h ⊢
          cases hp : plnB c.toNat with
          | false => rw [hp] at h; simp at h
          | true =>
            rw [hp] at h
            simp only [if_true] at h ⊢
            exact ih r _ _ _ (by omega) h
theorem sepC (c : UInt8) (h : c.toNat = 32 ∨ c.toNat = 10) : clsI c.toNat = 1 ∨ clsI c.toNat = 2 := by
  rcases h with h | h
  · rw [h]; exact .inl rfl
  · rw [h]; exact .inr rfl
theorem sep34 (c : UInt8) (h : c.toNat = 32 ∨ c.toNat = 10) : inC [3, 4] c = false ∧ inC [4] c = false ∧ inC [3] c = false := by
  unfold inC
  rcases sepC c h with h | h <;> rw [h] <;> exact ⟨rfl, rfl, rfl⟩
/-- A token that fills a text stands so ahead of what may come behind it. -/
theorem look_app {L R : List UInt8} {k : Int} (h : lookR L false = (k, L.length, 0)) (hk : k ≠ 0) (hL : L ≠ []) (hR : SepB R) (en : Bool) : lookR (L ++ R) en = (k, L.length, 0) := by
  cases L with
  | nil => exact absurd rfl hL
  | cons c r =>
    rw [List.cons_append]
    unfold lookR at h ⊢
    simp only at h ⊢
    by_cases c2 : clsI c.toNat = 2
    · rw [if_pos c2] at h
      simp at h
      exact absurd h.1.symm hk
    rw [if_neg c2] at h ⊢
    by_cases c1 : clsI c.toNat = 1
    · rw [if_pos c1] at h
      simp at h
      exact absurd h.1.symm hk
    rw [if_neg c1] at h ⊢
    by_cases c6 : clsI c.toNat = 6
    · rw [if_pos c6] at h ⊢
      exact h
    rw [if_neg c6] at h ⊢
    by_cases c3 : clsI c.toNat = 3
    · rw [if_pos c3] at h ⊢
      injection h with h1 h
      rw [← h1]
      congr 1
      unfold wordR at h ⊢
      by_cases hw : runN (inC [3, 4]) (c :: r) > 24
      · rw [if_pos hw] at h; injection h with _ h; cases h
      · rw [if_neg hw] at h
        injection h with h _
        have := run_sep (fun c hc => (sep34 c hc).1) hR (c :: r) h
        rw [List.cons_append] at this
        rw [this, if_neg (by omega)]
    rw [if_neg c3] at h ⊢
    by_cases c4 : clsI c.toNat = 4
    · rw [if_pos c4] at h ⊢
      injection h with h1 h
      rw [← h1]
      congr 1
      unfold numR at h ⊢
      split at h
      · injection h with _ h; cases h
      · rename_i hn
        injection h with h _
        have e1 := run_sep (fun c hc => (sep34 c hc).2.1) hR (c :: r) h
        rw [List.cons_append] at e1
        rw [h] at hn
        rw [e1]
        have e2 : (c :: (r ++ R)).take (c :: r).length = c :: r := by rw [← List.cons_append]; exact List.take_left
        have e3 : (c :: (r ++ R)).drop (c :: r).length = R := by rw [← List.cons_append]; exact List.drop_left
        rw [e2, e3, run_sep0 (fun c hc => (sep34 c hc).2.2) hR]
        rw [List.take_length] at hn
        rw [if_neg (fun hh => hn (hh.elim .inl (fun hh => absurd hh (by omega))))]
    rw [if_neg c4] at h ⊢
    by_cases c5 : clsI c.toNat = 5
    · rw [if_pos c5] at h ⊢
      injection h with h1 h
      rw [← h1]
      congr 1
      unfold quoR unqO at h ⊢
      by_cases h34 : c.toNat = 34
      · simp only [h34, if_true] at h ⊢
        cases hu : unqA [] 1 r with
        | none => rw [hu] at h; injection h with _ h; cases h
        | some v =>
          rw [hu] at h
          rw [unqA_app R _ r [] 1 v (Nat.le_refl _) hu]
          exact h
      · simp only [h34, if_false] at h
        injection h with _ h
        cases h
    rw [if_neg c5] at h ⊢
    by_cases cp : Lib.hasPrefix (c :: r) [47, 47] = true
    · rw [if_pos cp] at h
      simp at h
      exact absurd h.1.symm hk
    rw [if_neg cp] at h
    have cp' : ¬ Lib.hasPrefix (c :: (r ++ R)) [47, 47] = true := by
      intro hh
      apply cp
      unfold Lib.hasPrefix at hh ⊢
      cases r with
      | cons d r' => simpa [List.isPrefixOf] using hh
      | nil =>
        rcases hR with rfl | ⟨d, R', rfl, hd⟩
        · exact hh
        · exfalso
          simp [List.isPrefixOf] at hh
          obtain ⟨-, rfl⟩ := hh
          exact absurd hd (by decide)
    rw [if_neg cp']
    injection h with h1 h
    rw [← h1]
    congr 1
    unfold sigR at h ⊢
    by_cases s2 : sig2 ((c :: r).take 2) = true
    · rw [if_pos s2] at h
      injection h with h _
      cases r with
      | nil => simp at h
      | cons d r' =>
        cases r' with
        | cons => simp at h
        | nil =>
          have e : (c :: ([d] ++ R)).take 2 = (c :: [d]).take 2 := rfl
          rw [e, if_pos s2]
          rfl
    · rw [if_neg s2] at h
      simp only at h ⊢
      split at h
      · rename_i s1
        injection h with h _
        have hr : r = [] := by
          cases r with
          | nil => rfl
          | cons => simp at h
        subst hr
        have s2' : ¬ sig2 ((c :: ([] ++ R)).take 2) = true := by
          rcases hR with rfl | ⟨d, R', rfl, hd⟩
          · exact s2
          · intro hh
            rw [List.nil_append] at hh
            simp only [List.take, sig2, Bool.or_eq_true, beq_iff_eq, List.cons.injEq, and_true] at hh
            have hd' : d = 61 ∨ d = 38 ∨ d = 124 := by
              rcases hh with (((((⟨-, h⟩ | ⟨-, h⟩) | ⟨-, h⟩) | ⟨-, h⟩) | ⟨-, h⟩) | ⟨-, h⟩) | ⟨-, h⟩
              all_goals simp [h]
            rcases hd' with rfl | rfl | rfl <;> exact absurd hd (by decide)
        rw [if_neg s2', if_pos s1]
        rfl
      · injection h with _ h; cases h
end Go.Proofs.Ytcbpnmdphmdemaa
