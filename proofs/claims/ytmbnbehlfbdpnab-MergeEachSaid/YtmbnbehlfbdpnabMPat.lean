/- The contract of merge's paths: the paths of three repositories, with what stands there. -/
import Derived.RangeFuncNested
import Derived.RangeFuncCalls
import Derived.RangeFuncLeaves
import Derived.Shelf.Abstract
import Derived.Shelf.RegionOpen
import Derived.OwnWalkIn
import Derived.TacticsInMore
import Derived.LoopNIn
import Derived.LoopIn
import Derived.Test.YtmbnbehlfbdpnabMTak
import Derived.Test.YtmbnbehlfbdpnabMRng
namespace Go.Proofs.Ytmbnbehlfbdpnab
open Go.RowKit Go.Shelf
attribute [local go_sem] Oper.semAt_some

/-- A path, with what stands there in the three. -/
abbrev Ps : Type := ByteArray × St3
def stand (p : ByteArray) (a b c : List Fi) : St3 := ⟨takeM p a, takeM p b, takeM p c⟩
def pathsL : Nat → List Fi → List Fi → List Fi → List Ps
  | 0, _, _, _ => []
  | n + 1, a, b, c => if (leastR a b c).there then ((leastR a b c).value, stand (leastR a b c).value a b c) :: pathsL n (takeL (leastR a b c).value a) (takeL (leastR a b c).value b) (takeL (leastR a b c).value c) else []
def len3 (a b c : List Fi) : Nat := a.length + b.length + c.length
theorem takeL_le (p : ByteArray) (l : List Fi) : (takeL p l).length ≤ l.length := by
  cases l with
  | nil => exact Nat.le_refl _
  | cons f r =>
    simp only [takeL]
    split <;> simp
theorem takeL_lt {p : ByteArray} {f : Fi} {r : List Fi} (h : f.path = p) : (takeL p (f :: r)).length < (f :: r).length := by
  subst h
  simp [takeL]
/-- The least path is the first one of some list. -/
theorem leastS_from (m : May) (l : List Fi) : leastS m l = m ∨ ∃ f r, l = f :: r ∧ leastS m l = ⟨f.path, true⟩ := by
  cases l with
  | nil => exact .inl rfl
  | cons f r =>
    simp only [leastS]
    split
    · exact .inr ⟨f, r, rfl, rfl⟩
    · exact .inl rfl
theorem least_from {a b c : List Fi} (h : (leastR a b c).there = true) : (∃ f r, a = f :: r ∧ f.path = (leastR a b c).value) ∨ (∃ f r, b = f :: r ∧ f.path = (leastR a b c).value) ∨ (∃ f r, c = f :: r ∧ f.path = (leastR a b c).value) := by
  have e : leastR a b c = leastS (leastS (leastS no a) b) c := rfl
  rcases leastS_from (leastS (leastS no a) b) c with h3 | ⟨f, r, rfl, h3⟩
  · rcases leastS_from (leastS no a) b with h2 | ⟨f, r, rfl, h2⟩
    · rcases leastS_from no a with h1 | ⟨f, r, rfl, h1⟩
      · rw [e, h3, h2, h1] at h
        cases h
      · exact .inl ⟨f, r, rfl, by rw [e, h3, h2, h1]⟩
    · exact .inr (.inl ⟨f, r, rfl, by rw [e, h3, h2]⟩)
  · exact .inr (.inr ⟨f, r, rfl, by rw [e, h3]⟩)
theorem take_less {a b c : List Fi} (h : (leastR a b c).there = true) : len3 (takeL (leastR a b c).value a) (takeL (leastR a b c).value b) (takeL (leastR a b c).value c) < len3 a b c := by
  have ha := takeL_le (leastR a b c).value a
  have hb := takeL_le (leastR a b c).value b
  have hc := takeL_le (leastR a b c).value c
  unfold len3
  rcases least_from h with ⟨f, r, e, hp⟩ | ⟨f, r, e, hp⟩ | ⟨f, r, e, hp⟩
  · have : (takeL (leastR a b c).value a).length < a.length := by
      generalize leastR a b c = m at hp
      subst e
      exact takeL_lt hp
    omega
  · have : (takeL (leastR a b c).value b).length < b.length := by
      generalize leastR a b c = m at hp
      subst e
      exact takeL_lt hp
    omega
  · have : (takeL (leastR a b c).value c).length < c.length := by
      generalize leastR a b c = m at hp
      subst e
      exact takeL_lt hp
    omega
/-- All paths. -/
def pathsA (a b c : List Fi) : List Ps := pathsL (len3 a b c) a b c
theorem pathsL_two : ∀ (n m : Nat) (a b c : List Fi), len3 a b c ≤ n → len3 a b c ≤ m → pathsL n a b c = pathsL m a b c := by
  intro n
  induction n with
  | zero =>
    intro m a b c hn hm
    have hf : (leastR a b c).there = false := by
      cases ht : (leastR a b c).there with
      | false => rfl
      | true => have := take_less ht; omega
    cases m with
    | zero => rfl
    | succ m => simp [pathsL, hf]
  | succ n ih =>
    intro m a b c hn hm
    cases ht : (leastR a b c).there with
    | false =>
      cases m with
      | zero => simp [pathsL, ht]
      | succ m => simp [pathsL, ht]
    | true =>
      have hl := take_less ht
      cases m with
      | zero => omega
      | succ m =>
        simp only [pathsL, ht, if_true]
        rw [ih m _ _ _ (by omega) (by omega)]
theorem pathsL_more (n : Nat) (a b c : List Fi) (h : len3 a b c ≤ n) : pathsL n a b c = pathsA a b c := pathsL_two n _ a b c h (Nat.le_refl _)
theorem pathsA_step {a b c : List Fi} (h : (leastR a b c).there = true) : pathsA a b c = ((leastR a b c).value, stand (leastR a b c).value a b c) :: pathsA (takeL (leastR a b c).value a) (takeL (leastR a b c).value b) (takeL (leastR a b c).value c) := by
  have hl := take_less h
  obtain ⟨k, hk⟩ : ∃ k, len3 a b c = k + 1 := ⟨len3 a b c - 1, by omega⟩
  rw [pathsA, hk]
  simp only [pathsL, h, if_true]
  rw [pathsL_more k _ _ _ (by omega)]
theorem pathsA_end {a b c : List Fi} (h : (leastR a b c).there = false) : pathsA a b c = [] := by
  unfold pathsA
  cases len3 a b c with
  | zero => rfl
  | succ k => simp only [pathsL, h]; rfl
theorem pathsA_len (a b c : List Fi) : (pathsA a b c).length ≤ len3 a b c := by
  have : ∀ (n : Nat) (a b c : List Fi), (pathsL n a b c).length ≤ n := fun n => by
    induction n with
    | zero => intro a b c; exact Nat.le_refl _
    | succ n ih =>
      intro a b c
      simp only [pathsL]
      split
      · rw [List.length_cons]
        exact Nat.succ_le_succ (ih _ _ _)
      · simp
  exact this _ _ _ _
end Go.Proofs.Ytmbnbehlfbdpnab
