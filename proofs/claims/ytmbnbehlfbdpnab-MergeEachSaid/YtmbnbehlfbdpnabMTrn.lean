/- Ours and theirs changed about: lists. No function of the program is walked here. -/
import Derived.Test.YtmbnbehlfbdpnabMFwC
namespace Go.Proofs.Ytmbnbehlfbdpnab
open Go.RowKit

theorem less_trans : ∀ (a b c : List UInt8), Op.bytesLess a b = true → Op.bytesLess b c = true → Op.bytesLess a c = true
  | a, [], _, h1, _ => by cases a <;> simp [Op.bytesLess] at h1
  | [], _ :: _, [], _, h2 => by simp [Op.bytesLess] at h2
  | [], _ :: _, _ :: _, _, _ => by simp [Op.bytesLess]
  | _ :: _, _ :: _, [], _, h2 => by simp [Op.bytesLess] at h2
  | a :: x, b :: y, c :: z, h1, h2 => by
    have ih := less_trans x y z
    unfold Op.bytesLess at h1 h2 ⊢
    simp only [Bool.or_eq_true, decide_eq_true_eq, Bool.and_eq_true, beq_iff_eq, UInt8.lt_iff_toNat_lt] at h1 h2 ⊢
    rcases h1 with h1 | ⟨rfl, h1⟩ <;> rcases h2 with h2 | ⟨rfl, h2⟩
    · exact .inl (by omega)
    · exact .inl h1
    · exact .inl h2
    · exact .inr ⟨rfl, ih h1 h2⟩
theorem less_of_not : ∀ (a b : List UInt8), Op.bytesLess a b = false → a ≠ b → Op.bytesLess b a = true
  | [], [], _, h => absurd rfl h
  | [], _ :: _, h, _ => by simp [Op.bytesLess] at h
  | _ :: _, [], _, _ => by simp [Op.bytesLess]
  | a :: x, b :: y, h, hn => by
    have ih := less_of_not x y
    unfold Op.bytesLess at h ⊢
    simp only [Bool.or_eq_false_iff, decide_eq_false_iff_not, Bool.and_eq_false_iff, beq_eq_false_iff_ne, UInt8.lt_iff_toNat_lt] at h
    simp only [Bool.or_eq_true, decide_eq_true_eq, Bool.and_eq_true, beq_iff_eq, UInt8.lt_iff_toNat_lt]
    by_cases e : a = b
    · subst e
      refine .inr ⟨rfl, ih ?_ fun e => hn (by rw [e])⟩
      exact h.2.resolve_left (fun h => h rfl)
    · exact .inl (by have : a.toNat ≠ b.toNat := fun h => e (UInt8.toNat_inj.1 h); omega)
theorem less_irrefl : ∀ (a : List UInt8), Op.bytesLess a a = false
  | [] => rfl
  | a :: x => by
    unfold Op.bytesLess
    simp [less_irrefl x]


theorem less_asym {a b : List UInt8} (h : Op.bytesLess a b = true) : Op.bytesLess b a = false := by
  cases h2 : Op.bytesLess b a with
  | false => rfl
  | true =>
    have := less_trans _ _ _ h h2
    rw [less_irrefl] at this
    cases this
theorem less_same {a b : ByteArray} (h1 : Op.bytesLess a.toList b.toList = false) (h2 : Op.bytesLess b.toList a.toList = false) : a = b := by
  by_cases h : a.toList = b.toList
  · exact toList_inj h
  · have := less_of_not _ _ h1 h
    rw [h2] at this
    cases this
theorem leastS_two (p q : ByteArray) : (if Op.bytesLess q.toList p.toList then (⟨q, true⟩ : May) else ⟨p, true⟩) = (if Op.bytesLess p.toList q.toList then (⟨p, true⟩ : May) else ⟨q, true⟩) := by
  cases h1 : Op.bytesLess q.toList p.toList with
  | true => rw [less_asym h1]; rfl
  | false =>
    cases h2 : Op.bytesLess p.toList q.toList with
    | true => rfl
    | false => rw [less_same h1 h2]
theorem leastS_comm (m : May) (b c : List Fi) : leastS (leastS m b) c = leastS (leastS m c) b := by
  cases b with
  | nil => rfl
  | cons f r =>
    cases c with
    | nil => rfl
    | cons g t =>
      obtain ⟨v, th⟩ := m
      cases th with
      | false =>
        simp only [leastS, Bool.not_false, Bool.true_or, if_true, Bool.not_true, Bool.false_or]
        exact leastS_two f.path g.path
      | true =>
        cases h1 : Op.bytesLess f.path.toList v.toList with
        | true =>
          cases h2 : Op.bytesLess g.path.toList v.toList with
          | true =>
            simp only [leastS, h1, h2, if_true, Bool.not_true, Bool.false_or]
            exact leastS_two f.path g.path
          | false =>
            have h3 : Op.bytesLess g.path.toList f.path.toList = false := by
              cases h : Op.bytesLess g.path.toList f.path.toList with
              | false => rfl
              | true =>
                have := less_trans _ _ _ h h1
                rw [h2] at this
                cases this
            simp [leastS, h1, h2, h3]
        | false =>
          cases h2 : Op.bytesLess g.path.toList v.toList with
          | true =>
            have h3 : Op.bytesLess f.path.toList g.path.toList = false := by
              cases h : Op.bytesLess f.path.toList g.path.toList with
              | false => rfl
              | true =>
                have := less_trans _ _ _ h h2
                rw [h1] at this
                cases this
            simp [leastS, h1, h2, h3]
          | false => simp [leastS, h1, h2]
theorem leastR_comm (a b c : List Fi) : leastR a c b = leastR a b c := leastS_comm _ c b
def swap3 (s : St3) : St3 := ⟨s.b, s.t, s.o⟩
def swapP (p : Ps) : Ps := (p.1, swap3 p.2)
def swapC (c : Cl) : Cl := ⟨c.path, swap3 c.s⟩
theorem pathsL_swap : ∀ (n : Nat) (a b c : List Fi), pathsL n a c b = (pathsL n a b c).map swapP
  | 0, _, _, _ => rfl
  | n + 1, a, b, c => by
    simp only [pathsL, leastR_comm a b c]
    cases (leastR a b c).there with
    | false => rfl
    | true =>
      simp only [if_true, List.map_cons]
      rw [pathsL_swap n]
      rfl
theorem pathsA_swap (a b c : List Fi) : pathsA a c b = (pathsA a b c).map swapP := by
  unfold pathsA
  rw [show len3 a c b = len3 a b c by unfold len3; omega]
  exact pathsL_swap _ a b c
theorem mayEq_comm (a b : May) : mayEq a b = mayEq b a := by
  by_cases h : a = b
  · subst h; rfl
  · cases h1 : mayEq a b with
    | true => exact absurd (mayEq_iff.1 h1) h
    | false =>
      cases h2 : mayEq b a with
      | true => exact absurd (mayEq_iff.1 h2).symm h
      | false => rfl
theorem merged_swap (s : St3) : mergedR (swap3 s) = mergedR s := by
  obtain ⟨b, o, t⟩ := s
  show mergedR ⟨b, t, o⟩ = mergedR ⟨b, o, t⟩
  unfold mergedR
  dsimp only
  cases h1 : mayEq o b with
  | true =>
    cases h2 : mayEq t b with
    | true =>
      have e1 := mayEq_iff.1 h1
      have e2 := mayEq_iff.1 h2
      subst e1
      subst e2
      rfl
    | false => simp
  | false =>
    cases h2 : mayEq t b with
    | true => simp
    | false =>
      rw [mayEq_comm o t]
      cases h3 : mayEq t o with
      | true =>
        have e3 := mayEq_iff.1 h3
        subst e3
        simp
      | false => simp
theorem joinF_swap (ps : List Ps) : joinF (ps.map swapP) = joinF ps := by
  unfold joinF
  rw [List.flatMap_map]
  refine flat_congr fun p _ => ?_
  show fileOf (p.1, swap3 p.2) = fileOf p
  unfold fileOf
  dsimp only
  rw [merged_swap]
theorem joinC_swap (ps : List Ps) : joinC (ps.map swapP) = (joinC ps).map swapC := by
  unfold joinC
  rw [List.flatMap_map, List.map_flatMap]
  refine flat_congr fun p _ => ?_
  show clashOf (p.1, swap3 p.2) = (clashOf p).map swapC
  unfold clashOf
  dsimp only
  rw [merged_swap]
  split <;> rfl
theorem right3_swap (a b c : List Fi) : right3 a c b = right3 a b c := by
  unfold right3
  rw [Bool.and_comm (repoB c)]
/-- Merge, as lists. -/
def mergeR (a b c : List Fi) : List Fi × List Cl × Int :=
  if right3 a b c then (if joinC (pathsA a b c) = [] then (if repoB (joinF (pathsA a b c)) then (joinF (pathsA a b c), [], 0) else ([], [], 6)) else ([], joinC (pathsA a b c), 0)) else ([], [], 170)
theorem mergeR_swap (a b c : List Fi) : mergeR a c b = ((mergeR a b c).1, (mergeR a b c).2.1.map swapC, (mergeR a b c).2.2) := by
  unfold mergeR
  rw [right3_swap, pathsA_swap, joinF_swap, joinC_swap]
  by_cases h1 : right3 a b c = true
  · rw [if_pos h1, if_pos h1]
    by_cases h2 : joinC (pathsA a b c) = []
    · rw [if_pos (by rw [h2]; rfl), if_pos h2]
      split <;> rfl
    · rw [if_neg (by simpa using h2), if_neg h2]
  · rw [if_neg h1, if_neg h1]
    rfl
theorem merge_out {w : World} {x y z : Sl} {e : Ending} {w' : World} (h : MergeP w x y z e w') : (∃ (sf sc : Option Addr) (df dc : Nat), e = .returned (.tuple #[.agg #[.slice sf (mergeR x.fs y.fs z.fs).1.length df], .slice sc (mergeR x.fs y.fs z.fs).2.1.length dc, .int .i64 (mergeR x.fs y.fs z.fs).2.2]) ∧ RowsAt w' 2 Fi.cells sf (mergeR x.fs y.fs z.fs).1 ∧ RowsAt w' 7 Cl.cells sc (mergeR x.fs y.fs z.fs).2.1) ∧ Below w.heap.size w w' := by
  refine ⟨?_, h.2⟩
  have h1 := h.1
  unfold mergeR
  by_cases c1 : right3 x.fs y.fs z.fs = true
  · rw [if_pos c1] at h1 ⊢
    by_cases c2 : joinC (pathsA x.fs y.fs z.fs) = []
    · rw [if_pos c2] at h1 ⊢
      by_cases c3 : repoB (joinF (pathsA x.fs y.fs z.fs)) = true
      · rw [if_pos c3] at h1 ⊢
        obtain ⟨vf, rfl, ho⟩ := h1
        obtain ⟨sf, df, rfl, hr, -⟩ := ho.rows
        exact ⟨sf, none, df, 0, rfl, hr, RowsAt.none⟩
      · rw [if_neg c3] at h1 ⊢
        exact ⟨none, none, 0, 0, h1, RowsAt.none, RowsAt.none⟩
    · rw [if_neg c2] at h1 ⊢
      obtain ⟨vc, rfl, ho⟩ := h1
      obtain ⟨sc, dc, rfl, hr, -⟩ := ho.rows
      exact ⟨none, sc, 0, dc, rfl, RowsAt.none, hr⟩
  · rw [if_neg c1] at h1 ⊢
    exact ⟨none, none, 0, 0, h1, RowsAt.none, RowsAt.none⟩
theorem right3_len {a b c : List Fi} (h : right3 a b c = true) : len3 a b c ≤ 48 := by
  unfold right3 repoB at h
  simp only [Bool.and_eq_true, decide_eq_true_eq] at h
  unfold len3
  omega
theorem mergeR_len (a b c : List Fi) : (mergeR a b c).1.length ≤ 48 ∧ (mergeR a b c).2.1.length ≤ 48 := by
  have h1 := joinF_len (pathsA a b c)
  have h2 := joinC_len (pathsA a b c)
  have h3 := pathsA_len a b c
  unfold mergeR
  by_cases c1 : right3 a b c = true
  · have h4 := right3_len c1
    rw [if_pos c1]
    split
    · split
      · exact ⟨by dsimp only; omega, by simp⟩
      · simp
    · exact ⟨by simp, by dsimp only; omega⟩
  · rw [if_neg c1]
    simp
end Go.Proofs.Ytmbnbehlfbdpnab
