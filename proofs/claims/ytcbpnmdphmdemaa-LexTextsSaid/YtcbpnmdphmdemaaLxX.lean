/- What was quoted says what it was, and is one token; the law LexQuotes answers true. -/
import Derived.Test.YtcbpnmdphmdemaaLxV
import Derived.Test.YtcbpnmdphmdemaaLxW
namespace Go.Proofs.Ytcbpnmdphmdemaa
open Go.RowKit

theorem extract_strX (s : ByteArray) (k : Nat) : s.extract 0 k = strU (s.data.toList.take k) := by
  have h : (s.extract 0 k).data.toList = s.data.toList.take k := by
    rw [ByteArray.data_extract, Array.toList_extract]
    simp
  rw [← h, strU_of]
theorem cut_strX (s : ByteArray) (m : Nat) : s.extract 0 (min (s.size : Int) m).toNat = strU (s.data.toList.take m) := by
  rw [extract_strX]
  congr 1
  by_cases h : s.size ≤ m
  · rw [show (min (s.size : Int) m).toNat = s.size by omega, List.take_of_length_le (by simp), List.take_of_length_le (by simpa using h)]
  · rw [show (min (s.size : Int) m).toNat = m by omega]
theorem strV_some (x : List UInt8) (e : Int) : strV (some x) e = .tuple #[.string (strU x), .int .i64 0] := rfl
theorem pair_quo {c : UInt8} (h : c.toNat = 34 ∨ c.toNat = 92) : pairU c = some c := by unfold pairU; rw [if_pos h]
/-- What quoting makes is unquoted to what it was. -/
theorem quo_back : ∀ (L acc Q : List UInt8), quoG acc L = some Q → ∃ E : List UInt8, Q = acc ++ E ++ [34] ∧ E.length ≤ 2 * L.length ∧ ∀ (a : List UInt8) (i : Nat), unqA a i (E ++ [34]) = some (a ++ L, i + E.length + 1) := by
  intro L
  induction L with
  | nil =>
    intro acc Q h
    simp only [quoG, Option.some.injEq] at h
    refine ⟨[], by rw [List.append_nil]; exact h.symm, by simp, fun a i => ?_⟩
    rw [List.nil_append, unqA_cons, if_pos (by decide), List.append_nil]
    rfl
  | cons c r ih =>
    intro acc Q h
    rw [quoG] at h
    cases hq : quoB c with
    | none => rw [hq] at h; cases h
    | some x =>
      rw [hq] at h
      obtain ⟨E, hE, hl, hu⟩ := ih (acc ++ x) Q h
      refine ⟨x ++ E, by rw [hE]; simp, ?_, fun a i => ?_⟩
      · have : x.length ≤ 2 := by
          unfold quoB at hq
          repeat' split at hq
          all_goals first | (injection hq with hq; subst hq; simp) | cases hq
        rw [List.length_append, List.length_cons]
        omega
      · unfold quoB at hq
        by_cases h1 : c.toNat = 34 ∨ c.toNat = 92
        · rw [if_pos h1] at hq
          injection hq with hq
          subst hq
          show unqA a i (92 :: c :: (E ++ [34])) = _
          rw [unqA_cons, if_neg (by decide), if_pos (by decide)]
          simp only [pair_quo h1]
          rw [hu]
          simp
          omega
        · rw [if_neg h1] at hq
          by_cases h2 : c.toNat = 10
          · rw [if_pos h2] at hq
            injection hq with hq
            subst hq
            have hc : c = 10 := UInt8.toNat.inj h2
            show unqA a i (92 :: 110 :: (E ++ [34])) = _
            rw [unqA_cons, if_neg (by decide), if_pos (by decide)]
            have hp : pairU 110 = some 10 := by decide
            simp only [hp]
            rw [hu, hc]
            simp
            omega
          · rw [if_neg h2] at hq
            by_cases h3 : plnB c.toNat = true
            · rw [if_pos h3] at hq
              injection hq with hq
              subst hq
              show unqA a i (c :: (E ++ [34])) = _
              rw [unqA_cons, if_neg (by omega), if_neg (by omega), if_pos h3, hu]
              simp
              omega
            · rw [if_neg h3] at hq
              cases hq
theorem quo_unq {L Q : List UInt8} (h : quoO L = some Q) : unqO Q = some (L, Q.length) ∧ Q.length ≤ 2 * L.length + 2 ∧ Q.head? = some 34 := by
  obtain ⟨E, hE, hl, hu⟩ := quo_back L [34] Q h
  have e : Q = 34 :: (E ++ [34]) := by rw [hE]; simp
  refine ⟨?_, by rw [e]; simp; omega, by rw [e]; rfl⟩
  rw [e]
  show (if (34 : UInt8).toNat = 34 then unqA [] 1 (E ++ [34]) else none) = _
  rw [if_pos (by decide), hu]
  simp
  omega
theorem quo_lex {L Q : List UInt8} (h : quoO L = some Q) (hn : Q.length ≤ 4096) : lexO Q = ([⟨3, strU Q, 0⟩, ⟨5, strU [], Q.length⟩], 0, 0) := by
  obtain ⟨h1, h2, h3⟩ := quo_unq h
  have hsz := unqO_size h1
  cases Q with
  | nil => cases h3
  | cons c r =>
    have hc : c = 34 := by simpa using h3
    subst hc
    have hk : clsI ((34 : UInt8).toNat : Int) = 5 := by decide
    have hl1 : lookR ((34 :: r).drop 0) (clo (lastT [])) = (3, (34 :: r).length, 0) := by
      rw [List.drop_zero]
      unfold lookR
      simp only [hk]
      show (3, quoR (34 :: r)) = _
      unfold quoR
      rw [h1]
    unfold lexO
    rw [if_neg (by omega)]
    have hf : 2 * (34 :: r).length + 1 = ((2 * (34 :: r).length - 2) + 1) + 1 + 1 := by omega
    rw [hf, lexG_tok (.inl (by omega)) hl1 (by decide) (by decide)]
    have e1 : ((34 :: r).drop 0).take (34 :: r).length = 34 :: r := by rw [List.drop_zero, List.take_length]
    rw [e1, Nat.zero_add, List.nil_append]
    have hc3 : clo (lastT [⟨3, strU (34 :: r), ((0 : Nat) : Int)⟩]) = true := rfl
    have hl2 : lookR ((34 :: r).drop (34 :: r).length) (clo (lastT [⟨3, strU (34 :: r), ((0 : Nat) : Int)⟩])) = (5, 0, 0) := by
      rw [List.drop_length]
      rfl
    rw [lexG_tok (.inr hc3) hl2 (by decide) (by simp)]
    rw [Nat.add_zero, lexG_end (by omega) rfl]
    simp
end Go.Proofs.Ytcbpnmdphmdemaa
