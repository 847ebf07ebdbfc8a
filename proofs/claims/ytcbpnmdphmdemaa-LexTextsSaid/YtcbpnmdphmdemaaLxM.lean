/- The tokens of a text, as lists: what Lex goes through. No function of the program is walked here. -/
import Derived.Test.YtcbpnmdphmdemaaLxTb
namespace Go.Proofs.Ytcbpnmdphmdemaa
open Go.RowKit

theorem runN_pos {p : UInt8 → Bool} {c : UInt8} {r : List UInt8} (h : p c = true) : 0 < runN p (c :: r) := by
  rw [runN_cons, h]
  simp
/-- What look tells without an error has a size, or is an end where a line ends. -/
theorem look_size {L : List UInt8} {en : Bool} {k : Int} {n : Nat} (h : lookR L en = (k, n, 0)) (hL : L = [] → en = true) : n ≤ L.length ∧ (0 < n ∨ (k = 5 ∧ n = 0 ∧ en = true)) := by
  cases L with
  | nil =>
    simp only [lookR, Prod.mk.injEq] at h
    obtain ⟨rfl, rfl, -⟩ := h
    exact ⟨Nat.zero_le _, .inr ⟨rfl, rfl, hL rfl⟩⟩
  | cons c r =>
    unfold lookR at h
    simp only at h
    rw [List.length_cons]
    split at h
    · split at h
      · rename_i hen
        simp only [Prod.mk.injEq] at h
        exact ⟨by omega, .inr ⟨by omega, by omega, hen⟩⟩
      · simp only [Prod.mk.injEq] at h
        omega
    · split at h
      · simp only [Prod.mk.injEq] at h
        omega
      · split at h
        · simp only [Prod.mk.injEq] at h
          omega
        · split at h
          · rename_i h3
            unfold wordR at h
            split at h
            · simp only [Prod.mk.injEq] at h
              omega
            · simp only [Prod.mk.injEq] at h
              have h1 := runN_le (inC [3, 4]) (c :: r)
              have h2 := runN_pos (p := inC [3, 4]) (c := c) (r := r) (by simp [inC, h3])
              rw [List.length_cons] at h1
              omega
          · split at h
            · rename_i h4
              unfold numR at h
              split at h
              · simp only [Prod.mk.injEq] at h
                omega
              · simp only [Prod.mk.injEq] at h
                have h1 := runN_le (inC [4]) (c :: r)
                have h2 := runN_pos (p := inC [4]) (c := c) (r := r) (by simp [inC, h4])
                rw [List.length_cons] at h1
                omega
            · split at h
              · unfold quoR at h
                split at h
                · simp only [Prod.mk.injEq] at h
                  omega
                · rename_i v m hq
                  simp only [Prod.mk.injEq] at h
                  have := unqO_size hq
                  rw [List.length_cons] at this
                  omega
              · split at h
                · rename_i hp
                  simp only [Prod.mk.injEq] at h
                  have hc : (c != 10) = true := by
                    have : c = 47 := by
                      simp [Lib.hasPrefix, List.isPrefixOf] at hp
                      exact hp.1.symm
                    rw [this]
                    decide
                  have h1 := runN_le (fun c => c != 10) (c :: r)
                  have h2 := runN_pos (p := fun c => c != 10) (c := c) (r := r) hc
                  rw [List.length_cons] at h1
                  have h3 : n = runN (fun c => c != 10) (c :: r) := h.2.1.symm
                  omega
                · unfold sigR at h
                  split at h
                  · rename_i hs
                    simp only [Prod.mk.injEq] at h
                    have : 0 < r.length := by
                      cases r with
                      | nil => simp [sig2] at hs
                      | cons => simp
                    omega
                  · simp only at h
                    split at h <;> (simp only [Prod.mk.injEq] at h; omega)
/-- The last token. -/
def lastT (ts : List Tok) : Tok := ts.getLast?.getD ⟨0, ⟨#[]⟩, 0⟩
theorem lastT_nil : lastT [] = ⟨0, ⟨#[]⟩, 0⟩ := rfl
theorem lastT_push (ts : List Tok) (t : Tok) : lastT (ts ++ [t]) = t := by simp [lastT]
/-- Tokens, an error, its place: from place p on, behind the tokens ts. -/
def lexG (L : List UInt8) : Nat → Nat → List Tok → List Tok × Int × Nat
  | 0, _, ts => (ts, 0, 0)
  | f + 1, p, ts =>
    if p < L.length ∨ clo (lastT ts) = true then
      if (lookR (L.drop p) (clo (lastT ts))).2.2 ≠ 0 then ([], (lookR (L.drop p) (clo (lastT ts))).2.2, p)
      else if (lookR (L.drop p) (clo (lastT ts))).1 = 0 then lexG L f (p + (lookR (L.drop p) (clo (lastT ts))).2.1) ts
      else if ts.length = 1024 then ([], 3, p)
      else lexG L f (p + (lookR (L.drop p) (clo (lastT ts))).2.1) (ts ++ [⟨(lookR (L.drop p) (clo (lastT ts))).1, strU ((L.drop p).take (lookR (L.drop p) (clo (lastT ts))).2.1), p⟩])
    else (ts, 0, 0)
/-- How much is left. -/
def lexMu (L : List UInt8) (p : Nat) (ts : List Tok) : Nat := 2 * (L.length - p) + (if clo (lastT ts) = true then 1 else 0)
/-- The tokens of a text, its error and its place. -/
def lexO (L : List UInt8) : List Tok × Int × Nat := if 4096 < L.length then ([], 3, 0) else lexG L (2 * L.length + 1) 0 []
theorem lexG_end {L : List UInt8} {f p : Nat} {ts : List Tok} (h1 : ¬ p < L.length) (h2 : clo (lastT ts) = false) : lexG L (f + 1) p ts = (ts, 0, 0) := by
  rw [lexG, if_neg (by rw [h2]; simp; omega)]
theorem lexG_err {L : List UInt8} {f p : Nat} {ts : List Tok} {k : Int} {n : Nat} {e : Int} (h1 : p < L.length ∨ clo (lastT ts) = true) (h2 : lookR (L.drop p) (clo (lastT ts)) = (k, n, e)) (he : e ≠ 0) : lexG L (f + 1) p ts = ([], e, p) := by
  rw [lexG, if_pos h1, h2, if_pos he]
theorem lexG_gap {L : List UInt8} {f p : Nat} {ts : List Tok} {n : Nat} (h1 : p < L.length ∨ clo (lastT ts) = true) (h2 : lookR (L.drop p) (clo (lastT ts)) = (0, n, 0)) : lexG L (f + 1) p ts = lexG L f (p + n) ts := by
  rw [lexG, if_pos h1, h2, if_neg (by simp), if_pos rfl]
theorem lexG_full {L : List UInt8} {f p : Nat} {ts : List Tok} {k : Int} {n : Nat} (h1 : p < L.length ∨ clo (lastT ts) = true) (h2 : lookR (L.drop p) (clo (lastT ts)) = (k, n, 0)) (hk : k ≠ 0) (ht : ts.length = 1024) : lexG L (f + 1) p ts = ([], 3, p) := by
  rw [lexG, if_pos h1, h2, if_neg (by simp), if_neg hk, if_pos ht]
theorem lexG_tok {L : List UInt8} {f p : Nat} {ts : List Tok} {k : Int} {n : Nat} (h1 : p < L.length ∨ clo (lastT ts) = true) (h2 : lookR (L.drop p) (clo (lastT ts)) = (k, n, 0)) (hk : k ≠ 0) (ht : ts.length ≠ 1024) : lexG L (f + 1) p ts = lexG L f (p + n) (ts ++ [⟨k, strU ((L.drop p).take n), p⟩]) := by
  rw [lexG, if_pos h1, h2, if_neg (by simp), if_neg hk, if_neg ht]
theorem mu_gap {L : List UInt8} {p n : Nat} {ts : List Tok} (h1 : p < L.length ∨ clo (lastT ts) = true) (hp : p ≤ L.length) (h2 : lookR (L.drop p) (clo (lastT ts)) = (0, n, 0)) : p + n ≤ L.length ∧ lexMu L (p + n) ts < lexMu L p ts := by
  have hs := look_size h2 (fun e => by
    rcases h1 with h1 | h1
    · have := congrArg List.length e; rw [List.length_drop] at this; simp at this; omega
    · exact h1)
  rw [List.length_drop] at hs
  unfold lexMu
  rcases hs with ⟨h3, h4 | ⟨h4, -⟩⟩
  · omega
  · omega
theorem mu_tok {L : List UInt8} {p n : Nat} {ts : List Tok} {k : Int} {t : Tok} (h1 : p < L.length ∨ clo (lastT ts) = true) (hp : p ≤ L.length) (h2 : lookR (L.drop p) (clo (lastT ts)) = (k, n, 0)) (ht : t = ⟨k, strU ((L.drop p).take n), p⟩) : p + n ≤ L.length ∧ lexMu L (p + n) (ts ++ [t]) < lexMu L p ts := by
  have hs := look_size h2 (fun e => by
    rcases h1 with h1 | h1
    · have := congrArg List.length e; rw [List.length_drop] at this; simp at this; omega
    · exact h1)
  rw [List.length_drop] at hs
  unfold lexMu
  rw [lastT_push]
  rcases hs with ⟨h3, h4 | ⟨h4, h5, h6⟩⟩
  · refine ⟨by omega, ?_⟩
    split <;> split <;> omega
  · have hc : clo t = false := by rw [ht, h4]; rfl
    rw [hc, h6]
    simp
    omega
end Go.Proofs.Ytcbpnmdphmdemaa
