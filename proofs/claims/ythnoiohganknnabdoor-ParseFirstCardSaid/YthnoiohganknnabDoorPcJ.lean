/- Tokens behind the first wrong one: what Parse tells stays. No function of the program is walked here. -/
import Derived.Test.YthnoiohganknnabDoorPcFa
import Derived.Test.YthnoiohganknnabDoorMrgH
namespace Go.Proofs.YthnoiohganknnabDoor
open Go.RowKit

theorem nx_cons' (t : Tok) (r : List Tok) (p : Nat) : nxT (t :: r) (p + 1) = nxT r p := rfl
/-- Places that rise. -/
theorem ris_lt : ∀ (ts : List Tok) (l : Int), risB l ts = true → (∀ p, p < ts.length → l < (nxT ts p).pos) ∧ ∀ p q, p < q → q < ts.length → (nxT ts p).pos < (nxT ts q).pos
  | [], _, _ => ⟨fun p hp => by simp at hp, fun p q _ hq => by simp at hq⟩
  | t :: r, l, h => by
    rw [risB] at h
    split at h
    · cases h
    · rename_i hl
      obtain ⟨i1, i2⟩ := ris_lt r t.pos h
      constructor
      · intro p hp
        cases p with
        | zero => show l < t.pos; omega
        | succ p =>
          have := i1 p (by simpa using hp)
          rw [nx_cons']
          omega
      · intro p q hpq hq
        cases q with
        | zero => omega
        | succ q =>
          cases p with
          | zero => exact i1 q (by simpa using hq)
          | succ p => exact i2 p q (by omega) (by simpa using hq)
theorem ris_app : ∀ (a b : List Tok) (l m : Int), risB l a = true → (∀ p, p < a.length → (nxT a p).pos ≤ m) → l ≤ m → risB m b = true → risB l (a ++ b) = true
  | [], b, l, m, _, _, hlm, hb => by
    cases b with
    | nil => rfl
    | cons t r =>
      rw [risB] at hb
      split at hb
      · cases hb
      · rename_i ht
        show risB l (t :: r) = true
        rw [risB, if_neg (by omega)]
        exact hb
  | t :: r, b, l, m, h, hm, _, hb => by
    rw [risB] at h
    split at h
    · cases h
    · rename_i ht
      show risB l (t :: (r ++ b)) = true
      rw [risB, if_neg ht]
      exact ris_app r b t.pos m h (fun p hp => hm (p + 1) (by simpa using hp)) (hm 0 (by simp)) hb
/-- Tokens laid behind others, a hundred places apart. -/
def shf (b : Int) : Nat → List Tok → List Tok
  | _, [] => []
  | k, x :: r => ⟨x.kind, x.text, b + 100 * ((k : Int) + 1)⟩ :: shf b (k + 1) r
theorem shf_len (b : Int) : ∀ (xs : List Tok) (k : Nat), (shf b k xs).length = xs.length
  | [], _ => rfl
  | x :: r, k => by show (shf b (k + 1) r).length + 1 = r.length + 1; rw [shf_len b r (k + 1)]
theorem shf_ris (b : Int) : ∀ (xs : List Tok) (k : Nat) (m : Int), m < b + 100 * ((k : Int) + 1) → risB m (shf b k xs) = true
  | [], _, _, _ => rfl
  | x :: r, k, m, h => by
    show risB m (⟨x.kind, x.text, b + 100 * ((k : Int) + 1)⟩ :: shf b (k + 1) r) = true
    rw [risB, if_neg (by show ¬ b + 100 * ((k : Int) + 1) ≤ m; omega)]
    exact shf_ris b r (k + 1) _ (by show b + 100 * ((k : Int) + 1) < b + 100 * (((k + 1 : Nat) : Int) + 1); omega)
theorem shf_snoc (b : Int) (x : Tok) : ∀ (xs : List Tok) (k : Nat), shf b k (xs ++ [x]) = shf b k xs ++ [⟨x.kind, x.text, b + 100 * (((k + xs.length : Nat) : Int) + 1)⟩]
  | [], k => rfl
  | y :: r, k => by
    show _ :: shf b (k + 1) (r ++ [x]) = _ :: (shf b (k + 1) r ++ _)
    rw [shf_snoc b x r (k + 1), show k + 1 + r.length = k + (y :: r).length by simp; omega]
theorem shf_mem {b : Int} : ∀ (xs : List Tok) (k : Nat), ∀ t ∈ shf b k xs, ∃ x ∈ xs, ∃ j : Nat, j < k + xs.length ∧ t = ⟨x.kind, x.text, b + 100 * ((j : Int) + 1)⟩
  | [], _, t, h => by simp [shf] at h
  | x :: r, k, t, h => by
    rcases List.mem_cons.1 h with rfl | h
    · exact ⟨x, by simp, k, by simp, rfl⟩
    · obtain ⟨y, h1, j, h2, h3⟩ := shf_mem r (k + 1) t h
      exact ⟨y, by simp [h1], j, by simp; omega, h3⟩
theorem nx_app {a b : List Tok} {p : Nat} (h : p < a.length) : nxT (a ++ b) p = nxT a p := by
  unfold nxT
  rw [List.getD_eq_getElem?_getD, List.getD_eq_getElem?_getD, List.getElem?_append_left h]
theorem nx_take {a : List Tok} {n p : Nat} (h : p < n) : nxT (a.take n) p = nxT a p := by
  unfold nxT
  rw [List.getD_eq_getElem?_getD, List.getD_eq_getElem?_getD, List.getElem?_take, if_pos h]
theorem ris_take : ∀ (ts : List Tok) (n : Nat) (l : Int), risB l ts = true → risB l (ts.take n) = true
  | [], n, l, _ => by simp [risB]
  | t :: r, 0, l, _ => rfl
  | t :: r, n + 1, l, h => by
    rw [risB] at h
    split at h
    · cases h
    · rename_i ht
      show risB l (t :: r.take n) = true
      rw [risB, if_neg ht]
      exact ris_take r n t.pos h
theorem chkF_small : ∀ (ts : List Tok) (last : Tok), chkF last ts = true → ∀ t ∈ ts, t.text.size ≤ 4096
  | [], _, _, t, h => by simp at h
  | x :: r, last, h, t, ht => by
    rw [chkF] at h
    have hx : x.text.size ≤ 4096 := by
      split at h
      · rename_i hb
        unfold bareB at hb
        rw [Bool.and_eq_true] at hb
        have h2 : x.text.toList = [] := by simpa using hb.2
        rw [ByteArray.toList_eq] at h2
        have h3 := congrArg List.length h2
        rw [Array.length_toList] at h3
        show x.text.data.size ≤ 4096
        rw [h3]
        exact Nat.zero_le _
      · split at h
        · rename_i ha
          unfold alnB at ha
          apply Nat.le_of_not_lt
          intro hlt
          have hlen : x.text.data.toList.length = x.text.size := by rw [Array.length_toList]; rfl
          have : lexO x.text.data.toList = ([], 3, 0) := by unfold lexO; rw [if_pos (by omega)]
          rw [this] at ha
          cases ha
        · cases h
    rcases List.mem_cons.1 ht with rfl | ht
    · exact hx
    · split at h
      · split at h
        · exact chkF_small r x h t ht
        · cases h
      · split at h
        · exact chkF_small r x h t ht
        · cases h
theorem chk_small {ts : List Tok} (h : chkO ts = 0) : ts.length ≤ 1024 ∧ ∀ t ∈ ts, t.text.size ≤ 4096 := by
  unfold chkO at h
  split at h
  · cases h
  · split at h
    · rename_i h1 h2
      exact ⟨by omega, chkF_small ts _ h2⟩
    · cases h
theorem par_bad {ts : List Tok} {s : Int} (h : parO ts = .inl (210, s)) : chkO ts = 0 ∧ risB (-1) ts = true ∧ filO ts = .bad s := by
  unfold parO at h
  split at h
  · cases h
  split at h
  · cases h
  rename_i h1 h2
  refine ⟨by simpa using h1, by simpa using h2, ?_⟩
  split at h
  · split at h
    · cases h
    split at h
    · cases h
    · cases h
  · rename_i s' hs
    injection h with h
    injection h with _ h
    rw [hs, h]
  · cases h
theorem par_again {ts xs : List Tok} {i : Nat} {s : Int} (h : parO ts = .inl (210, s)) (hi : i < ts.length) (hs : (nxT ts i).pos = s) (hl : ¬ (i + 1 = ts.length ∧ (nxT ts i).text.size = 0))
    (hc : chkO (ts.take (i + 1) ++ shf ((nxT ts i).pos + (nxT ts i).text.size) 0 xs) = 0) : parO (ts.take (i + 1) ++ shf ((nxT ts i).pos + (nxT ts i).text.size) 0 xs) = .inl (210, s) := by
  obtain ⟨-, hr, hb⟩ := par_bad h
  obtain ⟨r1, r2⟩ := ris_lt ts _ hr
  have htl : (ts.take (i + 1)).length = i + 1 := by rw [List.length_take]; omega
  have hris : risB (-1) (ts.take (i + 1) ++ shf ((nxT ts i).pos + (nxT ts i).text.size) 0 xs) = true := by
    refine ris_app _ _ _ ((nxT ts i).pos + (nxT ts i).text.size) (ris_take ts _ _ hr) (fun p hp => ?_) ?_ (shf_ris _ _ _ _ (by omega))
    · rw [htl] at hp
      rw [nx_take hp]
      rcases Nat.lt_or_ge p i with hlt | hge
      · have := r2 p i hlt hi
        omega
      · obtain rfl : p = i := by omega
        omega
    · have := r1 i hi
      omega
  have hf : filO (ts.take (i + 1) ++ shf ((nxT ts i).pos + (nxT ts i).text.size) 0 xs) = .bad s := by
    rw [← hs] at hb ⊢
    exact fil_again (fun p hp => by rw [nx_app (by rw [htl]; omega), nx_take (by omega)]) hi (by rw [List.length_append, htl]; omega) hb r2 (fun p hp => by have := r1 p hp; omega) hl
  unfold parO
  rw [if_neg (by rw [hc]; simp), if_neg (by rw [hris]; simp), hf]
end Go.Proofs.YthnoiohganknnabDoor
