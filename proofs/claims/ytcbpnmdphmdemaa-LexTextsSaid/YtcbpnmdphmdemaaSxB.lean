/- The contracts of the document's Closing and next. -/
import Derived.Test.YtcbpnmdphmdemaaSxA
import Derived.Test.YtcbpnmdphmdemaaLxM
import Derived.Test.YtcbpnmdphmdemaaLxSt
import Derived.Test.YtcbpnmdphmdemaaRxD
namespace Go.Proofs.Ytcbpnmdphmdemaa
open Go.RowKit

set_option maxRecDepth 100000 in
set_option maxHeartbeats 1000000 in
theorem sclosing_any (t : Tok) (w : World) : Calls Try.prog 29 #[.agg t.cells] w fun e w' => e = .returned (.bool (clo t)) ∧ Below w.heap.size w w' := by
  unfold Tok.cells
  go_enter Try.func29, Try.ntmps29
  go_wp2
  all_goals go_ret
  all_goals (refine ⟨ret_bool ?_, (Below.refl _ _).alloc (Nat.le_refl _) _⟩; simp_all [clo])
/-- The Kind, the size and the error of the token that a text begins with. -/
def nextR (L : List UInt8) : Int × Nat × Int := match L with
  | [] => (0, 0, 200)
  | c :: r =>
    if clsI c.toNat = 3 then (1, wordR (c :: r))
    else if clsI c.toNat = 4 then (2, numR (c :: r))
    else if clsI c.toNat = 5 then (3, quoR (c :: r))
    else if clsI c.toNat = 6 then (5, 1, 0)
    else (4, sigR (c :: r))
theorem look_next {c : UInt8} {r : List UInt8} {en : Bool} (h1 : clsI c.toNat ≠ 1) (h2 : clsI c.toNat ≠ 2) (h3 : Lib.hasPrefix (c :: r) [47, 47] = false) : lookR (c :: r) en = nextR (c :: r) := by
  unfold lookR nextR
  simp only [h1, h2, h3, if_false, Bool.false_eq_true]
  by_cases a6 : clsI c.toNat = 6
  · simp [a6]
  · simp [a6]
/-- The token that a text begins with: none where there is an error. -/
def nextT (L : List UInt8) : Tok := if (nextR L).2.2 ≠ 0 then ⟨0, ⟨#[]⟩, 0⟩ else ⟨(nextR L).1, strU (L.take (nextR L).2.1), 0⟩
theorem inC3 (c : UInt8) : inC [3] c = decide (clsI c.toNat = 3) := by rw [Bool.eq_iff_iff]; simp [inC]
theorem inC4 (c : UInt8) : inC [4] c = decide (clsI c.toNat = 4) := by rw [Bool.eq_iff_iff]; simp [inC]
theorem next_err {L : List UInt8} {k : Int} {n : Nat} {er : Int} (h : nextR L = (k, n, er)) (he : er ≠ 0) : Ending.returned (.tuple #[.agg #[.int .i64 0, .string ⟨#[]⟩, .int .i64 0], .int .i64 er]) = .returned (.tuple #[.agg (nextT L).cells, .int .i64 (nextR L).2.2]) := by
  unfold nextT
  rw [h, if_pos he]
  exact rfl
theorem next_ok {L : List UInt8} {k : Int} {n : Nat} {x : ByteArray} (h : nextR L = (k, n, 0)) (hx : x = strU (L.take n)) : Ending.returned (.tuple #[.agg #[.int .i64 k, .string x, .int .i64 0], .int .i64 0]) = .returned (.tuple #[.agg (nextT L).cells, .int .i64 (nextR L).2.2]) := by
  unfold nextT
  rw [h, if_neg (by simp), hx]
  exact rfl
theorem extract_take (s : ByteArray) (k : Nat) : s.extract 0 k = strU (s.data.toList.take k) := by
  apply ByteArray.ext
  rw [ByteArray.data_extract]
  unfold strU
  apply Array.ext'
  simp [List.extract_eq_take_drop]
theorem decV_none : decV none = .tuple #[.int .i64 0, .bool false] := rfl
theorem decV_some (m : Nat) : decV (some m) = .tuple #[.int .i64 m, .bool true] := rfl
theorem sig_cases (L : List UInt8) : sigR L = (0, 200) ∨ ∃ n, sigR L = (n, 0) ∧ 0 < n ∧ n ≤ L.length := by
  unfold sigR
  split
  · rename_i h
    right
    refine ⟨2, rfl, by omega, ?_⟩
    by_cases h2 : L.length < 2
    · rw [sig2_short h2] at h; cases h
    · omega
  · match L with
    | [] => left; rfl
    | c :: r =>
      simp only
      split
      · right; exact ⟨1, rfl, by omega, by simp⟩
      · left; rfl
theorem cls5 {c : UInt8} (h : clsI c.toNat = 5) : c.toNat = 34 := by
  unfold clsI at h
  repeat' split at h
  all_goals first | (cases h; done) | omega
theorem cls6 {c : UInt8} (h : clsI c.toNat = 6) : c.toNat = 59 := by
  unfold clsI at h
  repeat' split at h
  all_goals first | (cases h; done) | omega
theorem run_pos {p : UInt8 → Bool} {c : UInt8} {r : List UInt8} : 0 < runN p (c :: r) ↔ p c = true := by
  constructor
  · intro h
    cases hc : p c
    · simp [runN, hc] at h
    · rfl
  · exact runN_pos
theorem run_drop {p : UInt8 → Bool} (L : List UInt8) (n : Nat) : 0 < runN p (L.drop n) ↔ ∃ c, L[n]? = some c ∧ p c = true := by
  constructor
  · intro h
    match hd : L.drop n, h with
    | c :: r, h =>
      refine ⟨c, ?_, run_pos.1 h⟩
      have := congrArg (fun l => l[0]?) hd
      simpa using this
  · rintro ⟨c, h1, h2⟩
    obtain ⟨hlt, he⟩ := List.getElem?_eq_some_iff.1 h1
    rw [List.drop_eq_getElem_cons hlt, he]
    exact run_pos.2 h2
set_option pp.deepTerms.threshold 2000 in
set_option maxRecDepth 100000 in
set_option maxHeartbeats 4000000 in
theorem snext_any (s : ByteArray) (w : World) (hs : s.size ≤ 100000) (hp : 0 < s.size) : Calls Try.prog 30 #[.string s] w fun e w' => e = .returned (.tuple #[.agg (nextT s.data.toList).cells, .int .i64 (nextR s.data.toList).2.2]) ∧ Below w.heap.size w w' := by
  have hp' : (0 : Int) < s.size := by omega
  obtain ⟨L, HL⟩ : ∃ L, Hid (s.data.toList = L) := ⟨_, rfl⟩
  have HSL : Hid (s.data.toList.length = s.size) := by show s.data.toList.length = s.size; simp
  rw [HL.out]
  have h0 := byte_at0 hp
  rw [HL.out] at h0
  obtain ⟨c, HC⟩ : ∃ c, Hid (s[0]'hp = c) := ⟨_, rfl⟩
  rw [HC.out] at h0
  obtain ⟨r, rfl⟩ : ∃ r, L = c :: r := by
    match L, h0 with
    | d :: r, h0 => exact ⟨r, by simp at h0; rw [h0]⟩
  clear h0
  by_cases k3 : clsI c.toNat = 3
  · have HN : Hid (nextR (c :: r) = (1, wordR (c :: r))) := by show _ = _; simp only [nextR, if_pos k3]
    obtain ⟨n, hn, hns, HW, HW2⟩ : ∃ n, 0 < n ∧ n ≤ s.size ∧ Hid (wrdN s.data.toList = n) ∧ Hid (wordR (c :: r) = if n > 24 then (0, 3) else (n, 0)) := by
      have h3 : inC [3] c = true := by rw [inC3, k3]; rfl
      refine ⟨1 + runN (inC [3, 4]) r, by omega, ?_, ?_, ?_⟩
      · have h1 := runN_le (inC [3, 4]) r
        have h2 := HSL.out
        rw [HL.out, List.length_cons] at h2
        omega
      · show wrdN s.data.toList = _
        rw [HL.out]
        simp only [wrdN, if_pos h3]
      · show wordR (c :: r) = _
        unfold wordR
        rw [wordN_cons c r h3]
    have hn' : (n : Int) > 0 := by omega
    by_cases h24 : n > 24
    · have h24' : (n : Int) > 24 := by omega
      have HF : Hid (nextR (c :: r) = (1, 0, 3)) := by show _ = _; rw [HN.out, HW2.out, if_pos h24]
      clear HN HW2 k3
      go_enter Try.func30, Try.ntmps30
      go_wp2_with (go_at_call 48; refine (sword_any s _ hs).mono ?_; rintro e W1 ⟨rfl, hW1⟩; subst hW1; rw [HW.out])
      refine bodyPost_ret (v := .tuple #[.agg #[.int .i64 0, .string ⟨#[]⟩, .int .i64 0], .int .i64 3]) (results_cell_tmp Try.results30 _ _ w.heap.size 32 _ (0, 0) _ _ rfl rfl (heap_alloc_new _ _) Try.underlying32 rfl (by kernel_rfl)) rfl ⟨next_err HF.out (by omega), (Below.refl _ _).alloc (Nat.le_refl _) _⟩
    · have h24' : ¬ (n : Int) > 24 := by omega
      have HF : Hid (nextR (c :: r) = (1, n, 0)) := by show _ = _; rw [HN.out, HW2.out, if_neg h24]
      have hns' : (n : Int) ≤ s.size := by omega
      have hn0 : (0 : Int) ≤ n := by omega
      clear HN HW2 k3
      go_enter Try.func30, Try.ntmps30
      go_wp2_with (go_at_call 48; refine (sword_any s _ hs).mono ?_; rintro e W1 ⟨rfl, hW1⟩; subst hW1; rw [HW.out])
      refine bodyPost_ret (v := .tuple #[.agg #[.int .i64 1, .string (s.extract 0 n), .int .i64 0], .int .i64 0]) (results_cell_tmp Try.results30 _ _ w.heap.size 32 _ (0, 0) _ _ rfl rfl (heap_alloc_new _ _) Try.underlying32 rfl (by kernel_rfl)) rfl ⟨next_ok HF.out (by rw [extract_take, HL.out]), (Below.refl _ _).alloc (Nat.le_refl _) _⟩
  · have HW : Hid (wrdN s.data.toList = 0) := by
      show wrdN s.data.toList = 0
      rw [HL.out]
      simp only [wrdN, inC3, decide_eq_true_eq, if_neg k3]
    by_cases k4 : clsI c.toNat = 4
    · have HN : Hid (nextR (c :: r) = (2, numR (c :: r))) := by show _ = _; simp only [nextR, if_neg k3, if_pos k4]
      obtain ⟨n, hn, hns, HD⟩ : ∃ n, 0 < n ∧ n ≤ s.size ∧ Hid (runN (inC [4]) s.data.toList = n) := by
        refine ⟨runN (inC [4]) s.data.toList, ?_, ?_, rfl⟩
        · rw [HL.out]
          exact run_pos.2 (by rw [inC4, k4]; rfl)
        · rw [← HSL.out]
          exact runN_le _ _
      obtain ⟨o, HX⟩ : ∃ o, Hid ((s.extract 0 n).size = n ∧ decO (s.extract 0 n).data.toList = o) := ⟨_, by rw [extract_take, strU_size, List.length_take, HSL.out]; omega, rfl⟩
      have HNR : Hid (numR (c :: r) = if o.isSome = false ∨ 0 < runN (inC [3]) ((c :: r).drop n) then (0, 201) else (n, 0)) := by
        have h1 := HX.out.2
        rw [extract_take, strU_data] at h1
        show numR (c :: r) = _
        unfold numR
        rw [← HL.out, HD.out, h1]
      have hn' : (n : Int) > 0 := by omega
      have hns' : (n : Int) ≤ s.size := by omega
      have hn0 : (0 : Int) ≤ n := by omega
      match o, HX, HNR with
      | none, HX, HNR =>
        have HF : Hid (nextR (c :: r) = (2, 0, 201)) := by show _ = _; rw [HN.out, HNR.out, if_pos (by simp)]
        clear HN HNR k3 k4
        go_enter Try.func30, Try.ntmps30
        go_wp2_with (first | (go_at_call 48; refine (sword_any s _ hs).mono ?_; rintro e W1 ⟨rfl, hW1⟩; subst hW1; rw [HW.out]) | (go_at_call 51; refine (sdigits_any s _ hs).mono ?_; rintro e W1 ⟨rfl, hW1⟩; subst hW1; rw [HD.out]) | (go_at_call 42; refine (whole_any (s.extract 0 n) _ (by rw [HX.out.1]; omega)).mono ?_; rintro e W1 ⟨rfl, hW1⟩; subst hW1; rw [HX.out.2]; first | rw [decV_none] | rw [decV_some]))
        refine bodyPost_ret (v := .tuple #[.agg #[.int .i64 0, .string ⟨#[]⟩, .int .i64 0], .int .i64 201]) (results_cell_tmp Try.results30 _ _ w.heap.size 32 _ (0, 0) _ _ rfl rfl (heap_alloc_new _ _) Try.underlying32 rfl (by kernel_rfl)) rfl ⟨next_err HF.out (by omega), (Below.refl _ _).alloc (Nat.le_refl _) _⟩
      | some m, HX, HNR =>
        by_cases hlt : n < s.size
        · have hlt' : decide ((n : Int) < s.size) = true := by simp; omega
          have hB := byte_at hlt
          cases hl : inC [3] (s[n]'hlt)
          · have HLT : Hid (inC [3] (s[n]'hlt) = false) := hl
            have HF : Hid (nextR (c :: r) = (2, n, 0)) := by
              show _ = _
              rw [HN.out, HNR.out, if_neg]
              rintro (h | h)
              · simp at h
              · rw [← HL.out, run_drop] at h
                obtain ⟨d, h1, h2⟩ := h
                rw [hB] at h1
                injection h1 with h1
                rw [← h1, hl] at h2
                cases h2
            clear HN HNR k3 k4 hB hl
            go_enter Try.func30, Try.ntmps30
            go_wp2_with (first | (go_at_call 48; refine (sword_any s _ hs).mono ?_; rintro e W1 ⟨rfl, hW1⟩; subst hW1; rw [HW.out]) | (go_at_call 51; refine (sdigits_any s _ hs).mono ?_; rintro e W1 ⟨rfl, hW1⟩; subst hW1; rw [HD.out]) | (go_at_call 42; refine (whole_any (s.extract 0 n) _ (by rw [HX.out.1]; omega)).mono ?_; rintro e W1 ⟨rfl, hW1⟩; subst hW1; rw [HX.out.2]; first | rw [decV_none] | rw [decV_some]) | (go_at_call 52; refine (sletter_any _ _).mono ?_; rintro e W1 ⟨rfl, hW1⟩; subst hW1; rw [HLT.out]))
            refine bodyPost_ret (v := .tuple #[.agg #[.int .i64 2, .string (s.extract 0 n), .int .i64 0], .int .i64 0]) (results_cell_tmp Try.results30 _ _ w.heap.size 32 _ (0, 0) _ _ rfl rfl (heap_alloc_new _ _) Try.underlying32 rfl (by kernel_rfl)) rfl ⟨next_ok HF.out (by rw [extract_take, HL.out]), (Below.refl _ _).alloc (Nat.le_refl _) _⟩
          · have HLT : Hid (inC [3] (s[n]'hlt) = true) := hl
            have HF : Hid (nextR (c :: r) = (2, 0, 201)) := by
              show _ = _
              rw [HN.out, HNR.out, if_pos]
              right
              rw [← HL.out, run_drop]
              exact ⟨_, hB, hl⟩
            clear HN HNR k3 k4 hB hl
            go_enter Try.func30, Try.ntmps30
            go_wp2_with (first | (go_at_call 48; refine (sword_any s _ hs).mono ?_; rintro e W1 ⟨rfl, hW1⟩; subst hW1; rw [HW.out]) | (go_at_call 51; refine (sdigits_any s _ hs).mono ?_; rintro e W1 ⟨rfl, hW1⟩; subst hW1; rw [HD.out]) | (go_at_call 42; refine (whole_any (s.extract 0 n) _ (by rw [HX.out.1]; omega)).mono ?_; rintro e W1 ⟨rfl, hW1⟩; subst hW1; rw [HX.out.2]; first | rw [decV_none] | rw [decV_some]) | (go_at_call 52; refine (sletter_any _ _).mono ?_; rintro e W1 ⟨rfl, hW1⟩; subst hW1; rw [HLT.out]))
            refine bodyPost_ret (v := .tuple #[.agg #[.int .i64 0, .string ⟨#[]⟩, .int .i64 0], .int .i64 201]) (results_cell_tmp Try.results30 _ _ w.heap.size 32 _ (0, 0) _ _ rfl rfl (heap_alloc_new _ _) Try.underlying32 rfl (by kernel_rfl)) rfl ⟨next_err HF.out (by omega), (Below.refl _ _).alloc (Nat.le_refl _) _⟩
        · have hlt' : decide ((n : Int) < s.size) = false := by simp; omega
          have HF : Hid (nextR (c :: r) = (2, n, 0)) := by
            show _ = _
            rw [HN.out, HNR.out, if_neg]
            rintro (h | h)
            · simp at h
            · rw [← HL.out, List.drop_eq_nil_of_le (by rw [HSL.out]; omega)] at h
              simp [runN] at h
          clear HN HNR k3 k4
          go_enter Try.func30, Try.ntmps30
          go_wp2_with (first | (go_at_call 48; refine (sword_any s _ hs).mono ?_; rintro e W1 ⟨rfl, hW1⟩; subst hW1; rw [HW.out]) | (go_at_call 51; refine (sdigits_any s _ hs).mono ?_; rintro e W1 ⟨rfl, hW1⟩; subst hW1; rw [HD.out]) | (go_at_call 42; refine (whole_any (s.extract 0 n) _ (by rw [HX.out.1]; omega)).mono ?_; rintro e W1 ⟨rfl, hW1⟩; subst hW1; rw [HX.out.2]; first | rw [decV_none] | rw [decV_some]))
          refine bodyPost_ret (v := .tuple #[.agg #[.int .i64 2, .string (s.extract 0 n), .int .i64 0], .int .i64 0]) (results_cell_tmp Try.results30 _ _ w.heap.size 32 _ (0, 0) _ _ rfl rfl (heap_alloc_new _ _) Try.underlying32 rfl (by kernel_rfl)) rfl ⟨next_ok HF.out (by rw [extract_take, HL.out]), (Below.refl _ _).alloc (Nat.le_refl _) _⟩
    · have HD : Hid (runN (inC [4]) s.data.toList = 0) := by
        show runN (inC [4]) s.data.toList = 0
        rw [HL.out]
        by_cases h : 0 < runN (inC [4]) (c :: r)
        · rw [run_pos, inC4] at h
          exact absurd (of_decide_eq_true h) k4
        · omega
      match hq : unqO s.data.toList with
      | some (v, n) =>
        have hz := unqO_size hq
        rw [HSL.out] at hz
        have HQ : Hid (quN s.data.toList = n) := by show quN s.data.toList = n; unfold quN; rw [hq]
        have hn' : (n : Int) > 0 := by omega
        have hns' : (n : Int) ≤ s.size := by omega
        have hn0 : (0 : Int) ≤ n := by omega
        have HF : Hid (nextR (c :: r) = (3, n, 0)) := by
          rw [HL.out] at hq
          have hc5 : clsI c.toNat = 5 := by
            rw [unqO_cons] at hq
            by_cases h34 : c.toNat = 34
            · rw [h34]; rfl
            · rw [if_neg h34] at hq; cases hq
          show _ = _
          simp only [nextR, if_neg k3, if_neg k4, if_pos hc5, quoR, hq]
        clear hq k3 k4
        go_enter Try.func30, Try.ntmps30
        go_wp2_with (first | (go_at_call 48; refine (sword_any s _ hs).mono ?_; rintro e W1 ⟨rfl, hW1⟩; subst hW1; rw [HW.out]) | (go_at_call 51; refine (sdigits_any s _ hs).mono ?_; rintro e W1 ⟨rfl, hW1⟩; subst hW1; rw [HD.out]) | (go_at_call 44; refine (squoted_any s _ hs).mono ?_; rintro e W1 ⟨rfl, hW1⟩; subst hW1; rw [HQ.out]))
        refine bodyPost_ret (v := .tuple #[.agg #[.int .i64 3, .string (s.extract 0 n), .int .i64 0], .int .i64 0]) (results_cell_tmp Try.results30 _ _ w.heap.size 32 _ (0, 0) _ _ rfl rfl (heap_alloc_new _ _) Try.underlying32 rfl (by kernel_rfl)) rfl ⟨next_ok HF.out (by rw [extract_take, HL.out]), (Below.refl _ _).alloc (Nat.le_refl _) _⟩
      | none =>
        have HQ : Hid (quN s.data.toList = 0) := by show quN s.data.toList = 0; unfold quN; rw [hq]
        by_cases k6 : c.toNat = 59
        · have k6' : (((s[0]'hp).toNat : Int) == 59) = true := by rw [HC.out, k6]; rfl
          have HF : Hid (nextR (c :: r) = (5, 1, 0)) := by
            have h6 : clsI c.toNat = 6 := by rw [k6]; rfl
            show _ = _
            simp only [nextR, h6]
            rfl
          have HX1 : Hid ((⟨#[59]⟩ : ByteArray) = strU ((c :: r).take 1)) := by
            have : c = 59 := UInt8.toNat.inj k6
            show _ = _
            rw [this]
            rfl
          clear hq k3 k4 k6
          go_enter Try.func30, Try.ntmps30
          go_wp2_with (first | (go_at_call 48; refine (sword_any s _ hs).mono ?_; rintro e W1 ⟨rfl, hW1⟩; subst hW1; rw [HW.out]) | (go_at_call 51; refine (sdigits_any s _ hs).mono ?_; rintro e W1 ⟨rfl, hW1⟩; subst hW1; rw [HD.out]) | (go_at_call 44; refine (squoted_any s _ hs).mono ?_; rintro e W1 ⟨rfl, hW1⟩; subst hW1; rw [HQ.out]))
          refine bodyPost_ret (v := .tuple #[.agg #[.int .i64 5, .string ⟨#[59]⟩, .int .i64 0], .int .i64 0]) (results_cell_tmp Try.results30 _ _ w.heap.size 32 _ (0, 0) _ _ rfl rfl (heap_alloc_new _ _) Try.underlying32 rfl (by kernel_rfl)) rfl ⟨next_ok HF.out HX1.out, (Below.refl _ _).alloc (Nat.le_refl _) _⟩
        · have k6' : (((s[0]'hp).toNat : Int) == 59) = false := by rw [HC.out, beq_eq_false_iff_ne]; omega
          have HN : Hid (nextR (c :: r) = (4, sigR (c :: r)) ∨ ((sigR (c :: r)).1 = 0 ∧ ∃ k, nextR (c :: r) = (k, 0, 200))) := by
            rw [HL.out] at hq
            by_cases k5 : clsI c.toNat = 5
            · right
              have h34 : c.toNat = 34 := cls5 k5
              have hc : c = 34 := UInt8.toNat.inj h34
              subst hc
              refine ⟨?_, 3, ?_⟩
              · have : sigR (34 :: r) = (0, 200) := by
                  match r with
                  | [] => rfl
                  | d :: t => simp [sigR, sig2, sig1]
                rw [this]
              · simp only [nextR, if_neg k3, if_neg k4, if_pos k5, quoR, hq]
            · left
              have h6 : ¬ clsI c.toNat = 6 := fun h => k6 (cls6 h)
              simp only [nextR, if_neg k3, if_neg k4, if_neg k5, if_neg h6]
          have HWS : Hid (∀ W1, Below (w.alloc (.cells #[.int .i64 0, .string ⟨#[]⟩, .int .i64 0] 32)).heap.size (w.alloc (.cells #[.int .i64 0, .string ⟨#[]⟩, .int .i64 0] 32)) W1 → Below w.heap.size w W1 ∧ W1.heap[w.heap.size]? = some (.cells #[.int .i64 0, .string ⟨#[]⟩, .int .i64 0] 32 (0, 0))) := fun W1 hb => ⟨((Below.refl _ _).alloc (Nat.le_refl _) _).trans (hb.mono (by simp)), (hb.block _ (by simp)).trans (heap_alloc_new _ _)⟩
          rcases sig_cases s.data.toList with hs0 | ⟨n, hs0, hn, hns⟩
          · have HS : Hid ((sigR s.data.toList).1 = 0) := by show _ = _; rw [hs0]
            obtain ⟨k, HF⟩ : ∃ k, Hid (nextR (c :: r) = (k, 0, 200)) := by
              rcases HN.out with h | ⟨-, k, h⟩
              · rw [← HL.out, hs0, HL.out] at h
                exact ⟨4, h⟩
              · exact ⟨k, h⟩
            clear hq k3 k4 k6 hs0 HN
            go_enter Try.func30, Try.ntmps30
            go_wp2_with (first | (go_at_call 48; refine (sword_any s _ hs).mono ?_; rintro e W1 ⟨rfl, hW1⟩; subst hW1; rw [HW.out]) | (go_at_call 51; refine (sdigits_any s _ hs).mono ?_; rintro e W1 ⟨rfl, hW1⟩; subst hW1; rw [HD.out]) | (go_at_call 44; refine (squoted_any s _ hs).mono ?_; rintro e W1 ⟨rfl, hW1⟩; subst hW1; rw [HQ.out]) | (go_at_call 53; refine (ssign_any s _ hs).mono ?_; rintro e W1 ⟨rfl, hW1⟩; rw [HS.out]; have hb := (HWS.out W1 hW1).1; have hr := (HWS.out W1 hW1).2; have HB1 : Hid (Below w.heap.size w W1) := hb; have HR1 : Hid (W1.heap[w.heap.size]? = some (.cells #[.int .i64 0, .string ⟨#[]⟩, .int .i64 0] 32 (0, 0))) := hr; have q0 : W1.cell? ⟨w.heap.size, 0, none⟩ = some (.int .i64 0) := (cell_of_row _ _ 0 _ _ _ hr).trans rfl; have q1 : W1.cell? ⟨w.heap.size, 1, none⟩ = some (.string ⟨#[]⟩) := (cell_of_row _ _ 1 _ _ _ hr).trans rfl; have q2 : W1.cell? ⟨w.heap.size, 2, none⟩ = some (.int .i64 0) := (cell_of_row _ _ 2 _ _ _ hr).trans rfl; have qz : ∀ j, W1.frozen? ⟨w.heap.size, j, none⟩ = false := (fun j => frozen_of_row _ _ _ _ _ hr); clear hb hr hW1))
            have r1 : (W1.setCell ⟨w.heap.size, 0, none⟩ (.int .i64 0)).heap[w.heap.size]? = _ := heap_setCell_same _ _ _ _ _ _ HR1.out
            have r2 : ((W1.setCell ⟨w.heap.size, 0, none⟩ (.int .i64 0)).setCell ⟨w.heap.size, 1, none⟩ (.string ⟨#[]⟩)).heap[w.heap.size]? = _ := heap_setCell_same _ _ _ _ _ _ r1
            have r3 : (((W1.setCell ⟨w.heap.size, 0, none⟩ (.int .i64 0)).setCell ⟨w.heap.size, 1, none⟩ (.string ⟨#[]⟩)).setCell ⟨w.heap.size, 2, none⟩ (.int .i64 0)).heap[w.heap.size]? = some (.cells #[.int .i64 0, .string ⟨#[]⟩, .int .i64 0] 32 (0, 0)) := heap_setCell_same _ _ _ _ _ _ r2
            refine bodyPost_ret (v := .tuple #[.agg #[.int .i64 0, .string ⟨#[]⟩, .int .i64 0], .int .i64 200]) (results_cell_tmp Try.results30 _ _ w.heap.size 32 _ (0, 0) _ _ rfl rfl r3 Try.underlying32 rfl (by kernel_rfl)) rfl ⟨next_err HF.out (by omega), ((HB1.out.setCell (p := ⟨w.heap.size, 0, none⟩) (Nat.le_refl _) _).setCell (p := ⟨w.heap.size, 1, none⟩) (Nat.le_refl _) _).setCell (p := ⟨w.heap.size, 2, none⟩) (Nat.le_refl _) _⟩
          · have HS : Hid ((sigR s.data.toList).1 = n) := by show _ = _; rw [hs0]
            have HF : Hid (nextR (c :: r) = (4, n, 0)) := by
              rcases HN.out with h | ⟨h, -⟩
              · rw [← HL.out, hs0] at h
                rw [← HL.out]
                exact h
              · rw [← HL.out, hs0] at h
                have : n = 0 := h
                omega
            rw [HSL.out] at hns
            have hn' : (n : Int) > 0 := by omega
            have hns' : (n : Int) ≤ s.size := by omega
            have hn0 : (0 : Int) ≤ n := by omega
            clear hq k3 k4 k6 hs0 HN
            go_enter Try.func30, Try.ntmps30
            go_wp2_with (first | (go_at_call 48; refine (sword_any s _ hs).mono ?_; rintro e W1 ⟨rfl, hW1⟩; subst hW1; rw [HW.out]) | (go_at_call 51; refine (sdigits_any s _ hs).mono ?_; rintro e W1 ⟨rfl, hW1⟩; subst hW1; rw [HD.out]) | (go_at_call 44; refine (squoted_any s _ hs).mono ?_; rintro e W1 ⟨rfl, hW1⟩; subst hW1; rw [HQ.out]) | (go_at_call 53; refine (ssign_any s _ hs).mono ?_; rintro e W1 ⟨rfl, hW1⟩; rw [HS.out]; have hb := (HWS.out W1 hW1).1; have hr := (HWS.out W1 hW1).2; have HB1 : Hid (Below w.heap.size w W1) := hb; have HR1 : Hid (W1.heap[w.heap.size]? = some (.cells #[.int .i64 0, .string ⟨#[]⟩, .int .i64 0] 32 (0, 0))) := hr; have q0 : W1.cell? ⟨w.heap.size, 0, none⟩ = some (.int .i64 0) := (cell_of_row _ _ 0 _ _ _ hr).trans rfl; have q1 : W1.cell? ⟨w.heap.size, 1, none⟩ = some (.string ⟨#[]⟩) := (cell_of_row _ _ 1 _ _ _ hr).trans rfl; have q2 : W1.cell? ⟨w.heap.size, 2, none⟩ = some (.int .i64 0) := (cell_of_row _ _ 2 _ _ _ hr).trans rfl; have qz : ∀ j, W1.frozen? ⟨w.heap.size, j, none⟩ = false := (fun j => frozen_of_row _ _ _ _ _ hr); clear hb hr hW1))
            have r1 : (W1.setCell ⟨w.heap.size, 0, none⟩ (.int .i64 4)).heap[w.heap.size]? = _ := heap_setCell_same _ _ _ _ _ _ HR1.out
            have r2 : ((W1.setCell ⟨w.heap.size, 0, none⟩ (.int .i64 4)).setCell ⟨w.heap.size, 1, none⟩ (.string (s.extract 0 n))).heap[w.heap.size]? = _ := heap_setCell_same _ _ _ _ _ _ r1
            have r3 : (((W1.setCell ⟨w.heap.size, 0, none⟩ (.int .i64 4)).setCell ⟨w.heap.size, 1, none⟩ (.string (s.extract 0 n))).setCell ⟨w.heap.size, 2, none⟩ (.int .i64 0)).heap[w.heap.size]? = some (.cells #[.int .i64 4, .string (s.extract 0 n), .int .i64 0] 32 (0, 0)) := heap_setCell_same _ _ _ _ _ _ r2
            refine bodyPost_ret (v := .tuple #[.agg #[.int .i64 4, .string (s.extract 0 n), .int .i64 0], .int .i64 0]) (results_cell_tmp Try.results30 _ _ w.heap.size 32 _ (0, 0) _ _ rfl rfl r3 Try.underlying32 rfl (by kernel_rfl)) rfl ⟨next_ok HF.out (by rw [extract_take, HL.out]), ((HB1.out.setCell (p := ⟨w.heap.size, 0, none⟩) (Nat.le_refl _) _).setCell (p := ⟨w.heap.size, 1, none⟩) (Nat.le_refl _) _).setCell (p := ⟨w.heap.size, 2, none⟩) (Nat.le_refl _) _⟩
end Go.Proofs.Ytcbpnmdphmdemaa
