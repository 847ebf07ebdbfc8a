/- The contracts of the document's blank, letter, digit, word, digits, whole and Word. -/
import Derived.Test.YtcbpnmdphmdemaaLxV
import Derived.Test.YtcbpnmdphmdemaaLxW
namespace Go.Proofs.Ytcbpnmdphmdemaa
open Go.RowKit

set_option maxRecDepth 100000 in
theorem sletter_any (c : UInt8) (w : World) : Calls Try.prog 52 #[.int .u8 c.toNat] w fun e w' => e = .returned (.bool (inC [3] c)) ∧ w' = w := by
  have HI : Hid (inC [3] c = decide ((97 ≤ (c.toNat : Int) ∧ (c.toNat : Int) ≤ 122) ∨ (65 ≤ (c.toNat : Int) ∧ (c.toNat : Int) ≤ 90) ∨ (c.toNat : Int) = 95)) := by
    show inC [3] c = _
    unfold inC clsI
    rw [Bool.eq_iff_iff]
    simp
    repeat' split
    all_goals simp
    all_goals omega
  go_enter Try.func52, Try.ntmps52
  go_wp2
  all_goals go_ret
  all_goals (refine ⟨ret_bool ?_, rfl⟩; rw [HI.out, Bool.eq_iff_iff]; simp_all; try omega)
set_option maxRecDepth 100000 in
theorem sdigit_any (c : UInt8) (w : World) : Calls Try.prog 63 #[.int .u8 c.toNat] w fun e w' => e = .returned (.bool (inC [4] c)) ∧ w' = w := by
  have HI : Hid (inC [4] c = decide (48 ≤ (c.toNat : Int) ∧ (c.toNat : Int) ≤ 57)) := by
    show inC [4] c = _
    unfold inC
    rw [Bool.eq_iff_iff]
    simp
    rw [cls4]
    omega
  go_enter Try.func63, Try.ntmps63
  go_wp2
  all_goals go_ret
  all_goals (refine ⟨ret_bool ?_, rfl⟩; rw [HI.out, Bool.eq_iff_iff]; simp_all; try omega)
set_option maxRecDepth 100000 in
theorem sblank_any (c : UInt8) (w : World) : Calls Try.prog 28 #[.int .u8 c.toNat] w fun e w' => e = .returned (.bool (inC [1] c)) ∧ w' = w := by
  have HI : Hid (inC [1] c = decide ((c.toNat : Int) = 9 ∨ (c.toNat : Int) = 13 ∨ (c.toNat : Int) = 32)) := by
    show inC [1] c = _
    unfold inC clsI
    rw [Bool.eq_iff_iff]
    simp
    repeat' split
    all_goals simp
    all_goals omega
  go_enter Try.func28, Try.ntmps28
  go_wp2
  all_goals go_ret
  all_goals (refine ⟨ret_bool ?_, rfl⟩; rw [HI.out, Bool.eq_iff_iff]; simp_all; try omega)
set_option maxRecDepth 100000 in
set_option maxHeartbeats 1000000 in
theorem sdigits_any (s : ByteArray) (w : World) (hs : s.size ≤ 100000) : Calls Try.prog 51 #[.string s] w fun e w' => e = .returned (.int .i64 (runN (inC [4]) s.data.toList)) ∧ w' = w := by
  have HS : Hid (s.size = s.data.toList.length) := by show s.size = s.data.toList.length; simp
  have hmx : s.size < 9223372036854775807 := by omega
  go_enter Try.func51, Try.ntmps51
  go_wp2
  go_loopw [3] (fun i wr => ∃ t : Nat, t ≤ s.size ∧ i = .int .i64 t ∧ wr = w ∧ ∀ j d, j < t → s.data.toList[j]? = some d → inC [4] d = true) (fun i _ => s.size - (intOf i).toNat)
  case atStart => exact ⟨0, Nat.zero_le _, rfl, rfl, fun j d hj => by omega⟩
  case round =>
    obtain ⟨t, ht, rfl, rfl, hall⟩ := hrel
    have HA : Hid (∀ j d, j < t → s.data.toList[j]? = some d → inC [4] d = true) := hall
    clear hall
    by_cases hlt : t < s.size
    · have hd : decide ((t : Int) < s.size) = true := decide_eq_true (by omega)
      have HB : Hid (s.data.toList[t]? = some (s[t]'hlt)) := byte_at hlt
      cases hq : inC [4] (s[t]'hlt)
      · have HY : Hid (runN (inC [4]) s.data.toList = t) := runN_at HA.out HB.out hq
        go_wp2_with (go_at_call 63; refine (sdigit_any _ _).mono ?_; rintro e W1 ⟨rfl, hW1⟩; subst hW1; rw [hq])
        go_ret
        exact ⟨ret_int (by rw [HY.out]), rfl⟩
      · have HNX : Hid (∀ j d, j < t + 1 → s.data.toList[j]? = some d → inC [4] d = true) := fun j d hj hjd => by
          by_cases hjt : j < t
          · exact HA.out j d hjt hjd
          · obtain rfl : j = t := by omega
            rw [HB.out] at hjd
            injection hjd with hjd
            rw [← hjd]
            exact hq
        go_wp2_with (go_at_call 63; refine (sdigit_any _ _).mono ?_; rintro e W1 ⟨rfl, hW1⟩; subst hW1; rw [hq])
        exact ⟨⟨t + 1, by omega, by go_num, trivial, HNX.out⟩, by simp [intOf]; omega⟩
    · have hd : decide ((t : Int) < s.size) = false := decide_eq_false (by omega)
      have HY : Hid (runN (inC [4]) s.data.toList = t) := by
        have h := HS.out
        have : runN (inC [4]) s.data.toList = s.data.toList.length := runN_all fun j d hj hdd => HA.out j d (by omega) hdd
        show runN (inC [4]) s.data.toList = t
        omega
      go_wp2
      go_ret
      exact ⟨ret_int (by rw [HY.out]), rfl⟩
theorem wordN_cons (c : UInt8) (r : List UInt8) (h : inC [3] c = true) : runN (inC [3, 4]) (c :: r) = 1 + runN (inC [3, 4]) r := by
  have : inC [3, 4] c = true := by
    unfold inC at h ⊢
    simp at h ⊢
    exact .inl h
  rw [runN_cons, this]
  simp [Nat.add_comm]
/-- How many bytes of a word a text begins with. -/
def wrdN (L : List UInt8) : Nat := match L with | [] => 0 | c :: r => if inC [3] c then 1 + runN (inC [3, 4]) r else 0
theorem inC34 (c : UInt8) : inC [3, 4] c = (inC [3] c || inC [4] c) := by
  unfold inC
  rw [Bool.eq_iff_iff]
  simp
set_option maxRecDepth 100000 in
set_option maxHeartbeats 2000000 in
theorem sword_any (s : ByteArray) (w : World) (hs : s.size ≤ 100000) : Calls Try.prog 48 #[.string s] w fun e w' => e = .returned (.int .i64 (wrdN s.data.toList)) ∧ w' = w := by
  have HS : Hid (s.size = s.data.toList.length) := by show s.size = s.data.toList.length; simp
  have HT : Hid (s.toList = s.data.toList) := ByteArray.toList_eq s
  have hmx : s.size < 9223372036854775807 := by omega
  by_cases h0 : s.data.toList = []
  · have e0 : s.toList.isEmpty = true := by rw [HT.out, h0]; rfl
    have HN : Hid (wrdN s.data.toList = 0) := by rw [h0]; exact rfl
    clear h0
    go_enter Try.func48, Try.ntmps48
    go_wp2
    go_ret
    exact ⟨ret_int (by rw [HN.out]; rfl), rfl⟩
  have hpos : 0 < s.size := by rw [HS.out]; exact List.length_pos_iff.2 h0
  have e0 : s.toList.isEmpty = false := by rw [HT.out]; cases h : s.data.toList with | nil => exact absurd h h0 | cons a l => rfl
  have b0 := byte_at hpos
  have HD : Hid (s.data.toList = (s[0]'hpos) :: s.data.toList.drop 1) := by have := drop_at b0; rw [List.drop_zero] at this; exact this
  clear h0 b0
  cases hq : inC [3] (s[0]'hpos)
  · have HN : Hid (wrdN s.data.toList = 0) := by rw [HD.out]; show (if inC [3] (s[0]'hpos) then _ else _) = _; rw [hq]; exact rfl
    go_enter Try.func48, Try.ntmps48
    go_wp2_with (go_at_call 52; refine (sletter_any _ _).mono ?_; rintro e W1 ⟨rfl, hW1⟩; subst hW1; rw [hq])
    go_ret
    exact ⟨ret_int (by rw [HN.out]; rfl), rfl⟩
  · have HN : Hid (wrdN s.data.toList = runN (inC [3, 4]) s.data.toList) := by
      rw [HD.out]
      show (if inC [3] (s[0]'hpos) then _ else _) = _
      rw [hq, wordN_cons _ _ hq]
      exact rfl
    have H1 : Hid (∀ j d, j < 1 → s.data.toList[j]? = some d → inC [3, 4] d = true) := fun j d hj hd => by
      obtain rfl : j = 0 := by omega
      rw [byte_at hpos] at hd
      injection hd with hd
      rw [← hd, inC34, hq]
      rfl
    go_enter Try.func48, Try.ntmps48
    go_wp2_with (go_at_call 52; refine (sletter_any _ _).mono ?_; rintro e W1 ⟨rfl, hW1⟩; rw [hW1, hq]; clear hW1)
    generalize (s[0]'hpos).toNat = z0
    clear hq HD
    go_loopw [3] (fun i wr => ∃ t : Nat, 1 ≤ t ∧ t ≤ s.size ∧ i = .int .i64 t ∧ wr = w ∧ ∀ j d, j < t → s.data.toList[j]? = some d → inC [3, 4] d = true) (fun i _ => s.size - (intOf i).toNat)
    case atStart => exact ⟨1, Nat.le_refl _, hpos, rfl, rfl, H1.out⟩
    case round =>
      obtain ⟨t, ht1, ht, rfl, rfl, hall⟩ := hrel
      have HA : Hid (∀ j d, j < t → s.data.toList[j]? = some d → inC [3, 4] d = true) := hall
      clear hall H1
      by_cases hlt : t < s.size
      · have hd : decide ((t : Int) < s.size) = true := decide_eq_true (by omega)
        have HB : Hid (s.data.toList[t]? = some (s[t]'hlt)) := byte_at hlt
        have HNX : Hid (inC [3, 4] (s[t]'hlt) = true → ∀ j d, j < t + 1 → s.data.toList[j]? = some d → inC [3, 4] d = true) := fun hq j d hj hjd => by
          by_cases hjt : j < t
          · exact HA.out j d hjt hjd
          · obtain rfl : j = t := by omega
            rw [HB.out] at hjd
            injection hjd with hjd
            rw [← hjd]
            exact hq
        cases h3 : inC [3] (s[t]'hlt)
        · cases h4 : inC [4] (s[t]'hlt)
          · have HY : Hid (runN (inC [3, 4]) s.data.toList = t) := runN_at HA.out HB.out (by rw [inC34, h3, h4]; rfl)
            go_wp2_with (first
              | (go_at_call 52; refine (sletter_any _ _).mono ?_; rintro e W1 ⟨rfl, hW1⟩; subst hW1; rw [h3])
              | (go_at_call 63; refine (sdigit_any _ _).mono ?_; rintro e W1 ⟨rfl, hW1⟩; subst hW1; rw [h4]))
            go_ret
            exact ⟨ret_int (by rw [HN.out, HY.out]), rfl⟩
          · have HX : Hid (∀ j d, j < t + 1 → s.data.toList[j]? = some d → inC [3, 4] d = true) := HNX.out (by rw [inC34, h3, h4]; rfl)
            go_wp2_with (first
              | (go_at_call 52; refine (sletter_any _ _).mono ?_; rintro e W1 ⟨rfl, hW1⟩; subst hW1; rw [h3])
              | (go_at_call 63; refine (sdigit_any _ _).mono ?_; rintro e W1 ⟨rfl, hW1⟩; subst hW1; rw [h4]))
            exact ⟨⟨t + 1, by omega, by omega, by go_num, trivial, HX.out⟩, by simp [intOf]; omega⟩
        · have HX : Hid (∀ j d, j < t + 1 → s.data.toList[j]? = some d → inC [3, 4] d = true) := HNX.out (by rw [inC34, h3]; rfl)
          go_wp2_with (go_at_call 52; refine (sletter_any _ _).mono ?_; rintro e W1 ⟨rfl, hW1⟩; subst hW1; rw [h3])
          exact ⟨⟨t + 1, by omega, by omega, by go_num, trivial, HX.out⟩, by simp [intOf]; omega⟩
      · have hd : decide ((t : Int) < s.size) = false := decide_eq_false (by omega)
        have HY : Hid (runN (inC [3, 4]) s.data.toList = t) := by
          have h := HS.out
          have : runN (inC [3, 4]) s.data.toList = s.data.toList.length := runN_all fun j d hj hdd => HA.out j d (by omega) hdd
          show runN (inC [3, 4]) s.data.toList = t
          omega
        go_wp2
        go_ret
        exact ⟨ret_int (by rw [HN.out, HY.out]), rfl⟩
end Go.Proofs.Ytcbpnmdphmdemaa
