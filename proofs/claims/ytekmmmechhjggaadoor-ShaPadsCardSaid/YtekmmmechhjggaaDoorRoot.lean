/- The contract of the reference's Root, at the second and the third root. -/
import Derived.Test.YtekmmmechhjggaaDoorTimes
namespace Go.Proofs.YtekmmmechhjggaaDoor
open Go.RowKit

/-- The bit that is tried in round j. -/
def bitF (j : Nat) : Int := if j ≤ 37 then 2 ^ (37 - j) else 0
theorem bitF_half (j : Nat) (hj : j ≤ 37) : bitF j / 2 = bitF (j + 1) := by
  unfold bitF
  rw [if_pos hj]
  by_cases h : j + 1 ≤ 37
  · rw [if_pos h, show 37 - j = 37 - (j + 1) + 1 by omega, Int.pow_succ]
    exact Int.mul_ediv_cancel _ (by decide)
  · rw [if_neg h, show 37 - j = 0 by omega]
    rfl
theorem bitF_pos (j : Nat) (hj : j ≤ 37) : 0 < bitF j := by
  unfold bitF
  rw [if_pos hj]
  exact Int.pow_pos (by decide)
theorem bitF_double (j : Nat) (hj : j < 37) : bitF j = 2 * bitF (j + 1) := by
  unfold bitF
  rw [if_pos (by omega), if_pos (by omega), show 37 - j = 37 - (j + 1) + 1 by omega, Int.pow_succ, Int.mul_comm]
/-- The root's bits behind j rounds: greedily, the highest first. -/
def rootTo (p : Int) (k : Nat) : Nat → Int
  | 0 => 0
  | j + 1 => if (rootTo p k j + bitF j) ^ k < p * pl k then rootTo p k j + bitF j else rootTo p k j
theorem rootTo_succ (p : Int) (k j : Nat) : rootTo p k (j + 1) = if (rootTo p k j + bitF j) ^ k < p * pl k then rootTo p k j + bitF j else rootTo p k j := rfl
theorem rootTo_inv (p : Int) (k : Nat) : ∀ j, j ≤ 37 → 0 ≤ rootTo p k j ∧ rootTo p k j + 2 * bitF j ≤ 274877906944
  | 0, _ => by
    have : bitF 0 = 137438953472 := by decide
    rw [this]
    exact ⟨Int.le_refl 0, by show (0 : Int) + 2 * 137438953472 ≤ 274877906944; decide⟩
  | j + 1, hj => by
    have h := rootTo_inv p k j (by omega)
    have hd := bitF_double j (by omega)
    have hp := bitF_pos (j + 1) hj
    rw [rootTo_succ]
    split <;> omega
theorem pow_lt (c : Int) (h0 : 0 ≤ c) (h1 : c ≤ 274877906944) (i : Nat) (hi : i ≤ 3) : 0 ≤ c ^ i ∧ c ^ i < M192 := by
  have h2 : 0 ≤ c * c ∧ c * c ≤ 75557863725914323419136 := ⟨Int.mul_nonneg h0 h0, Int.le_trans (Int.mul_le_mul h1 h1 h0 (by decide)) (by decide)⟩
  have h3 : 0 ≤ c * c * c ∧ c * c * c ≤ 20769187434139310514121985316880384 := ⟨Int.mul_nonneg h2.1 h0, Int.le_trans (Int.mul_le_mul h2.2 h1 h0 (by decide)) (by decide)⟩
  have e : i = 0 ∨ i = 1 ∨ i = 2 ∨ i = 3 := by omega
  unfold M192
  rcases e with rfl | rfl | rfl | rfl
  · rw [Int.pow_zero]; decide
  · rw [Int.pow_succ, Int.pow_zero, Int.one_mul]; omega
  · rw [show c ^ 2 = c * c by rw [Int.pow_succ, Int.pow_succ, Int.pow_zero, Int.one_mul]]; omega
  · rw [show c ^ 3 = c * c * c by rw [Int.pow_succ, Int.pow_succ, Int.pow_succ, Int.pow_zero, Int.one_mul]]; omega
theorem cond3 (m : Nat → Int) (hm : ok6 m) (p : Int) (hp0 : 0 ≤ p) (hp : p < 4294967296) : val6 m < p * pl 3 ↔ m 4 = 0 ∧ m 5 = 0 ∧ m 3 < p := by
  have h0 := hm 0
  have h1 := hm 1
  have h2 := hm 2
  have h3 := hm 3
  have h4 := hm 4
  have h5 := hm 5
  have e : pl 3 = 79228162514264337593543950336 := by decide
  rw [e]
  unfold val6
  omega
theorem cond2 (m : Nat → Int) (hm : ok6 m) (p : Int) (hp0 : 0 ≤ p) (hp : p < 4294967296) : val6 m < p * pl 2 ↔ m 4 = 0 ∧ m 5 = 0 ∧ m 3 = 0 ∧ m 2 < p := by
  have h0 := hm 0
  have h1 := hm 1
  have h2 := hm 2
  have h3 := hm 3
  have h4 := hm 4
  have h5 := hm 5
  have e : pl 2 = 18446744073709551616 := by decide
  rw [e]
  unfold val6
  omega
def oneF (i : Nat) : Int := if i = 0 then 1 else 0
theorem oneF_ok : ok6 oneF := by intro i; unfold oneF; split <;> decide
theorem oneF_val : val6 oneF = 1 := by decide

set_option maxRecDepth 100000 in
set_option maxHeartbeats 4000000 in
theorem root3_any (p : Int) (w : World) (hp0 : 0 ≤ p) (hp : p < 4294967296) :
    Calls Tryd.prog 37 #[.int .u64 p, .int .i64 3] w fun e w' => e = .returned (.int .u32 (rootTo p 3 38 % 4294967296)) ∧ Below w.heap.size w w' := by
  go_enter Tryd.func37, Tryd.ntmps37
  go_wp2
  go_loopw [5, 6] (fun u v wr => ∃ j : Nat, j ≤ 38 ∧ u = .int .u64 (rootTo p 3 j) ∧ v = .int .u64 (bitF j) ∧ Below w.heap.size w wr) (fun _ v _ => (intOf v).toNat)
  case atStart => exact ⟨0, by omega, rfl, rfl, Below.refl _ _⟩
  case round =>
    obtain ⟨j, hj, rfl, rfl, hBr⟩ := hrel
    by_cases hlt : j ≤ 37
    · have hinv := rootTo_inv p 3 j hlt
      have hbp := bitF_pos j hlt
      have HHALF : Hid (bitF j / 2 = bitF (j + 1)) := bitF_half j hlt
      have HNEXT : Hid (rootTo p 3 (j + 1) = if (rootTo p 3 j + bitF j) ^ 3 < p * pl 3 then rootTo p 3 j + bitF j else rootTo p 3 j) := rfl
      generalize rootTo p 3 j = r at hinv HNEXT
      generalize bitF j = b at hinv hbp HHALF HNEXT
      go_wp2_with (refine wpList_store_row (by rfl) 66 (.tmp 7) (.tmp 13) (by rfl) wr.heap.size (arr .u64 6 oneF) (by rfl) (by rfl) 66 (arr .u64 6 fun _ => 0) ((heap_alloc_new _ _).trans rfl) (by rw [arr_size]; kernel_rfl) (by rw [arr_size, arr_size]) (arr_one _ _ _) ?_)
      refine wp_gen (fun W1 => Below w.heap.size w W1 ∧ W1.heap[wr.heap.size]? = some (.cells (arr .u64 6 oneF) 66 (0, 0))) ⟨below_setRow' (hBr.alloc hBr.size _) hBr.size _, heap_setRow_same (heap_alloc_new _ _)⟩ ?_
      have hd := hBr.size
      clear hBr
      generalize wr.heap.size = d at *
      intro W1 ⟨hB1, hr1⟩
      have H1 : Hid _ := hr1
      clear hr1
      go_loopw [8] (fun u wq => ∃ i : Nat, ∃ m : Nat → Int, i ≤ 3 ∧ u = .int .i64 i ∧ ok6 m ∧ val6 m = (r + b) ^ i ∧ Below w.heap.size w wq ∧ wq.heap[d]? = some (.cells (arr .u64 6 m) 66 (0, 0))) (fun u _ => 3 - (intOf u).toNat)
      case atStart => exact ⟨0, oneF, by omega, rfl, oneF_ok, (by rw [Int.pow_zero]; exact oneF_val), hB1, H1.out⟩
      case round =>
        obtain ⟨i, m, hi, rfl, hm, hval, hBq, hrd⟩ := hrel
        have HM : Hid (ok6 m) := hm
        have HVAL : Hid _ := hval
        have HD : Hid _ := hrd
        clear hval hB1 H1
        by_cases hik : i < 3
        · clear hm hrd
          go_wp2_with (refine wpList_load_row (by rfl) 66 (.tmp 7) (by rfl) d (by rfl) 66 (arr .u64 6 m) (0, 0) _ HD.out Tryd.underlying66 rfl (by rw [arr_size]; kernel_rfl) ?_)
          refine (times_any m (r + b) _ HM.out (by omega) (by omega)).mono ?_
          rintro e w3 ⟨m3, rfl, hk3, hv3, hb3⟩
          have HK3 : Hid (ok6 m3) := hk3
          have HV3 : Hid (val6 m3 = (r + b) ^ (i + 1)) := by
            have hpw := pow_lt (r + b) (by omega) (by omega) (i + 1) (by omega)
            rw [hv3, HVAL.out, ← Int.pow_succ, Int.emod_eq_of_lt hpw.1 hpw.2]
            exact rfl
          have HD3 : Hid (w3.heap[d]? = some (.cells (arr .u64 6 m) 66 (0, 0))) := (hb3.block _ (lt_of_row HD.out)).trans HD.out
          have hBw3 : Below w.heap.size w w3 := hBq.trans (hb3.mono hBq.size)
          clear hk3 hv3 hb3
          go_wp2_with (refine wpList_store_row (by rfl) 66 (.tmp 7) (.tmp 23) (by rfl) d (arr .u64 6 m3) (by rfl) (by rfl) 66 (arr .u64 6 m) HD3.out (by rw [arr_size]; kernel_rfl) (by rw [arr_size, arr_size]) (arr_one _ _ _) ?_)
          go_roundw
          case rel => exact ⟨i + 1, m3, by omega, by go_num, HK3.out, HV3.out, below_setRow' hBw3 hd _, heap_setRow_same HD3.out⟩
          case measure => simp [intOf]; omega
        · have hik3 : i = 3 := by omega
          have HC := cond3 m hm p hp0 hp
          rw [HVAL.out, hik3] at HC
          have HCO : Hid ((r + b) ^ 3 < p * pl 3 ↔ m 4 = 0 ∧ m 5 = 0 ∧ m 3 < p) := HC
          clear HC hik3
          have c2 : wr.cell? ⟨d, 2, none⟩ = some (.int .u64 (m 2)) := row_cell hrd (by omega)
          have c3 : wr.cell? ⟨d, 3, none⟩ = some (.int .u64 (m 3)) := row_cell hrd (by omega)
          have c4 : wr.cell? ⟨d, 4, none⟩ = some (.int .u64 (m 4)) := row_cell hrd (by omega)
          have c5 : wr.cell? ⟨d, 5, none⟩ = some (.int .u64 (m 5)) := row_cell hrd (by omega)
          have b2 := hm 2
          have b3 := hm 3
          have b4 := hm 4
          have b5 := hm 5
          generalize m 2 = x2 at c2 b2 HCO
          generalize m 3 = x3 at c3 b3 HCO
          generalize m 4 = x4 at c4 b4 HCO
          generalize m 5 = x5 at c5 b5 HCO
          clear hrd HD HM HVAL hm
          by_cases z4 : x4 = 0
          case neg =>
            have t4 : (x4 == 0) = false := by simpa using z4
            go_wp2
            go_roundw
            case rel => exact ⟨j + 1, by omega, by rw [HNEXT.out, if_neg (fun h => by have := HCO.out.1 h; omega)], by rw [← HHALF.out], hBq⟩
            case measure => simp [intOf]; omega
          have t4 : (x4 == 0) = true := by simpa using z4
          by_cases z5 : x5 = 0
          case neg =>
            have t5 : (x5 == 0) = false := by simpa using z5
            have HZ4 : Hid _ := z4
            clear z4
            go_wp2
            go_roundw
            case rel => exact ⟨j + 1, by omega, by rw [HNEXT.out, if_neg (fun h => by have := HCO.out.1 h; have := HZ4.out; omega)], by rw [← HHALF.out], hBq⟩
            case measure => simp [intOf]; omega
          have t5 : (x5 == 0) = true := by simpa using z5
          have HZ4 : Hid _ := z4
          have HZ5 : Hid _ := z5
          clear z4 z5
          by_cases z3 : x3 < p
          case neg =>
            have t3 : decide (x3 < p) = false := by simpa using z3
            go_wp2
            go_roundw
            case rel => exact ⟨j + 1, by omega, by rw [HNEXT.out, if_neg (fun h => by have := HCO.out.1 h; have := HZ4.out; have := HZ5.out; omega)], by rw [← HHALF.out], hBq⟩
            case measure => simp [intOf]; omega
          case pos =>
            have t3 : decide (x3 < p) = true := by simpa using z3
            go_wp2
            go_roundw
            case rel => exact ⟨j + 1, by omega, by rw [HNEXT.out, if_pos (HCO.out.2 (by have := HZ4.out; have := HZ5.out; omega))], by rw [← HHALF.out], hBq⟩
            case measure => simp [intOf]; omega
    · have hj38 : j = 38 := by omega
      have hb0 : bitF j = 0 := by rw [hj38]; decide
      have hr0 : 0 ≤ rootTo p 3 j ∧ rootTo p 3 j ≤ 274877906944 := by
        rw [hj38]
        have h := rootTo_inv p 3 37 (by omega)
        have e : bitF 37 = 1 := by decide
        rw [rootTo_succ]
        split <;> omega
      have HJ : Hid _ := hj38
      clear hj38
      generalize hrr : rootTo p 3 j = r at hr0
      have HRR : Hid _ := hrr
      clear hrr
      go_wp2
      go_ret
      exact ⟨by rw [← HJ.out, HRR.out]; rfl, hBr⟩

set_option maxRecDepth 100000 in
set_option maxHeartbeats 4000000 in
theorem root2_any (p : Int) (w : World) (hp0 : 0 ≤ p) (hp : p < 4294967296) :
    Calls Tryd.prog 37 #[.int .u64 p, .int .i64 2] w fun e w' => e = .returned (.int .u32 (rootTo p 2 38 % 4294967296)) ∧ Below w.heap.size w w' := by
  go_enter Tryd.func37, Tryd.ntmps37
  go_wp2
  go_loopw [5, 6] (fun u v wr => ∃ j : Nat, j ≤ 38 ∧ u = .int .u64 (rootTo p 2 j) ∧ v = .int .u64 (bitF j) ∧ Below w.heap.size w wr) (fun _ v _ => (intOf v).toNat)
  case atStart => exact ⟨0, by omega, rfl, rfl, Below.refl _ _⟩
  case round =>
    obtain ⟨j, hj, rfl, rfl, hBr⟩ := hrel
    by_cases hlt : j ≤ 37
    · have hinv := rootTo_inv p 2 j hlt
      have hbp := bitF_pos j hlt
      have HHALF : Hid (bitF j / 2 = bitF (j + 1)) := bitF_half j hlt
      have HNEXT : Hid (rootTo p 2 (j + 1) = if (rootTo p 2 j + bitF j) ^ 2 < p * pl 2 then rootTo p 2 j + bitF j else rootTo p 2 j) := rfl
      generalize rootTo p 2 j = r at hinv HNEXT
      generalize bitF j = b at hinv hbp HHALF HNEXT
      go_wp2_with (refine wpList_store_row (by rfl) 66 (.tmp 7) (.tmp 13) (by rfl) wr.heap.size (arr .u64 6 oneF) (by rfl) (by rfl) 66 (arr .u64 6 fun _ => 0) ((heap_alloc_new _ _).trans rfl) (by rw [arr_size]; kernel_rfl) (by rw [arr_size, arr_size]) (arr_one _ _ _) ?_)
      refine wp_gen (fun W1 => Below w.heap.size w W1 ∧ W1.heap[wr.heap.size]? = some (.cells (arr .u64 6 oneF) 66 (0, 0))) ⟨below_setRow' (hBr.alloc hBr.size _) hBr.size _, heap_setRow_same (heap_alloc_new _ _)⟩ ?_
      have hd := hBr.size
      clear hBr
      generalize wr.heap.size = d at *
      intro W1 ⟨hB1, hr1⟩
      have H1 : Hid _ := hr1
      clear hr1
      go_loopw [8] (fun u wq => ∃ i : Nat, ∃ m : Nat → Int, i ≤ 2 ∧ u = .int .i64 i ∧ ok6 m ∧ val6 m = (r + b) ^ i ∧ Below w.heap.size w wq ∧ wq.heap[d]? = some (.cells (arr .u64 6 m) 66 (0, 0))) (fun u _ => 2 - (intOf u).toNat)
      case atStart => exact ⟨0, oneF, by omega, rfl, oneF_ok, (by rw [Int.pow_zero]; exact oneF_val), hB1, H1.out⟩
      case round =>
        obtain ⟨i, m, hi, rfl, hm, hval, hBq, hrd⟩ := hrel
        have HM : Hid (ok6 m) := hm
        have HVAL : Hid _ := hval
        have HD : Hid _ := hrd
        clear hval hB1 H1
        by_cases hik : i < 2
        · clear hm hrd
          go_wp2_with (refine wpList_load_row (by rfl) 66 (.tmp 7) (by rfl) d (by rfl) 66 (arr .u64 6 m) (0, 0) _ HD.out Tryd.underlying66 rfl (by rw [arr_size]; kernel_rfl) ?_)
          refine (times_any m (r + b) _ HM.out (by omega) (by omega)).mono ?_
          rintro e w3 ⟨m3, rfl, hk3, hv3, hb3⟩
          have HK3 : Hid (ok6 m3) := hk3
          have HV3 : Hid (val6 m3 = (r + b) ^ (i + 1)) := by
            have hpw := pow_lt (r + b) (by omega) (by omega) (i + 1) (by omega)
            rw [hv3, HVAL.out, ← Int.pow_succ, Int.emod_eq_of_lt hpw.1 hpw.2]
            exact rfl
          have HD3 : Hid (w3.heap[d]? = some (.cells (arr .u64 6 m) 66 (0, 0))) := (hb3.block _ (lt_of_row HD.out)).trans HD.out
          have hBw3 : Below w.heap.size w w3 := hBq.trans (hb3.mono hBq.size)
          clear hk3 hv3 hb3
          go_wp2_with (refine wpList_store_row (by rfl) 66 (.tmp 7) (.tmp 23) (by rfl) d (arr .u64 6 m3) (by rfl) (by rfl) 66 (arr .u64 6 m) HD3.out (by rw [arr_size]; kernel_rfl) (by rw [arr_size, arr_size]) (arr_one _ _ _) ?_)
          go_roundw
          case rel => exact ⟨i + 1, m3, by omega, by go_num, HK3.out, HV3.out, below_setRow' hBw3 hd _, heap_setRow_same HD3.out⟩
          case measure => simp [intOf]; omega
        · have hik3 : i = 2 := by omega
          have HC := cond2 m hm p hp0 hp
          rw [HVAL.out, hik3] at HC
          have HCO : Hid ((r + b) ^ 2 < p * pl 2 ↔ m 4 = 0 ∧ m 5 = 0 ∧ m 3 = 0 ∧ m 2 < p) := HC
          clear HC hik3
          have c2 : wr.cell? ⟨d, 2, none⟩ = some (.int .u64 (m 2)) := row_cell hrd (by omega)
          have c3 : wr.cell? ⟨d, 3, none⟩ = some (.int .u64 (m 3)) := row_cell hrd (by omega)
          have c4 : wr.cell? ⟨d, 4, none⟩ = some (.int .u64 (m 4)) := row_cell hrd (by omega)
          have c5 : wr.cell? ⟨d, 5, none⟩ = some (.int .u64 (m 5)) := row_cell hrd (by omega)
          have b2 := hm 2
          have b3 := hm 3
          have b4 := hm 4
          have b5 := hm 5
          generalize m 2 = x2 at c2 b2 HCO
          generalize m 3 = x3 at c3 b3 HCO
          generalize m 4 = x4 at c4 b4 HCO
          generalize m 5 = x5 at c5 b5 HCO
          clear hrd HD HM HVAL hm
          by_cases z4 : x4 = 0
          case neg =>
            have t4 : (x4 == 0) = false := by simpa using z4
            go_wp2
            go_roundw
            case rel => exact ⟨j + 1, by omega, by rw [HNEXT.out, if_neg (fun h => by have := HCO.out.1 h; omega)], by rw [← HHALF.out], hBq⟩
            case measure => simp [intOf]; omega
          have t4 : (x4 == 0) = true := by simpa using z4
          by_cases z5 : x5 = 0
          case neg =>
            have t5 : (x5 == 0) = false := by simpa using z5
            have HZ4 : Hid _ := z4
            clear z4
            go_wp2
            go_roundw
            case rel => exact ⟨j + 1, by omega, by rw [HNEXT.out, if_neg (fun h => by have := HCO.out.1 h; have := HZ4.out; omega)], by rw [← HHALF.out], hBq⟩
            case measure => simp [intOf]; omega
          have t5 : (x5 == 0) = true := by simpa using z5
          have HZ4 : Hid _ := z4
          have HZ5 : Hid _ := z5
          clear z4 z5
          by_cases z3 : x3 = 0
          case neg =>
            have t3 : (x3 == 0) = false := by simpa using z3
            go_wp2
            go_roundw
            case rel => exact ⟨j + 1, by omega, by rw [HNEXT.out, if_neg (fun h => by have := HCO.out.1 h; have := HZ4.out; have := HZ5.out; omega)], by rw [← HHALF.out], hBq⟩
            case measure => simp [intOf]; omega
          have t3 : (x3 == 0) = true := by simpa using z3
          have HZ3 : Hid _ := z3
          clear z3
          by_cases z2 : x2 < p
          case neg =>
            have t2 : decide (x2 < p) = false := by simpa using z2
            go_wp2
            go_roundw
            case rel => exact ⟨j + 1, by omega, by rw [HNEXT.out, if_neg (fun h => by have := HCO.out.1 h; have := HZ4.out; have := HZ5.out; have := HZ3.out; omega)], by rw [← HHALF.out], hBq⟩
            case measure => simp [intOf]; omega
          case pos =>
            have t2 : decide (x2 < p) = true := by simpa using z2
            go_wp2
            go_roundw
            case rel => exact ⟨j + 1, by omega, by rw [HNEXT.out, if_pos (HCO.out.2 (by have := HZ4.out; have := HZ5.out; have := HZ3.out; omega))], by rw [← HHALF.out], hBq⟩
            case measure => simp [intOf]; omega
    · have hj38 : j = 38 := by omega
      have hb0 : bitF j = 0 := by rw [hj38]; decide
      have hr0 : 0 ≤ rootTo p 2 j ∧ rootTo p 2 j ≤ 274877906944 := by
        rw [hj38]
        have h := rootTo_inv p 2 37 (by omega)
        have e : bitF 37 = 1 := by decide
        rw [rootTo_succ]
        split <;> omega
      have HJ : Hid _ := hj38
      clear hj38
      generalize hrr : rootTo p 2 j = r at hr0
      have HRR : Hid _ := hrr
      clear hrr
      go_wp2
      go_ret
      exact ⟨by rw [← HJ.out, HRR.out]; rfl, hBr⟩
end Go.Proofs.YtekmmmechhjggaaDoor
