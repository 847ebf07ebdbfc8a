/- Numbers of six words of 32 bits, by their value; the contract of the reference's plus. -/
import Derived.Test.YtekmmmechhjggaaDoorHeld
namespace Go.Proofs.YtekmmmechhjggaaDoor
open Go.RowKit

def ok6 (l : Nat → Int) : Prop := ∀ i, 0 ≤ l i ∧ l i < 4294967296
def val6 (l : Nat → Int) : Int := l 0 + l 1 * 4294967296 + l 2 * 18446744073709551616 + l 3 * 79228162514264337593543950336 + l 4 * 340282366920938463463374607431768211456 + l 5 * 1461501637330902918203684832716283019655932542976
def M192 : Int := 6277101735386680763835789423207666416102355444464034512896
theorem val6_bound (l : Nat → Int) (h : ok6 l) : 0 ≤ val6 l ∧ val6 l < M192 := by
  have h0 := h 0
  have h1 := h 1
  have h2 := h 2
  have h3 := h 3
  have h4 := h 4
  have h5 := h 5
  unfold val6 M192
  omega
/-- The worth of a place. -/
def pl (a : Nat) : Int := (4294967296 : Int) ^ a
theorem pl_succ (a : Nat) : pl (a + 1) = pl a * 4294967296 := Int.pow_succ _ _
theorem pl_six (a : Nat) : pl (a + 6) = pl a * M192 := by
  unfold pl
  rw [Int.pow_add]
  rfl
theorem val6_upd (l : Nat → Int) (a : Nat) (ha : a < 6) (v : Int) : val6 (upd l a v) = val6 l + (v - l a) * pl a := by
  have h : a = 0 ∨ a = 1 ∨ a = 2 ∨ a = 3 ∨ a = 4 ∨ a = 5 := by omega
  rcases h with rfl | rfl | rfl | rfl | rfl | rfl <;> (simp [val6, upd, pl]; omega)
theorem ok6_upd {l : Nat → Int} (h : ok6 l) (a : Nat) (v : Int) (hv : 0 ≤ v ∧ v < 4294967296) : ok6 (upd l a v) := by
  intro i
  unfold upd
  split
  · exact hv
  · exact h i
theorem plus_step (l : Nat → Int) (a : Nat) (ha : a < 6) (x : Int) : val6 (upd l a ((l a + x) % 4294967296)) + (l a + x) / 4294967296 * pl (a + 1) = val6 l + x * pl a := by
  rw [val6_upd l a ha, pl_succ]
  have e : (l a + x) % 4294967296 = l a + x - 4294967296 * ((l a + x) / 4294967296) := by omega
  rw [e]
  generalize (l a + x) / 4294967296 = q
  generalize pl a = E
  generalize l a = la
  grind

set_option maxRecDepth 100000 in
set_option maxHeartbeats 1000000 in
theorem plus_any (l : Nat → Int) (a : Nat) (x : Int) (w : World) (hl : ok6 l) (ha : a ≤ 7) (hx0 : 0 ≤ x) (hx : x < 4294967296) :
    Calls Tryd.prog 47 #[.agg (arr .u64 6 l), .int .i64 a, .int .u64 x] w fun e w' => ∃ m, e = .returned (.agg (arr .u64 6 m)) ∧ ok6 m ∧ val6 m = (val6 l + x * pl a) % M192 ∧ Below w.heap.size w w' := by
  go_enter Tryd.func47, Tryd.ntmps47
  go_wp2
  refine wp_gen (fun W1 => Below w.heap.size w W1 ∧ W1.heap[w.heap.size]? = some (.cells (arr .u64 6 l) 66 (0, 0)) ∧ W1.heap[w.heap.size + 1]? = some (.cells (arr .u64 6 fun _ => 0) 66 (0, 0))) ⟨?_, ?_, ?_⟩ ?_
  · exact ((Below.refl _ _).alloc (Nat.le_refl _) _).alloc (by simp) _
  · exact (heap_alloc2_old _ _ _).trans rfl
  · exact (heap_alloc2_new _ _ _).trans rfl
  intro W1 ⟨hB, hr0, hr1⟩
  have H0 : Hid _ := hr0
  have H1 : Hid _ := hr1
  clear hr0 hr1
  go_loopw [1, 2] (fun u v wr => ∃ c : Nat, ∃ y : Int, ∃ m : Nat → Int, c ≤ 7 ∧ u = .int .i64 c ∧ v = .int .u64 y ∧ 0 ≤ y ∧ y < 4294967296 ∧ ok6 m ∧ (val6 m + y * pl c) % M192 = (val6 l + x * pl a) % M192 ∧ Below w.heap.size w wr ∧ wr.heap[w.heap.size]? = some (.cells (arr .u64 6 m) 66 (0, 0)) ∧ wr.heap[w.heap.size + 1]? = some (.cells (arr .u64 6 fun _ => 0) 66 (0, 0))) (fun u _ _ => 8 - (intOf u).toNat)
  case atStart => exact ⟨a, x, l, ha, rfl, rfl, hx0, hx, hl, rfl, hB, H0.out, H1.out⟩
  case round =>
    obtain ⟨c, y, m, hc, rfl, rfl, hy0, hy, hm, hval, hBr, hr0, hr1⟩ := hrel
    have HVAL : Hid _ := hval
    have HM : Hid (ok6 m) := hm
    clear H0 H1 hB hval
    have H0 : Hid _ := hr0
    have H1 : Hid _ := hr1
    by_cases hend : c < 6 ∧ 0 < y
    · have hc0 : wr.cell? ⟨w.heap.size, c, none⟩ = some (.int .u64 (m c)) := row_cell hr0 hend.1
      have hz : ∀ j, wr.frozen? ⟨w.heap.size, j, none⟩ = false := fun j => frozen_of_row _ _ j _ _ hr0
      have hmc := hm c
      have d1 : decide ((c : Int) < 6) = true := by simp; omega
      have d2 : decide (0 < y) = true := by simpa using hend.2
      have hend1 := hend.1
      have HST := plus_step m c hend.1 y
      have HSTEP : Hid _ := HST
      clear hr0 hr1 HST hend hm
      generalize hz0 : m c = z at hc0 hmc HSTEP
      clear hz0
      go_wp2
      go_roundw
      case rel =>
        refine ⟨c + 1, (z + y) / 4294967296, upd m c ((z + y) % 4294967296), by omega, by go_num, rfl, by omega, by omega, ok6_upd HM.out c _ (by omega), by rw [HSTEP.out]; exact HVAL.out, (hBr.setCell (Nat.le_refl _) _).setCell (Nat.le_refl _) _, ?_, ?_⟩
        · have e : arr .u64 6 (upd m c ((z + y) % 4294967296)) = arr .u64 6 (upd (upd m c (z + y)) c ((z + y) % 4294967296)) := arr_congr fun i _ => by unfold upd; split <;> rfl
          rw [e]
          exact row_set (row_set H0.out _ _) _ _
        · exact (heap_setCell_other _ _ _ _ (by simp only; omega)).trans ((heap_setCell_other _ _ _ _ (by simp only; omega)).trans H1.out)
      case measure => simp [intOf]; omega
    · have HE : Hid (val6 m = (val6 l + x * pl a) % M192) := by
        have hb := val6_bound m hm
        have hv := HVAL.out
        have e : (val6 m + y * pl c) % M192 = val6 m := by
          by_cases h6 : c < 6
          · have y0 : y = 0 := by omega
            rw [y0, Int.zero_mul, Int.add_zero, Int.emod_eq_of_lt hb.1 hb.2]
          · obtain ⟨d, rfl⟩ : ∃ d, c = d + 6 := ⟨c - 6, by omega⟩
            rw [pl_six, ← Int.mul_assoc, Int.add_mul_emod_self_right, Int.emod_eq_of_lt hb.1 hb.2]
        rw [e] at hv
        exact hv
      clear hm hr0 hr1
      by_cases h6 : c < 6
      · have d1 : decide ((c : Int) < 6) = true := by simp; omega
        have d2 : decide (0 < y) = false := by simp; omega
        clear hend
        go_wp2_with (first
          | (refine wpList_load_row (by rfl) 66 (.tmp 3) (by rfl) w.heap.size (by rfl) 66 _ (0, 0) _ H0.out Tryd.underlying66 rfl (by rw [arr_size]; kernel_rfl) ?_)
          | (refine wpList_store_row (by rfl) 66 (.tmp 6) (.tmp 32) (by rfl) (w.heap.size + 1) _ (by rfl) (by rfl) 66 (arr .u64 6 fun _ => 0) H1.out (by rw [arr_size]; kernel_rfl) (by rw [arr_size, arr_size]) (arr_one _ _ _) ?_))
        refine bodyPost_ret (v := .agg (arr .u64 6 m)) ?_ rfl ⟨m, rfl, HM.out, ?_, ?_⟩
        · exact results_cell_row Tryd.results47 _ _ (w.heap.size + 1) 66 _ (0, 0) _ rfl (heap_setRow_same H1.out) Tryd.underlying66 rfl (by rw [arr_size]; kernel_rfl)
        · exact HE.out
        · exact below_setRow' hBr (by omega) _
      · have d1 : decide ((c : Int) < 6) = false := by simp; omega
        clear hend
        go_wp2_with (first
          | (refine wpList_load_row (by rfl) 66 (.tmp 3) (by rfl) w.heap.size (by rfl) 66 _ (0, 0) _ H0.out Tryd.underlying66 rfl (by rw [arr_size]; kernel_rfl) ?_)
          | (refine wpList_store_row (by rfl) 66 (.tmp 6) (.tmp 32) (by rfl) (w.heap.size + 1) _ (by rfl) (by rfl) 66 (arr .u64 6 fun _ => 0) H1.out (by rw [arr_size]; kernel_rfl) (by rw [arr_size, arr_size]) (arr_one _ _ _) ?_))
        refine bodyPost_ret (v := .agg (arr .u64 6 m)) ?_ rfl ⟨m, rfl, HM.out, ?_, ?_⟩
        · exact results_cell_row Tryd.results47 _ _ (w.heap.size + 1) 66 _ (0, 0) _ rfl (heap_setRow_same H1.out) Tryd.underlying66 rfl (by rw [arr_size]; kernel_rfl)
        · exact HE.out
        · exact below_setRow' hBr (by omega) _
end Go.Proofs.YtekmmmechhjggaaDoor
