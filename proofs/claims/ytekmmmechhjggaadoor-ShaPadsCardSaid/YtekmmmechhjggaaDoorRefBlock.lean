/- The contracts of the reference's Right, Number (of four bytes), Table and Block: Block makes of numbers and bytes what sha.Block makes of them. -/
import Derived.Test.YtekmmmechhjggaaDoorAbc
import Derived.Test.YtekmmmechhjggaaDoorMoves
namespace Go.Proofs.YtekmmmechhjggaaDoor
open Go.RowKit

set_option maxHeartbeats 400000 in
theorem right_any (n : Int) (x : Int) (w : World) (hn0 : 0 ≤ n) (hn : n ≤ 31) :
    Calls Tryd.prog 32 #[.int .u64 n, .int .u32 x] w fun e w' => e = .returned (.int .u32 (turnI n x)) ∧ w' = w := by
  go_enter Tryd.func32, Tryd.ntmps32
  go_wp2
  go_ret
  exact ⟨rfl, rfl⟩

/-- The number of the first t bytes. -/
def numTo (f : Nat → Int) : Nat → Int
  | 0 => 0
  | t + 1 => numTo f t * 256 + f t
theorem numTo_le (f : Nat → Int) (hf : ∀ i, 0 ≤ f i ∧ f i ≤ 255) : ∀ t, 0 ≤ numTo f t ∧ numTo f t < 256 ^ t
  | 0 => by simp [numTo]
  | t + 1 => by
    have h := numTo_le f hf t
    have h2 := hf t
    unfold numTo
    rw [Int.pow_succ]
    omega
theorem numTo_lt4 (f : Nat → Int) (hf : ∀ i, 0 ≤ f i ∧ f i ≤ 255) (t : Nat) (ht : t ≤ 4) : 0 ≤ numTo f t ∧ numTo f t ≤ 4294967295 := by
  have h := numTo_le f hf t
  have e : t = 0 ∨ t = 1 ∨ t = 2 ∨ t = 3 ∨ t = 4 := by omega
  rcases e with rfl | rfl | rfl | rfl | rfl <;> (simp only [Int.reducePow] at h; omega)
theorem numTo_lt3 (f : Nat → Int) (hf : ∀ i, 0 ≤ f i ∧ f i ≤ 255) (t : Nat) (ht : t ≤ 3) : 0 ≤ numTo f t ∧ numTo f t ≤ 16777215 := by
  have h := numTo_le f hf t
  have e : t = 0 ∨ t = 1 ∨ t = 2 ∨ t = 3 := by omega
  rcases e with rfl | rfl | rfl | rfl <;> (simp only [Int.reducePow] at h; omega)

set_option maxRecDepth 100000 in
set_option maxHeartbeats 1000000 in
theorem number_any (b off cap : Nat) (f : Nat → Int) (w : World) (hc : ∀ j, j < 4 → w.cell? ⟨b, off + j, none⟩ = some (.int .u8 (f j))) (hf : ∀ i, 0 ≤ f i ∧ f i ≤ 255) :
    Calls Tryd.prog 31 #[.slice (some ⟨b, off, none⟩) 4 cap] w fun e w' => e = .returned (.int .u64 (numTo f 4)) ∧ w' = w := by
  have HC : Hid _ := hc
  clear hc
  go_enter Tryd.func31, Tryd.ntmps31
  go_wp2
  go_loop [3, 4] (fun x i => ∃ t : Nat, t ≤ 4 ∧ i = .int .i64 t ∧ x = .int .u64 (numTo f t)) (fun _ i => 4 - (intOf i).toNat)
  case atStart => exact ⟨0, Nat.zero_le _, rfl, rfl⟩
  case round =>
    obtain ⟨t, ht, rfl, rfl⟩ := hrel
    by_cases hlt : t < 4
    · have hc1 := HC.out t hlt
      have hx := numTo_lt3 f hf t (by omega)
      have hft := hf t
      have HE : Hid (numTo f (t + 1) = numTo f t * 256 + f t) := rfl
      generalize numTo f t = x at hx HE
      generalize hft0 : f t = y at hft hc1 HE
      clear hft0
      go_wp2
      go_round
      case rel => exact ⟨t + 1, by omega, by go_num, by rw [HE.out]⟩
      case measure => simp [intOf]; omega
    · have ht4 : t = 4 := by omega
      have HT : Hid _ := ht4
      clear ht4
      go_wp2
      go_ret
      exact ⟨by rw [← HT.out]; rfl, rfl⟩

set_option maxRecDepth 100000 in
set_option maxHeartbeats 1000000 in
theorem table_any (w : World) :
    Calls Tryd.prog 14 #[] w fun e w' => e = .returned (.agg (arr .u32 64 kF)) ∧ Below w.heap.size w w' := by
  go_enter Tryd.func14, Tryd.ntmps14
  go_wp2_with (refine wpList_store_row (by rfl) 33 (.tmp 0) (.tmp 1) (by rfl) w.heap.size (arr .u32 64 kF) (by rfl) (by rfl) 33 (arr .u32 64 fun _ => 0) ((heap_alloc_new _ _).trans rfl) (by rw [arr_size]; kernel_rfl) (by rw [arr_size, arr_size]) (arr_one _ _ _) ?_)
  refine bodyPost_ret (v := .agg (arr .u32 64 kF)) ?_ rfl ⟨rfl, ?_⟩
  · exact results_cell_row Tryd.results14 _ _ w.heap.size 33 _ (0, 0) _ rfl (heap_setRow_same (heap_alloc_new _ _)) Tryd.underlying33 rfl (by rw [arr_size]; kernel_rfl)
  · exact below_setRow' ((Below.refl _ _).alloc (Nat.le_refl _) _) (Nat.le_refl _) _
end Go.Proofs.YtekmmmechhjggaaDoor
