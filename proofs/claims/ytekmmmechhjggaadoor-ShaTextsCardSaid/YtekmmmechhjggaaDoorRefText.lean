/- The contracts of the reference's Digit and Text. -/
import Derived.Test.YtekmmmechhjggaaDoorEq
import Derived.Laws.Concat
namespace Go.Proofs.YtekmmmechhjggaaDoor
open Go.RowKit

set_option maxRecDepth 100000 in
set_option maxHeartbeats 1000000 in
theorem digit_any (c : Int) (h0 : 0 ≤ c) (h1 : c ≤ 255) (w : World) :
    Calls Tryd.prog 39 #[.int .u8 c] w fun e w' => e = .returned (.int .i64 (worthI c)) ∧ w' = w := by
  have cases5 : c < 48 ∨ (48 ≤ c ∧ c ≤ 57) ∨ (58 ≤ c ∧ c ≤ 96) ∨ (97 ≤ c ∧ c ≤ 102) ∨ 103 ≤ c := by omega
  rcases cases5 with h | h | h | h | h
  · have d1 : decide (48 ≤ c) = false := by simp; omega
    have d2 : decide (97 ≤ c) = false := by simp; omega
    have e : Hid (worthI c = -1) := by unfold worthI; rw [if_neg (by omega), if_neg (by omega)]; exact rfl
    go_enter Tryd.func39, Tryd.ntmps39
    go_wp2
    go_ret
    exact ⟨by rw [e.out]; rfl, rfl⟩
  · have d1 : decide (48 ≤ c) = true := by simp; omega
    have d2 : decide (c ≤ 57) = true := by simp; omega
    have e : Hid (worthI c = c - 48) := by unfold worthI; rw [if_pos (by omega)]; exact rfl
    go_enter Tryd.func39, Tryd.ntmps39
    go_wp2
    go_ret
    exact ⟨by rw [e.out]; rfl, rfl⟩
  · have d1 : decide (48 ≤ c) = true := by simp; omega
    have d2 : decide (c ≤ 57) = false := by simp; omega
    have d3 : decide (97 ≤ c) = false := by simp; omega
    have e : Hid (worthI c = -1) := by unfold worthI; rw [if_neg (by omega), if_neg (by omega)]; exact rfl
    go_enter Tryd.func39, Tryd.ntmps39
    go_wp2
    go_ret
    exact ⟨by rw [e.out]; rfl, rfl⟩
  · have d1 : decide (48 ≤ c) = true := by simp; omega
    have d2 : decide (c ≤ 57) = false := by simp; omega
    have d3 : decide (97 ≤ c) = true := by simp; omega
    have d4 : decide (c ≤ 102) = true := by simp; omega
    have e : Hid (worthI c = c - 97 + 10) := by unfold worthI; rw [if_neg (by omega), if_pos (by omega)]; exact (show c - 87 = c - 97 + 10 by omega)
    go_enter Tryd.func39, Tryd.ntmps39
    go_wp2
    go_ret
    exact ⟨by rw [e.out]; rfl, rfl⟩
  · have d1 : decide (48 ≤ c) = true := by simp; omega
    have d2 : decide (c ≤ 57) = false := by simp; omega
    have d3 : decide (97 ≤ c) = true := by simp; omega
    have d4 : decide (c ≤ 102) = false := by simp; omega
    have e : Hid (worthI c = -1) := by unfold worthI; rw [if_neg (by omega), if_neg (by omega)]; exact rfl
    go_enter Tryd.func39, Tryd.ntmps39
    go_wp2
    go_ret
    exact ⟨by rw [e.out]; rfl, rfl⟩

/-- A string of one byte. -/
def one (x : Int) : ByteArray := ⟨#[UInt8.ofNat x.toNat]⟩
theorem slice_digit (q : Int) (h0 : 0 ≤ q) (h1 : q < 16) (w : World) : (Instr.sliceAt 9 (.string { data := #[48, 49, 50, 51, 52, 53, 54, 55, 56, 57, 97, 98, 99, 100, 101, 102] }) (some (.int .i64 q)) (some (.int .i64 (q + 1))) none).run Tryd.prog w = .ok (.string (one (digI q))) w := by
  have h : q = 0 ∨ q = 1 ∨ q = 2 ∨ q = 3 ∨ q = 4 ∨ q = 5 ∨ q = 6 ∨ q = 7 ∨ q = 8 ∨ q = 9 ∨ q = 10 ∨ q = 11 ∨ q = 12 ∨ q = 13 ∨ q = 14 ∨ q = 15 := by omega
  rcases h with rfl | rfl | rfl | rfl | rfl | rfl | rfl | rfl | rfl | rfl | rfl | rfl | rfl | rfl | rfl | rfl <;> rfl

theorem one_size (x : Int) : (one x).size = 1 := rfl
theorem text_two (f : Nat → Int) (t : Nat) (ht : t < 32) : strOf (2 * t) (textTo f 32) ++ one (digI (f t / 16)) ++ one (digI (f t % 16)) = strOf (2 * (t + 1)) (textTo f 32) := by
  apply ByteArray.ext
  have e1 : textTo f 32 (2 * t) = digI (f t / 16) := by unfold textTo; rw [if_pos (by omega), if_pos (by omega), show 2 * t / 2 = t by omega]
  have e2 : textTo f 32 (2 * t + 1) = digI (f t % 16) := by unfold textTo; rw [if_pos (by omega), if_neg (by omega), show (2 * t + 1) / 2 = t by omega]
  rw [ByteArray.data_append, ByteArray.data_append]
  unfold strOf one
  rw [show 2 * (t + 1) = 2 * t + 1 + 1 by omega, List.range_succ, List.range_succ, ← e1, ← e2]
  simp

set_option maxRecDepth 100000 in
set_option maxHeartbeats 1000000 in
theorem refText_any (f : Nat → Int) (w : World) (hf : ∀ i, 0 ≤ f i ∧ f i ≤ 255) :
    Calls Tryd.prog 25 #[.agg (arr .u8 32 f)] w fun e w' => e = .returned (.string (textF f)) ∧ Below w.heap.size w w' := by
  go_enter Tryd.func25, Tryd.ntmps25
  go_wp2
  refine wp_gen (fun W1 => Below w.heap.size w W1 ∧ W1.heap[w.heap.size]? = some (.cells (arr .u8 32 f) 25 (0, 0))) ⟨?_, ?_⟩ ?_
  · exact (Below.refl _ _).alloc (Nat.le_refl _) _
  · exact heap_alloc_new _ _
  intro W1 ⟨hB, hrow⟩
  have HROW : Hid _ := hrow
  have hz := lt_of_row hrow
  clear hrow
  go_loopw [3, 4] (fun s i wr => ∃ t : Nat, t ≤ 32 ∧ i = .int .i64 t ∧ s = .string (strOf (2 * t) (textTo f 32)) ∧ Below W1.heap.size W1 wr) (fun _ i _ => 32 - (intOf i).toNat)
  case atStart => exact ⟨0, Nat.zero_le _, rfl, rfl, Below.refl _ _⟩
  case round =>
    obtain ⟨t, ht, rfl, rfl, hBr⟩ := hrel
    by_cases hlt : t < 32
    · have hft := hf t
      have hc : wr.cell? ⟨w.heap.size, t, none⟩ = some (.int .u8 (f t)) := (hBr.cell (p := ⟨w.heap.size, t, none⟩) hz).trans (row_cell HROW.out hlt)
      generalize hX : f t = x at hft hc
      have HX : Hid _ := hX
      clear hX
      have hd1 := slice_digit (x / 16) (by omega) (by omega)
      have hd2 := slice_digit (x % 16) (by omega) (by omega)
      have hsz : (strOf (2 * t) (textTo f 32)).size = 2 * t := str_size _ _
      generalize hS : strOf (2 * t) (textTo f 32) = S at hsz
      have HS : Hid _ := hS
      clear hS
      have ha1 : ∀ w, (Op.stringOp .add S (one (digI (x / 16)))).run Tryd.prog w = .ok (.string (S ++ one (digI (x / 16)))) w := fun w => run_string_add_sum w _ _ (by rw [one_size, hsz]; omega)
      have ha2 : ∀ w, (Op.stringOp .add (S ++ one (digI (x / 16))) (one (digI (x % 16)))).run Tryd.prog w = .ok (.string (S ++ one (digI (x / 16)) ++ one (digI (x % 16)))) w := fun w => run_string_add_sum w _ _ (by rw [ByteArray.size_append, one_size, one_size, hsz]; omega)
      go_wp2
      go_quiet (fail)
      go_wp2
      go_roundw
      case rel =>
        refine ⟨t + 1, by omega, by go_num, ?_, below_drewN hBr _⟩
        rw [← HS.out, ← HX.out]
        exact congrArg Value.string (text_two f t hlt)
      case measure => simp [intOf]; omega
    · have ht32 : t = 32 := by omega
      have HT : Hid _ := ht32
      clear ht32
      go_wp2
      go_ret
      refine ⟨?_, hB.trans (hBr.mono hB.size)⟩
      rw [HT.out]
      rfl
end Go.Proofs.YtekmmmechhjggaaDoor
