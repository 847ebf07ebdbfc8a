/- The walk of the law ShaSums. -/
import Derived.Test.YtekmmmechhjggaaDoorRefSum
import Derived.Test.YtekmmmechhjggaaDoorEq
namespace Go.Proofs.YtekmmmechhjggaaDoor
open Go.RowKit

set_option maxRecDepth 100000 in
set_option maxHeartbeats 1000000 in
theorem sums_long (sp : Option Addr) (len cap : Nat) (w : World) (hl : Laid w) (h : 3000 < len) (hm : len ≤ maxLen) :
    Calls Tryd.prog 3 #[.slice sp len cap] w fun e w' => e = .returned (.bool true) ∧ Below w.heap.size w w' := by
  unfold maxLen at hm
  go_enter Tryd.func3, Tryd.ntmps3
  go_wp2_with fail
  refine (wakes_any w hl).mono ?_
  rintro e w2 ⟨rfl, hB2⟩
  go_wp2
  go_ret
  exact ⟨rfl, hB2⟩

set_option maxRecDepth 100000 in
set_option maxHeartbeats 2000000 in
theorem sums_walk (sp : Option Addr) (len cap : Nat) (src : Nat → Int) (w : World) (hl : Laid w) (hsrc : SrcAt w .u8 sp len src) (hs : ∀ i, 0 ≤ src i ∧ src i ≤ 255) (hlen : len ≤ 3000) :
    Calls Tryd.prog 3 #[.slice sp len cap] w fun e w' => e = .returned (.bool true) ∧ Below w.heap.size w w' := by
  go_enter Tryd.func3, Tryd.ntmps3
  go_wp2_with fail
  refine (wakes_any w hl).mono ?_
  rintro e w2 ⟨rfl, hB2⟩
  have HS : Hid (SrcAt w .u8 sp len src) := hsrc
  clear hsrc
  go_wp2_with fail
  refine (sum_any sp len cap src kF hS w2 (SrcAt.below HS.out hB2) (by omega) hs (hl.below hB2).1 (hl.below hB2).2 hS_ok).mono ?_
  rintro e w3 ⟨rfl, hB3⟩
  have hBw : Below w.heap.size w w3 := hB2.trans (hB3.mono hB2.size)
  go_wp2_with fail
  refine (refSum_any sp len cap src w3 (SrcAt.below HS.out hBw) (by omega) hs).mono ?_
  rintro e w4 ⟨rfl, hB4⟩
  have heq : ∀ w, (Op.equalIn 10000 25 (.agg (arr .u8 32 (outF (sumF kF hS src len)))) (.agg (arr .u8 32 (outF (sumF kF hS src len))))).run Tryd.prog w = .ok true w := fun w =>
    (equal_arr 9998 25 5 32 .u8 .u8 _ _ Tryd.underlying25 Tryd.underlying5 (by kernel_rfl) w).trans (by rw [eqTo_true fun _ _ => rfl])
  go_wp2
  go_ret
  exact ⟨rfl, hBw.trans (hB4.mono hBw.size)⟩

theorem sums_all (sp : Option Addr) (len cap : Nat) (src : Nat → Int) (w : World) (hl : Laid w) (hsrc : SrcAt w .u8 sp len src) (hs : ∀ i, 0 ≤ src i ∧ src i ≤ 255) (hm : len ≤ maxLen) :
    Calls Tryd.prog 3 #[.slice sp len cap] w fun e w' => e = .returned (.bool true) ∧ Below w.heap.size w w' := by
  by_cases h : len ≤ 3000
  · exact sums_walk sp len cap src w hl hsrc hs h
  · exact sums_long sp len cap w hl (by omega) hm
end Go.Proofs.YtekmmmechhjggaaDoor
