/- The walk of the law ShaPads. -/
import Derived.Test.YtekmmmechhjggaaDoorRoots
import Derived.Test.YtekmmmechhjggaaDoorRefPad
import Derived.Test.YtekmmmechhjggaaDoorRefBlock
import Derived.Test.YtekmmmechhjggaaDoorEq
namespace Go.Proofs.YtekmmmechhjggaaDoor
open Go.RowKit

set_option maxRecDepth 100000 in
set_option maxHeartbeats 1000000 in
theorem pads_long (sp : Option Addr) (len cap : Nat) (w : World) (hl : Laid w) (h : 20000 < len) (hm : len ≤ maxLen) :
    Calls Tryd.prog 5 #[.slice sp len cap] w fun e w' => e = .returned (.bool true) ∧ Below w.heap.size w w' := by
  unfold maxLen at hm
  go_enter Tryd.func5, Tryd.ntmps5
  go_wp2_with fail
  refine (wakes_any w hl).mono ?_
  rintro e w2 ⟨rfl, hB2⟩
  go_wp2
  go_ret
  exact ⟨rfl, hB2⟩

set_option maxRecDepth 100000 in
set_option maxHeartbeats 2000000 in
theorem pads_walk (sp : Option Addr) (len cap : Nat) (src : Nat → Int) (w : World) (hl : Laid w) (hsrc : SrcAt w .u8 sp len src) (hlen : len ≤ 20000) :
    Calls Tryd.prog 5 #[.slice sp len cap] w fun e w' => e = .returned (.bool true) ∧ Below w.heap.size w w' := by
  go_enter Tryd.func5, Tryd.ntmps5
  go_wp2_with fail
  refine (wakes_any w hl).mono ?_
  rintro e w2 ⟨rfl, hB2⟩
  have HS : Hid (SrcAt w .u8 sp len src) := hsrc
  clear hsrc
  go_wp2_with fail
  refine (pad_any sp len cap src w2 (SrcAt.below HS.out hB2) (by omega)).mono ?_
  rintro e w3 ⟨g, rfl, hg, hrow, hB3⟩
  have hBw3 : Below w.heap.size w w3 := hB2.trans (hB3.mono hB2.size)
  have HROW : Hid _ := hrow
  clear hrow
  go_wp2_with fail
  refine (refPad_any sp len cap src w3 (SrcAt.below HS.out hBw3) (by omega)).mono ?_
  rintro e w4 ⟨v, rfl, hO, hB4⟩
  obtain ⟨tp, c2, rfl, hsrc2, hc2, hcm⟩ := hO.src
  have hBw4 : Below w.heap.size w w4 := hBw3.trans (hB4.mono hBw3.size)
  have HROW4 : Hid (w4.heap[g]? = some (.cells (arr .u8 (padLen len) (padF src len)) 5 (0, 0))) := (hB4.block _ (lt_of_row HROW.out)).trans HROW.out
  have HS2 : Hid _ := hsrc2
  clear hO hsrc2 HROW
  go_wp2_with fail
  have hpl : padLen len ≤ 100000000 := by unfold padLen padZ; omega
  refine (refSame_any _ _ (padLen len) _ _ (padF src len) w4 (srcAt_row HROW4.out (Nat.le_refl _)) HS2.out hpl).mono ?_
  rintro e w5 ⟨rfl, hB5⟩
  have hBw5 : Below w.heap.size w w5 := hBw4.trans (hB5.mono hBw4.size)
  clear HS2 HROW4 hpl
  go_wp2_with fail
  refine (consts_any w5 (hl.below hBw5)).mono ?_
  rintro e w6 ⟨rfl, hB6⟩
  have hBw6 : Below w.heap.size w w6 := hBw5.trans (hB6.mono hBw5.size)
  go_wp2_with fail
  refine (refConstants_any w6).mono ?_
  rintro e w7 ⟨rfl, hB7⟩
  have hBw7 : Below w.heap.size w w7 := hBw6.trans (hB7.mono hBw6.size)
  have heq : ∀ w, (Op.equalIn 10000 33 (.agg (arr .u32 64 kF)) (.agg (arr .u32 64 kF))).run Tryd.prog w = .ok true w := fun w =>
    (equal_arr 9998 33 28 64 .u32 .u32 _ _ Tryd.underlying33 Tryd.underlying28 (by kernel_rfl) w).trans (by rw [eqTo_true fun _ _ => rfl])
  have heq2 : ∀ w, (Op.equalIn 10000 29 (.agg (arr .u32 8 hS.fn)) (.agg (arr .u32 8 hS.fn))).run Tryd.prog w = .ok true w := fun w =>
    (equal_arr 9998 29 28 8 .u32 .u32 _ _ Tryd.underlying29 Tryd.underlying28 (by kernel_rfl) w).trans (by rw [eqTo_true fun _ _ => rfl])
  go_wp2_with fail
  refine (table_any w7).mono ?_
  rintro e w8 ⟨rfl, hB8⟩
  have hBw8 : Below w.heap.size w w8 := hBw7.trans (hB8.mono hBw7.size)
  go_wp2_with fail
  refine (refConstants_any w8).mono ?_
  rintro e w9 ⟨rfl, hB9⟩
  have hBw9 : Below w.heap.size w w9 := hBw8.trans (hB9.mono hBw8.size)
  go_wp2_with fail
  refine (start_any w9 (hl.below hBw9)).mono ?_
  rintro e w10 ⟨rfl, hB10⟩
  have hBw10 : Below w.heap.size w w10 := hBw9.trans (hB10.mono hBw9.size)
  rw [St.val_arr]
  go_wp2_with fail
  refine (refStart_any w10).mono ?_
  rintro e w11 ⟨rfl, hB11⟩
  go_wp2
  go_ret
  exact ⟨rfl, hBw10.trans (hB11.mono hBw10.size)⟩

theorem pads_all (sp : Option Addr) (len cap : Nat) (src : Nat → Int) (w : World) (hl : Laid w) (hsrc : SrcAt w .u8 sp len src) (_hs : ∀ i, 0 ≤ src i ∧ src i ≤ 255) (hm : len ≤ maxLen) :
    Calls Tryd.prog 5 #[.slice sp len cap] w fun e w' => e = .returned (.bool true) ∧ Below w.heap.size w w' := by
  by_cases h : len ≤ 20000
  · exact pads_walk sp len cap src w hl hsrc h
  · exact pads_long sp len cap w hl (by omega) hm
end Go.Proofs.YtekmmmechhjggaaDoor
