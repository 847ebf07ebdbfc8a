/- tree's lookup, in an empty heap. -/
import Derived.Test.YtgfjjglejlnfbaaGreatDoorFsT
import Derived.Test.YtgfjjglejlnfbaaGreatDoorFsS
import Derived.Test.YtgfjjglejlnfbaaGreatDoorIdZ
import Derived.Test.YtgfjjglejlnfbaaGreatDoorFitL
namespace Go.Proofs.YtgfjjglejlnfbaaGreatDoor
open Go.RowKit

def zeroOb : Ob := ⟨0, .slice none 0 0, .slice none 0 0, fun _ => 0, .slice none 0 0, 0, ⟨#[]⟩⟩
set_option maxRecDepth 100000 in
set_option maxHeartbeats 1000000 in
theorem lookup_none (g : Nat) (D : Nat → Int) (w : World) (hc : w.cell? ⟨g, 0, none⟩ = some (.slice none 0 0)) :
    Calls Tryz.prog 133 #[.pointer (some ⟨g, 0, none⟩), .agg (arr .u8 32 D)] w fun e w' => e = .returned (.tuple #[.agg zeroOb.cells, .bool false]) ∧ Below w.heap.size w w' := by
  have hg := block_lt_of_cell hc
  have HO : Hid _ := ob_one zeroOb rfl rfl rfl
  have HZB : Hid _ := buildz
  go_enter Tryz.func133, Tryz.ntmps133
  go_wp2_with fail
  refine calls_gen (fun W1 => Below w.heap.size w W1 ∧ W1.heap[w.heap.size + 1]? = some (.cells zeroOb.cells 65 (0, 0))) ⟨((Below.refl _ _).alloc (Nat.le_refl _) _).alloc (by simp) _, (heap_alloc2_new _ _ _).trans (by kernel_rfl)⟩ ?_
  intro W1 ⟨b1, r1⟩
  have R1 : Hid _ := r1
  clear r1
  refine (idxH_none _ W1).mono ?_
  rintro e w' ⟨rfl, rfl⟩
  go_wp2_with (first
    | (refine wpList_build (by rfl) 65 _ (by rfl) [] (by rfl) (.agg zeroOb.cells) (HZB.out _) ?_)
    | (refine wpList_store_row (by rfl) 65 (.tmp 4) (.tmp 15) (by rfl) (w.heap.size + 1) zeroOb.cells (by rfl) (by rfl) 65 _ R1.out (by rw [Ob.size]; kernel_rfl) (by rw [Ob.size]) HO.out ?_))
  refine bodyPost_ret (v := .tuple #[.agg zeroOb.cells, .bool false]) ?_ rfl ⟨rfl, below_setRow' b1 (by omega) _⟩
  exact results_cell_tmp Tryz.results133 _ _ (w.heap.size + 1) 65 _ (0, 0) _ _ rfl rfl (heap_setRow_same R1.out) Tryz.underlying65 rfl (by rw [Ob.size]; kernel_rfl)
end Go.Proofs.YtgfjjglejlnfbaaGreatDoor
