/- The walk of the law ShaBlocks. -/
import Derived.Test.YtekmmmechhjggaaDoorRefBlock2
import Derived.Test.YtekmmmechhjggaaDoorWakes
import Derived.Test.YtekmmmechhjggaaDoorEq
namespace Go.Proofs.YtekmmmechhjggaaDoor
open Go.RowKit

/-- Eight numbers as a state. -/
def stOf (f : Nat → Int) : St := ⟨f 0, f 1, f 2, f 3, f 4, f 5, f 6, f 7⟩
theorem stOf_fn (f : Nat → Int) : arr .u32 8 f = arr .u32 8 (stOf f).fn := by
  refine arr_congr fun i hi => ?_
  match i, hi with
  | 0, _ => rfl
  | 1, _ => rfl
  | 2, _ => rfl
  | 3, _ => rfl
  | 4, _ => rfl
  | 5, _ => rfl
  | 6, _ => rfl
  | 7, _ => rfl

set_option maxRecDepth 100000 in
set_option maxHeartbeats 2000000 in
theorem blocks_walk (s : St) (B : Nat → Int) (w : World) (hl : Laid w) (hb : ∀ i, 0 ≤ B i ∧ B i ≤ 255) :
    Calls Tryd.prog 4 #[.agg (arr .u32 8 s.fn), .agg (arr .u8 64 B)] w fun e w' => e = .returned (.bool true) ∧ Below w.heap.size w w' := by
  go_enter Tryd.func4, Tryd.ntmps4
  go_wp2_with fail
  refine calls_gen (fun W1 => Below w.heap.size w W1 ∧ W1.heap[w.heap.size]? = some (.cells (arr .u32 8 s.fn) 29 (0, 0)) ∧ W1.heap[w.heap.size + 1]? = some (.cells (arr .u8 64 B) 30 (0, 0))) ⟨?_, ?_, ?_⟩ ?_
  · exact ((Below.refl _ _).alloc (Nat.le_refl _) _).alloc (by simp) _
  · exact (heap_alloc2_old _ _ _).trans rfl
  · exact (heap_alloc2_new _ _ _).trans rfl
  intro W1 ⟨hB1, hr0, hr1⟩
  refine (wakes_any W1 (hl.below hB1)).mono ?_
  rintro e w2 ⟨rfl, hB2⟩
  have z0 := lt_of_row hr0
  have z1 := lt_of_row hr1
  have H0 : Hid (w2.heap[w.heap.size]? = some (.cells (arr .u32 8 s.fn) 29 (0, 0))) := (hB2.block _ z0).trans hr0
  have H1 : Hid (w2.heap[w.heap.size + 1]? = some (.cells (arr .u8 64 B) 30 (0, 0))) := (hB2.block _ z1).trans hr1
  have hB : Below w.heap.size w w2 := hB1.trans (hB2.mono hB1.size)
  have y0 := lt_of_row H0.out
  have y1 := lt_of_row H1.out
  clear hr0 hr1 z0 z1 hB1 hB2
  go_wp2
  refine mv_begin (S := fun w' => Below w2.heap.size w2 w') 9 rfl (by kernel_rfl) ?_
  refine mv_row 0 7 29 (.tmp 2) rfl w.heap.size 29 (arr .u32 8 s.fn) (0, 0) rfl (by kernel_rfl) (by kernel_rfl) (by kernel_rfl) (fun _ _ _ h => h) _ (fun w' hw' => (hw'.block _ y0).trans H0.out) Tryd.underlying29 rfl (by rw [arr_size]; kernel_rfl) (Below.refl _ _).drew ?_
  simp only [List.setIfInBounds_toArray, List.set_cons_succ, List.set_cons_zero]
  refine mv_row 1 8 30 (.tmp 3) rfl (w.heap.size + 1) 30 (arr .u8 64 B) (0, 0) rfl (by kernel_rfl) (by kernel_rfl) (by kernel_rfl) (fun _ _ _ h => h) _ (fun w' hw' => (hw'.block _ y1).trans H1.out) Tryd.underlying30 rfl (by rw [arr_size]; kernel_rfl) (Below.refl _ _).drew ?_
  simp only [List.setIfInBounds_toArray, List.set_cons_succ, List.set_cons_zero]
  refine mv_row 3 10 29 (.tmp 2) rfl w.heap.size 29 (arr .u32 8 s.fn) (0, 0) rfl (by kernel_rfl) (by kernel_rfl) (by kernel_rfl) (fun _ _ _ h => h) _ (fun w' hw' => (hw'.block _ y0).trans H0.out) Tryd.underlying29 rfl (by rw [arr_size]; kernel_rfl) (Below.refl _ _).drew ?_
  simp only [List.setIfInBounds_toArray, List.set_cons_succ, List.set_cons_zero]
  refine mv_run 4 11 (.slice (some ⟨w.heap.size + 1, 0, none⟩) 64 64) rfl (by kernel_rfl) (by kernel_rfl) (by kernel_rfl) (fun _ _ _ h => h) (fun w' _ => ?_) (Below.refl _ _).drew ?_
  · go_simp
  simp only [List.setIfInBounds_toArray, List.set_cons_succ, List.set_cons_zero]
  refine mv_next 2 rfl (by kernel_rfl) ?_
  go_simp
  have hbk := block_any s B kF w2.drew hb (hl.below hB.drew).1
  rw [St.val_arr] at hbk
  refine hbk.mono ?_
  rintro e w3 ⟨rfl, hB3⟩
  clear hbk
  have hS3 : Below w2.heap.size w2 w3 := (Below.refl _ _).drew.trans hB3
  refine ⟨hS3, ?_⟩
  rw [St.val_arr]
  refine mv_next 5 rfl (by kernel_rfl) ?_
  go_simp
  refine (table_any w3).mono ?_
  rintro e w4 ⟨rfl, hB4⟩
  have hS4 : Below w2.heap.size w2 w4 := hS3.trans (hB4.mono hS3.size)
  refine ⟨hS4, ?_⟩
  refine mv_next 6 rfl (by kernel_rfl) ?_
  go_simp
  have hr4 : w4.heap[w.heap.size + 1]? = some (.cells (arr .u8 64 B) 30 (0, 0)) := (hS4.block _ y1).trans H1.out
  refine (refBlock_any s (w.heap.size + 1) 0 64 B kF w4 (Nat.le_refl _) (by omega) (fun j hj => by rw [Nat.zero_add]; exact row_cell hr4 hj) hb).mono ?_
  rintro e w5 ⟨rfl, hB5⟩
  have hS5 : Below w2.heap.size w2 w5 := hS4.trans (hB5.mono hS4.size)
  refine ⟨hS5, ?_⟩
  rw [St.val_arr]
  have heq : ∀ w, (Op.equalIn 10000 29 (.agg (arr .u32 8 (blockF kF B s).fn)) (.agg (arr .u32 8 (blockF kF B s).fn))).run Tryd.prog w = .ok true w := fun w =>
    (equal_arr 9998 29 28 8 .u32 .u32 _ _ Tryd.underlying29 Tryd.underlying28 (by kernel_rfl) w).trans (by rw [eqTo_true fun _ _ => rfl])
  refine mv_run 7 14 (.bool true) rfl (by kernel_rfl) (by kernel_rfl) (by kernel_rfl) (fun _ _ _ h => h) (fun w' _ => ?_) hS5 ?_
  · go_simp
  simp only [List.setIfInBounds_toArray, List.set_cons_succ, List.set_cons_zero]
  refine mv_run 8 4 (.bool true) rfl (by kernel_rfl) (by kernel_rfl) (by kernel_rfl) (fun _ _ _ h => h) (fun _ _ => rfl) hS5 ?_
  simp only [List.setIfInBounds_toArray, List.set_cons_succ, List.set_cons_zero]
  refine wpAnyH_done (by kernel_rfl) ?_ _
  clear heq hr4
  go_wp2
  go_ret
  exact ⟨rfl, hB.trans (hS5.mono hB.size)⟩
end Go.Proofs.YtekmmmechhjggaaDoor
