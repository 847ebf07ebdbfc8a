/- The law's wakes. -/
import Derived.Test.YtgfjjglejlnfbaaGreatDoorFiF
import Derived.Test.YtgfjjglejlnfbaaGreatDoorFsE
namespace Go.Proofs.YtgfjjglejlnfbaaGreatDoor
open Go.RowKit Go.Maps

def oneId (i : Nat) : Int := if i = 0 then 1 else 0
def wkM : Mv := ⟨⟨#[109, 97, 105, 110]⟩, noId, oneId⟩
theorem build_one (W : World) : (Instr.build 26 [(0, .int .u8 1)].toArray).run Tryz.prog W = .ok (.agg (arr .u8 32 oneId)) W := by kernel_rfl
theorem build_mv (W : World) : (Instr.build 28 [(0, .string ⟨#[109, 97, 105, 110]⟩), (2, .agg (arr .u8 32 oneId))].toArray).run Tryz.prog W = .ok (.agg wkM.cells) W := by kernel_rfl
theorem wk_bad : badX [] wkM = false := by decide +kernel
theorem wk_mov : movX [] wkM 0 (foundR [] wkM.name 0) = 0 := by decide +kernel
theorem wk_len : (applyL [] wkM 0 (foundR [] wkM.name 0)).length = 1 := by decide +kernel
theorem eq_self_id (W : World) (f : Nat → Int) : (Op.equalIn 10000 26 (.agg (arr .u8 32 f)) (.agg (arr .u8 32 f))).run Tryz.prog W = .ok true W := by
  rw [equal_id f f W, eqTo_true (fun _ _ => rfl)]
theorem exec_at {ρ : Operand → Value} {o : Oper} {ty : TypeId} {x : Operand} {g p : Nat} {k : IntKind} {m : Nat} {f : Nat → Int} {w : World} {D : TypeDesc} (ho : o.op = .load ty x) (hx : ρ x = .pointer (some ⟨g, p, none⟩)) (hc : ∀ i, i < m → w.cell? ⟨g, p + i, none⟩ = some (.int k (f i))) (hu : Tryz.prog.underlying ty = some D) (hd : D.isRow = true) (hsz : (Tryz.prog.info? ty).map (·.size) = some m) : (execOp ρ o).run Tryz.prog w = .ok (.value (.agg (arr k m f))) w := by
  unfold execOp
  simp only [ho, hx, Instr.loadAt, Instr.sureAddr, Sem.run_bind, Sem.run_pure, Result.andThen_ok, run_at hc hu hd hsz]
set_option pp.deepTerms.threshold 2000 in
set_option maxRecDepth 100000 in
set_option maxHeartbeats 4000000 in
theorem wakes9_any (w : World) (hT : Tab w kF hS) : Calls Tryz.prog 8 #[] w fun e w' => e = .returned (.bool true) ∧ Below w.heap.size w w' := by
  have HT : Hid (Tab w kF hS) := hT
  have HB1 : Hid _ := build_one
  have HB2 : Hid _ := build_mv
  clear hT
  go_enter Tryz.func8, Tryz.ntmps8
  go_wp2_with (first
    | (refine wpList_build (by rfl) 26 _ (by rfl) [(0, .int .u8 1)] (by rfl) (.agg (arr .u8 32 oneId)) (HB1.out _) ?_)
    | (refine wpList_build (by rfl) 28 _ (by rfl) [(0, .string ⟨#[109, 97, 105, 110]⟩), (2, .agg (arr .u8 32 oneId))] (by rfl) (.agg wkM.cells) (HB2.out _) ?_))
  refine (xapply_any none 0 [] wkM w RowsAt.none (fun _ => ⟨rfl, rfl⟩) (by simp) (by omega) (by simp)).mono ?_
  rintro e W1 ⟨⟨-, h1⟩, b1⟩
  obtain ⟨k, hk, -, hz⟩ := h1 wk_bad
  obtain rfl : k = 0 := by have := hk.1; simpa using this
  obtain ⟨v, rfl, hO1⟩ := hz wk_mov
  obtain ⟨s1, c1, hv1, -, -⟩ := OwnR.rows hO1
  rw [wk_len] at hv1
  subst hv1
  clear hO1 hz hk h1
  have B1 : Hid (Below w.heap.size w W1) := b1
  clear b1
  go_wp2_with fail
  obtain ⟨g1, hg1, HG1⟩ : ∃ g, W1.heap.size = g ∧ Hid (W1.heap.size = g) := ⟨_, rfl, rfl⟩
  refine calls_gen (fun W => Below W1.heap.size W1 W ∧ W.heap[g1]? = some (.cells #[.slice s1 1 c1] 24 (0, 0))) ⟨(Below.refl _ _).alloc (Nat.le_refl _) _, by rw [← hg1]; exact heap_alloc_new _ _⟩ ?_
  rw [hg1]
  rintro W2 ⟨b2, r1⟩
  have f2 : Below w.heap.size w W2 := B1.out.trans ((hg1.symm ▸ b2 : Below W1.heap.size W1 W2).mono B1.out.size)
  clear hg1
  refine (commit_none W2 (HT.out.below f2)).mono ?_
  rintro e W3 ⟨v3, rfl, hO3, b3⟩
  obtain ⟨s3, c3, hv3, hR3, -⟩ := OwnH.rows hO3
  have hv3' : v3 = .slice s3 2 c3 := hv3
  subst hv3'
  have R1 : Hid (W3.heap[g1]? = some (.cells #[.slice s1 1 c1] 24 (0, 0))) := (b3.block _ (lt_of_row r1)).trans r1
  have B3 : Hid (Below w.heap.size w W3) := f2.trans (b3.mono f2.size)
  have HR3 : Hid (RowsAt W3 70 He.cells s3 [hA, hB]) := hR3
  clear hO3 hv3 hR3 f2 b2 r1 b3 B1
  go_wp2_with (refine wpList_store_row (by rfl) 26 (.tmp 4) (.tmp 18) (by rfl) W3.heap.size (arr .u8 32 dBf) (by rfl) (by rfl) 26 _ (heap_alloc_new _ _) (by rw [arr_size]; kernel_rfl) (by rw [arr_size]; rfl) (arr_one _ _ _) ?_; refine wpList_gen (fun W => Below W3.heap.size W3 W ∧ W.heap[W3.heap.size]? = some (.cells (arr .u8 32 dBf) 26 (0, 0))) ⟨below_setRow' ((Below.refl _ _).alloc (Nat.le_refl _) _) (Nat.le_refl _) _, heap_setRow_same (heap_alloc_new _ _)⟩ ?_; intro W4 hW4; have R4 : Hid (W4.heap[W3.heap.size]? = some (.cells (arr .u8 32 dBf) 26 (0, 0))) := hW4.2; have R1b : Hid (W4.heap[g1]? = some (.cells #[.slice s1 1 c1] 24 (0, 0))) := (hW4.1.block _ (lt_of_row R1.out)).trans R1.out; have HR4 : Hid (RowsAt W4 70 He.cells s3 [hA, hB]) := RowsAt.below HR3.out hW4.1; have B4 : Hid (Below w.heap.size w W4) := B3.out.trans (hW4.1.mono B3.out.size); clear hW4)
  obtain ⟨q3, o3, rfl, hc3⟩ := HR4.out (by simp)
  have HC3 : Hid (∀ i, i < 32 → W4.cell? ⟨q3, o3 + 1 * 70 + i, none⟩ = some (.int .u8 (dBf i))) := fun i hi => hc3 1 hB rfl i _ (hB.cellId i hi)
  have CW : Hid (∀ W, Below W4.heap.size W4 W → W.heap[W3.heap.size]? = some (.cells (arr .u8 32 dBf) 26 (0, 0)) ∧ W.cell? ⟨g1, 0, none⟩ = some (.slice s1 1 c1) ∧ ∀ i, i < 32 → W.cell? ⟨q3, o3 + 1 * 70 + i, none⟩ = some (.int .u8 (dBf i))) := fun W h => ⟨(h.block _ (lt_of_row R4.out)).trans R4.out, (cell_of_row _ _ _ _ _ _ ((h.block _ (lt_of_row R1b.out)).trans R1b.out)).trans rfl, fun i hi => (h.cell (p := ⟨q3, o3 + 1 * 70 + i, none⟩) (block_lt_of_cell (HC3.out i hi))).trans (HC3.out i hi)⟩
  clear hc3 HC3 R4 R1b HR4 HR3 R1 B3
  have hS0 : Below W4.heap.size W4 W4.drew := (Below.refl _ _).drew
  refine mv_begin (S := fun w' => Below W4.heap.size W4 w') 26 rfl (by kernel_rfl) ?_
  refine mv_rung 0 20 (.int .i64 0) rfl (by rfl) (by kernel_rfl) (by kernel_rfl) (by kernel_rfl) (fun _ _ _ h => h) (fun w' _ => by first | rfl | go_simp) hS0 ?_
  simp only [List.setIfInBounds_toArray, List.set_cons_succ, List.set_cons_zero]
  refine mv_rung 1 21 (.bool true) rfl (by rfl) (by kernel_rfl) (by kernel_rfl) (by kernel_rfl) (fun _ _ _ h => h) (fun w' _ => by first | rfl | go_simp) hS0 ?_
  simp only [List.setIfInBounds_toArray, List.set_cons_succ, List.set_cons_zero]
  refine mv_rung 2 22 (.bool true) rfl (by rfl) (by kernel_rfl) (by kernel_rfl) (by kernel_rfl) (fun _ _ _ h => h) (fun w' _ => by first | rfl | go_simp) hS0 ?_
  simp only [List.setIfInBounds_toArray, List.set_cons_succ, List.set_cons_zero]
  refine mv_rung 3 23 (.int .i64 0) rfl (by rfl) (by kernel_rfl) (by kernel_rfl) (by kernel_rfl) (fun _ _ _ h => h) (fun w' _ => by first | rfl | go_simp) hS0 ?_
  simp only [List.setIfInBounds_toArray, List.set_cons_succ, List.set_cons_zero]
  refine mv_rung 4 24 (.bool true) rfl (by rfl) (by kernel_rfl) (by kernel_rfl) (by kernel_rfl) (fun _ _ _ h => h) (fun w' _ => by first | rfl | go_simp) hS0 ?_
  simp only [List.setIfInBounds_toArray, List.set_cons_succ, List.set_cons_zero]
  refine mv_rung 5 25 (.bool true) rfl (by rfl) (by kernel_rfl) (by kernel_rfl) (by kernel_rfl) (fun _ _ _ h => h) (fun w' _ => by first | rfl | go_simp) hS0 ?_
  simp only [List.setIfInBounds_toArray, List.set_cons_succ, List.set_cons_zero]
  refine mv_rung 6 26 (.bool true) rfl (by rfl) (by kernel_rfl) (by kernel_rfl) (by kernel_rfl) (fun _ _ _ h => h) (fun w' _ => by first | rfl | go_simp) hS0 ?_
  simp only [List.setIfInBounds_toArray, List.set_cons_succ, List.set_cons_zero]
  refine mv_rung 7 27 (.pointer (some ⟨g1, 0, none⟩)) rfl (by rfl) (by kernel_rfl) (by kernel_rfl) (by kernel_rfl) (fun _ _ _ h => h) (fun w' _ => by first | rfl | go_simp) hS0 ?_
  simp only [List.setIfInBounds_toArray, List.set_cons_succ, List.set_cons_zero]
  refine mv_rung 8 28 (.slice s1 1 c1) rfl (by rfl) (by kernel_rfl) (by kernel_rfl) (by kernel_rfl) (fun _ _ _ h => h) (fun w' hw' => by have c := (CW.out w' hw').2.1; go_simp) hS0 ?_
  simp only [List.setIfInBounds_toArray, List.set_cons_succ, List.set_cons_zero]
  refine mv_rung 9 29 (.int .i64 1) rfl (by rfl) (by kernel_rfl) (by kernel_rfl) (by kernel_rfl) (fun _ _ _ h => h) (fun w' _ => by first | rfl | go_simp) hS0 ?_
  simp only [List.setIfInBounds_toArray, List.set_cons_succ, List.set_cons_zero]
  refine mv_rung 10 30 (.bool true) rfl (by rfl) (by kernel_rfl) (by kernel_rfl) (by kernel_rfl) (fun _ _ _ h => h) (fun w' _ => by first | rfl | go_simp) hS0 ?_
  simp only [List.setIfInBounds_toArray, List.set_cons_succ, List.set_cons_zero]
  refine mv_rung 11 31 (.bool true) rfl (by rfl) (by kernel_rfl) (by kernel_rfl) (by kernel_rfl) (fun _ _ _ h => h) (fun w' _ => by first | rfl | go_simp) hS0 ?_
  simp only [List.setIfInBounds_toArray, List.set_cons_succ, List.set_cons_zero]
  refine mv_rung 12 32 (.bool true) rfl (by rfl) (by kernel_rfl) (by kernel_rfl) (by kernel_rfl) (fun _ _ _ h => h) (fun w' _ => by first | rfl | go_simp) hS0 ?_
  simp only [List.setIfInBounds_toArray, List.set_cons_succ, List.set_cons_zero]
  refine mv_rung 13 33 (.slice (some ⟨q3, o3, none⟩) 2 c3) rfl (by rfl) (by kernel_rfl) (by kernel_rfl) (by kernel_rfl) (fun _ _ _ h => h) (fun w' _ => by first | rfl | go_simp) hS0 ?_
  simp only [List.setIfInBounds_toArray, List.set_cons_succ, List.set_cons_zero]
  refine mv_rung 14 34 (.int .i64 2) rfl (by rfl) (by kernel_rfl) (by kernel_rfl) (by kernel_rfl) (fun _ _ _ h => h) (fun w' _ => by first | rfl | go_simp) hS0 ?_
  simp only [List.setIfInBounds_toArray, List.set_cons_succ, List.set_cons_zero]
  refine mv_rung 15 35 (.bool true) rfl (by rfl) (by kernel_rfl) (by kernel_rfl) (by kernel_rfl) (fun _ _ _ h => h) (fun w' _ => by first | rfl | go_simp) hS0 ?_
  simp only [List.setIfInBounds_toArray, List.set_cons_succ, List.set_cons_zero]
  refine mv_rung 16 36 (.bool true) rfl (by rfl) (by kernel_rfl) (by kernel_rfl) (by kernel_rfl) (fun _ _ _ h => h) (fun w' _ => by first | rfl | go_simp) hS0 ?_
  simp only [List.setIfInBounds_toArray, List.set_cons_succ, List.set_cons_zero]
  refine mv_rung 17 37 (.bool true) rfl (by rfl) (by kernel_rfl) (by kernel_rfl) (by kernel_rfl) (fun _ _ _ h => h) (fun w' _ => by first | rfl | go_simp) hS0 ?_
  simp only [List.setIfInBounds_toArray, List.set_cons_succ, List.set_cons_zero]
  refine mv_rung 18 38 (.slice (some ⟨q3, o3, none⟩) 2 c3) rfl (by rfl) (by kernel_rfl) (by kernel_rfl) (by kernel_rfl) (fun _ _ _ h => h) (fun w' _ => by first | rfl | go_simp) hS0 ?_
  simp only [List.setIfInBounds_toArray, List.set_cons_succ, List.set_cons_zero]
  refine mv_rung 19 39 (.pointer (some ⟨q3, o3 + 1 * 70, none⟩)) rfl (by rfl) (by kernel_rfl) (by kernel_rfl) (by kernel_rfl) (fun _ _ _ h => h) (fun w' _ => by first | rfl | go_simp) hS0 ?_
  simp only [List.setIfInBounds_toArray, List.set_cons_succ, List.set_cons_zero]
  refine mv_rung 20 40 (.pointer (some ⟨q3, o3 + 1 * 70, none⟩)) rfl (by rfl) (by kernel_rfl) (by kernel_rfl) (by kernel_rfl) (fun _ _ _ h => h) (fun w' _ => by first | rfl | go_simp) hS0 ?_
  simp only [List.setIfInBounds_toArray, List.set_cons_succ, List.set_cons_zero]
  refine mv_rung 21 41 (.agg (arr .u8 32 dBf)) rfl (by rfl) (by kernel_rfl) (by kernel_rfl) (by kernel_rfl) (fun _ _ _ h => h) (fun w' hw' => exec_at rfl rfl (CW.out w' hw').2.2 Tryz.underlying26 rfl (by kernel_rfl)) hS0 ?_
  simp only [List.setIfInBounds_toArray, List.set_cons_succ, List.set_cons_zero]
  refine mv_rowg 22 42 26 (.tmp 4) rfl (by rfl) W3.heap.size 26 (arr .u8 32 dBf) (0, 0) rfl (by kernel_rfl) (by kernel_rfl) (by kernel_rfl) (fun _ _ _ h => h) _ (fun w' hw' => (CW.out w' hw').1) Tryz.underlying26 rfl (by rw [arr_size]; kernel_rfl) hS0 ?_
  simp only [List.setIfInBounds_toArray, List.set_cons_succ, List.set_cons_zero]
  refine mv_rung 23 43 (.bool true) rfl (by rfl) (by kernel_rfl) (by kernel_rfl) (by kernel_rfl) (fun _ _ _ h => h) (fun w' _ => by have heq := eq_self_id w' dBf; go_simp) hS0 ?_
  simp only [List.setIfInBounds_toArray, List.set_cons_succ, List.set_cons_zero]
  refine mv_rung 24 44 (.bool true) rfl (by rfl) (by kernel_rfl) (by kernel_rfl) (by kernel_rfl) (fun _ _ _ h => h) (fun w' _ => by first | rfl | go_simp) hS0 ?_
  simp only [List.setIfInBounds_toArray, List.set_cons_succ, List.set_cons_zero]
  refine mv_rung 25 0 (.bool true) rfl (by rfl) (by kernel_rfl) (by kernel_rfl) (by kernel_rfl) (fun _ _ _ h => h) (fun w' _ => by first | rfl | go_simp) hS0 ?_
  simp only [List.setIfInBounds_toArray, List.set_cons_zero]
  refine wpAnyH_done (by kernel_rfl) ?_ _
  go_wp2
  go_ret
  exact ⟨rfl, B4.out.trans (hS0.mono B4.out.size)⟩
end Go.Proofs.YtgfjjglejlnfbaaGreatDoor
