/- tree's keep, in an empty heap. -/
import Derived.Test.YtgfjjglejlnfbaaGreatDoorMrgE
namespace Go.Proofs.YtgfjjglejlnfbaaGreatDoor
open Go.RowKit

/-- The Id and the object as they are held. -/
def heOf (D : Nat → Int) (o : Ob) (h1 : o.bs.oneCell' = true) (h2 : o.es.oneCell' = true) (h3 : o.ps.oneCell' = true) : He := ⟨D, o, h1, h2, h3⟩
theorem bld_held {ρ : Operand → Value} {o : Oper} {x y : Operand} {D : Nat → Int} {b : Ob} {w : World} (ho : o.op = .build 85 #[(0, x), (1, y)]) (hx : ρ x = .agg (arr .u8 32 D)) (hy : ρ y = .agg b.cells) : (execOp ρ o).run Tryz.prog w = .ok (.value (.agg (arr .u8 32 D ++ b.cells))) w := by
  unfold execOp
  simp only [ho, List.map_toArray, List.map_cons, List.map_nil, hx, hy]
  kernel_rfl
theorem wpOp_plain {P : Program} {ops : Array Oper} {Q : Exit → Act → World → Prop} {K : Act → World → Prop} {a : Act} {w : World} {i : Nat} {oi : Oper} (hi : ops[i]? = some oi) (hg : oi.guard = none) (h : oi.wp P a w K Q) : wpOp P ops Q i K a w := by
  unfold wpOp
  simp only [hi, wanted_plain hg, if_true]
  exact .inl h
theorem op_buildOne {P : Program} {Q : Exit → Act → World → Prop} {K : Act → World → Prop} {a : Act} {w w' : World} {o : Oper} {v : Value} (ty : TypeId) (x : Operand) (ho : o.op = .buildSlice ty 1 #[(0, x)]) (u : Value) (hx : a.eval x = u)
    (hr : (Instr.buildSlice ty 1 #[(0, u)]).run P w = .ok v w') (h : K (a.put o.dst v) w') : o.wp P a w K Q := by
  unfold Oper.wp execOp
  simp only [ho, Sem.run_bind, Sem.run_pure, Result.andThen_ok, List.map_toArray, List.map_cons, List.map_nil, hx, hr]
  exact h
theorem op_value {P : Program} {Q : Exit → Act → World → Prop} {K : Act → World → Prop} {a : Act} {w : World} {o : Oper} (v : Value) (hr : (execOp a.eval o).run P w = .ok (.value v) w) (h : K (a.put o.dst v) w) : o.wp P a w K Q := by
  unfold Oper.wp
  simp only [hr]
  exact h
/-- What keep leaves. -/
def KeepX (g : Nat) (x : He) (w : World) (e : Ending) (w' : World) : Prop :=
  e = .returned (.tuple #[.agg (arr .u8 32 x.id), .int .i64 0]) ∧ (∃ v, w'.heap[g]? = some (Obj.cells #[v] 46 (0, 0)) ∧ OwnH w.heap.size w' v [x]) ∧ w.grownBy w' (some g)
set_option maxRecDepth 100000 in
set_option maxHeartbeats 400000 in
theorem keep_none (K : Nat → Int) (S : St) (g : Nat) (o : Ob) (c : Co) (w : World) (hT : Tab w K S) (ho : Has w o c) (hF : Fit o c) (hr : rightB o c = true) (h1 : o.bs.oneCell' = true) (h2 : o.es.oneCell' = true) (h3 : o.ps.oneCell' = true) (hg : w.heap[g]? = some (.cells #[.slice none 0 0] 46 (0, 0))) :
    Calls Tryz.prog 116 #[.pointer (some ⟨g, 0, none⟩), .agg o.cells] w (KeepX g (heOf (digF K S (encB o c)) o h1 h2 h3) w) := by
  have HH : Hid _ := ho
  have HT : Hid _ := hT
  have HG : Hid _ := hg
  clear ho hT hg
  go_enter Tryz.func116, Tryz.ntmps116
  go_wp2_with (refine wpList_load_row (by rfl) 65 (.tmp 3) (by rfl) w.heap.size (by rfl) 65 o.cells (0, 0) _ (heap_alloc2_old _ _ _) Tryz.underlying65 rfl (by rw [Ob.size]; kernel_rfl) ?_)
  refine calls_gen (fun W1 => Below w.heap.size w W1 ∧ W1.heap[w.heap.size]? = some (.cells o.cells 65 (0, 0)) ∧ W1.heap[w.heap.size + 1]? = some (.cells (arr .u8 32 fun _ => 0) 26 (0, 0))) ⟨((Below.refl _ _).alloc (Nat.le_refl _) _).alloc (by simp) _, heap_alloc2_old _ _ _, (heap_alloc2_new _ _ _).trans rfl⟩ ?_
  intro W1 ⟨b1, r0, r1⟩
  refine (objid_any K S o c W1 (HT.out.below b1) (HH.out.below b1) hF).mono ?_
  rintro e W2 ⟨b2, hc⟩
  obtain rfl : e = _ := by
    rcases hc with ⟨-, h⟩ | ⟨hr', -⟩
    · exact h
    · rw [hr] at hr'; cases hr'
  clear hc
  have f2 : Below w.heap.size w W2 := b1.trans (b2.mono b1.size)
  have R0 : Hid (W2.heap[w.heap.size]? = some (.cells o.cells 65 (0, 0))) := (b2.block _ (lt_of_row r0)).trans r0
  have R1 : Hid (W2.heap[w.heap.size + 1]? = some (.cells (arr .u8 32 fun _ => 0) 26 (0, 0))) := (b2.block _ (lt_of_row r1)).trans r1
  clear r0 r1 b1 b2 hr
  generalize hD : digF K S (encB o c) = D
  have HD : Hid _ := hD
  clear hD
  go_wp2_with (first
    | (refine wpList_store_row (by rfl) 26 (.tmp 6) (.tmp 13) (by rfl) W2.heap.size (arr .u8 32 D) (by rfl) (by rfl) 26 _ (heap_alloc_new _ _) (by rw [arr_size]; kernel_rfl) (by rw [arr_size]; rfl) (arr_one _ _ _) ?_; refine wpList_gen (fun W => Below W2.heap.size W2 W ∧ W.heap[W2.heap.size]? = some (.cells (arr .u8 32 D) 26 (0, 0))) ⟨below_setRow' ((Below.refl _ _).alloc (Nat.le_refl _) _) (Nat.le_refl _) _, heap_setRow_same (heap_alloc_new _ _)⟩ ?_; intro W3 hW3; have HW3 : Hid _ := hW3; clear hW3)
    | (refine wpList_load_row (by rfl) 26 (.tmp 6) (by rfl) W2.heap.size (by rfl) 26 (arr .u8 32 D) (0, 0) _ HW3.out.2 Tryz.underlying26 rfl (by rw [arr_size]; kernel_rfl) ?_))
  have G3 : Hid (W3.heap[g]? = some (.cells #[.slice none 0 0] 46 (0, 0))) := (HW3.out.1.block _ (lt_of_row ((f2.block _ (lt_of_row HG.out)).trans HG.out))).trans ((f2.block _ (lt_of_row HG.out)).trans HG.out)
  have f3 : Below w.heap.size w W3 := f2.trans (HW3.out.1.mono f2.size)
  refine (lookup_none g D W3 ((cell_of_row _ _ _ _ _ _ G3.out).trans rfl)).mono ?_
  rintro e W4 ⟨rfl, b4⟩
  have f4 : Below w.heap.size w W4 := f3.trans (b4.mono f3.size)
  have HS4 : Hid (W2.heap.size < W4.heap.size ∧ w.heap.size + 1 < W4.heap.size) := ⟨Nat.lt_of_lt_of_le (lt_of_row HW3.out.2) b4.size, Nat.lt_of_lt_of_le (lt_of_row R1.out) (Nat.le_trans HW3.out.1.size b4.size)⟩
  have HI : Hid (∀ W, Below W4.heap.size W4 W → W.heap[W2.heap.size]? = some (.cells (arr .u8 32 D) 26 (0, 0))) := fun W h => (h.block _ HS4.out.1).trans ((b4.block _ (lt_of_row HW3.out.2)).trans HW3.out.2)
  have HOB : Hid (∀ W, Below W4.heap.size W4 W → W.heap[w.heap.size]? = some (.cells o.cells 65 (0, 0))) := fun W h => by
    have q := (HW3.out.1.block _ (lt_of_row R0.out)).trans R0.out
    have q4 := (b4.block _ (lt_of_row q)).trans q
    exact (h.block _ (lt_of_row q4)).trans q4
  have HG4 : Hid (∀ W, Below W4.heap.size W4 W → W.heap[g]? = some (.cells #[.slice none 0 0] 46 (0, 0))) := fun W h => by
    have q4 := (b4.block _ (lt_of_row G3.out)).trans G3.out
    exact (h.block _ (lt_of_row q4)).trans q4
  have HO : Hid _ := ob_one zeroOb rfl rfl rfl
  have HR4 : Hid (W4.heap[w.heap.size + 1]? = W3.heap[w.heap.size + 1]?) := b4.block _ (lt_of_row ((HW3.out.1.block _ (lt_of_row R1.out)).trans R1.out))
  clear b4 f3
  go_wp2_with (first
    | (refine wpList_store_row (by rfl) 65 (.tmp 8) (.tmp 23) (by rfl) W4.heap.size zeroOb.cells (by rfl) (by rfl) 65 _ (heap_alloc_new _ _) (by rw [Ob.size]; kernel_rfl) (by rw [Ob.size]; rfl) HO.out ?_; refine wpList_gen (fun W => Below W4.heap.size W4 W) (below_setRow' ((Below.refl _ _).alloc (Nat.le_refl _) _) (Nat.le_refl _) _) ?_; intro W5 b5))
  have hne : w.heap.size ≤ W2.heap.size ∧ g < w.heap.size := ⟨f2.size, lt_of_row HG.out⟩
  have HI' : Hid (∀ W, W4.grownBy W (some g) → W.heap[W2.heap.size]? = some (.cells (arr .u8 32 D) 26 (0, 0))) := fun W h => (h.block _ HS4.out.1 (fun e => by injection e with e; omega)).trans (HI.out W4 (Below.refl _ _))
  have HOB' : Hid (∀ W, W4.grownBy W (some g) → W.heap[w.heap.size]? = some (.cells o.cells 65 (0, 0))) := fun W h => (h.block _ (by have := HS4.out.2; omega) (fun e => by injection e with e; omega)).trans (HOB.out W4 (Below.refl _ _))
  have hb : Below W4.heap.size W4 W5.drew := b5.drew
  have hS0 : W4.grownBy W5.drew (some g) := ⟨hb.os, hb.tape, hb.output, hb.size, fun k hk _ => hb.block k hk⟩
  obtain ⟨x, hx⟩ : ∃ x : He, x = heOf D o h1 h2 h3 := ⟨_, rfl⟩
  have hxc : arr .u8 32 D ++ o.cells = x.cells := by rw [hx]; rfl
  have HX : Hid _ := hx
  have HR1' : Hid (∀ W, W4.grownBy W (some g) → W.heap[w.heap.size + 1]? = some (.cells (arr .u8 32 fun _ => 0) 26 (0, 0))) := fun W h => by
    have q := (HW3.out.1.block _ (lt_of_row R1.out)).trans R1.out
    exact (h.block _ HS4.out.2 (fun e => by injection e with e; omega)).trans (HR4.out.trans q)
  clear hx
  refine mv_begin (S := fun w' => W4.grownBy w' (some g)) 13 rfl (by kernel_rfl) ?_
  refine mv_rung 0 27 (.pointer (some ⟨g, 0, none⟩)) rfl (by rfl) (by kernel_rfl) (by kernel_rfl) (by kernel_rfl) (fun _ _ _ h => h) (fun w' _ => by first | rfl | go_simp) hS0 ?_
  simp only [List.setIfInBounds_toArray, List.set_cons_succ, List.set_cons_zero]
  refine mv_rung 1 28 (.pointer (some ⟨g, 0, none⟩)) rfl (by rfl) (by kernel_rfl) (by kernel_rfl) (by kernel_rfl) (fun _ _ _ h => h) (fun w' _ => by first | rfl | go_simp) hS0 ?_
  simp only [List.setIfInBounds_toArray, List.set_cons_succ, List.set_cons_zero]
  refine mv_rung 2 29 (.pointer (some ⟨g, 0, none⟩)) rfl (by rfl) (by kernel_rfl) (by kernel_rfl) (by kernel_rfl) (fun _ _ _ h => h) (fun w' _ => by first | rfl | go_simp) hS0 ?_
  simp only [List.setIfInBounds_toArray, List.set_cons_succ, List.set_cons_zero]
  refine mv_rung 3 30 (.pointer (some ⟨g, 0, none⟩)) rfl (by rfl) (by kernel_rfl) (by kernel_rfl) (by kernel_rfl) (fun _ _ _ h => h) (fun w' _ => by first | rfl | go_simp) hS0 ?_
  simp only [List.setIfInBounds_toArray, List.set_cons_succ, List.set_cons_zero]
  refine mv_row 5 32 26 (.tmp 6) rfl W2.heap.size 26 (arr .u8 32 D) (0, 0) rfl (by kernel_rfl) (by kernel_rfl) (by kernel_rfl) (fun _ _ _ h => h) _ (fun w' hw' => HI'.out w' hw') Tryz.underlying26 rfl (by rw [arr_size]; kernel_rfl) hS0 ?_
  simp only [List.setIfInBounds_toArray, List.set_cons_succ, List.set_cons_zero]
  refine mv_row 6 33 65 (.tmp 3) rfl w.heap.size 65 o.cells (0, 0) rfl (by kernel_rfl) (by kernel_rfl) (by kernel_rfl) (fun _ _ _ h => h) _ (fun w' hw' => HOB'.out w' hw') Tryz.underlying65 rfl (by rw [Ob.size]; kernel_rfl) hS0 ?_
  simp only [List.setIfInBounds_toArray, List.set_cons_succ, List.set_cons_zero]
  refine mv_rung 7 34 (.agg (arr .u8 32 D ++ o.cells)) rfl (by rfl) (by kernel_rfl) (by kernel_rfl) (by kernel_rfl) (fun _ _ _ h => h) (fun w' _ => bld_held rfl rfl rfl) hS0 ?_
  simp only [List.setIfInBounds_toArray, List.set_cons_succ, List.set_cons_zero]
  rw [hxc]
  clear hxc
  refine wpAnyH_all (rs := [4, 8]) (by kernel_rfl) (by simp) fun i hi => ?_
  simp only [List.mem_cons, List.not_mem_nil, or_false] at hi
  rcases hi with rfl | rfl
  · refine wpOp_plain rfl rfl ?_
    have c5 : W5.drew.cell? ⟨g, 0, none⟩ = some (.slice none 0 0) := (cell_of_row _ _ _ _ _ _ (HG4.out _ hb)).trans rfl
    refine op_value (.slice none 0 0) (by go_simp) ?_
    refine ⟨hS0, ?_⟩
    simp only [Act.put]
    refine mv_next 8 rfl (by kernel_rfl) ?_
    refine op_buildOne 44 (.tmp 34) rfl (.agg x.cells) rfl (bldHe x _) ?_
    have hX1 : Below W4.heap.size W4 (W5.drew.alloc (.cells x.cells 85)) := hb.alloc hb.size _
    have hrow1 := heap_alloc_new W5.drew (.cells x.cells 85)
    have hS1 : W4.grownBy (W5.drew.alloc (.cells x.cells 85)) (some g) := ⟨hX1.os, hX1.tape, hX1.output, hX1.size, fun k hk _ => hX1.block k hk⟩
    refine ⟨hS1, ?_⟩
    simp only [Act.put]
    clear hS1 c5
    generalize W5.drew.alloc (.cells x.cells 85) = X1 at hX1 hrow1
    obtain ⟨v8, X2, hr8, hO8, hG8, hb8⟩ := helds_run (B := W4.heap.size) (xs := []) (ys := [x]) (sp := some ⟨W5.heap.size, 0, none⟩) (cap := 1) 44 (ownH_nil _ X1) (fun h => by cases h) (oneH_rows hrow1) (fun _ => ⟨_, _, rfl⟩) (by simp) hX1.size
    have hB2 : Below W4.heap.size W4 X2 := (ownH_nil W4.heap.size X1).grown (Nat.le_refl _) hX1.size hX1 hG8
    have hS2 : W4.grownBy X2 (some g) := ⟨hB2.os, hB2.tape, hB2.output, hB2.size, fun k hk _ => hB2.block k hk⟩
    rw [List.nil_append] at hO8
    obtain ⟨sp8, cap8, rfl, -, -⟩ := OwnH.rows hO8
    refine mv_next 9 rfl (by kernel_rfl) ?_
    refine op_append (.tmp 31) (.tmp 35) 44 rfl rfl rfl hr8 ?_
    refine ⟨hS2, ?_⟩
    simp only [Act.put]
    have g8 := HG4.out X2 hB2
    have c8 : X2.cell? ⟨g, 0, none⟩ = some (.slice none 0 0) := (cell_of_row _ _ _ _ _ _ g8).trans rfl
    have z8 : X2.frozen? ⟨g, 0, none⟩ = false := frozen_of_row _ _ _ _ _ g8
    have HO8 : Hid _ := hO8
    have G8 : Hid _ := g8
    clear hr8 hG8 hb8 hO8 g8
    refine mv_rung 10 37 (.pointer (some ⟨g, 0, none⟩)) rfl (by rfl) (by kernel_rfl) (by kernel_rfl) (by kernel_rfl) (fun _ _ _ h => h) (fun w' _ => by first | rfl | go_simp) hS2 ?_
    simp only [List.setIfInBounds_toArray, List.set_cons_succ, List.set_cons_zero]
    refine mv_rung 11 38 (.pointer (some ⟨g, 0, none⟩)) rfl (by rfl) (by kernel_rfl) (by kernel_rfl) (by kernel_rfl) (fun _ _ _ h => h) (fun w' _ => by first | rfl | go_simp) hS2 ?_
    simp only [List.setIfInBounds_toArray, List.set_cons_succ, List.set_cons_zero]
    refine mv_next 12 rfl (by kernel_rfl) ?_
    go_simp
    have hq := (Below.refl 0 X2).setCell (p := ⟨g, 0, none⟩) (Nat.zero_le _) (.slice sp8 1 cap8)
    have hS3 : W4.grownBy (X2.setCell ⟨g, 0, none⟩ (.slice sp8 1 cap8)) (some g) := ⟨hq.os.trans hS2.os, hq.tape.trans hS2.tape, hq.output.trans hS2.output, Nat.le_trans hS2.size hq.size, fun k hk hkg => (heap_setCell_other _ _ _ _ (show k ≠ g from fun e => hkg (by rw [e]))).trans (hS2.block k hk hkg)⟩
    have g3 : (X2.setCell ⟨g, 0, none⟩ (.slice sp8 1 cap8)).heap[g]? = some (.cells #[.slice sp8 1 cap8] 46 (0, 0)) := (heap_setCell_same _ _ _ _ _ _ G8.out).trans rfl
    have hO3 : OwnH W4.heap.size (X2.setCell ⟨g, 0, none⟩ (.slice sp8 1 cap8)) (.slice sp8 1 cap8) [x] := OwnH.keep HO8.out fun j hj => heap_setCell_other _ _ _ _ (by have := (OwnH.lt HO8.out hj).1; have := HS4.out.2; show j ≠ g; omega)
    refine ⟨hS3, ?_⟩
    refine wpAnyH_done (by kernel_rfl) ?_ _
    generalize X2.setCell ⟨g, 0, none⟩ (.slice sp8 1 cap8) = X3 at hS3 g3 hO3
    have HI3 : Hid _ := HI'.out X3 hS3
    have HR3 : Hid _ := HR1'.out X3 hS3
    have G3' : Hid _ := g3
    have HO3 : Hid _ := hO3
    clear hq c8 z8 g3 hO3 hS2 hB2 hrow1 hX1 HO8 G8 hb hS0
    go_wp2_with (first
      | (refine wpList_store_row (by rfl) 26 (.tmp 4) (.tmp 39) (by rfl) (w.heap.size + 1) (arr .u8 32 D) (by rfl) (by rfl) 26 _ HR3.out (by rw [arr_size]; kernel_rfl) (by rw [arr_size, arr_size]) (arr_one _ _ _) ?_)
      | (refine wpList_load_row (by rfl) 26 (.tmp 6) (by rfl) W2.heap.size (by rfl) 26 (arr .u8 32 D) (0, 0) _ HI3.out Tryz.underlying26 rfl (by rw [arr_size]; kernel_rfl) ?_))
    refine bodyPost_ret (v := .tuple #[.agg (arr .u8 32 D), .int .i64 0]) (results_cell_tmp Tryz.results116 _ _ (w.heap.size + 1) 26 _ (0, 0) _ _ rfl rfl (heap_setRow_same HR3.out) Tryz.underlying26 rfl (by rw [arr_size]; kernel_rfl)) rfl ?_
    rw [HD.out, ← HX.out]
    have hr5 : ∀ k, k ≠ w.heap.size + 1 → (X3.setRow (w.heap.size + 1) (arr .u8 32 D)).heap[k]? = X3.heap[k]? := fun k hk => setRow_other _ _ _ _ hk
    have hq5 := below_setRow' (Below.refl 0 X3) (Nat.zero_le _) (g := w.heap.size + 1) (arr .u8 32 D)
    refine ⟨by rw [HX.out]; rfl, ⟨_, (hr5 g (by omega)).trans G3'.out, OwnH.mono (OwnH.keep HO3.out fun j hj => hr5 j (by have := (OwnH.lt HO3.out hj).1; have := HS4.out.2; omega)) f4.size⟩, ⟨hq5.os.trans (hS3.os.trans f4.os), hq5.tape.trans (hS3.tape.trans f4.tape), hq5.output.trans (hS3.output.trans f4.output), Nat.le_trans f4.size (Nat.le_trans hS3.size hq5.size), fun k hk hkg => (hr5 k (by omega)).trans ((hS3.block k (Nat.lt_of_lt_of_le hk f4.size) hkg).trans (f4.block k hk))⟩⟩
  · refine wpOp_plain rfl rfl ?_
    refine op_buildOne 44 (.tmp 34) rfl (.agg x.cells) rfl (bldHe x _) ?_
    have hX1 : Below W4.heap.size W4 (W5.drew.alloc (.cells x.cells 85)) := hb.alloc hb.size _
    have hrow1 := heap_alloc_new W5.drew (.cells x.cells 85)
    have hS1 : W4.grownBy (W5.drew.alloc (.cells x.cells 85)) (some g) := ⟨hX1.os, hX1.tape, hX1.output, hX1.size, fun k hk _ => hX1.block k hk⟩
    refine ⟨hS1, ?_⟩
    simp only [Act.put]
    generalize W5.drew.alloc (.cells x.cells 85) = X1 at hX1 hrow1 hS1
    have c5 : X1.cell? ⟨g, 0, none⟩ = some (.slice none 0 0) := (cell_of_row _ _ _ _ _ _ (HG4.out _ hX1)).trans rfl
    refine mv_next 4 rfl (by kernel_rfl) ?_
    refine op_value (.slice none 0 0) (by go_simp) ?_
    refine ⟨hS1, ?_⟩
    simp only [Act.put]
    clear hS1 c5
    obtain ⟨v8, X2, hr8, hO8, hG8, hb8⟩ := helds_run (B := W4.heap.size) (xs := []) (ys := [x]) (sp := some ⟨W5.heap.size, 0, none⟩) (cap := 1) 44 (ownH_nil _ X1) (fun h => by cases h) (oneH_rows hrow1) (fun _ => ⟨_, _, rfl⟩) (by simp) hX1.size
    have hB2 : Below W4.heap.size W4 X2 := (ownH_nil W4.heap.size X1).grown (Nat.le_refl _) hX1.size hX1 hG8
    have hS2 : W4.grownBy X2 (some g) := ⟨hB2.os, hB2.tape, hB2.output, hB2.size, fun k hk _ => hB2.block k hk⟩
    rw [List.nil_append] at hO8
    obtain ⟨sp8, cap8, rfl, -, -⟩ := OwnH.rows hO8
    refine mv_next 9 rfl (by kernel_rfl) ?_
    refine op_append (.tmp 31) (.tmp 35) 44 rfl rfl rfl hr8 ?_
    refine ⟨hS2, ?_⟩
    simp only [Act.put]
    have g8 := HG4.out X2 hB2
    have c8 : X2.cell? ⟨g, 0, none⟩ = some (.slice none 0 0) := (cell_of_row _ _ _ _ _ _ g8).trans rfl
    have z8 : X2.frozen? ⟨g, 0, none⟩ = false := frozen_of_row _ _ _ _ _ g8
    have HO8 : Hid _ := hO8
    have G8 : Hid _ := g8
    clear hr8 hG8 hb8 hO8 g8
    refine mv_rung 10 37 (.pointer (some ⟨g, 0, none⟩)) rfl (by rfl) (by kernel_rfl) (by kernel_rfl) (by kernel_rfl) (fun _ _ _ h => h) (fun w' _ => by first | rfl | go_simp) hS2 ?_
    simp only [List.setIfInBounds_toArray, List.set_cons_succ, List.set_cons_zero]
    refine mv_rung 11 38 (.pointer (some ⟨g, 0, none⟩)) rfl (by rfl) (by kernel_rfl) (by kernel_rfl) (by kernel_rfl) (fun _ _ _ h => h) (fun w' _ => by first | rfl | go_simp) hS2 ?_
    simp only [List.setIfInBounds_toArray, List.set_cons_succ, List.set_cons_zero]
    refine mv_next 12 rfl (by kernel_rfl) ?_
    go_simp
    have hq := (Below.refl 0 X2).setCell (p := ⟨g, 0, none⟩) (Nat.zero_le _) (.slice sp8 1 cap8)
    have hS3 : W4.grownBy (X2.setCell ⟨g, 0, none⟩ (.slice sp8 1 cap8)) (some g) := ⟨hq.os.trans hS2.os, hq.tape.trans hS2.tape, hq.output.trans hS2.output, Nat.le_trans hS2.size hq.size, fun k hk hkg => (heap_setCell_other _ _ _ _ (show k ≠ g from fun e => hkg (by rw [e]))).trans (hS2.block k hk hkg)⟩
    have g3 : (X2.setCell ⟨g, 0, none⟩ (.slice sp8 1 cap8)).heap[g]? = some (.cells #[.slice sp8 1 cap8] 46 (0, 0)) := (heap_setCell_same _ _ _ _ _ _ G8.out).trans rfl
    have hO3 : OwnH W4.heap.size (X2.setCell ⟨g, 0, none⟩ (.slice sp8 1 cap8)) (.slice sp8 1 cap8) [x] := OwnH.keep HO8.out fun j hj => heap_setCell_other _ _ _ _ (by have := (OwnH.lt HO8.out hj).1; have := HS4.out.2; show j ≠ g; omega)
    refine ⟨hS3, ?_⟩
    refine wpAnyH_done (by kernel_rfl) ?_ _
    generalize X2.setCell ⟨g, 0, none⟩ (.slice sp8 1 cap8) = X3 at hS3 g3 hO3
    have HI3 : Hid _ := HI'.out X3 hS3
    have HR3 : Hid _ := HR1'.out X3 hS3
    have G3' : Hid _ := g3
    have HO3 : Hid _ := hO3
    clear hq c8 z8 g3 hO3 hS2 hB2 hrow1 hX1 HO8 G8 hb hS0
    go_wp2_with (first
      | (refine wpList_store_row (by rfl) 26 (.tmp 4) (.tmp 39) (by rfl) (w.heap.size + 1) (arr .u8 32 D) (by rfl) (by rfl) 26 _ HR3.out (by rw [arr_size]; kernel_rfl) (by rw [arr_size, arr_size]) (arr_one _ _ _) ?_)
      | (refine wpList_load_row (by rfl) 26 (.tmp 6) (by rfl) W2.heap.size (by rfl) 26 (arr .u8 32 D) (0, 0) _ HI3.out Tryz.underlying26 rfl (by rw [arr_size]; kernel_rfl) ?_))
    refine bodyPost_ret (v := .tuple #[.agg (arr .u8 32 D), .int .i64 0]) (results_cell_tmp Tryz.results116 _ _ (w.heap.size + 1) 26 _ (0, 0) _ _ rfl rfl (heap_setRow_same HR3.out) Tryz.underlying26 rfl (by rw [arr_size]; kernel_rfl)) rfl ?_
    rw [HD.out, ← HX.out]
    have hr5 : ∀ k, k ≠ w.heap.size + 1 → (X3.setRow (w.heap.size + 1) (arr .u8 32 D)).heap[k]? = X3.heap[k]? := fun k hk => setRow_other _ _ _ _ hk
    have hq5 := below_setRow' (Below.refl 0 X3) (Nat.zero_le _) (g := w.heap.size + 1) (arr .u8 32 D)
    refine ⟨by rw [HX.out]; rfl, ⟨_, (hr5 g (by omega)).trans G3'.out, OwnH.mono (OwnH.keep HO3.out fun j hj => hr5 j (by have := (OwnH.lt HO3.out hj).1; have := HS4.out.2; omega)) f4.size⟩, ⟨hq5.os.trans (hS3.os.trans f4.os), hq5.tape.trans (hS3.tape.trans f4.tape), hq5.output.trans (hS3.output.trans f4.output), Nat.le_trans f4.size (Nat.le_trans hS3.size hq5.size), fun k hk hkg => (hr5 k (by omega)).trans ((hS3.block k (Nat.lt_of_lt_of_le hk f4.size) hkg).trans (f4.block k hk))⟩⟩
end Go.Proofs.YtgfjjglejlnfbaaGreatDoor
