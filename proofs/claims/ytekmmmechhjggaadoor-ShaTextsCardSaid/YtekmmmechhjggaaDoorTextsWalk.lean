/- The walk of the law ShaTexts. -/
import Derived.Test.YtekmmmechhjggaaDoorWakes
import Derived.Test.YtekmmmechhjggaaDoorBackWalk
import Derived.Test.YtekmmmechhjggaaDoorRefParse
import Derived.Test.YtekmmmechhjggaaDoorLess
import Derived.Test.YtekmmmechhjggaaDoorMovesg
namespace Go.Proofs.YtekmmmechhjggaaDoor
open Go.RowKit

set_option maxRecDepth 100000 in
set_option maxHeartbeats 1000000 in
theorem texts_long (f g : Nat → Int) (s : ByteArray) (w : World) (hl : Laid w) (h : 20000 < s.size) (hm : s.size ≤ maxLen) :
    Calls Tryd.prog 6 #[.agg (arr .u8 32 f), .agg (arr .u8 32 g), .string s] w fun e w' => e = .returned (.bool true) ∧ Below w.heap.size w w' := by
  unfold maxLen at hm
  go_enter Tryd.func6, Tryd.ntmps6
  go_wp2_with fail
  refine calls_gen (fun W1 => Below w.heap.size w W1) (((Below.refl _ _).alloc (Nat.le_refl _) _).alloc (by simp) _) ?_
  intro W1 hB1
  refine (wakes_any W1 (hl.below hB1)).mono ?_
  rintro e w2 ⟨rfl, hB2⟩
  go_wp2
  go_ret
  exact ⟨rfl, hB1.trans (hB2.mono hB1.size)⟩

set_option maxRecDepth 100000 in
set_option maxHeartbeats 8000000 in
theorem texts_walk (f g : Nat → Int) (s : ByteArray) (w : World) (hl : Laid w) (hf : ∀ i, 0 ≤ f i ∧ f i ≤ 255) (hg : ∀ i, 0 ≤ g i ∧ g i ≤ 255) (hs : s.size ≤ 20000) :
    Calls Tryd.prog 6 #[.agg (arr .u8 32 f), .agg (arr .u8 32 g), .string s] w fun e w' => e = .returned (.bool true) ∧ Below w.heap.size w w' := by
  go_enter Tryd.func6, Tryd.ntmps6
  go_wp2_with fail
  refine calls_gen (fun W1 => Below w.heap.size w W1 ∧ W1.heap[w.heap.size]? = some (.cells (arr .u8 32 f) 25 (0, 0)) ∧ W1.heap[w.heap.size + 1]? = some (.cells (arr .u8 32 g) 25 (0, 0))) ⟨?_, ?_, ?_⟩ ?_
  · exact ((Below.refl _ _).alloc (Nat.le_refl _) _).alloc (by simp) _
  · exact (heap_alloc2_old _ _ _).trans rfl
  · exact (heap_alloc2_new _ _ _).trans rfl
  intro W1 ⟨hB1, hr0, hr1⟩
  refine (wakes_any W1 (hl.below hB1)).mono ?_
  rintro e w2 ⟨rfl, hB2⟩
  have HF2 : Hid (w2.heap[w.heap.size]? = some (.cells (arr .u8 32 f) 25 (0, 0))) := (hB2.block _ (lt_of_row hr0)).trans hr0
  have HG2 : Hid (w2.heap[w.heap.size + 1]? = some (.cells (arr .u8 32 g) 25 (0, 0))) := (hB2.block _ (lt_of_row hr1)).trans hr1
  have hBw2 : Below w.heap.size w w2 := hB1.trans (hB2.mono hB1.size)
  clear hr0 hr1 hB1 hB2
  go_wp2_with fail
  refine (parse_any s w2).mono ?_
  rintro e w3 ⟨h3, hB3⟩
  have HF3 : Hid (w3.heap[w.heap.size]? = some (.cells (arr .u8 32 f) 25 (0, 0))) := (hB3.block _ (lt_of_row HF2.out)).trans HF2.out
  have HG3 : Hid (w3.heap[w.heap.size + 1]? = some (.cells (arr .u8 32 g) 25 (0, 0))) := (hB3.block _ (lt_of_row HG2.out)).trans HG2.out
  have hBw3 : Below w.heap.size w w3 := hBw2.trans (hB3.mono hBw2.size)
  clear HF2 HG2 hBw2 hB3
  rcases h3 with ⟨hok, rfl⟩ | ⟨hok, rfl⟩
  · generalize hp : (parseTo s 64) = p
    have hpq : Hid ((parseTo s 64) = p) := hp
    clear hp
    go_wp2_with (refine wpList_store_row (by rfl) 25 (.tmp 7) (.tmp 21) (by rfl) w3.heap.size (arr .u8 32 p) (by rfl) (by rfl) 25 (arr .u8 32 fun _ => 0) ((heap_alloc_new _ _).trans rfl) (by rw [arr_size]; kernel_rfl) (by rw [arr_size, arr_size]) (arr_one _ _ _) ?_)
    refine calls_gen (fun W4 => Below w.heap.size w W4 ∧ W4.heap[w.heap.size]? = some (.cells (arr .u8 32 f) 25 (0, 0)) ∧ W4.heap[w.heap.size + 1]? = some (.cells (arr .u8 32 g) 25 (0, 0)) ∧ W4.heap[w3.heap.size]? = some (.cells (arr .u8 32 p) 25 (0, 0))) ⟨?_, ?_, ?_, ?_⟩ ?_
    · exact below_setRow' (hBw3.alloc hBw3.size _) hBw3.size _
    · rw [setRow_other _ _ _ _ (Nat.ne_of_lt (lt_of_row HF3.out)), Below.heap_alloc _ _ _ (lt_of_row HF3.out)]; exact HF3.out
    · rw [setRow_other _ _ _ _ (Nat.ne_of_lt (lt_of_row HG3.out)), Below.heap_alloc _ _ _ (lt_of_row HG3.out)]; exact HG3.out
    · exact heap_setRow_same (heap_alloc_new _ _)
    have hX0 := hBw3.size
    clear HF3 HG3 hBw3
    generalize w3.heap.size = X at *
    intro W4 ⟨hB4, hr0, hr1, hrx⟩
    refine (refParse_any s W4).mono ?_
    rintro e w5 ⟨h5, hB5⟩
    have HF5 : Hid (w5.heap[w.heap.size]? = some (.cells (arr .u8 32 f) 25 (0, 0))) := (hB5.block _ (lt_of_row hr0)).trans hr0
    have HG5 : Hid (w5.heap[w.heap.size + 1]? = some (.cells (arr .u8 32 g) 25 (0, 0))) := (hB5.block _ (lt_of_row hr1)).trans hr1
    have HX5 : Hid (w5.heap[X]? = some (.cells (arr .u8 32 p) 25 (0, 0))) := (hB5.block _ (lt_of_row hrx)).trans hrx
    have hBw5 : Below w.heap.size w w5 := hB4.trans (hB5.mono hB4.size)
    clear hr0 hr1 hrx hB4 hB5
    have he5 : e = .returned (.tuple #[.agg (arr .u8 32 p), .bool true]) := by
      rcases h5 with ⟨hok', h⟩ | ⟨hok', h⟩
      · rw [h, ← hpq.out]
      · exact absurd hok hok'
    subst he5
    clear h5 hok
    go_wp2_with (refine wpList_store_row (by rfl) 25 (.tmp 9) (.tmp 26) (by rfl) w5.heap.size (arr .u8 32 p) (by rfl) (by rfl) 25 (arr .u8 32 fun _ => 0) ((heap_alloc_new _ _).trans rfl) (by rw [arr_size]; kernel_rfl) (by rw [arr_size, arr_size]) (arr_one _ _ _) ?_)
    refine wp_gen (fun W => Below w.heap.size w W ∧ W.heap[w.heap.size]? = some (.cells (arr .u8 32 f) 25 (0, 0)) ∧ W.heap[w.heap.size + 1]? = some (.cells (arr .u8 32 g) 25 (0, 0)) ∧ W.heap[X]? = some (.cells (arr .u8 32 p) 25 (0, 0)) ∧ W.heap[w5.heap.size]? = some (.cells (arr .u8 32 p) 25 (0, 0))) ⟨?_, ?_, ?_, ?_, ?_⟩ ?_
    · exact below_setRow' (hBw5.alloc hBw5.size _) hBw5.size _
    · rw [setRow_other _ _ _ _ (Nat.ne_of_lt (lt_of_row HF5.out)), Below.heap_alloc _ _ _ (lt_of_row HF5.out)]; exact HF5.out
    · rw [setRow_other _ _ _ _ (Nat.ne_of_lt (lt_of_row HG5.out)), Below.heap_alloc _ _ _ (lt_of_row HG5.out)]; exact HG5.out
    · rw [setRow_other _ _ _ _ (Nat.ne_of_lt (lt_of_row HX5.out)), Below.heap_alloc _ _ _ (lt_of_row HX5.out)]; exact HX5.out
    · exact heap_setRow_same (heap_alloc_new _ _)
    clear HF5 HG5 HX5 hBw5
    generalize w5.heap.size = Y at *
    intro W ⟨hBW, hr0, hr1, hrx, hry⟩
    have HF : Hid _ := hr0
    have HG : Hid _ := hr1
    have HX : Hid _ := hrx
    have HY : Hid _ := hry
    clear hr0 hr1 hrx hry
    have heq : ∀ w, (Op.equalIn 10000 25 (.agg (arr .u8 32 p)) (.agg (arr .u8 32 p))).run Tryd.prog w = .ok true w := fun w =>
      (equal_arr 9998 25 5 32 .u8 .u8 _ _ Tryd.underlying25 Tryd.underlying5 (by kernel_rfl) w).trans (by rw [eqTo_true fun _ _ => rfl])
    refine mv_begin (S := fun w' => Below W.heap.size W w') 24 rfl (by kernel_rfl) ?_
    refine mv_rowg 0 28 25 (.tmp 7) rfl (by rfl) X 25 (arr .u8 32 p) (0, 0) rfl (by kernel_rfl) (by kernel_rfl) (by kernel_rfl) (fun _ _ _ h => h) _ (fun w' hw' => (hw'.block _ (lt_of_row HX.out)).trans HX.out) Tryd.underlying25 rfl (by rw [arr_size]; kernel_rfl) (Below.refl _ _).drew ?_
    simp only [List.setIfInBounds_toArray, List.set_cons_succ, List.set_cons_zero]
    refine mv_rowg 1 29 25 (.tmp 9) rfl (by rfl) Y 25 (arr .u8 32 p) (0, 0) rfl (by kernel_rfl) (by kernel_rfl) (by kernel_rfl) (fun _ _ _ h => h) _ (fun w' hw' => (hw'.block _ (lt_of_row HY.out)).trans HY.out) Tryd.underlying25 rfl (by rw [arr_size]; kernel_rfl) (Below.refl _ _).drew ?_
    simp only [List.setIfInBounds_toArray, List.set_cons_succ, List.set_cons_zero]
    refine mv_rung 2 30 (.bool false) rfl (by rfl) (by kernel_rfl) (by kernel_rfl) (by kernel_rfl) (fun _ _ _ h => h) (fun w' _ => ?_) (Below.refl _ _).drew ?_
    · go_simp
    simp only [List.setIfInBounds_toArray, List.set_cons_succ, List.set_cons_zero]
    refine mv_rung 3 31 (.bool false) rfl (by rfl) (by kernel_rfl) (by kernel_rfl) (by kernel_rfl) (fun _ _ _ h => h) (fun w' _ => ?_) (Below.refl _ _).drew ?_
    · first | rfl | go_simp
    simp only [List.setIfInBounds_toArray, List.set_cons_succ, List.set_cons_zero]
    refine mv_rung 4 32 (.bool true) rfl (by rfl) (by kernel_rfl) (by kernel_rfl) (by kernel_rfl) (fun _ _ _ h => h) (fun w' _ => ?_) (Below.refl _ _).drew ?_
    · first | rfl | go_simp
    simp only [List.setIfInBounds_toArray, List.set_cons_succ, List.set_cons_zero]
    refine mv_rung 5 33 (.int .i64 0) rfl (by rfl) (by kernel_rfl) (by kernel_rfl) (by kernel_rfl) (fun _ _ _ h => h) (fun w' _ => ?_) (Below.refl _ _).drew ?_
    · first | rfl | go_simp
    simp only [List.setIfInBounds_toArray, List.set_cons_succ, List.set_cons_zero]
    refine mv_rung 6 34 (.bool true) rfl (by rfl) (by kernel_rfl) (by kernel_rfl) (by kernel_rfl) (fun _ _ _ h => h) (fun w' _ => ?_) (Below.refl _ _).drew ?_
    · go_simp
    simp only [List.setIfInBounds_toArray, List.set_cons_succ, List.set_cons_zero]
    refine mv_rung 7 35 (.bool false) rfl (by rfl) (by kernel_rfl) (by kernel_rfl) (by kernel_rfl) (fun _ _ _ h => h) (fun w' _ => ?_) (Below.refl _ _).drew ?_
    · go_simp
    simp only [List.setIfInBounds_toArray, List.set_cons_succ, List.set_cons_zero]
    refine mv_rung 8 36 (.bool false) rfl (by rfl) (by kernel_rfl) (by kernel_rfl) (by kernel_rfl) (fun _ _ _ h => h) (fun w' _ => ?_) (Below.refl _ _).drew ?_
    · first | rfl | go_simp
    simp only [List.setIfInBounds_toArray, List.set_cons_succ, List.set_cons_zero]
    refine mv_rung 9 37 (.bool false) rfl (by rfl) (by kernel_rfl) (by kernel_rfl) (by kernel_rfl) (fun _ _ _ h => h) (fun w' _ => ?_) (Below.refl _ _).drew ?_
    · first | rfl | go_simp
    simp only [List.setIfInBounds_toArray, List.set_cons_succ, List.set_cons_zero]
    refine mv_rung 10 38 (.bool true) rfl (by rfl) (by kernel_rfl) (by kernel_rfl) (by kernel_rfl) (fun _ _ _ h => h) (fun w' _ => ?_) (Below.refl _ _).drew ?_
    · first | rfl | go_simp
    simp only [List.setIfInBounds_toArray, List.set_cons_succ, List.set_cons_zero]
    refine mv_rung 11 39 (.bool false) rfl (by rfl) (by kernel_rfl) (by kernel_rfl) (by kernel_rfl) (fun _ _ _ h => h) (fun w' _ => ?_) (Below.refl _ _).drew ?_
    · go_simp
    simp only [List.setIfInBounds_toArray, List.set_cons_succ, List.set_cons_zero]
    refine mv_rung 12 40 (.bool false) rfl (by rfl) (by kernel_rfl) (by kernel_rfl) (by kernel_rfl) (fun _ _ _ h => h) (fun w' _ => ?_) (Below.refl _ _).drew ?_
    · first | rfl | go_simp
    simp only [List.setIfInBounds_toArray, List.set_cons_succ, List.set_cons_zero]
    refine mv_skip 13 41 rfl (by rfl) (by kernel_rfl) (by kernel_rfl) (by kernel_rfl) (fun _ _ _ h => h) (Below.refl _ _).drew ?_
    simp only [List.setIfInBounds_toArray, List.set_cons_succ, List.set_cons_zero]
    refine mv_skip 14 42 rfl (by rfl) (by kernel_rfl) (by kernel_rfl) (by kernel_rfl) (fun _ _ _ h => h) (Below.refl _ _).drew ?_
    simp only [List.setIfInBounds_toArray, List.set_cons_succ, List.set_cons_zero]
    refine mv_rung 15 43 (.bool false) rfl (by rfl) (by kernel_rfl) (by kernel_rfl) (by kernel_rfl) (fun _ _ _ h => h) (fun w' _ => ?_) (Below.refl _ _).drew ?_
    · first | rfl | go_simp
    simp only [List.setIfInBounds_toArray, List.set_cons_succ, List.set_cons_zero]
    refine mv_rung 16 44 (.bool false) rfl (by rfl) (by kernel_rfl) (by kernel_rfl) (by kernel_rfl) (fun _ _ _ h => h) (fun w' _ => ?_) (Below.refl _ _).drew ?_
    · first | rfl | go_simp
    simp only [List.setIfInBounds_toArray, List.set_cons_succ, List.set_cons_zero]
    refine mv_rung 17 45 (.bool false) rfl (by rfl) (by kernel_rfl) (by kernel_rfl) (by kernel_rfl) (fun _ _ _ h => h) (fun w' _ => ?_) (Below.refl _ _).drew ?_
    · first | rfl | go_simp
    simp only [List.setIfInBounds_toArray, List.set_cons_succ, List.set_cons_zero]
    refine mv_rowg 18 46 25 (.tmp 3) rfl (by rfl) w.heap.size 25 (arr .u8 32 f) (0, 0) rfl (by kernel_rfl) (by kernel_rfl) (by kernel_rfl) (fun _ _ _ h => h) _ (fun w' hw' => (hw'.block _ (lt_of_row HF.out)).trans HF.out) Tryd.underlying25 rfl (by rw [arr_size]; kernel_rfl) (Below.refl _ _).drew ?_
    simp only [List.setIfInBounds_toArray, List.set_cons_succ, List.set_cons_zero]
    refine mv_rowg 20 48 25 (.tmp 3) rfl (by rfl) w.heap.size 25 (arr .u8 32 f) (0, 0) rfl (by kernel_rfl) (by kernel_rfl) (by kernel_rfl) (fun _ _ _ h => h) _ (fun w' hw' => (hw'.block _ (lt_of_row HF.out)).trans HF.out) Tryd.underlying25 rfl (by rw [arr_size]; kernel_rfl) (Below.refl _ _).drew ?_
    simp only [List.setIfInBounds_toArray, List.set_cons_succ, List.set_cons_zero]
    refine mv_nextg 19 rfl (by rfl) (by kernel_rfl) ?_
    go_simp
    refine (text_any f _ hf).mono ?_
    rintro e wa ⟨rfl, hBa⟩
    have hSa : Below W.heap.size W wa := (Below.refl _ _).drew.trans hBa
    refine ⟨hSa, ?_⟩
    refine mv_nextg 21 rfl (by rfl) (by kernel_rfl) ?_
    go_simp
    refine (refText_any f _ hf).mono ?_
    rintro e wb ⟨rfl, hBb⟩
    have hSb : Below W.heap.size W wb := hSa.trans (hBb.mono hSa.size)
    refine ⟨hSb, ?_⟩
    refine mv_rung 22 50 (.bool false) rfl (by rfl) (by kernel_rfl) (by kernel_rfl) (by kernel_rfl) (fun _ _ _ h => h) (fun w' _ => ?_) hSb ?_
    · go_simp
    simp only [List.setIfInBounds_toArray, List.set_cons_succ, List.set_cons_zero]
    refine mv_rung 23 51 (.bool false) rfl (by rfl) (by kernel_rfl) (by kernel_rfl) (by kernel_rfl) (fun _ _ _ h => h) (fun w' _ => ?_) hSb ?_
    · first | rfl | go_simp
    simp only [List.setIfInBounds_toArray, List.set_cons_succ, List.set_cons_zero]
    refine wpAnyH_done (by kernel_rfl) ?_ _
    clear heq hSa
    go_wp2
    refine wp_gen (fun W9 => Below w.heap.size w W9 ∧ W9.heap[w.heap.size]? = some (.cells (arr .u8 32 f) 25 (0, 0)) ∧ W9.heap[w.heap.size + 1]? = some (.cells (arr .u8 32 g) 25 (0, 0))) ⟨hBW.trans (hSb.mono hBW.size), (hSb.block _ (lt_of_row HF.out)).trans HF.out, (hSb.block _ (lt_of_row HG.out)).trans HG.out⟩ ?_
    clear HF HG HX HY hSb hBb hBa
    intro W9 ⟨hB9, hr0, hr1⟩
    have HF : Hid _ := hr0
    have HG : Hid _ := hr1
    clear hr0 hr1
    go_loopw [11, 52] (fun l i wr => ∃ t : Nat, t ≤ 32 ∧ i = .int .i64 t ∧ l = .bool false ∧ (∀ j, j < t → f j = g j) ∧ Below w.heap.size w wr ∧ wr.heap[w.heap.size]? = some (.cells (arr .u8 32 f) 25 (0, 0)) ∧ wr.heap[w.heap.size + 1]? = some (.cells (arr .u8 32 g) 25 (0, 0))) (fun _ i _ => 32 - (intOf i).toNat)
    case atStart => exact ⟨0, Nat.zero_le _, rfl, rfl, fun j hj => absurd hj (by omega), hB9, HF.out, HG.out⟩
    case round =>
      obtain ⟨t, ht, rfl, rfl, hall, hBr, hr0, hr1⟩ := hrel
      clear HF HG hB9
      have HF : Hid _ := hr0
      have HG : Hid _ := hr1
      have HALL : Hid _ := hall
      by_cases hlt : t < 32
      · have hc0 : wr.cell? ⟨w.heap.size, t, none⟩ = some (.int .u8 (f t)) := row_cell hr0 hlt
        have hc1 : wr.cell? ⟨w.heap.size + 1, t, none⟩ = some (.int .u8 (g t)) := row_cell hr1 hlt
        clear hr0 hr1 hall
        by_cases hfg : f t = g t
        · have HFG : Hid _ := hfg
          have hne : (f t != g t) = false := by simp [hfg]
          clear hfg
          go_wp2
          go_quiet (fail)
          go_wp2
          go_roundw
          case rel =>
            refine ⟨t + 1, by omega, by go_num, rfl, fun j hj => ?_, below_drewN hBr _, HF.out, HG.out⟩
            by_cases hjt : j < t
            · exact HALL.out j hjt
            · rw [show j = t by omega]; exact HFG.out
          case measure => simp [intOf]; omega
        · have HLE : Hid (lessF f g = decide (f t < g t)) := less_at f g t hlt HALL.out hfg
          have hne : (f t != g t) = true := by simpa using hfg
          clear hfg
          go_wp2
          go_quiet (fail)
          go_wp2
          go_quiet (fail)
          go_wp2_with (first
            | (refine wpList_load_row (by rfl) 25 (.tmp 3) (by rfl) w.heap.size (by rfl) 25 (arr .u8 32 f) (0, 0) _ HF.out Tryd.underlying25 rfl (by rw [arr_size]; kernel_rfl) ?_)
            | (refine wpList_load_row (by rfl) 25 (.tmp 4) (by rfl) (w.heap.size + 1) (by rfl) 25 (arr .u8 32 g) (0, 0) _ HG.out Tryd.underlying25 rfl (by rw [arr_size]; kernel_rfl) ?_))
          refine (less_any f g _ hf hg).mono ?_
          rintro e wz ⟨rfl, hBz⟩
          rw [HLE.out]
          go_wp2
          go_ret
          refine ⟨?_, (below_drewN hBr _).trans (hBz.mono (by exact hBr.size))⟩
          simp
      · have HLE : Hid (lessF f g = false) := less_none f g (fun j hj => hall j (by omega))
        clear hr0 hr1 hall
        go_wp2_with (first
          | (refine wpList_load_row (by rfl) 25 (.tmp 3) (by rfl) w.heap.size (by rfl) 25 (arr .u8 32 f) (0, 0) _ HF.out Tryd.underlying25 rfl (by rw [arr_size]; kernel_rfl) ?_)
          | (refine wpList_load_row (by rfl) 25 (.tmp 4) (by rfl) (w.heap.size + 1) (by rfl) 25 (arr .u8 32 g) (0, 0) _ HG.out Tryd.underlying25 rfl (by rw [arr_size]; kernel_rfl) ?_))
        refine (less_any f g _ hf hg).mono ?_
        rintro e wz ⟨rfl, hBz⟩
        rw [HLE.out]
        go_wp2
        go_ret
        exact ⟨rfl, hBr.trans (hBz.mono hBr.size)⟩
  · generalize hp : (fun _ => 0 : Nat → Int) = p
    have hpq : Hid ((fun _ => 0 : Nat → Int) = p) := hp
    clear hp
    go_wp2_with (refine wpList_store_row (by rfl) 25 (.tmp 7) (.tmp 21) (by rfl) w3.heap.size (arr .u8 32 p) (by rfl) (by rfl) 25 (arr .u8 32 fun _ => 0) ((heap_alloc_new _ _).trans rfl) (by rw [arr_size]; kernel_rfl) (by rw [arr_size, arr_size]) (arr_one _ _ _) ?_)
    refine calls_gen (fun W4 => Below w.heap.size w W4 ∧ W4.heap[w.heap.size]? = some (.cells (arr .u8 32 f) 25 (0, 0)) ∧ W4.heap[w.heap.size + 1]? = some (.cells (arr .u8 32 g) 25 (0, 0)) ∧ W4.heap[w3.heap.size]? = some (.cells (arr .u8 32 p) 25 (0, 0))) ⟨?_, ?_, ?_, ?_⟩ ?_
    · exact below_setRow' (hBw3.alloc hBw3.size _) hBw3.size _
    · rw [setRow_other _ _ _ _ (Nat.ne_of_lt (lt_of_row HF3.out)), Below.heap_alloc _ _ _ (lt_of_row HF3.out)]; exact HF3.out
    · rw [setRow_other _ _ _ _ (Nat.ne_of_lt (lt_of_row HG3.out)), Below.heap_alloc _ _ _ (lt_of_row HG3.out)]; exact HG3.out
    · exact heap_setRow_same (heap_alloc_new _ _)
    have hX0 := hBw3.size
    clear HF3 HG3 hBw3
    generalize w3.heap.size = X at *
    intro W4 ⟨hB4, hr0, hr1, hrx⟩
    refine (refParse_any s W4).mono ?_
    rintro e w5 ⟨h5, hB5⟩
    have HF5 : Hid (w5.heap[w.heap.size]? = some (.cells (arr .u8 32 f) 25 (0, 0))) := (hB5.block _ (lt_of_row hr0)).trans hr0
    have HG5 : Hid (w5.heap[w.heap.size + 1]? = some (.cells (arr .u8 32 g) 25 (0, 0))) := (hB5.block _ (lt_of_row hr1)).trans hr1
    have HX5 : Hid (w5.heap[X]? = some (.cells (arr .u8 32 p) 25 (0, 0))) := (hB5.block _ (lt_of_row hrx)).trans hrx
    have hBw5 : Below w.heap.size w w5 := hB4.trans (hB5.mono hB4.size)
    clear hr0 hr1 hrx hB4 hB5
    have he5 : e = .returned (.tuple #[.agg (arr .u8 32 p), .bool false]) := by
      rcases h5 with ⟨hok', h⟩ | ⟨hok', h⟩
      · exact absurd hok' hok
      · rw [h, ← hpq.out]
    subst he5
    clear h5 hok
    go_wp2_with (refine wpList_store_row (by rfl) 25 (.tmp 9) (.tmp 26) (by rfl) w5.heap.size (arr .u8 32 p) (by rfl) (by rfl) 25 (arr .u8 32 fun _ => 0) ((heap_alloc_new _ _).trans rfl) (by rw [arr_size]; kernel_rfl) (by rw [arr_size, arr_size]) (arr_one _ _ _) ?_)
    refine wp_gen (fun W => Below w.heap.size w W ∧ W.heap[w.heap.size]? = some (.cells (arr .u8 32 f) 25 (0, 0)) ∧ W.heap[w.heap.size + 1]? = some (.cells (arr .u8 32 g) 25 (0, 0)) ∧ W.heap[X]? = some (.cells (arr .u8 32 p) 25 (0, 0)) ∧ W.heap[w5.heap.size]? = some (.cells (arr .u8 32 p) 25 (0, 0))) ⟨?_, ?_, ?_, ?_, ?_⟩ ?_
    · exact below_setRow' (hBw5.alloc hBw5.size _) hBw5.size _
    · rw [setRow_other _ _ _ _ (Nat.ne_of_lt (lt_of_row HF5.out)), Below.heap_alloc _ _ _ (lt_of_row HF5.out)]; exact HF5.out
    · rw [setRow_other _ _ _ _ (Nat.ne_of_lt (lt_of_row HG5.out)), Below.heap_alloc _ _ _ (lt_of_row HG5.out)]; exact HG5.out
    · rw [setRow_other _ _ _ _ (Nat.ne_of_lt (lt_of_row HX5.out)), Below.heap_alloc _ _ _ (lt_of_row HX5.out)]; exact HX5.out
    · exact heap_setRow_same (heap_alloc_new _ _)
    clear HF5 HG5 HX5 hBw5
    generalize w5.heap.size = Y at *
    intro W ⟨hBW, hr0, hr1, hrx, hry⟩
    have HF : Hid _ := hr0
    have HG : Hid _ := hr1
    have HX : Hid _ := hrx
    have HY : Hid _ := hry
    clear hr0 hr1 hrx hry
    have heq : ∀ w, (Op.equalIn 10000 25 (.agg (arr .u8 32 p)) (.agg (arr .u8 32 p))).run Tryd.prog w = .ok true w := fun w =>
      (equal_arr 9998 25 5 32 .u8 .u8 _ _ Tryd.underlying25 Tryd.underlying5 (by kernel_rfl) w).trans (by rw [eqTo_true fun _ _ => rfl])
    refine mv_begin (S := fun w' => Below W.heap.size W w') 24 rfl (by kernel_rfl) ?_
    refine mv_rowg 0 28 25 (.tmp 7) rfl (by rfl) X 25 (arr .u8 32 p) (0, 0) rfl (by kernel_rfl) (by kernel_rfl) (by kernel_rfl) (fun _ _ _ h => h) _ (fun w' hw' => (hw'.block _ (lt_of_row HX.out)).trans HX.out) Tryd.underlying25 rfl (by rw [arr_size]; kernel_rfl) (Below.refl _ _).drew ?_
    simp only [List.setIfInBounds_toArray, List.set_cons_succ, List.set_cons_zero]
    refine mv_rowg 1 29 25 (.tmp 9) rfl (by rfl) Y 25 (arr .u8 32 p) (0, 0) rfl (by kernel_rfl) (by kernel_rfl) (by kernel_rfl) (fun _ _ _ h => h) _ (fun w' hw' => (hw'.block _ (lt_of_row HY.out)).trans HY.out) Tryd.underlying25 rfl (by rw [arr_size]; kernel_rfl) (Below.refl _ _).drew ?_
    simp only [List.setIfInBounds_toArray, List.set_cons_succ, List.set_cons_zero]
    refine mv_rung 2 30 (.bool false) rfl (by rfl) (by kernel_rfl) (by kernel_rfl) (by kernel_rfl) (fun _ _ _ h => h) (fun w' _ => ?_) (Below.refl _ _).drew ?_
    · go_simp
    simp only [List.setIfInBounds_toArray, List.set_cons_succ, List.set_cons_zero]
    refine mv_rung 3 31 (.bool false) rfl (by rfl) (by kernel_rfl) (by kernel_rfl) (by kernel_rfl) (fun _ _ _ h => h) (fun w' _ => ?_) (Below.refl _ _).drew ?_
    · first | rfl | go_simp
    simp only [List.setIfInBounds_toArray, List.set_cons_succ, List.set_cons_zero]
    refine mv_rung 4 32 (.bool false) rfl (by rfl) (by kernel_rfl) (by kernel_rfl) (by kernel_rfl) (fun _ _ _ h => h) (fun w' _ => ?_) (Below.refl _ _).drew ?_
    · first | rfl | go_simp
    simp only [List.setIfInBounds_toArray, List.set_cons_succ, List.set_cons_zero]
    refine mv_rung 5 33 (.int .i64 130) rfl (by rfl) (by kernel_rfl) (by kernel_rfl) (by kernel_rfl) (fun _ _ _ h => h) (fun w' _ => ?_) (Below.refl _ _).drew ?_
    · first | rfl | go_simp
    simp only [List.setIfInBounds_toArray, List.set_cons_succ, List.set_cons_zero]
    refine mv_rung 6 34 (.bool false) rfl (by rfl) (by kernel_rfl) (by kernel_rfl) (by kernel_rfl) (fun _ _ _ h => h) (fun w' _ => ?_) (Below.refl _ _).drew ?_
    · go_simp
    simp only [List.setIfInBounds_toArray, List.set_cons_succ, List.set_cons_zero]
    refine mv_rung 7 35 (.bool false) rfl (by rfl) (by kernel_rfl) (by kernel_rfl) (by kernel_rfl) (fun _ _ _ h => h) (fun w' _ => ?_) (Below.refl _ _).drew ?_
    · go_simp
    simp only [List.setIfInBounds_toArray, List.set_cons_succ, List.set_cons_zero]
    refine mv_rung 8 36 (.bool false) rfl (by rfl) (by kernel_rfl) (by kernel_rfl) (by kernel_rfl) (fun _ _ _ h => h) (fun w' _ => ?_) (Below.refl _ _).drew ?_
    · first | rfl | go_simp
    simp only [List.setIfInBounds_toArray, List.set_cons_succ, List.set_cons_zero]
    refine mv_rung 9 37 (.bool false) rfl (by rfl) (by kernel_rfl) (by kernel_rfl) (by kernel_rfl) (fun _ _ _ h => h) (fun w' _ => ?_) (Below.refl _ _).drew ?_
    · first | rfl | go_simp
    simp only [List.setIfInBounds_toArray, List.set_cons_succ, List.set_cons_zero]
    refine mv_rung 10 38 (.bool false) rfl (by rfl) (by kernel_rfl) (by kernel_rfl) (by kernel_rfl) (fun _ _ _ h => h) (fun w' _ => ?_) (Below.refl _ _).drew ?_
    · first | rfl | go_simp
    simp only [List.setIfInBounds_toArray, List.set_cons_succ, List.set_cons_zero]
    refine mv_rung 11 39 (.bool true) rfl (by rfl) (by kernel_rfl) (by kernel_rfl) (by kernel_rfl) (fun _ _ _ h => h) (fun w' _ => ?_) (Below.refl _ _).drew ?_
    · go_simp
    simp only [List.setIfInBounds_toArray, List.set_cons_succ, List.set_cons_zero]
    refine mv_rung 12 40 (.bool true) rfl (by rfl) (by kernel_rfl) (by kernel_rfl) (by kernel_rfl) (fun _ _ _ h => h) (fun w' _ => ?_) (Below.refl _ _).drew ?_
    · first | rfl | go_simp
    simp only [List.setIfInBounds_toArray, List.set_cons_succ, List.set_cons_zero]
    refine mv_rung 13 41 (.int .i64 130) rfl (by rfl) (by kernel_rfl) (by kernel_rfl) (by kernel_rfl) (fun _ _ _ h => h) (fun w' _ => ?_) (Below.refl _ _).drew ?_
    · first | rfl | go_simp
    simp only [List.setIfInBounds_toArray, List.set_cons_succ, List.set_cons_zero]
    refine mv_rung 14 42 (.bool false) rfl (by rfl) (by kernel_rfl) (by kernel_rfl) (by kernel_rfl) (fun _ _ _ h => h) (fun w' _ => ?_) (Below.refl _ _).drew ?_
    · go_simp
    simp only [List.setIfInBounds_toArray, List.set_cons_succ, List.set_cons_zero]
    refine mv_rung 15 43 (.bool false) rfl (by rfl) (by kernel_rfl) (by kernel_rfl) (by kernel_rfl) (fun _ _ _ h => h) (fun w' _ => ?_) (Below.refl _ _).drew ?_
    · first | rfl | go_simp
    simp only [List.setIfInBounds_toArray, List.set_cons_succ, List.set_cons_zero]
    refine mv_rung 16 44 (.bool false) rfl (by rfl) (by kernel_rfl) (by kernel_rfl) (by kernel_rfl) (fun _ _ _ h => h) (fun w' _ => ?_) (Below.refl _ _).drew ?_
    · first | rfl | go_simp
    simp only [List.setIfInBounds_toArray, List.set_cons_succ, List.set_cons_zero]
    refine mv_rung 17 45 (.bool false) rfl (by rfl) (by kernel_rfl) (by kernel_rfl) (by kernel_rfl) (fun _ _ _ h => h) (fun w' _ => ?_) (Below.refl _ _).drew ?_
    · first | rfl | go_simp
    simp only [List.setIfInBounds_toArray, List.set_cons_succ, List.set_cons_zero]
    refine mv_rowg 18 46 25 (.tmp 3) rfl (by rfl) w.heap.size 25 (arr .u8 32 f) (0, 0) rfl (by kernel_rfl) (by kernel_rfl) (by kernel_rfl) (fun _ _ _ h => h) _ (fun w' hw' => (hw'.block _ (lt_of_row HF.out)).trans HF.out) Tryd.underlying25 rfl (by rw [arr_size]; kernel_rfl) (Below.refl _ _).drew ?_
    simp only [List.setIfInBounds_toArray, List.set_cons_succ, List.set_cons_zero]
    refine mv_rowg 20 48 25 (.tmp 3) rfl (by rfl) w.heap.size 25 (arr .u8 32 f) (0, 0) rfl (by kernel_rfl) (by kernel_rfl) (by kernel_rfl) (fun _ _ _ h => h) _ (fun w' hw' => (hw'.block _ (lt_of_row HF.out)).trans HF.out) Tryd.underlying25 rfl (by rw [arr_size]; kernel_rfl) (Below.refl _ _).drew ?_
    simp only [List.setIfInBounds_toArray, List.set_cons_succ, List.set_cons_zero]
    refine mv_nextg 19 rfl (by rfl) (by kernel_rfl) ?_
    go_simp
    refine (text_any f _ hf).mono ?_
    rintro e wa ⟨rfl, hBa⟩
    have hSa : Below W.heap.size W wa := (Below.refl _ _).drew.trans hBa
    refine ⟨hSa, ?_⟩
    refine mv_nextg 21 rfl (by rfl) (by kernel_rfl) ?_
    go_simp
    refine (refText_any f _ hf).mono ?_
    rintro e wb ⟨rfl, hBb⟩
    have hSb : Below W.heap.size W wb := hSa.trans (hBb.mono hSa.size)
    refine ⟨hSb, ?_⟩
    refine mv_rung 22 50 (.bool false) rfl (by rfl) (by kernel_rfl) (by kernel_rfl) (by kernel_rfl) (fun _ _ _ h => h) (fun w' _ => ?_) hSb ?_
    · go_simp
    simp only [List.setIfInBounds_toArray, List.set_cons_succ, List.set_cons_zero]
    refine mv_rung 23 51 (.bool false) rfl (by rfl) (by kernel_rfl) (by kernel_rfl) (by kernel_rfl) (fun _ _ _ h => h) (fun w' _ => ?_) hSb ?_
    · first | rfl | go_simp
    simp only [List.setIfInBounds_toArray, List.set_cons_succ, List.set_cons_zero]
    refine wpAnyH_done (by kernel_rfl) ?_ _
    clear heq hSa
    go_wp2
    refine wp_gen (fun W9 => Below w.heap.size w W9 ∧ W9.heap[w.heap.size]? = some (.cells (arr .u8 32 f) 25 (0, 0)) ∧ W9.heap[w.heap.size + 1]? = some (.cells (arr .u8 32 g) 25 (0, 0))) ⟨hBW.trans (hSb.mono hBW.size), (hSb.block _ (lt_of_row HF.out)).trans HF.out, (hSb.block _ (lt_of_row HG.out)).trans HG.out⟩ ?_
    clear HF HG HX HY hSb hBb hBa
    intro W9 ⟨hB9, hr0, hr1⟩
    have HF : Hid _ := hr0
    have HG : Hid _ := hr1
    clear hr0 hr1
    go_loopw [11, 52] (fun l i wr => ∃ t : Nat, t ≤ 32 ∧ i = .int .i64 t ∧ l = .bool false ∧ (∀ j, j < t → f j = g j) ∧ Below w.heap.size w wr ∧ wr.heap[w.heap.size]? = some (.cells (arr .u8 32 f) 25 (0, 0)) ∧ wr.heap[w.heap.size + 1]? = some (.cells (arr .u8 32 g) 25 (0, 0))) (fun _ i _ => 32 - (intOf i).toNat)
    case atStart => exact ⟨0, Nat.zero_le _, rfl, rfl, fun j hj => absurd hj (by omega), hB9, HF.out, HG.out⟩
    case round =>
      obtain ⟨t, ht, rfl, rfl, hall, hBr, hr0, hr1⟩ := hrel
      clear HF HG hB9
      have HF : Hid _ := hr0
      have HG : Hid _ := hr1
      have HALL : Hid _ := hall
      by_cases hlt : t < 32
      · have hc0 : wr.cell? ⟨w.heap.size, t, none⟩ = some (.int .u8 (f t)) := row_cell hr0 hlt
        have hc1 : wr.cell? ⟨w.heap.size + 1, t, none⟩ = some (.int .u8 (g t)) := row_cell hr1 hlt
        clear hr0 hr1 hall
        by_cases hfg : f t = g t
        · have HFG : Hid _ := hfg
          have hne : (f t != g t) = false := by simp [hfg]
          clear hfg
          go_wp2
          go_quiet (fail)
          go_wp2
          go_roundw
          case rel =>
            refine ⟨t + 1, by omega, by go_num, rfl, fun j hj => ?_, below_drewN hBr _, HF.out, HG.out⟩
            by_cases hjt : j < t
            · exact HALL.out j hjt
            · rw [show j = t by omega]; exact HFG.out
          case measure => simp [intOf]; omega
        · have HLE : Hid (lessF f g = decide (f t < g t)) := less_at f g t hlt HALL.out hfg
          have hne : (f t != g t) = true := by simpa using hfg
          clear hfg
          go_wp2
          go_quiet (fail)
          go_wp2
          go_quiet (fail)
          go_wp2_with (first
            | (refine wpList_load_row (by rfl) 25 (.tmp 3) (by rfl) w.heap.size (by rfl) 25 (arr .u8 32 f) (0, 0) _ HF.out Tryd.underlying25 rfl (by rw [arr_size]; kernel_rfl) ?_)
            | (refine wpList_load_row (by rfl) 25 (.tmp 4) (by rfl) (w.heap.size + 1) (by rfl) 25 (arr .u8 32 g) (0, 0) _ HG.out Tryd.underlying25 rfl (by rw [arr_size]; kernel_rfl) ?_))
          refine (less_any f g _ hf hg).mono ?_
          rintro e wz ⟨rfl, hBz⟩
          rw [HLE.out]
          go_wp2
          go_ret
          refine ⟨?_, (below_drewN hBr _).trans (hBz.mono (by exact hBr.size))⟩
          simp
      · have HLE : Hid (lessF f g = false) := less_none f g (fun j hj => hall j (by omega))
        clear hr0 hr1 hall
        go_wp2_with (first
          | (refine wpList_load_row (by rfl) 25 (.tmp 3) (by rfl) w.heap.size (by rfl) 25 (arr .u8 32 f) (0, 0) _ HF.out Tryd.underlying25 rfl (by rw [arr_size]; kernel_rfl) ?_)
          | (refine wpList_load_row (by rfl) 25 (.tmp 4) (by rfl) (w.heap.size + 1) (by rfl) 25 (arr .u8 32 g) (0, 0) _ HG.out Tryd.underlying25 rfl (by rw [arr_size]; kernel_rfl) ?_))
        refine (less_any f g _ hf hg).mono ?_
        rintro e wz ⟨rfl, hBz⟩
        rw [HLE.out]
        go_wp2
        go_ret
        exact ⟨rfl, hBr.trans (hBz.mono hBr.size)⟩

theorem texts_all (f g : Nat → Int) (s : ByteArray) (w : World) (hl : Laid w) (hf : ∀ i, 0 ≤ f i ∧ f i ≤ 255) (hg : ∀ i, 0 ≤ g i ∧ g i ≤ 255) (hm : s.size ≤ maxLen) :
    Calls Tryd.prog 6 #[.agg (arr .u8 32 f), .agg (arr .u8 32 g), .string s] w fun e w' => e = .returned (.bool true) ∧ Below w.heap.size w w' := by
  by_cases h : s.size ≤ 20000
  · exact texts_walk f g s w hl hf hg h
  · exact texts_long f g s w hl (by omega) hm
end Go.Proofs.YtekmmmechhjggaaDoor
