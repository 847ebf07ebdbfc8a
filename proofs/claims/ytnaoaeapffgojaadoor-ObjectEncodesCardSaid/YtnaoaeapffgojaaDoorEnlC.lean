/- The document's Id; the walk through the law ObjectEncodes: it answers true, whatever the object. -/
import Derived.Test.YtnaoaeapffgojaaDoorRByT
import Derived.Test.YtnaoaeapffgojaaDoorRefSum
import Derived.Test.YtnaoaeapffgojaaDoorRRgA
import Derived.Test.YtnaoaeapffgojaaDoorRRgB
import Derived.Test.YtnaoaeapffgojaaDoorRRgD
import Derived.Test.YtnaoaeapffgojaaDoorRSam
import Derived.Test.YtnaoaeapffgojaaDoorIdC
import Derived.Test.YtnaoaeapffgojaaDoorWakC
namespace Go.Proofs.YtnaoaeapffgojaaDoor
open Go.RowKit

theorem rright_any (o : Ob) (c : Co) (w : World) (ho : In w o c) (hsm : Small o c) :
    Calls Tryd.prog 10 #[.agg o.cells] w fun e w' => e = .returned (.bool (rightB o c)) ∧ Below w.heap.size w w' := by
  by_cases h0 : o.kind < 1
  · exact rright_lo o c w ho hsm h0
  by_cases h4 : 3 < o.kind
  · exact rright_hi o c w ho hsm h4
  by_cases h1 : o.kind = 1
  · exact rright_1 o c w ho hsm h1
  by_cases h2 : o.kind = 2
  · exact rright_2 o c w ho hsm h2
  exact rright_3 o c w ho hsm (by omega)
theorem rbytes_any (o : Ob) (c : Co) (w : World) (ho : In w o c) (hsm : Small o c) (hr : rightB o c = true) :
    Calls Tryd.prog 13 #[.agg o.cells] w fun e w' => ∃ v, e = .returned v ∧ Own w' v (encB o c) ∧ Below w.heap.size w w' := by
  rcases right_kind hr with h | h | h
  · exact rbytes_1 o c w ho hsm h
  · exact rbytes_2 o c w ho h hr
  · exact rbytes_3 o c w ho h hr
theorem right_copy (o : Ob) (c : Co) (v1 v2 v3 : Value) : rightB { o with bs := v1, es := v2, ps := v3 } c = rightB o c := by
  unfold rightB mayB countedO countedCo sameB
  by_cases h1 : o.kind = 1
  · simp [h1]
  by_cases h2 : o.kind = 2
  · simp [h2]
  by_cases h3 : o.kind = 3
  · simp [h3]
  simp [h1, h2, h3]
theorem enc_copy (o : Ob) (c : Co) (v1 v2 v3 : Value) : encB { o with bs := v1, es := v2, ps := v3 } c = encB o c := rfl
theorem wpList_buildg {P : Program} {ops : Array Oper} {Q : Exit → Act → World → Prop} {a : Act} {w : World} {rest : List Oper} {o : Oper} (ty : TypeId) (ho : o.op = .build ty #[]) (hw : Region.wanted o (yielded ops a.tmps) = true) (v : Value)
    (hr : (Instr.build ty #[]).run P w = .ok v w) (h : wpList P ops Q rest (a.put o.dst v) w) : wpList P ops Q (o :: rest) a w :=
  wpList_step fun _ hK => by
    rw [if_pos hw]
    unfold Oper.wp execOp
    simp only [ho, Sem.run_bind, Sem.run_pure, Result.andThen_ok, List.map_toArray, List.map_nil, hr]
    exact hK _ _ h

set_option maxRecDepth 100000 in
set_option maxHeartbeats 1000000 in
theorem rid_any (o : Ob) (c : Co) (w : World) (ho : In w o c) (hsm : Small o c) (hr : rightB o c = true) :
    Calls Tryd.prog 14 #[.agg o.cells] w fun e w' => e = .returned (.agg (arr .u8 32 (digF kF hS (encB o c)))) ∧ Below w.heap.size w w' := by
  have HIN : Hid _ := ho
  clear ho
  go_enter Tryd.func14, Tryd.ntmps14
  go_wp2_with (refine wpList_load_row (by rfl) 29 (.tmp 1) (by rfl) w.heap.size (by rfl) 29 o.cells (0, 0) _ (heap_alloc2_old _ _ _) Tryd.underlying29 rfl (by rw [Ob.size]; kernel_rfl) ?_)
  refine calls_gen (fun W1 => Below w.heap.size w W1 ∧ W1.heap[w.heap.size + 1]? = some (.cells (arr .u8 32 fun _ => 0) 25 (0, 0))) ⟨((Below.refl _ _).alloc (Nat.le_refl _) _).alloc (by simp) _, (heap_alloc2_new _ _ _).trans rfl⟩ ?_
  intro W1 ⟨f1, hrow⟩
  refine (rbytes_any o c W1 (HIN.out.under f1) hsm hr).mono ?_
  rintro e w2 ⟨v, rfl, hO, hB2⟩
  have f2 : Below w.heap.size w w2 := f1.trans (hB2.mono f1.size)
  have HR2 : Hid _ := (hB2.block _ (lt_of_row hrow)).trans hrow
  obtain ⟨sv, cv, rfl, hs⟩ := Own.src hO
  have hok := enc_ok hr HIN.out.fit (fun i _ => HIN.out.bok i)
  have hln := enc_len hr
  obtain ⟨D, hD1, hD2⟩ : ∃ D, outF (sumF kF hS (fun i => (encB o c).getD i 0) (encB o c).length) = D ∧ digF kF hS (encB o c) = D := ⟨_, rfl, rfl⟩
  have HD1 : Hid _ := hD1
  have HD2 : Hid _ := hD2
  have HSV : Hid (SrcAt w2 .u8 sv (encB o c).length fun i => (encB o c).getD i 0) := hs
  clear hs hO hB2 hrow f1 hD1 hD2
  go_wp2_with fail
  refine (refSum_any sv (encB o c).length cv (fun i => (encB o c).getD i 0) w2 HSV.out (by omega) (fun i => getD_ok hok i)).mono ?_
  rintro e w3 ⟨rfl, hB3⟩
  have f3 : Below w.heap.size w w3 := f2.trans (hB3.mono f2.size)
  have HR3 : Hid _ := (hB3.block _ (lt_of_row HR2.out)).trans HR2.out
  rw [HD1.out]
  clear hB3 HR2 HSV HD1 f2
  go_wp2_with (refine wpList_store_row (by rfl) 25 (.tmp 2) (.tmp 5) (by rfl) (w.heap.size + 1) (arr .u8 32 D) (by rfl) (by rfl) 25 _ HR3.out (by rw [arr_size]; kernel_rfl) (by rw [arr_size, arr_size]) (arr_one _ _ _) ?_)
  refine bodyPost_ret (v := .agg (arr .u8 32 D)) ?_ rfl ⟨by rw [HD2.out], below_setRow' f3 (by omega) _⟩
  exact results_cell_row Tryd.results14 _ _ (w.heap.size + 1) 25 _ (0, 0) _ rfl (heap_setRow_same HR3.out) Tryd.underlying25 rfl (by rw [arr_size]; kernel_rfl)

set_option maxRecDepth 100000 in
set_option maxHeartbeats 4000000 in
theorem encodes_all (o : Ob) (c : Co) (w : World) (hT : Tab w kF hS) (ho : In w o c) :
    Calls Tryd.prog 3 #[.agg o.cells] w fun e w' => e = .returned (.bool true) ∧ Below w.heap.size w w' := by
  have HIN : Hid _ := ho
  have HTAB : Hid _ := hT
  clear ho hT
  go_enter Tryd.func3, Tryd.ntmps3
  go_wp2_with fail
  refine calls_gen (fun W1 => Below w.heap.size w W1 ∧ W1.heap[w.heap.size]? = some (.cells o.cells 29 (0, 0))) ⟨(Below.refl _ _).alloc (Nat.le_refl _) _, heap_alloc_new _ _⟩ ?_
  intro W1 ⟨f1, hrow1⟩
  refine (wakes_any W1).mono ?_
  rintro e w2 ⟨rfl, hB2⟩
  have f2 : Below w.heap.size w w2 := f1.trans (hB2.mono f1.size)
  have HR2 : Hid (w2.heap[w.heap.size]? = some (.cells o.cells 29 (0, 0))) := (hB2.block _ (lt_of_row hrow1)).trans hrow1
  clear hrow1 hB2 f1
  go_wp2_with (refine wpList_load_row (by rfl) 29 (.tmp 1) (by rfl) w.heap.size (by rfl) 29 o.cells (0, 0) _ HR2.out Tryd.underlying29 rfl (by rw [Ob.size]; kernel_rfl) ?_)
  refine (large_any o c w2 (HIN.out.under f2)).mono ?_
  rintro e w3 ⟨hc, hB3⟩
  have f3 : Below w.heap.size w w3 := f2.trans (hB3.mono f2.size)
  have HR3 : Hid (w3.heap[w.heap.size]? = some (.cells o.cells 29 (0, 0))) := (hB3.block _ (lt_of_row HR2.out)).trans HR2.out
  clear HR2 hB3 f2
  rcases hc with rfl | ⟨rfl, hsm⟩
  · go_wp2_with fail
    go_ret
    exact ⟨rfl, f3⟩
  have hF := HIN.out.fit
  have HHAS : Hid (Has w o c) := HIN.out.has (by have := hsm.nb; omega) (by have := hsm.es; omega) (by have := hsm.ps; omega)
  go_wp2_with (refine wpList_load_row (by rfl) 29 (.tmp 1) (by rfl) w.heap.size (by rfl) 29 o.cells (0, 0) _ HR3.out Tryd.underlying29 rfl (by rw [Ob.size]; kernel_rfl) ?_)
  refine (copied_any o c w3 (HIN.out.under f3) hsm).mono ?_
  rintro e w4 ⟨x1, x2, x3, rfl, hI4, hB4⟩
  have f4 : Below w.heap.size w w4 := f3.trans (hB4.mono f3.size)
  have HR4 : Hid (w4.heap[w.heap.size]? = some (.cells o.cells 29 (0, 0))) := (hB4.block _ (lt_of_row HR3.out)).trans HR3.out
  have HI4 : Hid _ := hI4
  clear HR3 hB4 f3 hI4
  go_wp2_with fail
  refine (encode_any { o with bs := x1, es := x2, ps := x3 } c w4 (HI4.out.has (by have := hsm.nb; omega) (by have := hsm.es; omega) (by have := hsm.ps; omega)) hF.n).mono ?_
  rintro e w5 ⟨hB5, hc⟩
  rw [right_copy, enc_copy] at hc
  have f5 : Below w.heap.size w w5 := f4.trans (hB5.mono f4.size)
  have HR5 : Hid (w5.heap[w.heap.size]? = some (.cells o.cells 29 (0, 0))) := (hB5.block _ (lt_of_row HR4.out)).trans HR4.out
  clear HR4 hB5 f4 HI4
  cases hr : rightB o c with
  | false =>
    rw [hr] at hc
    rcases hc with ⟨h, -⟩ | ⟨-, rfl⟩
    · cases h
    go_wp2_with (refine wpList_load_row (by rfl) 29 (.tmp 1) (by rfl) w.heap.size (by rfl) 29 o.cells (0, 0) _ HR5.out Tryd.underlying29 rfl (by rw [Ob.size]; kernel_rfl) ?_)
    refine (copied_any o c w5 (HIN.out.under f5) hsm).mono ?_
    rintro e w6 ⟨y1, y2, y3, rfl, hI6, hB6⟩
    have f6 : Below w.heap.size w w6 := f5.trans (hB6.mono f5.size)
    have HR6 : Hid (w6.heap[w.heap.size]? = some (.cells o.cells 29 (0, 0))) := (hB6.block _ (lt_of_row HR5.out)).trans HR5.out
    have HI6 : Hid _ := hI6
    clear HR5 hB6 f5 hI6
    go_wp2_with fail
    refine (objid_any kF hS { o with bs := y1, es := y2, ps := y3 } c w6 (HTAB.out.below f6) (HI6.out.has (by have := hsm.nb; omega) (by have := hsm.es; omega) (by have := hsm.ps; omega)) HI6.out.fit).mono ?_
    rintro e w7 ⟨hB7, hc⟩
    rw [right_copy, hr] at hc
    rcases hc with ⟨h, -⟩ | ⟨-, rfl⟩
    · cases h
    have f7 : Below w.heap.size w w7 := f6.trans (hB7.mono f6.size)
    have HR7 : Hid (w7.heap[w.heap.size]? = some (.cells o.cells 29 (0, 0))) := (hB7.block _ (lt_of_row HR6.out)).trans HR6.out
    clear HR6 hB7 f6 HI6
    go_wp2_with (first
      | (refine wpList_store_row (by rfl) 25 (.tmp 5) (.tmp 21) (by rfl) w7.heap.size (arr .u8 32 fun _ => 0) (by rfl) (by rfl) 25 _ (heap_alloc_new _ _) (by rw [arr_size]; kernel_rfl) (by rw [arr_size]; rfl) (arr_one _ _ _) ?_; refine wpList_gen (fun W => Below w7.heap.size w7 W ∧ W.heap[w7.heap.size]? = some (.cells (arr .u8 32 fun _ => 0) 25 (0, 0))) ⟨below_setRow' ((Below.refl _ _).alloc (Nat.le_refl _) _) (Nat.le_refl _) _, heap_setRow_same (heap_alloc_new _ _)⟩ ?_; intro W8 hW8; have HW8 : Hid _ := hW8; have HR8 : Hid (W8.heap[w.heap.size]? = some (.cells o.cells 29 (0, 0))) := (hW8.1.block _ (lt_of_row HR7.out)).trans HR7.out; clear hW8)
      | (refine wpList_load_row (by rfl) 29 (.tmp 1) (by rfl) w.heap.size (by rfl) 29 o.cells (0, 0) _ HR8.out Tryd.underlying29 rfl (by rw [Ob.size]; kernel_rfl) ?_))
    have f8 : Below w.heap.size w W8 := f7.trans (HW8.out.1.mono f7.size)
    refine (rright_any o c W8 (HIN.out.under f8) hsm).mono ?_
    rintro e w9 ⟨rfl, hB9⟩
    rw [hr]
    have f9 : Below w.heap.size w w9 := f8.trans (hB9.mono f8.size)
    have HR9 : Hid (w9.heap[w.heap.size]? = some (.cells o.cells 29 (0, 0))) := (hB9.block _ (lt_of_row HR8.out)).trans HR8.out
    have HD9 : Hid (w9.heap[w7.heap.size]? = some (.cells (arr .u8 32 fun _ => 0) 25 (0, 0))) := (hB9.block _ (lt_of_row HW8.out.2)).trans HW8.out.2
    have heq := equal_id (fun _ => 0) (fun _ => 0)
    rw [eqTo_self] at heq
    have HBI : Hid _ := build_id
    clear hB9 HW8 HR8 HR7 f8 f7
    go_wp2_with (first
      | (refine load_rowg2 25 (.tmp 5) (by rfl) (by rfl) w7.heap.size (by rfl) 25 (arr .u8 32 fun _ => 0) (0, 0) _ HD9.out Tryd.underlying25 rfl (by rw [arr_size]; kernel_rfl) ?_)
      | (refine wpList_buildg 25 (by rfl) (by rfl) (.agg (arr .u8 32 fun _ => 0)) (HBI.out _) ?_)
      | (refine load_rowg2 29 (.tmp 1) (by rfl) (by rfl) w.heap.size (by rfl) 29 o.cells (0, 0) _ HR9.out Tryd.underlying29 rfl (by rw [Ob.size]; kernel_rfl) ?_))
    refine (copied_any o c w9 (HIN.out.under f9) hsm).mono ?_
    rintro e wa ⟨z1, z2, z3, rfl, hIa, hBa⟩
    have fa : Below w.heap.size w wa := f9.trans (hBa.mono f9.size)
    have HIa : Hid _ := hIa
    clear hBa hIa heq
    go_wp2_with fail
    refine (check_any { o with bs := z1, es := z2, ps := z3 } c wa (HIa.out.has (by have := hsm.nb; omega) (by have := hsm.es; omega) (by have := hsm.ps; omega))).mono ?_
    rintro e wb ⟨rfl, hBb⟩
    have hck : checkN { o with bs := z1, es := z2, ps := z3 } c = 150 := by unfold checkN; rw [right_copy, hr]; rfl
    rw [hck]
    have fb : Below w.heap.size w wb := fa.trans (hBb.mono fa.size)
    clear hBb hck
    go_wp2
    go_ret
    exact ⟨rfl, fb⟩
  | true =>
    rw [hr] at hc
    rcases hc with ⟨-, v, rfl, hO5, -⟩ | ⟨h, -⟩
    rotate_left
    · cases h
    obtain ⟨sv, cv, rfl, hsv⟩ := Own.src hO5
    have hln := enc_len hr
    have HSV5 : Hid (SrcAt w5 .u8 sv (encB o c).length fun i => (encB o c).getD i 0) := hsv
    clear hO5 hsv
    generalize hM : encB o c = M at HSV5 hln
    have HM : Hid _ := hM
    clear hM
    go_wp2_with (refine wpList_load_row (by rfl) 29 (.tmp 1) (by rfl) w.heap.size (by rfl) 29 o.cells (0, 0) _ HR5.out Tryd.underlying29 rfl (by rw [Ob.size]; kernel_rfl) ?_)
    refine (copied_any o c w5 (HIN.out.under f5) hsm).mono ?_
    rintro e w6 ⟨y1, y2, y3, rfl, hI6, hB6⟩
    have f6 : Below w.heap.size w w6 := f5.trans (hB6.mono f5.size)
    have HR6 : Hid (w6.heap[w.heap.size]? = some (.cells o.cells 29 (0, 0))) := (hB6.block _ (lt_of_row HR5.out)).trans HR5.out
    have HS6 : Hid (SrcAt w6 .u8 sv M.length fun i => M.getD i 0) := SrcAt.below HSV5.out hB6
    have HI6 : Hid _ := hI6
    clear HR5 hB6 f5 hI6 HSV5
    go_wp2_with fail
    refine (objid_any kF hS { o with bs := y1, es := y2, ps := y3 } c w6 (HTAB.out.below f6) (HI6.out.has (by have := hsm.nb; omega) (by have := hsm.es; omega) (by have := hsm.ps; omega)) HI6.out.fit).mono ?_
    rintro e w7 ⟨hB7, hc⟩
    rw [right_copy, enc_copy, hr, HM.out] at hc
    rcases hc with ⟨-, rfl⟩ | ⟨h, -⟩
    rotate_left
    · cases h
    have f7 : Below w.heap.size w w7 := f6.trans (hB7.mono f6.size)
    have HR7 : Hid (w7.heap[w.heap.size]? = some (.cells o.cells 29 (0, 0))) := (hB7.block _ (lt_of_row HR6.out)).trans HR6.out
    have HS7 : Hid (SrcAt w7 .u8 sv M.length fun i => M.getD i 0) := SrcAt.below HS6.out hB7
    generalize hD : digF kF hS M = D
    have HD : Hid _ := hD
    clear HR6 hB7 f6 HI6 HS6 hD
    go_wp2_with (first
      | (refine wpList_store_row (by rfl) 25 (.tmp 5) (.tmp 21) (by rfl) w7.heap.size (arr .u8 32 D) (by rfl) (by rfl) 25 _ (heap_alloc_new _ _) (by rw [arr_size]; kernel_rfl) (by rw [arr_size]; rfl) (arr_one _ _ _) ?_; refine wpList_gen (fun W => Below w7.heap.size w7 W ∧ W.heap[w7.heap.size]? = some (.cells (arr .u8 32 D) 25 (0, 0))) ⟨below_setRow' ((Below.refl _ _).alloc (Nat.le_refl _) _) (Nat.le_refl _) _, heap_setRow_same (heap_alloc_new _ _)⟩ ?_; intro W8 hW8; have HW8 : Hid _ := hW8; have HR8 : Hid (W8.heap[w.heap.size]? = some (.cells o.cells 29 (0, 0))) := (hW8.1.block _ (lt_of_row HR7.out)).trans HR7.out; clear hW8)
      | (refine wpList_load_row (by rfl) 29 (.tmp 1) (by rfl) w.heap.size (by rfl) 29 o.cells (0, 0) _ HR8.out Tryd.underlying29 rfl (by rw [Ob.size]; kernel_rfl) ?_))
    have f8 : Below w.heap.size w W8 := f7.trans (HW8.out.1.mono f7.size)
    have HS8 : Hid (SrcAt W8 .u8 sv M.length fun i => M.getD i 0) := SrcAt.below HS7.out HW8.out.1
    refine (rright_any o c W8 (HIN.out.under f8) hsm).mono ?_
    rintro e w9 ⟨rfl, hB9⟩
    rw [hr]
    have f9 : Below w.heap.size w w9 := f8.trans (hB9.mono f8.size)
    have HR9 : Hid (w9.heap[w.heap.size]? = some (.cells o.cells 29 (0, 0))) := (hB9.block _ (lt_of_row HR8.out)).trans HR8.out
    have HD9 : Hid (w9.heap[w7.heap.size]? = some (.cells (arr .u8 32 D) 25 (0, 0))) := (hB9.block _ (lt_of_row HW8.out.2)).trans HW8.out.2
    have HS9 : Hid (SrcAt w9 .u8 sv M.length fun i => M.getD i 0) := SrcAt.below HS8.out hB9
    clear hB9 HW8 HR8 HR7 f8 f7 HS8 HS7
    go_wp2
    have heq : ∀ w, (Op.equalIn 10000 25 (.agg (arr .u8 32 D)) (.agg (arr .u8 32 D))).run Tryd.prog w = .ok true w := fun w => (equal_id D D w).trans (by rw [eqTo_self])
    have hS0 : Below w9.heap.size w9 w9.drew := (Below.refl _ _).drew
    refine mv_begin (S := fun w' => Below w9.heap.size w9 w') 25 rfl (by kernel_rfl) ?_
    refine mv_rung 0 48 (.int .i64 0) rfl (by rfl) (by kernel_rfl) (by kernel_rfl) (by kernel_rfl) (fun _ _ _ h => h) (fun w' _ => by first | rfl | go_simp) hS0 ?_
    simp only [List.setIfInBounds_toArray, List.set_cons_succ, List.set_cons_zero]
    refine mv_rung 1 49 (.bool true) rfl (by rfl) (by kernel_rfl) (by kernel_rfl) (by kernel_rfl) (fun _ _ _ h => h) (fun w' _ => by first | rfl | go_simp) hS0 ?_
    simp only [List.setIfInBounds_toArray, List.set_cons_succ, List.set_cons_zero]
    refine mv_rung 2 50 (.bool true) rfl (by rfl) (by kernel_rfl) (by kernel_rfl) (by kernel_rfl) (fun _ _ _ h => h) (fun w' _ => by first | rfl | go_simp) hS0 ?_
    simp only [List.setIfInBounds_toArray, List.set_cons_succ, List.set_cons_zero]
    refine mv_rung 3 51 (.int .i64 0) rfl (by rfl) (by kernel_rfl) (by kernel_rfl) (by kernel_rfl) (fun _ _ _ h => h) (fun w' _ => by first | rfl | go_simp) hS0 ?_
    simp only [List.setIfInBounds_toArray, List.set_cons_succ, List.set_cons_zero]
    refine mv_rung 4 52 (.bool true) rfl (by rfl) (by kernel_rfl) (by kernel_rfl) (by kernel_rfl) (fun _ _ _ h => h) (fun w' _ => by first | rfl | go_simp) hS0 ?_
    simp only [List.setIfInBounds_toArray, List.set_cons_succ, List.set_cons_zero]
    refine mv_rung 5 53 (.bool true) rfl (by rfl) (by kernel_rfl) (by kernel_rfl) (by kernel_rfl) (fun _ _ _ h => h) (fun w' _ => by first | rfl | go_simp) hS0 ?_
    simp only [List.setIfInBounds_toArray, List.set_cons_succ, List.set_cons_zero]
    refine mv_rung 6 54 (.bool true) rfl (by rfl) (by kernel_rfl) (by kernel_rfl) (by kernel_rfl) (fun _ _ _ h => h) (fun w' _ => by first | rfl | go_simp) hS0 ?_
    simp only [List.setIfInBounds_toArray, List.set_cons_succ, List.set_cons_zero]
    refine mv_rowg 7 55 29 (.tmp 1) rfl (by rfl) w.heap.size 29 o.cells (0, 0) rfl (by kernel_rfl) (by kernel_rfl) (by kernel_rfl) (fun _ _ _ h => h) _ (fun w' hw' => (hw'.block _ (lt_of_row HR9.out)).trans HR9.out) Tryd.underlying29 rfl (by rw [Ob.size]; kernel_rfl) hS0 ?_
    simp only [List.setIfInBounds_toArray, List.set_cons_succ, List.set_cons_zero]
    refine mv_nextg 8 rfl (by rfl) (by kernel_rfl) ?_
    go_simp
    refine (copied_any o c w9.drew (HIN.out.under f9.drew) hsm).mono ?_
    rintro e wa ⟨z1, z2, z3, rfl, hIa, hBa⟩
    have hSa : Below w9.heap.size w9 wa := hS0.trans hBa
    refine ⟨hSa, ?_⟩
    refine mv_nextg 9 rfl (by rfl) (by kernel_rfl) ?_
    go_simp
    refine (check_any { o with bs := z1, es := z2, ps := z3 } c wa (hIa.has (by have := hsm.nb; omega) (by have := hsm.es; omega) (by have := hsm.ps; omega))).mono ?_
    rintro e wb ⟨rfl, hBb⟩
    rw [show checkN { o with bs := z1, es := z2, ps := z3 } c = 0 by unfold checkN; rw [right_copy, hr]; rfl]
    have hSb : Below w9.heap.size w9 wb := hSa.trans (hBb.mono hSa.size)
    refine ⟨hSb, ?_⟩
    refine mv_rung 10 58 (.bool true) rfl (by rfl) (by kernel_rfl) (by kernel_rfl) (by kernel_rfl) (fun _ _ _ h => h) (fun w' _ => by first | rfl | go_simp) hSb ?_
    simp only [List.setIfInBounds_toArray, List.set_cons_succ, List.set_cons_zero]
    refine mv_rung 11 59 (.bool true) rfl (by rfl) (by kernel_rfl) (by kernel_rfl) (by kernel_rfl) (fun _ _ _ h => h) (fun w' _ => by first | rfl | go_simp) hSb ?_
    simp only [List.setIfInBounds_toArray, List.set_cons_succ, List.set_cons_zero]
    refine mv_rung 12 60 (.bool true) rfl (by rfl) (by kernel_rfl) (by kernel_rfl) (by kernel_rfl) (fun _ _ _ h => h) (fun w' _ => by first | rfl | go_simp) hSb ?_
    simp only [List.setIfInBounds_toArray, List.set_cons_succ, List.set_cons_zero]
    refine mv_rung 13 61 (.slice sv M.length cv) rfl (by rfl) (by kernel_rfl) (by kernel_rfl) (by kernel_rfl) (fun _ _ _ h => h) (fun w' _ => by first | rfl | go_simp) hSb ?_
    simp only [List.setIfInBounds_toArray, List.set_cons_succ, List.set_cons_zero]
    refine mv_rowg 14 62 29 (.tmp 1) rfl (by rfl) w.heap.size 29 o.cells (0, 0) rfl (by kernel_rfl) (by kernel_rfl) (by kernel_rfl) (fun _ _ _ h => h) _ (fun w' hw' => (hw'.block _ (lt_of_row HR9.out)).trans HR9.out) Tryd.underlying29 rfl (by rw [Ob.size]; kernel_rfl) hSb ?_
    simp only [List.setIfInBounds_toArray, List.set_cons_succ, List.set_cons_zero]
    refine mv_nextg 15 rfl (by rfl) (by kernel_rfl) ?_
    go_simp
    have fb : Below w.heap.size w wb := f9.trans (hSb.mono f9.size)
    refine (rbytes_any o c wb (HIN.out.under fb) hsm hr).mono ?_
    rintro e wc ⟨vc, rfl, hOc, hBc⟩
    rw [HM.out] at hOc
    obtain ⟨sc, cc, rfl, hsc⟩ := Own.src hOc
    have hSc : Below w9.heap.size w9 wc := hSb.trans (hBc.mono hSb.size)
    refine ⟨hSc, ?_⟩
    refine mv_nextg 16 rfl (by rfl) (by kernel_rfl) ?_
    go_simp
    refine (rsame1_any sv sc M.length M.length cv cc (fun i => M.getD i 0) (fun i => M.getD i 0) wc (SrcAt.below HS9.out hSc) hsc (by omega)).mono ?_
    rintro e wd ⟨rfl, nd, rfl⟩
    rw [eqTo_self, beq_self_eq_true, Bool.true_and]
    have hSd : Below w9.heap.size w9 (wc.drewN nd) := below_drewN hSc nd
    refine ⟨hSd, ?_⟩
    refine mv_rung 17 65 (.bool true) rfl (by rfl) (by kernel_rfl) (by kernel_rfl) (by kernel_rfl) (fun _ _ _ h => h) (fun w' _ => by first | rfl | go_simp) hSd ?_
    simp only [List.setIfInBounds_toArray, List.set_cons_succ, List.set_cons_zero]
    refine mv_rung 18 66 (.bool true) rfl (by rfl) (by kernel_rfl) (by kernel_rfl) (by kernel_rfl) (fun _ _ _ h => h) (fun w' _ => by first | rfl | go_simp) hSd ?_
    simp only [List.setIfInBounds_toArray, List.set_cons_succ, List.set_cons_zero]
    refine mv_rowg 19 67 25 (.tmp 5) rfl (by rfl) w7.heap.size 25 (arr .u8 32 D) (0, 0) rfl (by kernel_rfl) (by kernel_rfl) (by kernel_rfl) (fun _ _ _ h => h) _ (fun w' hw' => (hw'.block _ (lt_of_row HD9.out)).trans HD9.out) Tryd.underlying25 rfl (by rw [arr_size]; kernel_rfl) hSd ?_
    simp only [List.setIfInBounds_toArray, List.set_cons_succ, List.set_cons_zero]
    refine mv_rowg 20 68 29 (.tmp 1) rfl (by rfl) w.heap.size 29 o.cells (0, 0) rfl (by kernel_rfl) (by kernel_rfl) (by kernel_rfl) (fun _ _ _ h => h) _ (fun w' hw' => (hw'.block _ (lt_of_row HR9.out)).trans HR9.out) Tryd.underlying29 rfl (by rw [Ob.size]; kernel_rfl) hSd ?_
    simp only [List.setIfInBounds_toArray, List.set_cons_succ, List.set_cons_zero]
    refine mv_nextg 21 rfl (by rfl) (by kernel_rfl) ?_
    go_simp
    have fd : Below w.heap.size w (wc.drewN nd) := f9.trans (hSd.mono f9.size)
    refine (rid_any o c (wc.drewN nd) (HIN.out.under fd) hsm hr).mono ?_
    rintro e we ⟨rfl, hBe⟩
    rw [HM.out, HD.out]
    have hSe : Below w9.heap.size w9 we := hSd.trans (hBe.mono hSd.size)
    refine ⟨hSe, ?_⟩
    refine mv_rung 22 70 (.bool true) rfl (by rfl) (by kernel_rfl) (by kernel_rfl) (by kernel_rfl) (fun _ _ _ h => h) (fun w' _ => by first | rfl | go_simp) hSe ?_
    simp only [List.setIfInBounds_toArray, List.set_cons_succ, List.set_cons_zero]
    refine mv_rung 23 71 (.bool true) rfl (by rfl) (by kernel_rfl) (by kernel_rfl) (by kernel_rfl) (fun _ _ _ h => h) (fun w' _ => by first | rfl | go_simp) hSe ?_
    simp only [List.setIfInBounds_toArray, List.set_cons_succ, List.set_cons_zero]
    refine mv_rung 24 2 (.bool true) rfl (by rfl) (by kernel_rfl) (by kernel_rfl) (by kernel_rfl) (fun _ _ _ h => h) (fun w' _ => by first | rfl | go_simp) hSe ?_
    simp only [List.setIfInBounds_toArray, List.set_cons_succ, List.set_cons_zero]
    refine wpAnyH_done (by kernel_rfl) ?_ _
    have fz : Below w.heap.size w we := f9.trans (hSe.mono f9.size)
    clear heq hS0 hSa hSb hSc hSd hSe hBa hBb hBc hBe hOc hsc hIa
    go_wp2
    go_ret
    exact ⟨rfl, fz⟩
end Go.Proofs.YtnaoaeapffgojaaDoor
