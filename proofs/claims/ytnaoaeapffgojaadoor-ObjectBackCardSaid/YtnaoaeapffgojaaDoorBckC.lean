/- The walk through the law ObjectBack: it answers true, whatever the object and the number. -/
import Derived.Test.YtnaoaeapffgojaaDoorIdC
import Derived.Test.YtnaoaeapffgojaaDoorBkS
import Derived.Test.YtnaoaeapffgojaaDoorWakC
namespace Go.Proofs.YtnaoaeapffgojaaDoor
open Go.RowKit

theorem Own.pos {w : World} {v : Value} {L : List Int} (h : Own w v L) (hL : 0 < L.length) : ∃ g cap, v = .slice (some ⟨g, 0, none⟩) L.length cap ∧ L.length ≤ cap ∧ cap ≤ maxLen ∧ SrcAt w .u8 (some ⟨g, 0, none⟩) L.length (fun i => L.getD i 0) := by
  obtain ⟨sp, cp, hv, hs⟩ := Own.src h
  rcases h.2 with ⟨-, h0⟩ | ⟨g, cap, cur, hg, h1, h2, h3, h4, h5, h6⟩
  · omega
  · rw [hg] at hv
    injection hv with e1 e2 e3
    subst e1
    exact ⟨g, cap, hg, h3, h4, hs⟩
theorem enc_pos (o : Ob) (c : Co) : 0 < (encB o c).length := by
  unfold encB
  split
  · simp
  · split <;> simp
theorem range_take (L : List Int) (k : Nat) (hk : k ≤ L.length) : (List.range k).map (fun i => L.getD i 0) = L.take k := by
  apply List.ext_getElem?
  intro i
  rw [List.getElem?_take]
  by_cases hi : i < k
  · rw [if_pos hi]
    have hl : i < L.length := by omega
    simp [hi, hl]
  · rw [if_neg hi, List.getElem?_eq_none (by simp; omega)]
theorem SrcAt.less {w : World} {k : IntKind} {sp : Option Addr} {n m : Nat} {src : Nat → Int} (h : SrcAt w k sp n src) (hm : m ≤ n) : SrcAt w k sp m src := fun hl => by
  obtain ⟨b, off, hs, hc⟩ := h (by omega)
  exact ⟨b, off, hs, fun j hj => hc j (by omega)⟩

set_option maxRecDepth 100000 in
set_option maxHeartbeats 4000000 in
theorem back_all (K : Nat → Int) (S : St) (o : Ob) (c : Co) (cut : Int) (w : World) (hT : Tab w K S) (ho : In w o c) (hcut : (Lit.int .i64 cut).wf = true) :
    Calls Tryd.prog 4 #[.agg o.cells, .int .i64 cut] w fun e w' => e = .returned (.bool true) ∧ Below w.heap.size w w' := by
  have HIN : Hid _ := ho
  have HTAB : Hid _ := hT
  clear ho hT
  go_enter Tryd.func4, Tryd.ntmps4
  go_wp2_with fail
  refine calls_gen (fun W1 => Below w.heap.size w W1 ∧ W1.heap[w.heap.size]? = some (.cells o.cells 29 (0, 0))) ⟨(Below.refl _ _).alloc (Nat.le_refl _) _, heap_alloc_new _ _⟩ ?_
  intro W1 ⟨f1, hrow1⟩
  refine (wakes_any W1).mono ?_
  rintro e w2 ⟨rfl, hB2⟩
  have f2 : Below w.heap.size w w2 := f1.trans (hB2.mono f1.size)
  have HR2 : Hid _ := (hB2.block _ (lt_of_row hrow1)).trans hrow1
  clear hrow1 hB2 f1
  go_wp2_with (refine wpList_load_row (by rfl) 29 (.tmp 2) (by rfl) w.heap.size (by rfl) 29 o.cells (0, 0) _ HR2.out Tryd.underlying29 rfl (by rw [Ob.size]; kernel_rfl) ?_)
  refine (large_any o c w2 (HIN.out.below f2)).mono ?_
  rintro e w3 ⟨hc, hB3⟩
  have f3 : Below w.heap.size w w3 := f2.trans (hB3.mono f2.size)
  have HR3 : Hid _ := (hB3.block _ (lt_of_row HR2.out)).trans HR2.out
  clear HR2 hB3 f2
  rcases hc with rfl | ⟨rfl, hsm⟩
  · go_wp2_with fail
    go_ret
    exact ⟨rfl, f3⟩
  have hF := HIN.out.fit
  have HHAS : Hid (Has w o c) := HIN.out.has (by have := hsm.nb; omega) (by have := hsm.es; omega) (by have := hsm.ps; omega)
  clear HIN hsm
  go_wp2_with (refine wpList_load_row (by rfl) 29 (.tmp 2) (by rfl) w.heap.size (by rfl) 29 o.cells (0, 0) _ HR3.out Tryd.underlying29 rfl (by rw [Ob.size]; kernel_rfl) ?_)
  refine (encode_any o c w3 (HHAS.out.below f3) hF.n).mono ?_
  rintro e w4 ⟨hB4, hc⟩
  have f4 : Below w.heap.size w w4 := f3.trans (hB4.mono f3.size)
  have HR4 : Hid _ := (hB4.block _ (lt_of_row HR3.out)).trans HR3.out
  clear HR3 hB4 f3
  rcases hc with ⟨hr, v, rfl, hO, -⟩ | ⟨hr, rfl⟩
  rotate_left
  · go_wp2_with fail
    go_ret
    exact ⟨rfl, f4⟩
  have hLp := enc_pos o c
  have hLl := enc_len hr
  have hLok := enc_ok hr hF HHAS.out.bok
  have hBk := back_any hr hF.n
  obtain ⟨bv, cv, rfl, hcv, hcm, hS4⟩ := Own.pos hO hLp
  have HRI : Hid _ := hr
  generalize hL : encB o c = L at hLp hLl hLok hBk hcv hS4
  have HL : Hid _ := hL
  have HS4 : Hid _ := hS4
  have HBK : Hid _ := hBk
  clear hO hL hS4 hBk hr
  go_wp2_with fail
  have hdec := decode_any (some ⟨bv, 0, none⟩) L.length cv (fun i => L.getD i 0) w4 HS4.out (fun h => by cases h) (by omega) (fun i _ => getD_ok hLok i)
  rw [range_getD] at hdec
  refine hdec.mono ?_
  rintro e w5 ⟨sq, cq, hB5, hc⟩
  clear hdec
  have hc' : e = .returned (.tuple #[.agg (decO L sq cq).cells, .int .i64 0]) ∧ Has w5 (decO L sq cq) (decC L) := by
    rcases hc with ⟨h, -⟩ | ⟨-, h, -⟩ | ⟨-, -, -, h, hH⟩
    · rw [HBK.out.p] at h; exact absurd rfl h
    · rcases h with h | h
      · rw [HBK.out.r] at h; cases h
      · exact absurd (HBK.out.e sq cq) h
    · exact ⟨h, hH⟩
  clear hc
  obtain ⟨rfl, hH5⟩ := hc'
  have f5 : Below w.heap.size w w5 := f4.trans (hB5.mono f4.size)
  have HR5 : Hid _ := (hB5.block _ (lt_of_row HR4.out)).trans HR4.out
  have HS5 : Hid (SrcAt w5 .u8 (some ⟨bv, 0, none⟩) L.length fun i => L.getD i 0) := SrcAt.below HS4.out hB5
  have HSM : Hid _ := HBK.out.s sq cq
  have HP : Hid _ := HBK.out.p
  have hone : (decO L sq cq).cells.all (·.oneCell') = true := by
    obtain ⟨_, _, h1, _⟩ := hH5.b
    obtain ⟨_, _, h2, _⟩ := hH5.e
    obtain ⟨_, _, h3, _⟩ := hH5.p
    exact ob_one _ (by rw [h1]; rfl) (by rw [h2]; rfl) (by rw [h3]; rfl)
  have HO : Hid _ := hone
  have HH5 : Hid _ := hH5
  clear hone hH5 HR4 HS4 HBK hB5 f4
  generalize decO L sq cq = x at HSM HO HH5
  generalize decC L = d at HSM HH5
  have hcb := bounds_i64 hcut
  have hl0 : ¬ (L.length : Int) = 0 := by omega
  have hl1 : (L.length : Int) ≠ -1 := by omega
  by_cases hneg : cut < 0
  · have hneg0 : decide (cut < 0) = true := by simp; omega
    go_wp2_with (refine wpList_store_row (by rfl) 29 (.tmp 7) (.tmp 30) (by rfl) w5.heap.size x.cells (by rfl) (by rfl) 29 _ (heap_alloc_new _ _) (by rw [Ob.size]; kernel_rfl) (by rw [Ob.size]; rfl) HO.out ?_; refine wpList_gen (fun W => Below w5.heap.size w5 W ∧ W.heap[w5.heap.size]? = some (.cells x.cells 29 (0, 0))) ⟨below_setRow' ((Below.refl _ _).alloc (Nat.le_refl _) _) (Nat.le_refl _) _, heap_setRow_same (heap_alloc_new _ _)⟩ ?_; intro W6 hW6; have HW6 : Hid _ := hW6; clear hW6 HO)
    have hkl : 0 < L.length := by omega
    have hS6 : SrcAt W6 .u8 (some ⟨bv, 0, none⟩) L.length (fun i => L.getD i 0) := SrcAt.below HS5.out HW6.out.1
    have hdec := decode_any (some ⟨bv, 0, none⟩) (0) cv (fun i => L.getD i 0) W6 (hS6.less (by omega)) (fun h => by cases h) (by omega) (fun i _ => getD_ok hLok i)
    rw [range_take L (0) (by omega)] at hdec
    refine hdec.mono ?_
    rintro e w7 ⟨sq2, cq2, hB7, hc⟩
    have h7 := decP_cut hkl HP.out
    have hc' : e = .returned (.tuple #[.agg zeroOb.cells, .int .i64 7]) := by
      rcases hc with ⟨-, h⟩ | ⟨h, -⟩ | ⟨h, -⟩
      · rw [h7] at h; exact h
      · rw [h7] at h; exact absurd h (by decide)
      · rw [h7] at h; exact absurd h (by decide)
    clear hc hdec h7 hS6
    subst hc'
    have f67 : Below w5.heap.size w5 w7 := HW6.out.1.trans (hB7.mono HW6.out.1.size)
    have f7 : Below w.heap.size w w7 := f5.trans (f67.mono f5.size)
    have HX7 : Hid (w7.heap[w5.heap.size]? = some (.cells x.cells 29 (0, 0))) := (hB7.block _ (lt_of_row HW6.out.2)).trans HW6.out.2
    have HR7 : Hid (w7.heap[w.heap.size]? = some (.cells o.cells 29 (0, 0))) := (f67.block _ (lt_of_row HR5.out)).trans HR5.out
    have HS7 : Hid (SrcAt w7 .u8 (some ⟨bv, 0, none⟩) L.length fun i => L.getD i 0) := SrcAt.below HS5.out f67
    have HH7 : Hid (Has w7 x d) := HH5.out.below f67
    have HZ : Hid _ := ob_one zeroOb rfl rfl rfl
    clear hB7 f67 HW6 HR5 HS5 HH5 f5 hneg hneg0 HP
    go_wp2_with (first
      | (refine wpList_store_row (by rfl) 29 (.tmp 9) (.tmp 41) (by rfl) w7.heap.size zeroOb.cells (by rfl) (by rfl) 29 _ (heap_alloc_new _ _) (by rw [Ob.size]; kernel_rfl) (by rw [Ob.size]; rfl) HZ.out ?_; refine wpList_gen (fun W => Below w7.heap.size w7 W ∧ W.heap[w.heap.size]? = some (.cells o.cells 29 (0, 0))) ⟨below_setRow' ((Below.refl _ _).alloc (Nat.le_refl _) _) (Nat.le_refl _) _, ((below_setRow' ((Below.refl _ _).alloc (Nat.le_refl _) _) (Nat.le_refl _) _).block _ (lt_of_row HR7.out)).trans HR7.out⟩ ?_; intro W8 hW8; have HW8 : Hid _ := hW8; clear hW8 HZ)
      | (refine wpList_load_row (by rfl) 29 (.tmp 2) (by rfl) w.heap.size (by rfl) 29 o.cells (0, 0) _ HW8.out.2 Tryd.underlying29 rfl (by rw [Ob.size]; kernel_rfl) ?_))
    have f8 : Below w.heap.size w W8 := f7.trans (HW8.out.1.mono f7.size)
    refine (objid_any K S o c W8 (HTAB.out.below f8) (HHAS.out.below f8) hF).mono ?_
    rintro e w9 ⟨hB9, hc⟩
    rcases hc with ⟨-, rfl⟩ | ⟨hr, -⟩
    rotate_left
    · rw [HRI.out] at hr; cases hr
    rw [HL.out]
    have f79 : Below w7.heap.size w7 w9 := HW8.out.1.trans (hB9.mono HW8.out.1.size)
    have f9 : Below w.heap.size w w9 := f7.trans (f79.mono f7.size)
    have HR9 : Hid (w9.heap[w.heap.size]? = some (.cells o.cells 29 (0, 0))) := (f79.block _ (lt_of_row HR7.out)).trans HR7.out
    have HX9 : Hid (w9.heap[w5.heap.size]? = some (.cells x.cells 29 (0, 0))) := (f79.block _ (lt_of_row HX7.out)).trans HX7.out
    have HS9 : Hid (SrcAt w9 .u8 (some ⟨bv, 0, none⟩) L.length fun i => L.getD i 0) := SrcAt.below HS7.out f79
    have HH9 : Hid (Has w9 x d) := HH7.out.below f79
    clear hB9 f79 HW8 f8 f7 HX7 HR7 HS7 HH7
    generalize hD : digF K S L = D
    have HD : Hid _ := hD
    clear hD
    go_wp2_with (refine wpList_store_row (by rfl) 25 (.tmp 11) (.tmp 46) (by rfl) w9.heap.size (arr .u8 32 D) (by rfl) (by rfl) 25 _ (heap_alloc_new _ _) (by rw [arr_size]; kernel_rfl) (by rw [arr_size]; rfl) (arr_one _ _ _) ?_; refine wpList_gen (fun W => Below w9.heap.size w9 W ∧ W.heap[w9.heap.size]? = some (.cells (arr .u8 32 D) 25 (0, 0))) ⟨below_setRow' ((Below.refl _ _).alloc (Nat.le_refl _) _) (Nat.le_refl _) _, heap_setRow_same (heap_alloc_new _ _)⟩ ?_; intro W hW; have HW : Hid _ := hW; clear hW)
    have fW : Below w.heap.size w W := f9.trans (HW.out.1.mono f9.size)
    have HRW : Hid (W.heap[w.heap.size]? = some (.cells o.cells 29 (0, 0))) := (HW.out.1.block _ (lt_of_row HR9.out)).trans HR9.out
    have HXW : Hid (W.heap[w5.heap.size]? = some (.cells x.cells 29 (0, 0))) := (HW.out.1.block _ (lt_of_row HX9.out)).trans HX9.out
    have HSW : Hid (SrcAt W .u8 (some ⟨bv, 0, none⟩) L.length fun i => L.getD i 0) := SrcAt.below HS9.out HW.out.1
    have HHW : Hid (Has W x d) := HH9.out.below HW.out.1
    have HIW : Hid (W.heap[w9.heap.size]? = some (.cells (arr .u8 32 D) 25 (0, 0))) := HW.out.2
    clear HW f9 HR9 HX9 HS9 HH9
    have heq : ∀ w, (Op.equalIn 10000 25 (.agg (arr .u8 32 D)) (.agg (arr .u8 32 D))).run Tryd.prog w = .ok true w := fun w => (equal_id D D w).trans (by rw [eqTo_self])
    have hSa : Below W.heap.size W W.drew := (Below.refl _ _).drew
    refine mv_begin (S := fun w' => Below W.heap.size W w') 22 rfl (by kernel_rfl) ?_
    refine mv_rung 0 48 (.int .i64 0) rfl (by rfl) (by kernel_rfl) (by kernel_rfl) (by kernel_rfl) (fun _ _ _ h => h) (fun w' _ => ?_) hSa ?_
    · first | rfl | go_simp
    simp only [List.setIfInBounds_toArray, List.set_cons_succ, List.set_cons_zero]
    refine mv_rung 1 49 (.bool true) rfl (by rfl) (by kernel_rfl) (by kernel_rfl) (by kernel_rfl) (fun _ _ _ h => h) (fun w' _ => ?_) hSa ?_
    · first | rfl | go_simp
    simp only [List.setIfInBounds_toArray, List.set_cons_succ, List.set_cons_zero]
    refine mv_rung 2 50 (.bool true) rfl (by rfl) (by kernel_rfl) (by kernel_rfl) (by kernel_rfl) (fun _ _ _ h => h) (fun w' _ => ?_) hSa ?_
    · first | rfl | go_simp
    simp only [List.setIfInBounds_toArray, List.set_cons_succ, List.set_cons_zero]
    refine mv_rowg 3 51 29 (.tmp 7) rfl (by rfl) w5.heap.size 29 x.cells (0, 0) rfl (by kernel_rfl) (by kernel_rfl) (by kernel_rfl) (fun _ _ _ h => h) _ (fun w' hw' => (hw'.block _ (lt_of_row HXW.out)).trans HXW.out) Tryd.underlying29 rfl (by rw [Ob.size]; kernel_rfl) hSa ?_
    simp only [List.setIfInBounds_toArray, List.set_cons_succ, List.set_cons_zero]
    refine mv_rowg 4 52 29 (.tmp 2) rfl (by rfl) w.heap.size 29 o.cells (0, 0) rfl (by kernel_rfl) (by kernel_rfl) (by kernel_rfl) (fun _ _ _ h => h) _ (fun w' hw' => (hw'.block _ (lt_of_row HRW.out)).trans HRW.out) Tryd.underlying29 rfl (by rw [Ob.size]; kernel_rfl) hSa ?_
    simp only [List.setIfInBounds_toArray, List.set_cons_succ, List.set_cons_zero]
    refine mv_nextg 5 rfl (by rfl) (by kernel_rfl) ?_
    go_simp
    refine (same_any x o d c _ (HHW.out.below hSa) (HHAS.out.below (fW.trans (hSa.mono fW.size)))).mono ?_
    rintro e wa ⟨rfl, hBa⟩
    rw [HSM.out]
    have hSb : Below W.heap.size W wa := hSa.trans hBa
    refine ⟨hSb, ?_⟩
    refine mv_rung 6 54 (.bool true) rfl (by rfl) (by kernel_rfl) (by kernel_rfl) (by kernel_rfl) (fun _ _ _ h => h) (fun w' _ => ?_) hSb ?_
    · first | rfl | go_simp
    simp only [List.setIfInBounds_toArray, List.set_cons_succ, List.set_cons_zero]
    refine mv_rung 7 55 (.bool true) rfl (by rfl) (by kernel_rfl) (by kernel_rfl) (by kernel_rfl) (fun _ _ _ h => h) (fun w' _ => ?_) hSb ?_
    · first | rfl | go_simp
    simp only [List.setIfInBounds_toArray, List.set_cons_succ, List.set_cons_zero]
    refine mv_rung 8 56 (.int .i64 7) rfl (by rfl) (by kernel_rfl) (by kernel_rfl) (by kernel_rfl) (fun _ _ _ h => h) (fun w' _ => ?_) hSb ?_
    · first | rfl | go_simp
    simp only [List.setIfInBounds_toArray, List.set_cons_succ, List.set_cons_zero]
    refine mv_rung 9 57 (.bool true) rfl (by rfl) (by kernel_rfl) (by kernel_rfl) (by kernel_rfl) (fun _ _ _ h => h) (fun w' _ => ?_) hSb ?_
    · first | rfl | go_simp
    simp only [List.setIfInBounds_toArray, List.set_cons_succ, List.set_cons_zero]
    refine mv_rung 10 58 (.bool true) rfl (by rfl) (by kernel_rfl) (by kernel_rfl) (by kernel_rfl) (fun _ _ _ h => h) (fun w' _ => ?_) hSb ?_
    · first | rfl | go_simp
    simp only [List.setIfInBounds_toArray, List.set_cons_succ, List.set_cons_zero]
    refine mv_rung 11 59 (.bool true) rfl (by rfl) (by kernel_rfl) (by kernel_rfl) (by kernel_rfl) (fun _ _ _ h => h) (fun w' _ => ?_) hSb ?_
    · first | rfl | go_simp
    simp only [List.setIfInBounds_toArray, List.set_cons_succ, List.set_cons_zero]
    refine mv_rung 12 60 (.int .i64 0) rfl (by rfl) (by kernel_rfl) (by kernel_rfl) (by kernel_rfl) (fun _ _ _ h => h) (fun w' _ => ?_) hSb ?_
    · first | rfl | go_simp
    simp only [List.setIfInBounds_toArray, List.set_cons_succ, List.set_cons_zero]
    refine mv_rung 13 61 (.bool true) rfl (by rfl) (by kernel_rfl) (by kernel_rfl) (by kernel_rfl) (fun _ _ _ h => h) (fun w' _ => ?_) hSb ?_
    · first | rfl | go_simp
    simp only [List.setIfInBounds_toArray, List.set_cons_succ, List.set_cons_zero]
    refine mv_rung 14 62 (.bool true) rfl (by rfl) (by kernel_rfl) (by kernel_rfl) (by kernel_rfl) (fun _ _ _ h => h) (fun w' _ => ?_) hSb ?_
    · first | rfl | go_simp
    simp only [List.setIfInBounds_toArray, List.set_cons_succ, List.set_cons_zero]
    refine mv_rung 15 63 (.bool true) rfl (by rfl) (by kernel_rfl) (by kernel_rfl) (by kernel_rfl) (fun _ _ _ h => h) (fun w' _ => ?_) hSb ?_
    · first | rfl | go_simp
    simp only [List.setIfInBounds_toArray, List.set_cons_succ, List.set_cons_zero]
    refine mv_rowg 16 64 25 (.tmp 11) rfl (by rfl) w9.heap.size 25 (arr .u8 32 D) (0, 0) rfl (by kernel_rfl) (by kernel_rfl) (by kernel_rfl) (fun _ _ _ h => h) _ (fun w' hw' => (hw'.block _ (lt_of_row HIW.out)).trans HIW.out) Tryd.underlying25 rfl (by rw [arr_size]; kernel_rfl) hSb ?_
    simp only [List.setIfInBounds_toArray, List.set_cons_succ, List.set_cons_zero]
    refine mv_rung 17 65 (.slice (some ⟨bv, 0, none⟩) L.length cv) rfl (by rfl) (by kernel_rfl) (by kernel_rfl) (by kernel_rfl) (fun _ _ _ h => h) (fun w' _ => ?_) hSb ?_
    · first | rfl | go_simp
    simp only [List.setIfInBounds_toArray, List.set_cons_succ, List.set_cons_zero]
    refine mv_nextg 18 rfl (by rfl) (by kernel_rfl) ?_
    go_simp
    have hTa := HTAB.out.below (fW.trans (hSb.mono fW.size))
    refine (sum_any (some ⟨bv, 0, none⟩) L.length cv (fun i => L.getD i 0) K S wa (SrcAt.below HSW.out hSb) (by omega) (fun i => getD_ok hLok i) hTa.k hTa.h hTa.ok).mono ?_
    rintro e wb ⟨rfl, hBb⟩
    rw [show outF (sumF K S (fun i => L.getD i 0) L.length) = D from HD.out]
    have hSc : Below W.heap.size W wb := hSb.trans (hBb.mono hSb.size)
    refine ⟨hSc, ?_⟩
    refine mv_rung 19 67 (.bool true) rfl (by rfl) (by kernel_rfl) (by kernel_rfl) (by kernel_rfl) (fun _ _ _ h => h) (fun w' _ => ?_) hSc ?_
    · first | rfl | go_simp
    simp only [List.setIfInBounds_toArray, List.set_cons_succ, List.set_cons_zero]
    refine mv_rung 20 68 (.bool true) rfl (by rfl) (by kernel_rfl) (by kernel_rfl) (by kernel_rfl) (fun _ _ _ h => h) (fun w' _ => ?_) hSc ?_
    · first | rfl | go_simp
    simp only [List.setIfInBounds_toArray, List.set_cons_succ, List.set_cons_zero]
    refine mv_rung 21 4 (.bool true) rfl (by rfl) (by kernel_rfl) (by kernel_rfl) (by kernel_rfl) (fun _ _ _ h => h) (fun w' _ => ?_) hSc ?_
    · first | rfl | go_simp
    simp only [List.setIfInBounds_toArray, List.set_cons_succ, List.set_cons_zero]
    refine wpAnyH_done (by kernel_rfl) ?_ _
    have fZ : Below w.heap.size w wb := fW.trans (hSc.mono fW.size)
    clear heq hSa hSb hSc hTa hBa hBb
    go_wp2
    go_ret
    exact ⟨rfl, fZ⟩
  · have hneg0 : decide (cut < 0) = false := by simp; omega
    have hm0 : 0 ≤ cut % (L.length : Int) := Int.emod_nonneg _ hl0
    have hm1 : cut % (L.length : Int) < L.length := Int.emod_lt_of_pos _ (by omega)
    have hm2 : cut % (L.length : Int) ≤ cv := by omega
    go_wp2_with (refine wpList_store_row (by rfl) 29 (.tmp 7) (.tmp 30) (by rfl) w5.heap.size x.cells (by rfl) (by rfl) 29 _ (heap_alloc_new _ _) (by rw [Ob.size]; kernel_rfl) (by rw [Ob.size]; rfl) HO.out ?_; refine wpList_gen (fun W => Below w5.heap.size w5 W ∧ W.heap[w5.heap.size]? = some (.cells x.cells 29 (0, 0))) ⟨below_setRow' ((Below.refl _ _).alloc (Nat.le_refl _) _) (Nat.le_refl _) _, heap_setRow_same (heap_alloc_new _ _)⟩ ?_; intro W6 hW6; have HW6 : Hid _ := hW6; clear hW6 HO)
    have hkl : (cut % (L.length : Int)).toNat < L.length := by omega
    have hS6 : SrcAt W6 .u8 (some ⟨bv, 0, none⟩) L.length (fun i => L.getD i 0) := SrcAt.below HS5.out HW6.out.1
    have hdec := decode_any (some ⟨bv, 0, none⟩) ((cut % (L.length : Int)).toNat) cv (fun i => L.getD i 0) W6 (hS6.less (by omega)) (fun h => by cases h) (by omega) (fun i _ => getD_ok hLok i)
    rw [range_take L ((cut % (L.length : Int)).toNat) (by omega)] at hdec
    refine hdec.mono ?_
    rintro e w7 ⟨sq2, cq2, hB7, hc⟩
    have h7 := decP_cut hkl HP.out
    have hc' : e = .returned (.tuple #[.agg zeroOb.cells, .int .i64 7]) := by
      rcases hc with ⟨-, h⟩ | ⟨h, -⟩ | ⟨h, -⟩
      · rw [h7] at h; exact h
      · rw [h7] at h; exact absurd h (by decide)
      · rw [h7] at h; exact absurd h (by decide)
    clear hc hdec h7 hS6
    subst hc'
    have f67 : Below w5.heap.size w5 w7 := HW6.out.1.trans (hB7.mono HW6.out.1.size)
    have f7 : Below w.heap.size w w7 := f5.trans (f67.mono f5.size)
    have HX7 : Hid (w7.heap[w5.heap.size]? = some (.cells x.cells 29 (0, 0))) := (hB7.block _ (lt_of_row HW6.out.2)).trans HW6.out.2
    have HR7 : Hid (w7.heap[w.heap.size]? = some (.cells o.cells 29 (0, 0))) := (f67.block _ (lt_of_row HR5.out)).trans HR5.out
    have HS7 : Hid (SrcAt w7 .u8 (some ⟨bv, 0, none⟩) L.length fun i => L.getD i 0) := SrcAt.below HS5.out f67
    have HH7 : Hid (Has w7 x d) := HH5.out.below f67
    have HZ : Hid _ := ob_one zeroOb rfl rfl rfl
    clear hB7 f67 HW6 HR5 HS5 HH5 f5 hneg hneg0 HP
    go_wp2_with (first
      | (refine wpList_store_row (by rfl) 29 (.tmp 9) (.tmp 41) (by rfl) w7.heap.size zeroOb.cells (by rfl) (by rfl) 29 _ (heap_alloc_new _ _) (by rw [Ob.size]; kernel_rfl) (by rw [Ob.size]; rfl) HZ.out ?_; refine wpList_gen (fun W => Below w7.heap.size w7 W ∧ W.heap[w.heap.size]? = some (.cells o.cells 29 (0, 0))) ⟨below_setRow' ((Below.refl _ _).alloc (Nat.le_refl _) _) (Nat.le_refl _) _, ((below_setRow' ((Below.refl _ _).alloc (Nat.le_refl _) _) (Nat.le_refl _) _).block _ (lt_of_row HR7.out)).trans HR7.out⟩ ?_; intro W8 hW8; have HW8 : Hid _ := hW8; clear hW8 HZ)
      | (refine wpList_load_row (by rfl) 29 (.tmp 2) (by rfl) w.heap.size (by rfl) 29 o.cells (0, 0) _ HW8.out.2 Tryd.underlying29 rfl (by rw [Ob.size]; kernel_rfl) ?_))
    have f8 : Below w.heap.size w W8 := f7.trans (HW8.out.1.mono f7.size)
    refine (objid_any K S o c W8 (HTAB.out.below f8) (HHAS.out.below f8) hF).mono ?_
    rintro e w9 ⟨hB9, hc⟩
    rcases hc with ⟨-, rfl⟩ | ⟨hr, -⟩
    rotate_left
    · rw [HRI.out] at hr; cases hr
    rw [HL.out]
    have f79 : Below w7.heap.size w7 w9 := HW8.out.1.trans (hB9.mono HW8.out.1.size)
    have f9 : Below w.heap.size w w9 := f7.trans (f79.mono f7.size)
    have HR9 : Hid (w9.heap[w.heap.size]? = some (.cells o.cells 29 (0, 0))) := (f79.block _ (lt_of_row HR7.out)).trans HR7.out
    have HX9 : Hid (w9.heap[w5.heap.size]? = some (.cells x.cells 29 (0, 0))) := (f79.block _ (lt_of_row HX7.out)).trans HX7.out
    have HS9 : Hid (SrcAt w9 .u8 (some ⟨bv, 0, none⟩) L.length fun i => L.getD i 0) := SrcAt.below HS7.out f79
    have HH9 : Hid (Has w9 x d) := HH7.out.below f79
    clear hB9 f79 HW8 f8 f7 HX7 HR7 HS7 HH7
    generalize hD : digF K S L = D
    have HD : Hid _ := hD
    clear hD
    go_wp2_with (refine wpList_store_row (by rfl) 25 (.tmp 11) (.tmp 46) (by rfl) w9.heap.size (arr .u8 32 D) (by rfl) (by rfl) 25 _ (heap_alloc_new _ _) (by rw [arr_size]; kernel_rfl) (by rw [arr_size]; rfl) (arr_one _ _ _) ?_; refine wpList_gen (fun W => Below w9.heap.size w9 W ∧ W.heap[w9.heap.size]? = some (.cells (arr .u8 32 D) 25 (0, 0))) ⟨below_setRow' ((Below.refl _ _).alloc (Nat.le_refl _) _) (Nat.le_refl _) _, heap_setRow_same (heap_alloc_new _ _)⟩ ?_; intro W hW; have HW : Hid _ := hW; clear hW)
    have fW : Below w.heap.size w W := f9.trans (HW.out.1.mono f9.size)
    have HRW : Hid (W.heap[w.heap.size]? = some (.cells o.cells 29 (0, 0))) := (HW.out.1.block _ (lt_of_row HR9.out)).trans HR9.out
    have HXW : Hid (W.heap[w5.heap.size]? = some (.cells x.cells 29 (0, 0))) := (HW.out.1.block _ (lt_of_row HX9.out)).trans HX9.out
    have HSW : Hid (SrcAt W .u8 (some ⟨bv, 0, none⟩) L.length fun i => L.getD i 0) := SrcAt.below HS9.out HW.out.1
    have HHW : Hid (Has W x d) := HH9.out.below HW.out.1
    have HIW : Hid (W.heap[w9.heap.size]? = some (.cells (arr .u8 32 D) 25 (0, 0))) := HW.out.2
    clear HW f9 HR9 HX9 HS9 HH9
    have heq : ∀ w, (Op.equalIn 10000 25 (.agg (arr .u8 32 D)) (.agg (arr .u8 32 D))).run Tryd.prog w = .ok true w := fun w => (equal_id D D w).trans (by rw [eqTo_self])
    have hSa : Below W.heap.size W W.drew := (Below.refl _ _).drew
    refine mv_begin (S := fun w' => Below W.heap.size W w') 22 rfl (by kernel_rfl) ?_
    refine mv_rung 0 48 (.int .i64 0) rfl (by rfl) (by kernel_rfl) (by kernel_rfl) (by kernel_rfl) (fun _ _ _ h => h) (fun w' _ => ?_) hSa ?_
    · first | rfl | go_simp
    simp only [List.setIfInBounds_toArray, List.set_cons_succ, List.set_cons_zero]
    refine mv_rung 1 49 (.bool true) rfl (by rfl) (by kernel_rfl) (by kernel_rfl) (by kernel_rfl) (fun _ _ _ h => h) (fun w' _ => ?_) hSa ?_
    · first | rfl | go_simp
    simp only [List.setIfInBounds_toArray, List.set_cons_succ, List.set_cons_zero]
    refine mv_rung 2 50 (.bool true) rfl (by rfl) (by kernel_rfl) (by kernel_rfl) (by kernel_rfl) (fun _ _ _ h => h) (fun w' _ => ?_) hSa ?_
    · first | rfl | go_simp
    simp only [List.setIfInBounds_toArray, List.set_cons_succ, List.set_cons_zero]
    refine mv_rowg 3 51 29 (.tmp 7) rfl (by rfl) w5.heap.size 29 x.cells (0, 0) rfl (by kernel_rfl) (by kernel_rfl) (by kernel_rfl) (fun _ _ _ h => h) _ (fun w' hw' => (hw'.block _ (lt_of_row HXW.out)).trans HXW.out) Tryd.underlying29 rfl (by rw [Ob.size]; kernel_rfl) hSa ?_
    simp only [List.setIfInBounds_toArray, List.set_cons_succ, List.set_cons_zero]
    refine mv_rowg 4 52 29 (.tmp 2) rfl (by rfl) w.heap.size 29 o.cells (0, 0) rfl (by kernel_rfl) (by kernel_rfl) (by kernel_rfl) (fun _ _ _ h => h) _ (fun w' hw' => (hw'.block _ (lt_of_row HRW.out)).trans HRW.out) Tryd.underlying29 rfl (by rw [Ob.size]; kernel_rfl) hSa ?_
    simp only [List.setIfInBounds_toArray, List.set_cons_succ, List.set_cons_zero]
    refine mv_nextg 5 rfl (by rfl) (by kernel_rfl) ?_
    go_simp
    refine (same_any x o d c _ (HHW.out.below hSa) (HHAS.out.below (fW.trans (hSa.mono fW.size)))).mono ?_
    rintro e wa ⟨rfl, hBa⟩
    rw [HSM.out]
    have hSb : Below W.heap.size W wa := hSa.trans hBa
    refine ⟨hSb, ?_⟩
    refine mv_rung 6 54 (.bool true) rfl (by rfl) (by kernel_rfl) (by kernel_rfl) (by kernel_rfl) (fun _ _ _ h => h) (fun w' _ => ?_) hSb ?_
    · first | rfl | go_simp
    simp only [List.setIfInBounds_toArray, List.set_cons_succ, List.set_cons_zero]
    refine mv_rung 7 55 (.bool true) rfl (by rfl) (by kernel_rfl) (by kernel_rfl) (by kernel_rfl) (fun _ _ _ h => h) (fun w' _ => ?_) hSb ?_
    · first | rfl | go_simp
    simp only [List.setIfInBounds_toArray, List.set_cons_succ, List.set_cons_zero]
    refine mv_rung 8 56 (.int .i64 7) rfl (by rfl) (by kernel_rfl) (by kernel_rfl) (by kernel_rfl) (fun _ _ _ h => h) (fun w' _ => ?_) hSb ?_
    · first | rfl | go_simp
    simp only [List.setIfInBounds_toArray, List.set_cons_succ, List.set_cons_zero]
    refine mv_rung 9 57 (.bool true) rfl (by rfl) (by kernel_rfl) (by kernel_rfl) (by kernel_rfl) (fun _ _ _ h => h) (fun w' _ => ?_) hSb ?_
    · first | rfl | go_simp
    simp only [List.setIfInBounds_toArray, List.set_cons_succ, List.set_cons_zero]
    refine mv_rung 10 58 (.bool true) rfl (by rfl) (by kernel_rfl) (by kernel_rfl) (by kernel_rfl) (fun _ _ _ h => h) (fun w' _ => ?_) hSb ?_
    · first | rfl | go_simp
    simp only [List.setIfInBounds_toArray, List.set_cons_succ, List.set_cons_zero]
    refine mv_rung 11 59 (.bool true) rfl (by rfl) (by kernel_rfl) (by kernel_rfl) (by kernel_rfl) (fun _ _ _ h => h) (fun w' _ => ?_) hSb ?_
    · first | rfl | go_simp
    simp only [List.setIfInBounds_toArray, List.set_cons_succ, List.set_cons_zero]
    refine mv_rung 12 60 (.int .i64 0) rfl (by rfl) (by kernel_rfl) (by kernel_rfl) (by kernel_rfl) (fun _ _ _ h => h) (fun w' _ => ?_) hSb ?_
    · first | rfl | go_simp
    simp only [List.setIfInBounds_toArray, List.set_cons_succ, List.set_cons_zero]
    refine mv_rung 13 61 (.bool true) rfl (by rfl) (by kernel_rfl) (by kernel_rfl) (by kernel_rfl) (fun _ _ _ h => h) (fun w' _ => ?_) hSb ?_
    · first | rfl | go_simp
    simp only [List.setIfInBounds_toArray, List.set_cons_succ, List.set_cons_zero]
    refine mv_rung 14 62 (.bool true) rfl (by rfl) (by kernel_rfl) (by kernel_rfl) (by kernel_rfl) (fun _ _ _ h => h) (fun w' _ => ?_) hSb ?_
    · first | rfl | go_simp
    simp only [List.setIfInBounds_toArray, List.set_cons_succ, List.set_cons_zero]
    refine mv_rung 15 63 (.bool true) rfl (by rfl) (by kernel_rfl) (by kernel_rfl) (by kernel_rfl) (fun _ _ _ h => h) (fun w' _ => ?_) hSb ?_
    · first | rfl | go_simp
    simp only [List.setIfInBounds_toArray, List.set_cons_succ, List.set_cons_zero]
    refine mv_rowg 16 64 25 (.tmp 11) rfl (by rfl) w9.heap.size 25 (arr .u8 32 D) (0, 0) rfl (by kernel_rfl) (by kernel_rfl) (by kernel_rfl) (fun _ _ _ h => h) _ (fun w' hw' => (hw'.block _ (lt_of_row HIW.out)).trans HIW.out) Tryd.underlying25 rfl (by rw [arr_size]; kernel_rfl) hSb ?_
    simp only [List.setIfInBounds_toArray, List.set_cons_succ, List.set_cons_zero]
    refine mv_rung 17 65 (.slice (some ⟨bv, 0, none⟩) L.length cv) rfl (by rfl) (by kernel_rfl) (by kernel_rfl) (by kernel_rfl) (fun _ _ _ h => h) (fun w' _ => ?_) hSb ?_
    · first | rfl | go_simp
    simp only [List.setIfInBounds_toArray, List.set_cons_succ, List.set_cons_zero]
    refine mv_nextg 18 rfl (by rfl) (by kernel_rfl) ?_
    go_simp
    have hTa := HTAB.out.below (fW.trans (hSb.mono fW.size))
    refine (sum_any (some ⟨bv, 0, none⟩) L.length cv (fun i => L.getD i 0) K S wa (SrcAt.below HSW.out hSb) (by omega) (fun i => getD_ok hLok i) hTa.k hTa.h hTa.ok).mono ?_
    rintro e wb ⟨rfl, hBb⟩
    rw [show outF (sumF K S (fun i => L.getD i 0) L.length) = D from HD.out]
    have hSc : Below W.heap.size W wb := hSb.trans (hBb.mono hSb.size)
    refine ⟨hSc, ?_⟩
    refine mv_rung 19 67 (.bool true) rfl (by rfl) (by kernel_rfl) (by kernel_rfl) (by kernel_rfl) (fun _ _ _ h => h) (fun w' _ => ?_) hSc ?_
    · first | rfl | go_simp
    simp only [List.setIfInBounds_toArray, List.set_cons_succ, List.set_cons_zero]
    refine mv_rung 20 68 (.bool true) rfl (by rfl) (by kernel_rfl) (by kernel_rfl) (by kernel_rfl) (fun _ _ _ h => h) (fun w' _ => ?_) hSc ?_
    · first | rfl | go_simp
    simp only [List.setIfInBounds_toArray, List.set_cons_succ, List.set_cons_zero]
    refine mv_rung 21 4 (.bool true) rfl (by rfl) (by kernel_rfl) (by kernel_rfl) (by kernel_rfl) (fun _ _ _ h => h) (fun w' _ => ?_) hSc ?_
    · first | rfl | go_simp
    simp only [List.setIfInBounds_toArray, List.set_cons_succ, List.set_cons_zero]
    refine wpAnyH_done (by kernel_rfl) ?_ _
    have fZ : Below w.heap.size w wb := fW.trans (hSc.mono fW.size)
    clear heq hSa hSb hSc hTa hBa hBb
    go_wp2
    go_ret
    exact ⟨rfl, fZ⟩
end Go.Proofs.YtnaoaeapffgojaaDoor
