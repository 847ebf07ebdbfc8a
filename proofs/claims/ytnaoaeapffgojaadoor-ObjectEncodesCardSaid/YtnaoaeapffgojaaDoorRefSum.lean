/- The contract of the reference's Sum: the digest that sha.Sum makes. -/
import Derived.Test.YtnaoaeapffgojaaDoorRefPad
import Derived.Test.YtnaoaeapffgojaaDoorMrgD
namespace Go.Proofs.YtnaoaeapffgojaaDoor
open Go.RowKit

/-- The digest's bytes behind t rounds. -/
def outTo (T : St) (t : Nat) : Nat → Int := fun j => if j < t then outF T j else 0
theorem outTo_succ (T : St) (t : Nat) : outTo T (t + 1) = upd (outTo T t) t (T.fn (t / 4) / 256 ^ (3 - t % 4) % 256) := by
  funext j
  unfold upd outTo
  by_cases h : j = t
  · subst h; rw [if_pos rfl, if_pos (by omega)]; rfl
  · rw [if_neg h]
    by_cases h2 : j < t
    · rw [if_pos h2, if_pos (by omega)]
    · rw [if_neg h2, if_neg (by omega)]
theorem pow_byte (t : Nat) : (2 : Int) ^ (24 - 8 * (t % 4)) = 256 ^ (3 - t % 4) := by
  have h : t % 4 = 0 ∨ t % 4 = 1 ∨ t % 4 = 2 ∨ t % 4 = 3 := by omega
  rcases h with h | h | h | h <;> (rw [h]; rfl)

set_option maxRecDepth 100000 in
set_option maxHeartbeats 2000000 in
theorem refSum_any (sp : Option Addr) (len cap : Nat) (src : Nat → Int) (w : World) (hsrc : SrcAt w .u8 sp len src) (hlen : len ≤ 50000) (hs : ∀ i, 0 ≤ src i ∧ src i ≤ 255) :
    Calls Tryd.prog 28 #[.slice sp len cap] w fun e w' => e = .returned (.agg (arr .u8 32 (outF (sumF kF hS src len)))) ∧ Below w.heap.size w w' := by
  have HSRC : Hid (SrcAt w .u8 sp len src) := hsrc
  clear hsrc
  go_enter Tryd.func28, Tryd.ntmps28
  go_wp2_with fail
  refine calls_gen (fun W1 => Below w.heap.size w W1 ∧ W1.heap[w.heap.size]? = some (.cells (arr .u8 32 fun _ => 0) 25 (0, 0))) ⟨?_, ?_⟩ ?_
  · exact (Below.refl _ _).alloc (Nat.le_refl _) _
  · exact (heap_alloc_new _ _).trans rfl
  intro W1 ⟨hB1, hr0⟩
  refine (table_any W1).mono ?_
  rintro e w2 ⟨rfl, hB2⟩
  have z0 := lt_of_row hr0
  have H0 : Hid (w2.heap[w.heap.size]? = some (.cells (arr .u8 32 fun _ => 0) 25 (0, 0))) := (hB2.block _ z0).trans hr0
  have hB : Below w.heap.size w w2 := hB1.trans (hB2.mono hB1.size)
  have y0 := lt_of_row H0.out
  clear hr0 hB1 hB2 z0
  go_wp2_with (first
    | (refine wpList_store_row (by rfl) 82 (.tmp 3) (.tmp 9) (by rfl) w2.heap.size (arr .u32 64 kF) (by rfl) (by rfl) 82 (arr .u32 64 fun _ => 0) ((heap_alloc_new _ _).trans rfl) (by rw [arr_size]; kernel_rfl) (by rw [arr_size, arr_size]) (arr_one _ _ _) ?_; refine wpList_gen (fun W3 => W3.heap.size = w2.heap.size + 1 ∧ Below w2.heap.size w2 W3 ∧ W3.heap[w2.heap.size]? = some (.cells (arr .u32 64 kF) 82 (0, 0))) ⟨by simp, below_setRow' ((Below.refl _ _).alloc (Nat.le_refl _) _) (Nat.le_refl _) _, heap_setRow_same (heap_alloc_new _ _)⟩ ?_; rintro W3 ⟨hz3, hB3, hr3⟩)
    | (refine wpList_store_row (by rfl) 76 (.tmp 4) (.tmp 10) (by rfl) W3.heap.size (arr .u32 8 hS.fn) (by rfl) (by rfl) 76 (arr .u32 8 fun _ => 0) ((heap_alloc_new _ _).trans rfl) (by rw [arr_size]; kernel_rfl) (by rw [arr_size, arr_size]) (arr_one _ _ _) ?_))
  have hBw3 : Below w.heap.size w W3 := hB.trans (hB3.mono hB.size)
  refine calls_gen (fun W4 => Below w.heap.size w W4 ∧ W4.heap[w.heap.size]? = some (.cells (arr .u8 32 fun _ => 0) 25 (0, 0)) ∧ W4.heap[w2.heap.size]? = some (.cells (arr .u32 64 kF) 82 (0, 0)) ∧ W4.heap[w2.heap.size + 1]? = some (.cells (arr .u32 8 hS.fn) 76 (0, 0))) ⟨?_, ?_, ?_, ?_⟩ ?_
  · exact hBw3.alloc hBw3.size _
  · rw [Below.heap_alloc _ _ _ (by omega), hB3.block _ y0]; exact H0.out
  · rw [Below.heap_alloc _ _ _ (by omega)]; exact hr3
  · rw [← hz3]; exact (heap_alloc_new _ _).trans rfl
  intro W4 ⟨hB4, hr0, hrk, hrh⟩
  clear hBw3 hB3 hr3 H0 hz3 hB
  generalize w2.heap.size = c at *
  have z1 := lt_of_row hrk
  have z2 := lt_of_row hrh
  refine (refPad_any sp len cap src W4 (SrcAt.below HSRC.out hB4) hlen).mono ?_
  rintro e w5 ⟨v5, rfl, hO5, hB5⟩
  have H0 : Hid (w5.heap[w.heap.size]? = some (.cells (arr .u8 32 fun _ => 0) 25 (0, 0))) := (hB5.block _ (by omega)).trans hr0
  have HK : Hid (w5.heap[c]? = some (.cells (arr .u32 64 kF) 82 (0, 0))) := (hB5.block _ z1).trans hrk
  have HH : Hid (w5.heap[c + 1]? = some (.cells (arr .u32 8 hS.fn) 76 (0, 0))) := (hB5.block _ z2).trans hrh
  have hBw : Below w.heap.size w w5 := hB4.trans (hB5.mono hB4.size)
  have hge := hO5.ge
  have hL := padLen_mod len
  have hL1 : padLen len ≤ len + 72 := by have := padZ_lt len; unfold padLen; omega
  have hL0 : len + 9 ≤ padLen len := by unfold padLen; omega
  obtain ⟨sv, cv, rfl, hsv, hcv, hcm⟩ := hO5.src
  have hpb := pad_bytes src len hs
  have HSUM : Hid (sumF kF hS src len = hAt kF (padF src len) hS (padLen len / 64)) := rfl
  generalize padLen len = L at *
  generalize padF src len = p at *
  obtain ⟨b, off, rfl, hcs⟩ := hsv (by omega)
  have hbg : W4.heap.size ≤ b := hge b rfl
  have hbl : b < w5.heap.size := block_lt_of_cell (hcs 0 (by omega))
  have HC : Hid _ := hcs
  unfold maxLen at hcm
  clear hcs hO5 hge hr0 hrk hrh hB5 hB4 hsv
  go_wp2
  go_loopw [6] (fun x wr => ∃ i : Nat, 64 * i ≤ L ∧ x = .int .i64 ((64 * i : Nat) : Int) ∧ Below w.heap.size w wr ∧ (∀ j, j < L → wr.cell? ⟨b, off + j, none⟩ = some (.int .u8 (p j))) ∧ wr.heap[w.heap.size]? = some (.cells (arr .u8 32 fun _ => 0) 25 (0, 0)) ∧ wr.heap[c]? = some (.cells (arr .u32 64 kF) 82 (0, 0)) ∧ wr.heap[c + 1]? = some (.cells (arr .u32 8 (hAt kF p hS i).fn) 76 (0, 0))) (fun x _ => L - (intOf x).toNat)
  case atStart => exact ⟨0, by omega, rfl, hBw, HC.out, H0.out, HK.out, HH.out⟩
  case round =>
    obtain ⟨i, hi, rfl, hBr, hcs, hr0, hrk, hrh⟩ := hrel
    clear HC H0 HK HH hBw
    have HC : Hid _ := hcs
    have H0 : Hid _ := hr0
    have HK : Hid _ := hrk
    have HH : Hid _ := hrh
    clear hcs hr0 hrk hrh
    by_cases hlt : 64 * i < L
    · go_wp2
      refine mv_begin (S := fun w' => w'.heap[c]? = some (.cells (arr .u32 64 kF) 82 (0, 0))) 9 rfl (by kernel_rfl) ?_
      refine mv_run 1 20 (.slice (some ⟨b, off, none⟩) L cv) rfl (by kernel_rfl) (by kernel_rfl) (by kernel_rfl) (fun _ _ _ h => h) (fun _ _ => rfl) HK.out ?_
      simp only [List.setIfInBounds_toArray, List.set_cons_succ, List.set_cons_zero]
      refine mv_run 2 21 (.int .i64 ((64 * i : Nat) : Int)) rfl (by kernel_rfl) (by kernel_rfl) (by kernel_rfl) (fun _ _ _ h => h) (fun _ _ => rfl) HK.out ?_
      simp only [List.setIfInBounds_toArray, List.set_cons_succ, List.set_cons_zero]
      refine mv_run 3 22 (.int .i64 ((64 * i : Nat) : Int)) rfl (by kernel_rfl) (by kernel_rfl) (by kernel_rfl) (fun _ _ _ h => h) (fun _ _ => rfl) HK.out ?_
      simp only [List.setIfInBounds_toArray, List.set_cons_succ, List.set_cons_zero]
      refine mv_run 4 23 (.int .i64 ((64 * i + 64 : Nat) : Int)) rfl (by kernel_rfl) (by kernel_rfl) (by kernel_rfl) (fun _ _ _ h => h) (fun w' _ => ?_) HK.out ?_
      · go_simp
        rw [IntKind.wrap_i64]; omega
      simp only [List.setIfInBounds_toArray, List.set_cons_succ, List.set_cons_zero]
      refine mv_run 5 24 (.slice (some ⟨b, off + 64 * i, none⟩) 64 (cv - 64 * i)) rfl (by kernel_rfl) (by kernel_rfl) (by kernel_rfl) (fun _ _ _ h => h) (fun w' _ => ?_) HK.out ?_
      · go_simp
        rw [if_pos ⟨by omega, by omega⟩, if_pos ⟨by omega, by omega⟩]
        have e1 : (64 * (i : Int)).toNat = 64 * i := by omega
        have e2 : (64 * (i : Int) + 64).toNat - 64 * i = 64 := by omega
        rw [e1, e2, if_neg (by omega)]
      simp only [List.setIfInBounds_toArray, List.set_cons_succ, List.set_cons_zero]
      refine mv_row 6 25 82 (.tmp 3) rfl c 82 (arr .u32 64 kF) (0, 0) rfl (by kernel_rfl) (by kernel_rfl) (by kernel_rfl) (fun _ _ _ h => h) _ (fun _ h => h) Tryd.underlying82 rfl (by rw [arr_size]; kernel_rfl) HK.out ?_
      simp only [List.setIfInBounds_toArray, List.set_cons_succ, List.set_cons_zero]
      refine mv_next_row 0 19 76 (.tmp 4) rfl (by kernel_rfl) (c + 1) 76 _ (0, 0) rfl _ HH.out Tryd.underlying76 rfl (by rw [arr_size]; kernel_rfl) HK.out ?_
      simp only [List.setIfInBounds_toArray, List.set_cons_succ, List.set_cons_zero]
      refine mv_next 7 rfl (by kernel_rfl) ?_
      go_simp
      refine (refBlock_any (hAt kF p hS i) b (off + 64 * i) (cv - 64 * i) (fun j => p (64 * i + j)) kF wr.drew (by omega) (by omega) (fun j hj => by rw [Nat.add_assoc]; exact HC.out (64 * i + j) (by omega)) (fun j => hpb _)).mono ?_
      rintro e w7 ⟨rfl, hB7⟩
      have l0 := lt_of_row H0.out
      have l1 := lt_of_row HK.out
      have l2 := lt_of_row HH.out
      have hK7 : w7.heap[c]? = some (.cells (arr .u32 64 kF) 82 (0, 0)) := (hB7.block _ l1).trans HK.out
      have hH7 : w7.heap[c + 1]? = some (.cells (arr .u32 8 (hAt kF p hS i).fn) 76 (0, 0)) := (hB7.block _ l2).trans HH.out
      have h07 : w7.heap[w.heap.size]? = some (.cells (arr .u8 32 fun _ => 0) 25 (0, 0)) := (hB7.block _ l0).trans H0.out
      have hC7 : ∀ j, j < L → w7.cell? ⟨b, off + j, none⟩ = some (.int .u8 (p j)) := fun j hj => (hB7.cell (block_lt_of_cell (HC.out j hj))).trans (HC.out j hj)
      refine ⟨hK7, ?_⟩
      rw [St.val_arr]
      have hK8 : (w7.setRow (c + 1) (arr .u32 8 (hAt kF p hS (i + 1)).fn)).heap[c]? = some (.cells (arr .u32 64 kF) 82 (0, 0)) := (setRow_other _ _ _ _ (by omega)).trans hK7
      refine mv_next_store 8 76 (.tmp 4) (.tmp 26) rfl (by kernel_rfl) (c + 1) 76 (arr .u32 8 (hAt kF p hS (i + 1)).fn) _ rfl rfl hH7 (by rw [arr_size]; kernel_rfl) (by rw [arr_size, arr_size]) (arr_one _ _ _) hK8 ?_
      refine wpAnyH_done (by kernel_rfl) ?_ _
      have HK8 : Hid _ := hK8
      have HH8 : Hid _ := heap_setRow_same (cs := arr .u32 8 (hAt kF p hS (i + 1)).fn) hH7
      have H08 : Hid ((w7.setRow (c + 1) (arr .u32 8 (hAt kF p hS (i + 1)).fn)).heap[w.heap.size]? = some (.cells (arr .u8 32 fun _ => 0) 25 (0, 0))) := (setRow_other _ _ _ _ (by omega)).trans h07
      have HC8 : Hid (∀ j, j < L → (w7.setRow (c + 1) (arr .u32 8 (hAt kF p hS (i + 1)).fn)).cell? ⟨b, off + j, none⟩ = some (.int .u8 (p j))) := fun j hj => (cell_setRow_other _ _ _ _ (by simp only; omega)).trans (hC7 j hj)
      have hB8 : Below w.heap.size w (w7.setRow (c + 1) (arr .u32 8 (hAt kF p hS (i + 1)).fn)) := below_setRow' (hBr.drew.trans (hB7.mono (Nat.le_trans hBr.size (Nat.le_refl _)))) (by omega) _
      generalize w7.setRow (c + 1) (arr .u32 8 (hAt kF p hS (i + 1)).fn) = w8 at *
      clear hK7 hH7 h07 hC7 hK8 hB7 HC H0 HK HH
      go_wp2
      go_roundw
      case rel => exact ⟨i + 1, by omega, by go_num, hB8, HC8.out, H08.out, HK8.out, HH8.out⟩
      case measure => simp [intOf]; omega
    · have hil : i = L / 64 := by omega
      have hfin : Hid (hAt kF p hS i = sumF kF hS src len) := by rw [HSUM.out, hil]; exact rfl
      have hokI := hAt_ok kF p hS hS_ok i
      generalize hAt kF p hS i = T at HH hfin hokI
      clear hil HSUM hpb HC HK
      go_wp2
      have l0 := lt_of_row H0.out
      have l2 := lt_of_row HH.out
      refine wp_gen (fun W9 => Below w.heap.size w W9 ∧ W9.heap[w.heap.size]? = some (.cells (arr .u8 32 fun _ => 0) 25 (0, 0)) ∧ W9.heap[c + 1]? = some (.cells (arr .u32 8 T.fn) 76 (0, 0)) ∧ W9.heap[wr.heap.size]? = some (.cells (arr .u8 32 fun _ => 0) 25 (0, 0))) ⟨?_, ?_, ?_, ?_⟩ ?_
      · exact hBr.alloc hBr.size _
      · rw [Below.heap_alloc _ _ _ l0]; exact H0.out
      · rw [Below.heap_alloc _ _ _ l2]; exact HH.out
      · exact (heap_alloc_new _ _).trans rfl
      have hBs := hBr.size
      clear H0 HH hBr
      generalize wr.heap.size = d at *
      intro W9 ⟨hB9, hr0, hrh, hrd⟩
      have H0 : Hid _ := hr0
      have HH : Hid _ := hrh
      have HD : Hid _ := hrd
      clear hr0 hrh hrd
      go_loopw [8] (fun x wq => ∃ t : Nat, t ≤ 32 ∧ x = .int .i64 t ∧ Below w.heap.size w wq ∧ wq.heap[w.heap.size]? = some (.cells (arr .u8 32 fun _ => 0) 25 (0, 0)) ∧ wq.heap[c + 1]? = some (.cells (arr .u32 8 T.fn) 76 (0, 0)) ∧ wq.heap[d]? = some (.cells (arr .u8 32 (outTo T t)) 25 (0, 0))) (fun x _ => 32 - (intOf x).toNat)
      case atStart => exact ⟨0, Nat.zero_le _, rfl, hB9, H0.out, HH.out, HD.out⟩
      case round =>
        obtain ⟨t, ht, rfl, hBq, hr0, hrh, hrd⟩ := hrel
        clear H0 HH HD hB9
        have H0 : Hid _ := hr0
        have HH : Hid _ := hrh
        have HD : Hid _ := hrd
        by_cases hlt32 : t < 32
        · have hch : wr.cell? ⟨c + 1, t / 4, none⟩ = some (.int .u32 (T.fn (t / 4))) := row_cell hrh (by omega)
          have hcd : wr.cell? ⟨d, t, none⟩ = some (.int .u8 (outTo T t t)) := row_cell hrd hlt32
          have hfz : ∀ j, wr.frozen? ⟨d, j, none⟩ = false := fun j => frozen_of_row _ _ j _ _ hrd
          have hok4 := hokI (t / 4)
          have HOT : Hid (outTo T (t + 1) = upd (outTo T t) t (T.fn (t / 4) / 256 ^ (3 - t % 4) % 256)) := outTo_succ T t
          generalize T.fn (t / 4) = x at hch hok4 HOT
          clear hr0 hrh hrd
          go_wp2
          go_roundw
          case rel =>
            refine ⟨t + 1, by omega, by go_num, hBq.setCell (by simp only; omega) _, (heap_setCell_other _ _ _ _ (by simp only; omega)).trans H0.out, (heap_setCell_other _ _ _ _ (by simp only; omega)).trans HH.out, ?_⟩
            rw [HOT.out, ← pow_byte t]
            exact row_set HD.out _ _
          case measure => simp [intOf]; omega
        · have ht32 : t = 32 := by omega
          have HT : Hid _ := ht32
          clear ht32 hr0 hrh hrd
          go_wp2_with (first
            | (refine wpList_load_row (by rfl) 25 (.tmp 7) (by rfl) d (by rfl) 25 _ (0, 0) _ HD.out Tryd.underlying25 rfl (by rw [arr_size]; kernel_rfl) ?_)
            | (refine wpList_store_row (by rfl) 25 (.tmp 2) (.tmp 43) (by rfl) w.heap.size _ (by rfl) (by rfl) 25 _ H0.out (by rw [arr_size]; kernel_rfl) (by rw [arr_size, arr_size]) (arr_one _ _ _) ?_))
          refine bodyPost_ret (v := .agg (arr .u8 32 (outTo T t))) ?_ rfl ⟨?_, ?_⟩
          · exact results_cell_row Tryd.results28 _ _ w.heap.size 25 _ (0, 0) _ rfl (heap_setRow_same H0.out) Tryd.underlying25 rfl (by rw [arr_size]; kernel_rfl)
          · rw [← hfin.out, HT.out]
            have e : arr .u8 32 (outTo T 32) = arr .u8 32 (outF T) := arr_congr fun j hj => by unfold outTo; rw [if_pos hj]
            rw [e]
          · exact below_setRow' hBq (Nat.le_refl _) _
end Go.Proofs.YtnaoaeapffgojaaDoor
