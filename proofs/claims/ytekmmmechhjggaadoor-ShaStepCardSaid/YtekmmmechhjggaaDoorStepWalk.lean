/- The walk of the law ShaStep. -/
import Derived.Test.YtekmmmechhjggaaDoorSame
import Derived.Test.YtekmmmechhjggaaDoorEq
import Derived.Test.YtekmmmechhjggaaDoorMoves
namespace Go.Proofs.YtekmmmechhjggaaDoor
open Go.RowKit

theorem pad_head (src : Nat → Int) (len i : Nat) (h : i < len) : padF src len i = src i := by
  unfold padF putF pad1F upd
  dsimp only
  rw [if_pos (by omega), if_neg (by omega), if_pos h]

set_option maxRecDepth 100000 in
set_option maxHeartbeats 1000000 in
theorem step_long (sp : Option Addr) (len cap : Nat) (w : World) (hl : Laid w) (h : 3000 < len) (hm : len ≤ maxLen) :
    Calls Tryd.prog 7 #[.slice sp len cap] w fun e w' => e = .returned (.bool true) ∧ Below w.heap.size w w' := by
  unfold maxLen at hm
  go_enter Tryd.func7, Tryd.ntmps7
  go_wp2_with fail
  refine (wakes_any w hl).mono ?_
  rintro e w2 ⟨rfl, hB2⟩
  go_wp2
  go_ret
  exact ⟨rfl, hB2⟩

set_option maxRecDepth 100000 in
set_option maxHeartbeats 2000000 in
theorem step_walk (sp : Option Addr) (len cap : Nat) (src : Nat → Int) (w : World) (hl : Laid w) (hsrc : SrcAt w .u8 sp len src) (hs : ∀ i, 0 ≤ src i ∧ src i ≤ 255) (hlen : len ≤ 3000) :
    Calls Tryd.prog 7 #[.slice sp len cap] w fun e w' => e = .returned (.bool true) ∧ Below w.heap.size w w' := by
  have h1w : 1 < w.heap.size := block_lt_of_cell (hl.1 0 (by omega))
  go_enter Tryd.func7, Tryd.ntmps7
  go_wp2_with fail
  refine (wakes_any w hl).mono ?_
  rintro e w2 ⟨rfl, hB2⟩
  go_wp2_with fail
  refine (start_any w2 (hl.below hB2)).mono ?_
  rintro e w3 ⟨rfl, hB3⟩
  have hB : Below w.heap.size w w3 := hB2.trans (hB3.mono hB2.size)
  clear hB2 hB3
  go_wp2_with fail
  refine (pad_any sp len cap src w3 (hsrc.below hB) (by omega)).mono ?_
  rintro e w4 ⟨g, rfl, hg, hpad, hB4⟩
  have hBw : Below w.heap.size w w4 := hB.trans (hB4.mono hB.size)
  have HP : Hid _ := hpad
  have hgl := lt_of_row hpad
  have hge := Nat.le_trans hB.size hg
  clear hpad hB hB4 hg
  have hL := padLen_mod len
  have hL1 : padLen len ≤ len + 72 := by have := padZ_lt len; unfold padLen; omega
  have hL0 : len + 9 ≤ padLen len := by unfold padLen; omega
  have hpb := pad_bytes src len hs
  have hph := pad_head src len
  have HSUM : Hid (sumF kF hS src len = hAt kF (padF src len) hS (padLen len / 64)) := rfl
  generalize hPL : padLen len = L at *
  generalize hPF : padF src len = p at *
  clear hPL hPF
  rw [St.val_arr]
  have hrem : ((L : Int) % 64 != 0) = false := by rw [bne_eq_false_iff_eq]; omega
  have hgt : decide ((len : Int) + 72 < (L : Int)) = false := by simp; omega
  have HS0 : Hid (SrcAt w .u8 sp len src) := hsrc
  clear hsrc
  have HPH : Hid _ := hph
  clear hph
  go_wp2_with (refine wpList_store_row (by rfl) 29 (.tmp 3) (.tmp 14) (by rfl) w4.heap.size (arr .u32 8 hS.fn) (by rfl) (by rfl) 29 (arr .u32 8 fun _ => 0) ((heap_alloc_new _ _).trans rfl) (by rw [arr_size]; kernel_rfl) (by rw [arr_size, arr_size]) (arr_one _ _ _) ?_)
  refine calls_gen (fun W5 => Below w.heap.size w W5 ∧ W5.heap[g]? = some (.cells (arr .u8 L p) 5 (0, 0)) ∧ W5.heap[w4.heap.size]? = some (.cells (arr .u32 8 hS.fn) 29 (0, 0))) ⟨?_, ?_, ?_⟩ ?_
  · exact below_setRow' (hBw.alloc hBw.size _) hBw.size _
  · rw [setRow_other _ _ _ _ (by omega), Below.heap_alloc _ _ _ hgl]; exact HP.out
  · exact heap_setRow_same (heap_alloc_new _ _)
  intro W5 ⟨hB5, hrp, hrh⟩
  have hg4 : g ≠ w4.heap.size := by omega
  have hB4 : w.heap.size ≤ w4.heap.size := hBw.size
  clear HP hBw
  have e1 : SrcAt W5 .u8 (some ⟨g, 0, none⟩) len src := (srcAt_row hrp (by omega)).congr HPH.out
  refine (equal_same (some ⟨g, 0, none⟩) sp len L cap src W5 e1 (SrcAt.below HS0.out hB5) (by omega)).mono ?_
  rintro e w6 ⟨rfl, rfl⟩
  have HP : Hid _ := hrp
  have HH : Hid _ := hrh
  clear hrp hrh e1 HPH
  generalize w4.heap.size = h at *
  go_wp2
  go_loopw [5] (fun c wr => ∃ i : Nat, 64 * i ≤ L ∧ c = .int .i64 ((64 * i : Nat) : Int) ∧ Below w.heap.size w wr ∧ wr.heap[g]? = some (.cells (arr .u8 L p) 5 (0, 0)) ∧ wr.heap[h]? = some (.cells (arr .u32 8 (hAt kF p hS i).fn) 29 (0, 0))) (fun c _ => L - (intOf c).toNat)
  case atStart => exact ⟨0, by omega, rfl, hB5, HP.out, HH.out⟩
  case round =>
    obtain ⟨i, hi, rfl, hBr, hrp, hrh⟩ := hrel
    clear HP HH hB5
    have HP : Hid _ := hrp
    have HH : Hid _ := hrh
    clear hrp hrh
    by_cases hlt : 64 * i < L
    · go_wp2
      refine mv_begin (S := fun w' => w'.heap[g]? = some (.cells (arr .u8 L p) 5 (0, 0))) 10 rfl (by kernel_rfl) ?_
      refine mv_run 1 45 (.slice (some ⟨g, 0, none⟩) L L) rfl (by kernel_rfl) (by kernel_rfl) (by kernel_rfl) (fun _ _ _ h => h) (fun _ _ => rfl) HP.out ?_
      simp only [List.setIfInBounds_toArray, List.set_cons_succ, List.set_cons_zero]
      refine mv_run 2 46 (.int .i64 ((64 * i : Nat) : Int)) rfl (by kernel_rfl) (by kernel_rfl) (by kernel_rfl) (fun _ _ _ h => h) (fun _ _ => rfl) HP.out ?_
      simp only [List.setIfInBounds_toArray, List.set_cons_succ, List.set_cons_zero]
      refine mv_run 3 47 (.int .i64 ((64 * i : Nat) : Int)) rfl (by kernel_rfl) (by kernel_rfl) (by kernel_rfl) (fun _ _ _ h => h) (fun _ _ => rfl) HP.out ?_
      simp only [List.setIfInBounds_toArray, List.set_cons_succ, List.set_cons_zero]
      refine mv_run 4 48 (.int .i64 ((64 * i + 64 : Nat) : Int)) rfl (by kernel_rfl) (by kernel_rfl) (by kernel_rfl) (fun _ _ _ h => h) (fun w' _ => ?_) HP.out ?_
      · go_simp
        rw [IntKind.wrap_i64]; omega
      simp only [List.setIfInBounds_toArray, List.set_cons_succ, List.set_cons_zero]
      refine mv_run 5 49 (.slice (some ⟨g, 64 * i, none⟩) 64 (L - 64 * i)) rfl (by kernel_rfl) (by kernel_rfl) (by kernel_rfl) (fun _ _ _ h => h) (fun w' _ => ?_) HP.out ?_
      · go_simp
        rw [if_pos ⟨by omega, by omega⟩, if_pos ⟨by omega, by omega⟩]
        have e1 : (64 * (i : Int)).toNat = 64 * i := by omega
        have e2 : (64 * (i : Int) + 64).toNat - 64 * i = 64 := by omega
        rw [e1, e2, if_neg (by omega)]
      simp only [List.setIfInBounds_toArray, List.set_cons_succ, List.set_cons_zero]
      refine mv_run 6 50 (.pointer (some ⟨g, 64 * i, none⟩)) rfl (by kernel_rfl) (by kernel_rfl) (by kernel_rfl) (fun _ _ _ h => h) (fun w' _ => ?_) HP.out ?_
      · exact run_toArray 30 64 5 Tryd.underlying30 _ rfl _ _ _ rfl (by omega)
      simp only [List.setIfInBounds_toArray, List.set_cons_succ, List.set_cons_zero]
      refine mv_part 7 51 30 (.tmp 50) rfl g (64 * i) 5 .u8 L 64 p (0, 0) rfl (by kernel_rfl) (by kernel_rfl) (by kernel_rfl) (fun _ _ _ h => h) _ (fun _ h => h) (by omega) Tryd.underlying30 rfl (by kernel_rfl) HP.out ?_
      simp only [List.setIfInBounds_toArray, List.set_cons_succ, List.set_cons_zero]
      refine mv_next_row 0 44 29 (.tmp 3) rfl (by kernel_rfl) h 29 _ (0, 0) rfl _ HH.out Tryd.underlying29 rfl (by rw [arr_size]; kernel_rfl) HP.out ?_
      simp only [List.setIfInBounds_toArray, List.set_cons_succ, List.set_cons_zero]
      refine mv_next 8 rfl (by kernel_rfl) ?_
      go_simp
      have hb := block_any (hAt kF p hS i) (fun j => p (64 * i + j)) kF wr.drew (fun j => hpb _) (hl.below hBr.drew).1
      rw [St.val_arr] at hb
      refine hb.mono ?_
      rintro e w7 ⟨rfl, hB7⟩
      clear hb
      have hlg := lt_of_row HP.out
      have hlh := lt_of_row HH.out
      have hP7 : w7.heap[g]? = some (.cells (arr .u8 L p) 5 (0, 0)) := (hB7.block _ hlg).trans HP.out
      have hH7 : w7.heap[h]? = some (.cells (arr .u32 8 (hAt kF p hS i).fn) 29 (0, 0)) := (hB7.block _ hlh).trans HH.out
      refine ⟨hP7, ?_⟩
      rw [St.val_arr]
      have hP8 : (w7.setRow h (arr .u32 8 (hAt kF p hS (i + 1)).fn)).heap[g]? = some (.cells (arr .u8 L p) 5 (0, 0)) := (setRow_other _ _ _ _ (by omega)).trans hP7
      refine mv_next_store 9 29 (.tmp 3) (.tmp 52) rfl (by kernel_rfl) h 29 (arr .u32 8 (hAt kF p hS (i + 1)).fn) _ rfl rfl hH7 (by rw [arr_size]; kernel_rfl) (by rw [arr_size, arr_size]) (arr_one _ _ _) hP8 ?_
      refine wpAnyH_done (by kernel_rfl) ?_ _
      have HP8 : Hid _ := hP8
      have HH8 : Hid _ := heap_setRow_same (cs := arr .u32 8 (hAt kF p hS (i + 1)).fn) hH7
      have hB8 : Below w.heap.size w (w7.setRow h (arr .u32 8 (hAt kF p hS (i + 1)).fn)) := below_setRow' (hBr.drew.trans (hB7.mono (Nat.le_trans hBr.size (Nat.le_refl _)))) (by omega) _
      generalize w7.setRow h (arr .u32 8 (hAt kF p hS (i + 1)).fn) = w8 at *
      clear hP7 hH7 hP8 hB7 HP HH
      go_wp2
      go_roundw
      case rel => exact ⟨i + 1, by omega, by go_num, hB8, HP8.out, HH8.out⟩
      case measure => simp [intOf]; omega
    · have hil : i = L / 64 := by omega
      have hfin : Hid (hAt kF p hS i = sumF kF hS src len) := by rw [HSUM.out, hil]; exact rfl
      have hokI := hAt_ok kF p hS hS_ok i
      generalize hAt kF p hS i = T at HH hfin hokI
      clear hil HSUM hpb HP
      have HIX : Hid (∀ j : Nat, j < 8 → ∀ w, (Instr.index 29 (.agg (arr .u32 8 T.fn)) (.int .i64 j)).run Tryd.prog w = .ok (.int .u32 (T.fn j)) w) :=
        fun j hj w => index_arr Tryd.underlying29 Tryd.underlying28 (by kernel_rfl) hj (arr_get hj) w
      go_wp2_with (refine wpList_load_row (by rfl) 29 (.tmp 3) (by rfl) h (by rfl) 29 _ (0, 0) _ HH.out Tryd.underlying29 rfl (by rw [arr_size]; kernel_rfl) ?_)
      go_loopw [6, 54] (fun v c wq => ∃ t : Nat, ∃ sq : Option Addr, ∃ cq : Nat, t ≤ 8 ∧ c = .int .i64 t ∧ v = .slice sq (4 * t) cq ∧ SrcAt wq .u8 sq (4 * t) (outF T) ∧ Below w.heap.size w wq) (fun _ c _ => 8 - (intOf c).toNat)
      case atStart => exact ⟨0, none, 0, by omega, rfl, rfl, fun h => absurd h (by omega), hBr⟩
      case round =>
        obtain ⟨t, sq, cq, ht, rfl, rfl, hsq, hBq⟩ := hrel
        have HS : Hid (SrcAt wr .u8 sq (4 * t) (outF T)) := hsq
        clear hsq
        by_cases hlt8 : t < 8
        · have hb1 := HIX.out t hlt8
          go_wp2_with fail
          refine (put32_any sq (4 * t) cq (outF T) (T.fn t) _ HS.out (by omega) (hokI t).1 (hokI t).2).mono ?_
          rintro e w9 ⟨rfl, h9, hB9⟩
          have H9 : Hid _ := h9
          clear h9
          go_wp2
          go_roundw
          case rel =>
            refine ⟨t + 1, _, 4 * t + 4, by omega, by go_num, rfl, ?_, hBq.trans (hB9.mono hBq.size)⟩
            exact (srcAt_row H9.out (Nat.le_refl _)).congr fun j hj => out_put T t j (by omega)
          case measure => simp [intOf]; omega
        · have ht8 : t = 8 := by omega
          subst ht8
          obtain ⟨b, off, rfl, hcs⟩ := HS.out (by omega)
          have HCS : Hid _ := hcs
          have hbl : b < wr.heap.size := block_lt_of_cell (hcs 0 (by omega))
          clear hcs HS
          go_wp2
          refine mv_begin (S := fun w' => Below wr.heap.size wr w') 7 rfl (by kernel_rfl) ?_
          refine mv_run 0 61 (.slice (some ⟨b, off, none⟩) 32 cq) rfl (by kernel_rfl) (by kernel_rfl) (by kernel_rfl) (fun _ _ _ h => h) (fun _ _ => rfl) (Below.refl _ _).drew ?_
          simp only [List.setIfInBounds_toArray, List.set_cons_succ, List.set_cons_zero]
          refine mv_run 1 62 (.pointer (some ⟨b, off, none⟩)) rfl (by kernel_rfl) (by kernel_rfl) (by kernel_rfl) (fun _ _ _ h => h) (fun w' _ => ?_) (Below.refl _ _).drew ?_
          · exact run_toArray 25 32 5 Tryd.underlying25 _ rfl _ _ _ rfl (by omega)
          simp only [List.setIfInBounds_toArray, List.set_cons_succ, List.set_cons_zero]
          refine mv_at 2 63 25 (.tmp 62) rfl b off .u8 32 (outF T) rfl (by kernel_rfl) (by kernel_rfl) (by kernel_rfl) (fun _ _ _ h => h) _ (fun w' hw' j hj => (hw'.cell hbl).trans (HCS.out j hj)) Tryd.underlying25 rfl (by kernel_rfl) (Below.refl _ _).drew ?_
          simp only [List.setIfInBounds_toArray, List.set_cons_succ, List.set_cons_zero]
          refine mv_run 3 64 (.slice sp len cap) rfl (by kernel_rfl) (by kernel_rfl) (by kernel_rfl) (fun _ _ _ h => h) (fun _ _ => rfl) (Below.refl _ _).drew ?_
          simp only [List.setIfInBounds_toArray, List.set_cons_succ, List.set_cons_zero]
          refine mv_next 4 rfl (by kernel_rfl) ?_
          go_simp
          refine (sum_any sp len cap src kF hS wr.drew (SrcAt.below HS0.out hBq.drew) (by omega) hs (hl.below hBq.drew).1 (hl.below hBq.drew).2 hS_ok).mono ?_
          rintro e wz ⟨rfl, hBz⟩
          have hSz : Below wr.heap.size wr wz := (Below.refl _ _).drew.trans hBz
          refine ⟨hSz, ?_⟩
          have heq : ∀ w, (Op.equalIn 10000 25 (.agg (arr .u8 32 (outF T))) (.agg (arr .u8 32 (outF (sumF kF hS src len))))).run Tryd.prog w = .ok true w := fun w =>
            (equal_arr 9998 25 5 32 .u8 .u8 _ _ Tryd.underlying25 Tryd.underlying5 (by kernel_rfl) w).trans (by rw [hfin.out, eqTo_true fun _ _ => rfl])
          refine mv_run 5 66 (.bool true) rfl (by kernel_rfl) (by kernel_rfl) (by kernel_rfl) (fun _ _ _ h => h) (fun w' _ => ?_) hSz ?_
          · go_simp
          simp only [List.setIfInBounds_toArray, List.set_cons_succ, List.set_cons_zero]
          refine mv_run 6 2 (.bool true) rfl (by kernel_rfl) (by kernel_rfl) (by kernel_rfl) (fun _ _ _ h => h) (fun _ _ => rfl) hSz ?_
          simp only [List.setIfInBounds_toArray, List.set_cons_succ, List.set_cons_zero]
          refine wpAnyH_done (by kernel_rfl) ?_ _
          clear heq
          go_wp2
          go_ret
          exact ⟨rfl, hBq.trans (hSz.mono hBq.size)⟩

theorem step_all (sp : Option Addr) (len cap : Nat) (src : Nat → Int) (w : World) (hl : Laid w) (hsrc : SrcAt w .u8 sp len src) (hs : ∀ i, 0 ≤ src i ∧ src i ≤ 255) (hm : len ≤ maxLen) :
    Calls Tryd.prog 7 #[.slice sp len cap] w fun e w' => e = .returned (.bool true) ∧ Below w.heap.size w w' := by
  by_cases h : len ≤ 3000
  · exact step_walk sp len cap src w hl hsrc hs h
  · exact step_long sp len cap w hl (by omega) hm
end Go.Proofs.YtekmmmechhjggaaDoor
