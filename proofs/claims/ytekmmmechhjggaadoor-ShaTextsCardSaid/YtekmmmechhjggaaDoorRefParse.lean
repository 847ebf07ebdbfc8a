/- The contract of the reference's Parse. -/
import Derived.Test.YtekmmmechhjggaaDoorRefText
namespace Go.Proofs.YtekmmmechhjggaaDoor
open Go.RowKit

/-- The bytes behind t rounds. -/
def rpTo (s : ByteArray) (t : Nat) : Nat → Int := fun i => if i < t then 16 * worthI (chr s (2 * i)) + worthI (chr s (2 * i + 1)) else 0
theorem rpTo_succ (s : ByteArray) (t : Nat) : upd (rpTo s t) t (16 * worthI (chr s (2 * t)) + worthI (chr s (2 * t + 1))) = rpTo s (t + 1) := by
  funext j
  unfold upd rpTo
  by_cases h : j = t
  · subst h; rw [if_pos rfl, if_pos (by omega)]
  · rw [if_neg h]
    by_cases h2 : j < t
    · rw [if_pos h2, if_pos (by omega)]
    · rw [if_neg h2, if_neg (by omega)]
theorem rpTo_all (s : ByteArray) (hd : digitsTo s 64) : arr .u8 32 (rpTo s 32) = arr .u8 32 (parseTo s 64) :=
  arr_congr fun i hi => by rw [parse_at s hd i hi]; unfold rpTo; rw [if_pos hi]

set_option maxRecDepth 100000 in
set_option maxHeartbeats 1000000 in
theorem refParse_long (s : ByteArray) (w : World) (h : s.size ≠ 64) :
    Calls Tryd.prog 23 #[.string s] w fun e w' => e = .returned (.tuple #[.agg (arr .u8 32 fun _ => 0), .bool false]) ∧ Below w.heap.size w w' := by
  have hne : ((s.size : Int) != 64) = true := by rw [bne_iff_ne]; omega
  go_enter Tryd.func23, Tryd.ntmps23
  go_wp2_with (first
    | (refine wpList_load_row (by rfl) 25 (.tmp 4) (by rfl) (w.heap.size + 1) (by rfl) 25 (arr .u8 32 fun _ => 0) (0, 0) _ ((heap_alloc2_new _ _ _).trans rfl) Tryd.underlying25 rfl (by rw [arr_size]; kernel_rfl) ?_)
    | (refine wpList_store_row (by rfl) 25 (.tmp 2) (.tmp 11) (by rfl) w.heap.size (arr .u8 32 fun _ => 0) (by rfl) (by rfl) 25 (arr .u8 32 fun _ => 0) ((heap_alloc2_old _ _ _).trans rfl) (by rw [arr_size]; kernel_rfl) rfl (arr_one _ _ _) ?_))
  refine bodyPost_ret (v := .tuple #[.agg (arr .u8 32 fun _ => 0), .bool false]) ?_ rfl ⟨rfl, ?_⟩
  · exact results_cell_tmp Tryd.results23 _ _ w.heap.size 25 _ (0, 0) _ _ rfl rfl (heap_setRow_same (heap_alloc2_old _ _ _)) Tryd.underlying25 rfl (by rw [arr_size]; kernel_rfl)
  · exact below_setRow' (((Below.refl _ _).alloc (Nat.le_refl _) _).alloc (by simp) _) (Nat.le_refl _) _

set_option maxRecDepth 100000 in
set_option maxHeartbeats 1000000 in
theorem refParse_64 (s : ByteArray) (w : World) (h : s.size = 64) :
    Calls Tryd.prog 23 #[.string s] w fun e w' => ((digitsTo s 64 ∧ e = .returned (.tuple #[.agg (arr .u8 32 (parseTo s 64)), .bool true])) ∨ (¬ digitsTo s 64 ∧ e = .returned (.tuple #[.agg (arr .u8 32 fun _ => 0), .bool false]))) ∧ Below w.heap.size w w' := by
  have hne : ((s.size : Int) != 64) = false := by rw [h]; rfl
  have hix := fun k hk => index_chr s k (h ▸ hk : k < s.size)
  have HIX : Hid _ := hix
  clear hix
  have hsz : (s.size : Int) = 64 := by rw [h]; rfl
  clear h
  go_enter Tryd.func23, Tryd.ntmps23
  go_wp2
  refine wp_gen (fun W1 => Below w.heap.size w W1 ∧ W1.heap[w.heap.size]? = some (.cells (arr .u8 32 fun _ => 0) 25 (0, 0)) ∧ W1.heap[w.heap.size + 1]? = some (.cells (arr .u8 32 fun _ => 0) 25 (0, 0))) ⟨?_, ?_, ?_⟩ ?_
  · exact ((Below.refl _ _).alloc (Nat.le_refl _) _).alloc (by simp) _
  · exact (heap_alloc2_old _ _ _).trans rfl
  · exact (heap_alloc2_new _ _ _).trans rfl
  intro W1 ⟨hB, hres, hid⟩
  have HRES : Hid _ := hres
  have HID : Hid _ := hid
  clear hres hid hne
  go_loopw [5] (fun i wr => ∃ t : Nat, t ≤ 32 ∧ i = .int .i64 t ∧ digitsTo s (2 * t) ∧ Below w.heap.size w wr ∧ wr.heap[w.heap.size]? = some (.cells (arr .u8 32 fun _ => 0) 25 (0, 0)) ∧ wr.heap[w.heap.size + 1]? = some (.cells (arr .u8 32 (rpTo s t)) 25 (0, 0))) (fun i _ => 32 - (intOf i).toNat)
  case atStart => exact ⟨0, Nat.zero_le _, rfl, fun i hi => absurd hi (by omega), hB, HRES.out, HID.out⟩
  case round =>
    obtain ⟨t, ht, rfl, hdg, hBr, hres, hid⟩ := hrel
    have HDG : Hid (digitsTo s (2 * t)) := hdg
    have HR : Hid _ := hres
    have HI : Hid _ := hid
    clear hdg HRES HID hB
    by_cases hlt : t < 32
    · have hx1 : ∀ w, (Instr.index 9 (.string s) (.int .i64 (2 * (t : Int)))).run Tryd.prog w = .ok (.int .u8 (chr s (2 * t))) w := fun w => HIX.out (2 * t) (by omega) w
      have hx2 : ∀ w, (Instr.index 9 (.string s) (.int .i64 (2 * (t : Int) + 1))).run Tryd.prog w = .ok (.int .u8 (chr s (2 * t + 1))) w := fun w => HIX.out (2 * t + 1) (by omega) w
      have hc1 := chr_le s (2 * t)
      have hc2 := chr_le s (2 * t + 1)
      have hw1 := worth_le (chr s (2 * t))
      have hw2 := worth_le (chr s (2 * t + 1))
      have HRP : Hid (upd (rpTo s t) t (16 * worthI (chr s (2 * t)) + worthI (chr s (2 * t + 1))) = rpTo s (t + 1)) := rpTo_succ s t
      generalize he1 : chr s (2 * t) = c1 at hx1 hc1 hw1 HRP
      have HE1 : Hid _ := he1
      generalize he2 : chr s (2 * t + 1) = c2 at hx2 hc2 hw2 HRP
      have HE2 : Hid _ := he2
      clear he1 he2
      have hc0 : wr.cell? ⟨w.heap.size + 1, t, none⟩ = some (.int .u8 (rpTo s t t)) := row_cell hid (by omega)
      have hz : ∀ j, wr.frozen? ⟨w.heap.size + 1, j, none⟩ = false := fun j => frozen_of_row _ _ j _ _ hid
      clear hres hid
      go_wp2
      go_quiet ((go_at_call 39; exact Calls.quiet_of_same (digit_any _ (by omega) (by omega) _)))
      by_cases n1 : worthI c1 < 0
      · have d1 : decide (worthI c1 < 0) = true := by simpa using n1
        go_wp2_with (refine wpList_store_row (by rfl) 25 (.tmp 2) (.tmp 33) (by rfl) w.heap.size (arr .u8 32 fun _ => 0) (by rfl) (by rfl) 25 (arr .u8 32 fun _ => 0) HR.out (by rw [arr_size]; kernel_rfl) rfl (arr_one _ _ _) ?_)
        refine bodyPost_ret (v := .tuple #[.agg (arr .u8 32 fun _ => 0), .bool false]) ?_ rfl ⟨.inr ⟨?_, rfl⟩, ?_⟩
        · exact results_cell_tmp Tryd.results23 _ _ w.heap.size 25 _ (0, 0) _ _ rfl rfl (heap_setRow_same (w := wr.drewN nq) HR.out) Tryd.underlying25 rfl (by rw [arr_size]; kernel_rfl)
        · intro hd
          have h1 := hd (2 * t) (by omega)
          have h2 := hd (2 * t + 1) (by omega)
          rw [HE1.out] at h1
          rw [HE2.out] at h2
          omega
        · exact below_setRow' (below_drewN hBr _) (Nat.le_refl _) _
      by_cases n2 : worthI c2 < 0
      · have d1 : decide (worthI c1 < 0) = false := by simpa using n1
        have d2 : decide (worthI c2 < 0) = true := by simpa using n2
        go_wp2_with (refine wpList_store_row (by rfl) 25 (.tmp 2) (.tmp 33) (by rfl) w.heap.size (arr .u8 32 fun _ => 0) (by rfl) (by rfl) 25 (arr .u8 32 fun _ => 0) HR.out (by rw [arr_size]; kernel_rfl) rfl (arr_one _ _ _) ?_)
        refine bodyPost_ret (v := .tuple #[.agg (arr .u8 32 fun _ => 0), .bool false]) ?_ rfl ⟨.inr ⟨?_, rfl⟩, ?_⟩
        · exact results_cell_tmp Tryd.results23 _ _ w.heap.size 25 _ (0, 0) _ _ rfl rfl (heap_setRow_same (w := wr.drewN nq) HR.out) Tryd.underlying25 rfl (by rw [arr_size]; kernel_rfl)
        · intro hd
          have h1 := hd (2 * t) (by omega)
          have h2 := hd (2 * t + 1) (by omega)
          rw [HE1.out] at h1
          rw [HE2.out] at h2
          omega
        · exact below_setRow' (below_drewN hBr _) (Nat.le_refl _) _
      · have d1 : decide (worthI c1 < 0) = false := by simpa using n1
        have d2 : decide (worthI c2 < 0) = false := by simpa using n2
        go_wp2
        go_roundw
        case rel =>
          refine ⟨t + 1, by omega, by go_num, fun i hi => ?_, (below_drewN hBr _).setCell (by simp) _, (heap_setCell_other _ _ _ _ (by simp)).trans HR.out, ?_⟩
          · by_cases hit : i < 2 * t
            · exact HDG.out i hit
            · by_cases hie : i = 2 * t
              · rw [hie, HE1.out]; omega
              · rw [show i = 2 * t + 1 by omega, HE2.out]; omega
          · rw [← HRP.out]
            exact row_set (w := wr.drewN nq) HI.out _ _
        case measure => simp [intOf]; omega
    · have ht32 : t = 32 := by omega
      have HT : Hid _ := ht32
      clear ht32 hres hid
      go_wp2_with (first
        | (refine wpList_load_row (by rfl) 25 (.tmp 4) (by rfl) (w.heap.size + 1) (by rfl) 25 _ (0, 0) _ HI.out Tryd.underlying25 rfl (by rw [arr_size]; kernel_rfl) ?_)
        | (refine wpList_store_row (by rfl) 25 (.tmp 2) (.tmp 41) (by rfl) w.heap.size _ (by rfl) (by rfl) 25 (arr .u8 32 fun _ => 0) HR.out (by rw [arr_size]; kernel_rfl) (by rw [arr_size, arr_size]) (arr_one _ _ _) ?_))
      have hd : digitsTo s 64 := by have := HDG.out; rw [HT.out] at this; exact this
      refine bodyPost_ret (v := .tuple #[.agg (arr .u8 32 (rpTo s t)), .bool true]) ?_ rfl ⟨.inl ⟨hd, ?_⟩, ?_⟩
      · exact results_cell_tmp Tryd.results23 _ _ w.heap.size 25 _ (0, 0) _ _ rfl rfl (heap_setRow_same HR.out) Tryd.underlying25 rfl (by rw [arr_size]; kernel_rfl)
      · rw [HT.out, rpTo_all s hd]
      · exact below_setRow' hBr (Nat.le_refl _) _

theorem refParse_any (s : ByteArray) (w : World) :
    Calls Tryd.prog 23 #[.string s] w fun e w' => ((parseOk s ∧ e = .returned (.tuple #[.agg (arr .u8 32 (parseTo s 64)), .bool true])) ∨ (¬ parseOk s ∧ e = .returned (.tuple #[.agg (arr .u8 32 fun _ => 0), .bool false]))) ∧ Below w.heap.size w w' := by
  by_cases h : s.size = 64
  · refine (refParse_64 s w h).mono ?_
    rintro e w' ⟨h' | h', hb⟩
    · exact ⟨.inl ⟨⟨h, h'.1⟩, h'.2⟩, hb⟩
    · exact ⟨.inr ⟨fun hp => h'.1 hp.2, h'.2⟩, hb⟩
  · refine (refParse_long s w h).mono ?_
    rintro e w' ⟨h', hb⟩
    exact ⟨.inr ⟨fun hp => h hp.1, h'⟩, hb⟩
end Go.Proofs.YtekmmmechhjggaaDoor
