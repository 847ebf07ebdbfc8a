/- The contracts of the document's Number (layer 1) and of its id. -/
import Derived.Test.YtnaoaeapffgojaaSevI
namespace Go.Proofs.Ytnaoaeapffgojaa
open Go.RowKit

theorem num_range (src : Nat → Int) (t : Nat) : numOf ((List.range (t + 1)).map src) = 256 * numOf ((List.range t).map src) + src t := by
  rw [List.range_succ, List.map_append]
  exact numOf_snoc _ _

set_option maxRecDepth 100000 in
set_option maxHeartbeats 1000000 in
theorem rnum_any (sp : Option Addr) (n cap : Nat) (src : Nat → Int) (w : World) (hs : SrcAt w .u8 sp n src) (hn : n ≤ 4) (hok : ∀ i, i < n → 0 ≤ src i ∧ src i ≤ 255) :
    Calls Try.prog 30 #[.slice sp n cap] w fun e w' => e = .returned (.int .u64 (numOf ((List.range n).map src))) ∧ w' = w := by
  go_enter Try.func30, Try.ntmps30
  go_wp2
  go_loopw [3, 4] (fun x i wr => ∃ t : Nat, t ≤ n ∧ i = .int .i64 t ∧ x = .int .u64 (numOf ((List.range t).map src)) ∧ wr = w) (fun _ i _ => n - (intOf i).toNat)
  case atStart => exact ⟨0, Nat.zero_le _, rfl, rfl, rfl⟩
  case round =>
    obtain ⟨t, ht, rfl, rfl, rfl⟩ := hrel
    by_cases hlt : t < n
    · obtain ⟨b, off, rfl, hc⟩ := hs (by omega)
      have e1 : wr.cell? ⟨b, off + t, none⟩ = some (.int .u8 (src t)) := hc t hlt
      have hb := hok t hlt
      have hnum := numOf_len (M := (List.range t).map src) (n := 3) (fun x hx => by obtain ⟨i, hi, rfl⟩ := List.mem_map.1 hx; exact hok i (by have := List.mem_range.1 hi; omega)) (by simp; omega)
      have hy0 := hnum.1
      have hy1 : numOf ((List.range t).map src) < 16777216 := hnum.2
      have HNR : Hid _ := num_range src t
      have HOK : Hid _ := hok
      have HC : Hid _ := hc
      generalize hY : numOf ((List.range t).map src) = y at hy0 hy1
      have HY : Hid _ := hY
      generalize hZ : src t = z at e1 hb
      have HZ : Hid _ := hZ
      clear hs hc hok hnum hY hZ
      go_wp2
      go_roundw
      case rel =>
        refine ⟨t + 1, by omega, by go_num, ?_, trivial⟩
        rw [HNR.out, HY.out, HZ.out]
        go_num
      case measure => simp [intOf]; omega
    · have htn : t = n := by omega
      have HT : Hid _ := htn
      clear hs hok htn
      go_wp2
      go_ret
      exact ⟨by rw [HT.out]; rfl, rfl⟩

set_option maxRecDepth 100000 in
set_option maxHeartbeats 1000000 in
theorem rid05_any (sp : Option Addr) (n cap : Nat) (src : Nat → Int) (w : World) (hs : SrcAt w .u8 sp n src) (hn : n = 32) :
    Calls Try.prog 31 #[.slice sp n cap] w fun e w' => e = .returned (.agg (arr .u8 32 src)) ∧ Below w.heap.size w w' := by
  go_enter Try.func31, Try.ntmps31
  go_wp2
  refine wp_gen (fun W1 => Below w.heap.size w W1 ∧ W1.heap[w.heap.size]? = some (.cells (arr .u8 32 fun _ => 0) 26 (0, 0)) ∧ W1.heap[w.heap.size + 1]? = some (.cells (arr .u8 32 fun _ => 0) 26 (0, 0))) ⟨((Below.refl _ _).alloc (Nat.le_refl _) _).alloc (by simp) _, (heap_alloc2_old _ _ _).trans rfl, (heap_alloc2_new _ _ _).trans rfl⟩ ?_
  intro W1 ⟨f1, hr0, hr1⟩
  obtain ⟨b, off, rfl, hc⟩ := hs (by omega)
  have hbw : b < w.heap.size := block_lt_of_cell (hc 0 (by omega))
  have HC : Hid _ := hc
  have HR0 : Hid _ := hr0
  have HR1 : Hid _ := hr1
  clear hs hc hr0 hr1
  go_loopw [4] (fun i wr => ∃ t : Nat, t ≤ 32 ∧ i = .int .i64 t ∧ Below w.heap.size w wr ∧ wr.heap[w.heap.size]? = some (.cells (arr .u8 32 fun _ => 0) 26 (0, 0)) ∧ wr.heap[w.heap.size + 1]? = some (.cells (arr .u8 32 fun j => if j < t then src j else 0) 26 (0, 0))) (fun i _ => 32 - (intOf i).toNat)
  case atStart => exact ⟨0, Nat.zero_le _, rfl, f1, HR0.out, HR1.out⟩
  case round =>
    obtain ⟨t, ht, rfl, fr, h0, h1⟩ := hrel
    have H0 : Hid _ := h0
    have H1 : Hid _ := h1
    by_cases hlt : t < 32
    · have e1 : wr.cell? ⟨b, off + t, none⟩ = some (.int .u8 (src t)) := (fr.cell (p := ⟨b, off + t, none⟩) hbw).trans (HC.out t (by omega))
      have c1 : wr.cell? ⟨w.heap.size + 1, t, none⟩ = some (.int .u8 (if t < t then src t else 0)) := row_cell h1 hlt
      rw [if_neg (Nat.lt_irrefl t)] at c1
      have hf : ∀ j, wr.frozen? ⟨w.heap.size + 1, j, none⟩ = false := fun j => frozen_of_row _ _ j _ _ h1
      clear h0 h1
      go_wp2
      go_roundw
      case rel =>
        refine ⟨t + 1, by omega, by go_num, fr.setCell (by simp) _, (heap_setCell_other _ _ _ _ (by show w.heap.size ≠ w.heap.size + 1; omega)).trans H0.out, ?_⟩
        rw [row_set H1.out]
        refine congrArg (fun c => some (Obj.cells c 26 (0, 0))) (arr_congr fun j _ => ?_)
        unfold upd
        by_cases hj : j = t
        · subst hj
          rw [if_pos rfl, if_pos (by omega)]
        · rw [if_neg hj]
          show (if j < t then src j else 0) = _
          by_cases hj2 : j < t
          · rw [if_pos hj2, if_pos (by omega)]
          · rw [if_neg hj2, if_neg (by omega)]
      case measure => simp [intOf]; omega
    · have ht32 : t = 32 := by omega
      have hA : arr .u8 32 (fun j => if j < t then src j else 0) = arr .u8 32 src := arr_congr fun j hj => by rw [if_pos (by omega)]
      rw [hA] at h1
      have H2 : Hid _ := h1
      clear h0 h1 H1 hA
      go_wp2_with (first
        | (refine wpList_load_row (by rfl) 26 (.tmp 3) (by rfl) (w.heap.size + 1) (by rfl) 26 (arr .u8 32 src) (0, 0) _ H2.out Try.underlying26 rfl (by rw [arr_size]; kernel_rfl) ?_)
        | (refine wpList_store_row (by rfl) 26 (.tmp 2) (.tmp 15) (by rfl) w.heap.size (arr .u8 32 src) (by rfl) (by rfl) 26 _ H0.out (by rw [arr_size]; kernel_rfl) (by rw [arr_size, arr_size]) (arr_one _ _ _) ?_))
      refine bodyPost_ret (v := .agg (arr .u8 32 src)) ?_ rfl ⟨rfl, below_setRow' fr (Nat.le_refl _) _⟩
      exact results_cell_row Try.results31 _ _ w.heap.size 26 _ (0, 0) _ rfl (heap_setRow_same H0.out) Try.underlying26 rfl (by rw [arr_size]; kernel_rfl)
end Go.Proofs.Ytnaoaeapffgojaa
