/- The contracts of octet.Equal at two rows of the same bytes, of sha.Start and of sha.Constants. -/
import Derived.Test.YtekmmmechhjggaaDoorWakes
namespace Go.Proofs.YtekmmmechhjggaaDoor
open Go.RowKit

theorem xor_self (x : Int) : bits .xor .u8 x x = 0 := by
  show IntKind.u8.wrap ((BitVec.ofInt 8 x ^^^ BitVec.ofInt 8 x).toNat : Int) = _
  rw [BitVec.xor_self]
  decide
theorem or_00 : bits .or .u8 0 0 = 0 := by decide

set_option maxRecDepth 100000 in
set_option maxHeartbeats 1000000 in
theorem equal_same (sp tp : Option Addr) (len c1 c2 : Nat) (src : Nat → Int) (w : World) (h1 : SrcAt w .u8 sp len src) (h2 : SrcAt w .u8 tp len src) (hlen : len ≤ 100000000) :
    Calls Tryd.prog 27 #[.slice sp len c1, .slice tp len c2] w fun e w' => e = .returned (.bool true) ∧ w' = w := by
  have hne : ((len : Int) != (len : Int)) = false := by simp
  go_enter Tryd.func27, Tryd.ntmps27
  go_wp2
  go_loop [5, 15] (fun u i => ∃ t : Nat, t ≤ len ∧ i = .int .i64 t ∧ u = .int .u8 0) (fun _ i => len - (intOf i).toNat)
  case atStart => exact ⟨0, Nat.zero_le _, rfl, rfl⟩
  case round =>
    obtain ⟨t, ht, rfl, rfl⟩ := hrel
    by_cases hlt : t < len
    · obtain ⟨b1, o1, rfl, hc1⟩ := h1 (by omega)
      obtain ⟨b2, o2, rfl, hc2⟩ := h2 (by omega)
      have e1 := hc1 t hlt
      have e2 := hc2 t hlt
      have hx := xor_self (src t)
      have ho := or_00
      clear hc1 hc2 h1 h2
      go_wp2
      go_round
      case rel => exact ⟨t + 1, by omega, by go_num, rfl⟩
      case measure => simp [intOf]; omega
    · clear h1 h2
      go_wp2
      go_ret
      exact ⟨rfl, rfl⟩

set_option maxRecDepth 100000 in
set_option maxHeartbeats 1000000 in
theorem start_any (w : World) (hl : Laid w) :
    Calls Tryd.prog 20 #[] w fun e w' => e = .returned hS.val ∧ Below w.heap.size w w' := by
  have h0 := hl.2
  have h0w : 0 < w.heap.size := block_lt_of_cell (h0 0 (by omega))
  go_enter Tryd.func20, Tryd.ntmps20
  go_wp2_with (first
    | (refine load_cells (by rfl) 29 (.global 0) (by rfl) 0 (by rfl) .u32 8 hS.fn _ (fun i hi => (((Below.refl _ _).alloc (Nat.le_refl _) _).cell (p := ⟨0, i, none⟩) h0w).trans (h0 i hi)) Tryd.underlying29 rfl (by kernel_rfl) ?_)
    | (refine wpList_store_row (by rfl) 29 (.tmp 0) (.tmp 1) (by rfl) w.heap.size _ (by rfl) (by rfl) 29 (arr .u32 8 fun _ => 0) ((heap_alloc_new _ _).trans rfl) (by rw [arr_size]; kernel_rfl) (by rw [arr_size, arr_size]) (arr_one _ _ _) ?_))
  refine bodyPost_ret (v := .agg (arr .u32 8 hS.fn)) ?_ rfl ⟨rfl, ?_⟩
  · exact results_cell_row Tryd.results20 _ _ w.heap.size 29 _ (0, 0) _ rfl (heap_setRow_same (heap_alloc_new _ _)) Tryd.underlying29 rfl (by rw [arr_size]; kernel_rfl)
  · exact below_setRow' ((Below.refl _ _).alloc (Nat.le_refl _) _) (Nat.le_refl _) _

set_option maxRecDepth 100000 in
set_option maxHeartbeats 1000000 in
theorem consts_any (w : World) (hl : Laid w) :
    Calls Tryd.prog 18 #[] w fun e w' => e = .returned (.agg (arr .u32 64 kF)) ∧ Below w.heap.size w w' := by
  have h0 := hl.1
  have h0w : 1 < w.heap.size := block_lt_of_cell (h0 0 (by omega))
  go_enter Tryd.func18, Tryd.ntmps18
  go_wp2_with (first
    | (refine load_cells (by rfl) 33 (.global 1) (by rfl) 1 (by rfl) .u32 64 kF _ (fun i hi => (((Below.refl _ _).alloc (Nat.le_refl _) _).cell (p := ⟨1, i, none⟩) h0w).trans (h0 i hi)) Tryd.underlying33 rfl (by kernel_rfl) ?_)
    | (refine wpList_store_row (by rfl) 33 (.tmp 0) (.tmp 1) (by rfl) w.heap.size _ (by rfl) (by rfl) 33 (arr .u32 64 fun _ => 0) ((heap_alloc_new _ _).trans rfl) (by rw [arr_size]; kernel_rfl) (by rw [arr_size, arr_size]) (arr_one _ _ _) ?_))
  refine bodyPost_ret (v := .agg (arr .u32 64 kF)) ?_ rfl ⟨rfl, ?_⟩
  · exact results_cell_row Tryd.results18 _ _ w.heap.size 33 _ (0, 0) _ rfl (heap_setRow_same (heap_alloc_new _ _)) Tryd.underlying33 rfl (by rw [arr_size]; kernel_rfl)
  · exact below_setRow' ((Below.refl _ _).alloc (Nat.le_refl _) _) (Nat.le_refl _) _
end Go.Proofs.YtekmmmechhjggaaDoor
