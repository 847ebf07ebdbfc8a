/- The contract of sha.Pad. -/
import Derived.Test.YtgfjjglejlnfbaaGreatDoorPut
namespace Go.Proofs.YtgfjjglejlnfbaaGreatDoor
open Go.RowKit

set_option maxRecDepth 100000 in
theorem put64_any (sp : Option Addr) (len cap : Nat) (src : Nat → Int) (x : Int) (w : World) (hsrc : SrcAt w .u8 sp len src) (hlen : len ≤ 1000000) (hx0 : 0 ≤ x) (hx : x < 18446744073709551616) :
    Calls Tryz.prog 129 #[.slice sp len cap, .int .u64 x] w fun e w' => e = .returned (.slice (some ⟨w.heap.size, 0, none⟩) (len + 8) (len + 8)) ∧ w'.heap[w.heap.size]? = some (.cells (arr .u8 (len + 8) (putF src len 8 x 8)) 5 (0, 0)) ∧ Below w.heap.size w w' := by
  go_enter Tryz.func129, Tryz.ntmps129
  go_wp2_with fail
  have h := put_any sp len cap src x 8 w hsrc hlen (by omega) hx0 hx
  refine h.mono ?_
  rintro e w1 ⟨rfl, h1, h2⟩
  clear h
  have H1 : Hid _ := h1
  clear h1
  go_wp2
  go_ret
  exact ⟨rfl, H1.out, h2⟩

theorem and63 (x : Int) : bits .and .i64 x 63 = x % 64 := by
  show IntKind.i64.wrap ((BitVec.ofInt 64 x &&& BitVec.ofInt 64 63).toNat : Int) = _
  have h1 : (BitVec.ofInt 64 (63 : Int)).toNat = 2 ^ 6 - 1 := by decide
  rw [BitVec.toNat_and, h1, Nat.and_two_pow_sub_one_eq_mod, BitVec.toNat_ofInt, IntKind.wrap_i64]
  omega

/-- How many noughts are laid. -/
def padZ (len : Nat) : Nat := ((55 - (len : Int)) % 64).toNat
theorem padZ_lt (len : Nat) : padZ len < 64 := by unfold padZ; omega
theorem padZ_mod (len : Nat) : (len + 1 + padZ len) % 64 = 56 := by unfold padZ; omega
/-- The bytes ahead of the length. -/
def pad1F (src : Nat → Int) (len : Nat) : Nat → Int := upd (fun i => if i < len then src i else 0) len 128
def padLen (len : Nat) : Nat := len + 1 + padZ len + 8
def padF (src : Nat → Int) (len : Nat) : Nat → Int := putF (pad1F src len) (len + 1 + padZ len) 8 (8 * len) 8

set_option maxRecDepth 100000 in
set_option maxHeartbeats 1000000 in
theorem pad_any (sp : Option Addr) (len cap : Nat) (src : Nat → Int) (w : World) (hsrc : SrcAt w .u8 sp len src) (hlen : len ≤ 100000) :
    Calls Tryz.prog 103 #[.slice sp len cap] w fun e w' => ∃ g, e = .returned (.slice (some ⟨g, 0, none⟩) (padLen len) (padLen len)) ∧ w.heap.size ≤ g ∧ w'.heap[g]? = some (.cells (arr .u8 (padLen len) (padF src len)) 5 (0, 0)) ∧ Below w.heap.size w w' := by
  have hz : bits .and .i64 (55 - (len : Int)) 63 = (padZ len : Int) := by rw [and63]; unfold padZ; omega
  have hzl := padZ_lt len
  have hmk := make_bytes (len + 1 + padZ len) (by omega)
  rw [Int.natCast_add, Int.natCast_add, Int.natCast_one] at hmk
  generalize hZ : padZ len = z at hz hzl hmk
  have HZ : Hid _ := hZ
  clear hZ
  go_enter Tryz.func103, Tryz.ntmps103
  go_wp2_with (refine copy_bytes (by rfl) (.tmp 15) (.tmp 16) (by rfl) w.heap.size (len + 1 + z) (len + 1 + z) len cap sp (by rfl) (by rfl) (fun _ => 0) src (heap_alloc_new _ _) (hsrc.below ((Below.refl _ _).alloc (Nat.le_refl _) _)) (by omega) w.heap.size w ((Below.refl _ _).alloc (Nat.le_refl _) _) (Nat.le_refl _) ?_; intro W1 hrow hB1; have hc : W1.cell? ⟨w.heap.size, len, none⟩ = some (.int .u8 0) := (row_cell hrow.out (by omega)).trans (by simp); have hf := fun j => frozen_of_row _ _ j _ _ hrow.out)
  have hW2 := row_set hrow.out len 128
  have hB2 := hB1.setCell (p := ⟨w.heap.size, len, none⟩) (Nat.le_refl _) (.int .u8 128)
  have hsz := lt_of_row hW2
  have h := put64_any (some ⟨w.heap.size, 0, none⟩) (len + 1 + z) (len + 1 + z) (pad1F src len) (8 * len) (W1.setCell ⟨w.heap.size, len, none⟩ (.int .u8 128)) (srcAt_row hW2 (Nat.le_refl _)) (by omega) (by omega) (by omega)
  refine h.mono ?_
  rintro e w1 ⟨rfl, h1, h2⟩
  clear h hW2 hc hf hmk
  have H1 : Hid _ := h1
  clear h1
  go_wp2
  go_ret
  have e1 : (W1.setCell ⟨w.heap.size, len, none⟩ (.int .u8 128)).heap.size = W1.heap.size := by simp [World.setCell]
  refine ⟨W1.heap.size, ?_, by omega, ?_, hB2.trans (h2.mono (by omega))⟩
  · unfold padLen; rw [HZ.out]; rfl
  · have h := H1.out
    rw [e1] at h
    unfold padLen padF; rw [HZ.out]; exact h
end Go.Proofs.YtgfjjglejlnfbaaGreatDoor
