/- The contract of lex's take: what is no token; no room. -/
import Derived.Test.YtcbpnmdphmdemaaLxT
namespace Go.Proofs.Ytcbpnmdphmdemaa
open Go.RowKit

set_option maxRecDepth 100000 in
set_option maxHeartbeats 1000000 in
theorem take_gap (g : Nat) (t : Tok) (tv : Value) (p : Nat) (vt : Value) (n : Nat) (w : World) (hrow : w.heap[g]? = some (.cells (lxC t tv p vt) 60 (0, 0))) (hlen : p + n ≤ 1000000) :
    Calls Try.prog 33 #[.pointer (some ⟨g, 0, none⟩), .int .i64 0, .int .i64 n] w fun e w' => e = .returned (.int .i64 0) ∧ w'.heap[g]? = some (.cells (lxC t tv (p + n) vt) 60 (0, 0)) ∧ Kept g (.slice none 0 0) w w' := by
  have HR : Hid (w.heap[g]? = some (.cells (lxC t tv p vt) 60 (0, 0))) := hrow
  have d4 : w.cell? ⟨g, 4, none⟩ = some (.int .i64 p) := (cell_of_row w g 4 _ _ _ hrow).trans rfl
  have z4 : w.frozen? ⟨g, 4, none⟩ = false := frozen_of_row _ _ _ _ _ hrow
  clear hrow
  go_enter Try.func33, Try.ntmps33
  go_wp2
  go_ret
  have r5 : (w.setCell ⟨g, 4, none⟩ (.int .i64 (p + n))).heap[g]? = some (.cells (lxC t tv (p + n) vt) 60 (0, 0)) := (heap_setCell_same _ _ _ _ _ _ HR.out).trans rfl
  exact ⟨rfl, r5, ⟨rfl, rfl, rfl, by simp, fun j _ h2 _ => heap_setCell_other _ _ _ _ h2⟩⟩
set_option maxRecDepth 100000 in
set_option maxHeartbeats 1000000 in
theorem take_full (g : Nat) (t : Tok) (tv : Value) (p : Nat) (st : Option Addr) (ct : Nat) (k : Int) (n : Nat) (w : World) (hrow : w.heap[g]? = some (.cells (lxC t tv p (.slice st 1024 ct)) 60 (0, 0))) (hk : k ≠ 0) :
    Calls Try.prog 33 #[.pointer (some ⟨g, 0, none⟩), .int .i64 k, .int .i64 n] w fun e w' => e = .returned (.int .i64 3) ∧ w' = w := by
  have d5 : w.cell? ⟨g, 5, none⟩ = some (.slice st 1024 ct) := (cell_of_row w g 5 _ _ _ hrow).trans rfl
  have hk' : (k != 0) = true := by simpa using hk
  clear hrow
  go_enter Try.func33, Try.ntmps33
  go_wp2
  go_ret
  exact ⟨rfl, rfl⟩
end Go.Proofs.Ytcbpnmdphmdemaa
