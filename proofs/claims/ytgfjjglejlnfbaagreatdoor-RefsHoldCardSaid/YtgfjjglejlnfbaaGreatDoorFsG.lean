/- The contract of slices.Grow of no branches. -/
import Derived.Test.YtgfjjglejlnfbaaGreatDoorFsO
namespace Go.Proofs.YtgfjjglejlnfbaaGreatDoor
open Go.RowKit

/-- An append of a make to nothing. -/
theorem run_append_make {P : Program} (w : World) (t u ty e : TypeId) (k : IntKind) (i : TypeInfo) (z : Value) (ht : P.underlying t = some (.slice e)) (hu : P.underlying u = some (.int k)) (hi : P.info? e = some i) (hz : i.zero = some z)
    (n : Nat) (h0 : 0 < n) (hs : 0 < i.size) (h63 : (n : Int) ≤ 9223372036854775807) (h48 : n * i.bytes ≤ 281474976710656) :
    (Builtin.append_ #[t, u] ty #[.slice none 0 0, .int .i64 n]).run P w =
      .ok (.slice (some ⟨w.heap.size, 0, none⟩) n (grownCap w n 0 e))
        (w.drew.alloc (.cells (Builtin.zeroCells z.cells n ++ Builtin.zeroCells z.cells (grownCap w n 0 e - n)) e)) := by
  have hn : n ≠ 0 := by omega
  have h63' : ¬ (9223372036854775807 < (n : Int)) := by omega
  have h48' : ¬ (281474976710656 < Builtin.nextslicecap n 0 * i.bytes) := by rw [nextslicecap_zero h0]; omega
  have hw : IntKind.i64.wrap (n : Int) = n := by rw [IntKind.wrap_i64]; omega
  have hneg : ¬ ((n : Int) < 0) := by omega
  have h48i : ¬ (281474976710656 < (n : Int) * (i.bytes : Int)) := by
    rw [← Int.natCast_mul]
    exact Int.not_lt.2 (Int.ofNat_le.2 h48)
  simp [Builtin.append_, run_underlying ht, run_underlying hu, sizeOf, typeInfo, zeroValue, hi, hz, Builtin.firstCells, asInt, asIntOf, hw, hneg, h48i, hn, h63', h48', Question.forced, newRow, grownCap]
  exact fun h => absurd h (Nat.ne_of_gt (Nat.mul_pos h0 hs))

set_option maxRecDepth 100000 in
set_option maxHeartbeats 1000000 in
theorem growR_zero (w : World) :
    Calls Tryz.prog 75 #[.slice none 0 0, .int .i64 0] w fun e w' => e = .returned (.slice none 0 0) ∧ Below w.heap.size w w' := by
  go_enter Tryz.func75, Tryz.ntmps75
  go_wp2
  go_ret
  exact ⟨rfl, Below.refl _ _⟩
theorem op_append2 {P : Program} {Q : Exit → Act → World → Prop} {K : Act → World → Prop} {a : Act} {w w' : World} {o : Oper} {v' vs vx : Value} (s x : Operand) (t u : TypeId) (ho : o.op = .call { callee := .builtin .append, args := #[s, x], argTypes := #[t, u] }) (hs : a.eval s = vs) (hx : a.eval x = vx)
    (hr : (Builtin.append_ #[t, u] o.type #[vs, vx]).run P w = .ok v' w') (h : K (a.put o.dst v') w') : o.wp P a w K Q := by
  unfold Oper.wp execOp
  simp only [ho, resolve, invoke, builtin, Sem.run_bind, Sem.run_pure, Result.andThen_ok, List.map_toArray, List.map_cons, List.map_nil, hs, hx, hr]
  exact h
/-- Room for files where there are none. -/
theorem refs_make {w : World} {ops : Array Oper} {rest : List Oper} {o : Oper} {a : Act} {Q : Exit → Act → World → Prop} (hgd : o.guard = none) (s x : Operand)
    (ho : o.op = .call { callee := .builtin .append, args := #[s, x], argTypes := #[22, 3] }) (n : Nat) (hs : a.eval s = .slice none 0 0) (hx : a.eval x = .int .i64 n) (h0 : 0 < n) (hn : n ≤ 100000)
    (h : ∀ cap w', n ≤ cap → Below w.heap.size w w' → OwnR w.heap.size w' (.slice (some ⟨w.heap.size, 0, none⟩) 0 cap) [] → wpList Tryz.prog ops Q rest (a.put o.dst (.slice (some ⟨w.heap.size, 0, none⟩) n cap)) w') : wpList Tryz.prog ops Q (o :: rest) a w := by
  obtain ⟨i, hi, hz0, hz1, hz2⟩ := info_parts infoR
  have er := run_append_make (P := Tryz.prog) w 22 3 o.type 92 .i64 i _ Tryz.underlying22 Tryz.underlying3 hi hz0 n h0 (by omega) (by omega) (by rw [hz2]; omega)
  refine wpList_plain hgd fun _ hK => op_append2 s x 22 3 ho hs hx er (hK _ _ (h _ _ (grownCap_ge w n 0 _) ((Below.refl _ _).drew.alloc (by simp) _) ⟨rfl, .inr ⟨w.heap.size, _, _, rfl, Nat.le_refl _, heap_alloc_new w.drew _, Nat.zero_le _, grownCap_le_maxLen w n 0 _ (by unfold maxLen; omega), ?_, by simp⟩⟩))
  rw [Array.size_append, size_zeroCells, size_zeroCells, ← Nat.add_mul]
  have := grownCap_ge w n 0 92
  rw [show n + (grownCap w n 0 92 - n) = grownCap w n 0 92 by omega]
  rfl
set_option maxRecDepth 100000 in
set_option maxHeartbeats 1000000 in
theorem growR_any (n : Nat) (w : World) (h0 : 0 < n) (hn : n ≤ 100000) :
    Calls Tryz.prog 75 #[.slice none 0 0, .int .i64 n] w fun e w' => (∃ v, e = .returned v ∧ OwnR w.heap.size w' v []) ∧ Below w.heap.size w w' := by
  have hd : decide ((n : Int) < 0) = false := by simp
  have hd2 : decide ((0 : Int) < n) = true := by simp; omega
  go_enter Tryz.func75, Tryz.ntmps75
  go_wp2_with (refine refs_make (by rfl) (.tmp 20) (.tmp 21) (by rfl) n (by rfl) (by rfl) h0 hn ?_; intro cap w2 hcap hB2 hO2; have HO2 : Hid _ := hO2; clear hO2; have hc0 : ¬ cap = 0 := by omega)
  go_ret
  exact ⟨⟨_, rfl, HO2.out⟩, hB2⟩
end Go.Proofs.YtgfjjglejlnfbaaGreatDoor
