/- The moves at operations with a guard. No function of the program is walked here. -/
import Derived.Test.YthnoiohganknnabDoorMoves
namespace Go.Proofs.YthnoiohganknnabDoor
open Go.RowKit

section
variable {P : Program} {ops : Array Oper} {Q : Exit → Act → World → Prop} {md : Region.Mode} {S : World → Prop} {fuel : Nat} {listed : Array Bool} {tm : Array Value} {df : List Deferred} {w : World}
  {op : Op} {ty0 : TypeId} {pos : String} {aft : Array Edge}
/-- The moves at an operation with a guard. -/
theorem mv_rung (i d : Nat) (v : Value) {gd : Option (Nat × Bool)} (hi : ops[i]? = some ⟨some d, op, ty0, pos, aft, gd⟩) (hw : Region.wanted ⟨some d, op, ty0, pos, aft, gd⟩ (yielded ops tm) = true) (hs : Region.noSelect ops = true) (hf : Region.free md ops listed i = true) (hr : (Region.ready md ops listed).contains i = true)
    (hQ : ∀ c a w, Q (.panic c) (a.put (some d) v) w → Q (.panic c) a w) (hrun : ∀ w, S w → (execOp (Act.eval ⟨tm, df⟩) ⟨some d, op, ty0, pos, aft, gd⟩).run P w = .ok (.value v) w) (hS : S w)
    (h : wpAnyH P md ops Q S fuel (listed.setIfInBounds i true) ⟨tm.setIfInBounds d v, df⟩ w) : wpAnyH P md ops Q S (fuel + 1) listed ⟨tm, df⟩ w :=
  wpAnyH_take hi hs hf hr hQ (.inl ⟨hw, hrun⟩) hS h
theorem mv_skip (i d : Nat) {gd : Option (Nat × Bool)} (hi : ops[i]? = some ⟨some d, op, ty0, pos, aft, gd⟩) (hw : Region.wanted ⟨some d, op, ty0, pos, aft, gd⟩ (yielded ops tm) = false) (hs : Region.noSelect ops = true) (hf : Region.free md ops listed i = true) (hr : (Region.ready md ops listed).contains i = true)
    (hQ : ∀ c a w, Q (.panic c) (a.put (some d) undef) w → Q (.panic c) a w) (hS : S w)
    (h : wpAnyH P md ops Q S fuel (listed.setIfInBounds i true) ⟨tm.setIfInBounds d undef, df⟩ w) : wpAnyH P md ops Q S (fuel + 1) listed ⟨tm, df⟩ w :=
  wpAnyH_take hi hs hf hr hQ (.inr ⟨hw, rfl⟩) hS h
theorem mv_rowg (i d : Nat) (ty : TypeId) (x : Operand) {gd : Option (Nat × Bool)} (hi : ops[i]? = some ⟨some d, .load ty x, ty0, pos, aft, gd⟩) (hw : Region.wanted ⟨some d, .load ty x, ty0, pos, aft, gd⟩ (yielded ops tm) = true) (g : Nat) (t : TypeId) (cs : Array Value) (fr : Nat × Nat) (hx : Act.eval ⟨tm, df⟩ x = .pointer (some ⟨g, 0, none⟩))
    (hs : Region.noSelect ops = true) (hf : Region.free md ops listed i = true) (hr : (Region.ready md ops listed).contains i = true)
    (hQ : ∀ c a w, Q (.panic c) (a.put (some d) (.agg cs)) w → Q (.panic c) a w) (D : TypeDesc) (hrow : ∀ w, S w → w.heap[g]? = some (.cells cs t fr)) (hu : P.underlying ty = some D)
    (hd : (match D with | .struct _ | .array _ _ => true | _ => false) = true) (hsz : (P.info? ty).map (·.size) = some cs.size) (hS : S w)
    (h : wpAnyH P md ops Q S fuel (listed.setIfInBounds i true) ⟨tm.setIfInBounds d (.agg cs), df⟩ w) : wpAnyH P md ops Q S (fuel + 1) listed ⟨tm, df⟩ w :=
  mv_rung i d (.agg cs) hi hw hs hf hr hQ (fun w' hw' => by
    unfold execOp
    simp only [hx, Instr.loadAt, Instr.sureAddr, Sem.run_bind, Sem.run_pure, Result.andThen_ok, run_loadVar_row w' g t ty cs fr D (hrow w' hw') hu hd hsz]) hS h
theorem mv_nextg (i : Nat) {dst : Option Tmp} {gd : Option (Nat × Bool)} (hi : ops[i]? = some ⟨dst, op, ty0, pos, aft, gd⟩) (hw : Region.wanted ⟨dst, op, ty0, pos, aft, gd⟩ (yielded ops tm) = true) (hr : Region.ready md ops listed = [i])
    (h : Oper.wp P ⟨dst, op, ty0, pos, aft, gd⟩ ⟨tm, df⟩ w (fun a' w' => S w' ∧ wpAnyH P md ops Q S fuel (listed.setIfInBounds i true) a' w') Q) : wpAnyH P md ops Q S (fuel + 1) listed ⟨tm, df⟩ w := by
  refine wpAnyH_all hr (by simp) fun j hj => ?_
  obtain rfl : j = i := by simpa using hj
  unfold wpOp
  simp only [hi, hw, if_true]
  exact .inl h
end
end Go.Proofs.YthnoiohganknnabDoor
