/- Steps of a region that draws its order: loads, calls, stores, where what they leave is known. No function of the program is walked here. -/
import Derived.Test.YtmbnbehlfbdpnabMSel
import Derived.RegionTactic
namespace Go.Proofs.Ytmbnbehlfbdpnab
open Go.RowKit

section
variable {P : Program} {ops : Array Oper} {Q : Exit → Act → World → Prop} {K : Act → World → Prop} {a : Act} {w : World} {o : Oper}
theorem any_load (hgd : o.guard = none) (ty : TypeId) (x : Operand) (ho : o.op = .load ty x) (p : Addr) (v : Value) (hx : a.eval x = .pointer (some p)) (hl : (loadVar ty p).run P w = .ok v w) (h : K (a.put o.dst v) w) :
    if Region.wanted o (yielded ops a.tmps) = true then Oper.wp P o a w K Q else K (a.put o.dst undef) w := by
  rw [if_pos (wanted_plain hgd)]
  unfold Oper.wp execOp
  simp only [ho, hx, Instr.loadAt, Instr.sureAddr, Sem.run_bind, Sem.run_pure, Result.andThen_ok, hl]
  exact h
theorem any_run (hgd : o.guard = none) (v : Value) (w' : World) (hr : (execOp a.eval o).run P w = .ok (.value v) w') (h : K (a.put o.dst v) w') :
    if Region.wanted o (yielded ops a.tmps) = true then Oper.wp P o a w K Q else K (a.put o.dst undef) w := by
  rw [if_pos (wanted_plain hgd)]
  unfold Oper.wp
  rw [hr]
  exact h
theorem any_skip (hgd : o.guard = none) (w' : World) (hr : (execOp a.eval o).run P w = .ok .skip w') (h : K (a.put o.dst undef) w') :
    if Region.wanted o (yielded ops a.tmps) = true then Oper.wp P o a w K Q else K (a.put o.dst undef) w := by
  rw [if_pos (wanted_plain hgd)]
  unfold Oper.wp
  rw [hr]
  exact h
theorem any_call (hgd : o.guard = none) (f : FuncId) (args : Array Value) (hr : (execOp a.eval o).run P w = .ok (.enter f args) w) (R : Value → World → Prop) (hc : Calls P f args w fun e w' => ∃ v, e = .returned v ∧ R v w') (h : ∀ v w', R v w' → K (a.put o.dst v) w') :
    if Region.wanted o (yielded ops a.tmps) = true then Oper.wp P o a w K Q else K (a.put o.dst undef) w := by
  rw [if_pos (wanted_plain hgd)]
  unfold Oper.wp
  rw [hr, Oper.upon_enter]
  refine hc.mono ?_
  rintro e w' ⟨v, rfl, hR⟩
  exact h v w' hR
theorem call_run {ρ : Operand → Value} {x : Operand} {t : TypeId} {f : FuncId} {v : Value} (ho : o.op = .call { callee := .value (.func f), args := #[x], argTypes := #[t] }) (hf : ρ (.func f) = .func (.func f) #[] #[]) (hx : ρ x = v) (eg : ∀ args w, (callFunc f args).run P w = .ok (.enter f args) w) : (execOp ρ o).run P w = .ok (.enter f #[v]) w := by
  unfold execOp
  simp [ho, resolve, invoke, go_sem, hf, hx, eg]
end
/-- A repository's box read, and written. -/
theorem load_repo {w : World} {g : Nat} {v : Value} (h : w.heap[g]? = some (.cells #[v] 24 (0, 0))) : (loadVar 24 ⟨g, 0, none⟩).run Try.prog w = .ok (.agg #[v]) w :=
  run_loadVar_row w g 24 24 #[v] (0, 0) _ h Try.underlying24 rfl (by kernel_rfl)
theorem store_repo {ρ : Operand → Value} {w : World} {o : Oper} {x y : Operand} {g : Nat} {u : Value} {sp : Option Addr} {k d : Nat} (ho : o.op = .store 24 x y) (hx : ρ x = .pointer (some ⟨g, 0, none⟩)) (hy : ρ y = .agg #[.slice sp k d]) (h : w.heap[g]? = some (.cells #[u] 24 (0, 0))) :
    (execOp ρ o).run Try.prog w = .ok .skip (w.setCell ⟨g, 0, none⟩ (.slice sp k d)) := by
  have c : w.cell? ⟨g, 0, none⟩ = some u := (cell_of_row _ _ _ _ _ _ h).trans rfl
  have z : w.frozen? ⟨g, 0, none⟩ = false := frozen_of_row _ _ _ _ _ h
  unfold execOp
  simp [ho, hx, hy, go_sem, c, z]
end Go.Proofs.Ytmbnbehlfbdpnab
