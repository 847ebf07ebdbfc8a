/- Moves of a walk through a region that draws its order, where its callees make memory: loads of whole rows are taken first, calls come up one behind the other. No function of the program is walked here. -/
import Derived.Test.YthnoiohganknnabDoorBase
import Derived.OrdersHeld
import Derived.Deep.MidRow
namespace Go.Proofs.YthnoiohganknnabDoor
open Go.RowKit

section
variable {P : Program} {ops : Array Oper} {Q : Exit → Act → World → Prop} {md : Region.Mode} {S : World → Prop} {i : Nat} {oi : Oper} {fuel : Nat} {listed : Array Bool} {a : Act} {w : World}

theorem wanted_plain {o : Oper} {y : Nat → Option Bool} (h : o.guard = none) : Region.wanted o y = true := by simp [Region.wanted, h]

/-- A load of a whole row is taken first. -/
theorem take_row {v : Value} (hi : ops[i]? = some oi) (hs : Region.noSelect ops = true) (hf : Region.free md ops listed i = true) (hr : (Region.ready md ops listed).contains i = true)
    (hQ : ∀ c a w, Q (.panic c) (a.put oi.dst v) w → Q (.panic c) a w) (hgd : oi.guard = none) (ty : TypeId) (x : Operand) (ho : oi.op = .load ty x) (g : Nat) (hx : a.eval x = .pointer (some ⟨g, 0, none⟩))
    (t : TypeId) (cs : Array Value) (hv : v = .agg cs) (fr : Nat × Nat) (d : TypeDesc) (hrow : ∀ w, S w → w.heap[g]? = some (.cells cs t fr)) (hu : P.underlying ty = some d)
    (hd : (match d with | .struct _ | .array _ _ => true | _ => false) = true) (hsz : (P.info? ty).map (·.size) = some cs.size) (hS : S w)
    (h : wpAnyH P md ops Q S fuel (listed.setIfInBounds i true) (a.put oi.dst (.agg cs)) w) : wpAnyH P md ops Q S (fuel + 1) listed a w := by
  subst hv
  refine wpAnyH_take (v := .agg cs) hi hs hf hr hQ (.inl ⟨wanted_plain hgd, fun w' hw' => ?_⟩) hS h
  unfold execOp
  simp only [ho, hx, Instr.loadAt, Instr.sureAddr, Sem.run_bind, Sem.run_pure, Result.andThen_ok, run_loadVar_row w' g t ty cs fr d (hrow w' hw') hu hd hsz]

/-- An operation that yields in whatever world is taken first. -/
theorem take_run (v : Value) (hi : ops[i]? = some oi) (hs : Region.noSelect ops = true) (hf : Region.free md ops listed i = true) (hr : (Region.ready md ops listed).contains i = true)
    (hQ : ∀ c a w, Q (.panic c) (a.put oi.dst v) w → Q (.panic c) a w) (hgd : oi.guard = none) (hrun : ∀ w, S w → (execOp a.eval oi).run P w = .ok (.value v) w) (hS : S w)
    (h : wpAnyH P md ops Q S fuel (listed.setIfInBounds i true) (a.put oi.dst v) w) : wpAnyH P md ops Q S (fuel + 1) listed a w :=
  wpAnyH_take hi hs hf hr hQ (.inl ⟨wanted_plain hgd, hrun⟩) hS h

/-- m numbers of a row, from place o on, as an array. -/
theorem run_part {ty : TypeId} {g o n m : Nat} {k : IntKind} {f : Nat → Int} {t : TypeId} {fr : Nat × Nat} {d : TypeDesc} {w : World} (hrow : w.heap[g]? = some (.cells (arr k n f) t fr)) (hm : o + m ≤ n) (hu : P.underlying ty = some d)
    (hd : d.isRow = true) (hsz : (P.info? ty).map (·.size) = some m) : (loadVar ty ⟨g, o, none⟩).run P w = .ok (.agg (arr k m fun j => f (o + j))) w := by
  have h := run_loadVar_mid (P := P) w g o ty (arr k m fun j => f (o + j)).toList d (fun j v hv => by
    have hj : j < m := by
      by_cases hj : j < m
      · exact hj
      · rw [List.getElem?_eq_none (by rw [Array.length_toList, arr_size]; omega)] at hv; cases hv
    have e : v = .int k (f (o + j)) := by
      have := arr_get (k := k) (f := fun j => f (o + j)) hj
      rw [Array.getElem?_toList, this] at hv
      exact (Option.some.inj hv).symm
    rw [e]; exact row_cell hrow (by omega)) hu hd (by rw [Array.length_toList, arr_size]; exact hsz)
  rw [h, Array.toArray_toList]

theorem take_part {v : Value} (hi : ops[i]? = some oi) (hs : Region.noSelect ops = true) (hf : Region.free md ops listed i = true) (hr : (Region.ready md ops listed).contains i = true)
    (hQ : ∀ c a w, Q (.panic c) (a.put oi.dst v) w → Q (.panic c) a w) (hgd : oi.guard = none) (ty : TypeId) (x : Operand) (ho : oi.op = .load ty x) (g o : Nat) (hx : a.eval x = .pointer (some ⟨g, o, none⟩))
    (t : TypeId) (k : IntKind) (n m : Nat) (f : Nat → Int) (hv : v = .agg (arr k m fun j => f (o + j))) (fr : Nat × Nat) (d : TypeDesc) (hrow : ∀ w, S w → w.heap[g]? = some (.cells (arr k n f) t fr)) (hm : o + m ≤ n) (hu : P.underlying ty = some d)
    (hd : d.isRow = true) (hsz : (P.info? ty).map (·.size) = some m) (hS : S w)
    (h : wpAnyH P md ops Q S fuel (listed.setIfInBounds i true) (a.put oi.dst (.agg (arr k m fun j => f (o + j)))) w) : wpAnyH P md ops Q S (fuel + 1) listed a w := by
  subst hv
  refine wpAnyH_take (v := .agg (arr k m fun j => f (o + j))) hi hs hf hr hQ (.inl ⟨wanted_plain hgd, fun w' hw' => ?_⟩) hS h
  unfold execOp
  simp only [ho, hx, Instr.loadAt, Instr.sureAddr, Sem.run_bind, Sem.run_pure, Result.andThen_ok, run_part (hrow w' hw') hm hu hd hsz]

theorem load_part {rest : List Oper} {o : Oper} (hgd : o.guard = none) (ty : TypeId) (x : Operand) (ho : o.op = .load ty x) (g p : Nat) (hx : a.eval x = .pointer (some ⟨g, p, none⟩))
    (t : TypeId) (k : IntKind) (n m : Nat) (f : Nat → Int) (fr : Nat × Nat) (d : TypeDesc) (hrow : w.heap[g]? = some (.cells (arr k n f) t fr)) (hm : p + m ≤ n) (hu : P.underlying ty = some d)
    (hd : d.isRow = true) (hsz : (P.info? ty).map (·.size) = some m)
    (h : wpList P ops Q rest (a.put o.dst (.agg (arr k m fun j => f (p + j)))) w) : wpList P ops Q (o :: rest) a w :=
  wpList_plain hgd fun _ hK => by
    unfold Oper.wp execOp
    simp only [ho, hx, Instr.loadAt, Instr.sureAddr, Sem.run_bind, Sem.run_pure, Result.andThen_ok, run_part hrow hm hu hd hsz]
    exact hK _ _ h

/-- An array of numbers out of cells that are known one by one (a package-level variable). -/
theorem load_cells {rest : List Oper} {o : Oper} (hgd : o.guard = none) (ty : TypeId) (x : Operand) (ho : o.op = .load ty x) (g : Nat) (hx : a.eval x = .pointer (some ⟨g, 0, none⟩))
    (k : IntKind) (m : Nat) (f : Nat → Int) (d : TypeDesc) (hc : ∀ i, i < m → w.cell? ⟨g, i, none⟩ = some (.int k (f i))) (hu : P.underlying ty = some d)
    (hd : d.isRow = true) (hsz : (P.info? ty).map (·.size) = some m)
    (h : wpList P ops Q rest (a.put o.dst (.agg (arr k m f))) w) : wpList P ops Q (o :: rest) a w :=
  wpList_plain hgd fun _ hK => by
    have hr := run_loadVar_mid (P := P) w g 0 ty (arr k m f).toList d (fun j v hv => by
      have hj : j < m := by
        by_cases hj : j < m
        · exact hj
        · rw [List.getElem?_eq_none (by rw [Array.length_toList, arr_size]; omega)] at hv; cases hv
      have e : v = .int k (f j) := by
        have := arr_get (k := k) (f := f) hj
        rw [Array.getElem?_toList, this] at hv
        exact (Option.some.inj hv).symm
      rw [e, Nat.zero_add]; exact hc j hj) hu hd (by rw [Array.length_toList, arr_size]; exact hsz)
    rw [Array.toArray_toList] at hr
    unfold Oper.wp execOp
    simp only [ho, hx, Instr.loadAt, Instr.sureAddr, Sem.run_bind, Sem.run_pure, Result.andThen_ok, hr]
    exact hK _ _ h

/-- An array of numbers out of cells that are known one by one (at whatever place). -/
theorem load_at {rest : List Oper} {o : Oper} (hgd : o.guard = none) (ty : TypeId) (x : Operand) (ho : o.op = .load ty x) (g p : Nat) (hx : a.eval x = .pointer (some ⟨g, p, none⟩))
    (k : IntKind) (m : Nat) (f : Nat → Int) (d : TypeDesc) (hc : ∀ i, i < m → w.cell? ⟨g, p + i, none⟩ = some (.int k (f i))) (hu : P.underlying ty = some d)
    (hd : d.isRow = true) (hsz : (P.info? ty).map (·.size) = some m)
    (h : wpList P ops Q rest (a.put o.dst (.agg (arr k m f))) w) : wpList P ops Q (o :: rest) a w :=
  wpList_plain hgd fun _ hK => by
    have hr := run_loadVar_mid (P := P) w g p ty (arr k m f).toList d (fun j v hv => by
      have hj : j < m := by
        by_cases hj : j < m
        · exact hj
        · rw [List.getElem?_eq_none (by rw [Array.length_toList, arr_size]; omega)] at hv; cases hv
      have e : v = .int k (f j) := by
        have := arr_get (k := k) (f := f) hj
        rw [Array.getElem?_toList, this] at hv
        exact (Option.some.inj hv).symm
      rw [e]; exact hc j hj) hu hd (by rw [Array.length_toList, arr_size]; exact hsz)
    rw [Array.toArray_toList] at hr
    unfold Oper.wp execOp
    simp only [ho, hx, Instr.loadAt, Instr.sureAddr, Sem.run_bind, Sem.run_pure, Result.andThen_ok, hr]
    exact hK _ _ h

theorem run_at {ty : TypeId} {g p m : Nat} {k : IntKind} {f : Nat → Int} {d : TypeDesc} {w : World} (hc : ∀ i, i < m → w.cell? ⟨g, p + i, none⟩ = some (.int k (f i))) (hu : P.underlying ty = some d)
    (hd : d.isRow = true) (hsz : (P.info? ty).map (·.size) = some m) : (loadVar ty ⟨g, p, none⟩).run P w = .ok (.agg (arr k m f)) w := by
  have hr := run_loadVar_mid (P := P) w g p ty (arr k m f).toList d (fun j v hv => by
    have hj : j < m := by
      by_cases hj : j < m
      · exact hj
      · rw [List.getElem?_eq_none (by rw [Array.length_toList, arr_size]; omega)] at hv; cases hv
    have e : v = .int k (f j) := by
      have := arr_get (k := k) (f := f) hj
      rw [Array.getElem?_toList, this] at hv
      exact (Option.some.inj hv).symm
    rw [e]; exact hc j hj) hu hd (by rw [Array.length_toList, arr_size]; exact hsz)
  rw [Array.toArray_toList] at hr
  exact hr
theorem take_at {v : Value} (hi : ops[i]? = some oi) (hs : Region.noSelect ops = true) (hf : Region.free md ops listed i = true) (hr : (Region.ready md ops listed).contains i = true)
    (hQ : ∀ c a w, Q (.panic c) (a.put oi.dst v) w → Q (.panic c) a w) (hgd : oi.guard = none) (ty : TypeId) (x : Operand) (ho : oi.op = .load ty x) (g p : Nat) (hx : a.eval x = .pointer (some ⟨g, p, none⟩))
    (k : IntKind) (m : Nat) (f : Nat → Int) (hv : v = .agg (arr k m f)) (d : TypeDesc) (hc : ∀ w, S w → ∀ i, i < m → w.cell? ⟨g, p + i, none⟩ = some (.int k (f i))) (hu : P.underlying ty = some d)
    (hd : d.isRow = true) (hsz : (P.info? ty).map (·.size) = some m) (hS : S w)
    (h : wpAnyH P md ops Q S fuel (listed.setIfInBounds i true) (a.put oi.dst (.agg (arr k m f))) w) : wpAnyH P md ops Q S (fuel + 1) listed a w := by
  subst hv
  refine wpAnyH_take (v := .agg (arr k m f)) hi hs hf hr hQ (.inl ⟨wanted_plain hgd, fun w' hw' => ?_⟩) hS h
  unfold execOp
  simp only [ho, hx, Instr.loadAt, Instr.sureAddr, Sem.run_bind, Sem.run_pure, Result.andThen_ok, run_at (hc w' hw') hu hd hsz]

/-- A load of a whole row, where its guard says yes. -/
theorem load_rowg {rest : List Oper} {o : Oper} (hw : Region.wanted o (yielded ops a.tmps) = true) (ty : TypeId) (x : Operand) (ho : o.op = .load ty x)
    (g : Nat) (hx : a.eval x = .pointer (some ⟨g, 0, none⟩)) (t : TypeId) (cs : Array Value) (fr : Nat × Nat) (d : TypeDesc) (hg : w.heap[g]? = some (.cells cs t fr))
    (hu : P.underlying ty = some d) (hd : (match d with | .struct _ | .array _ _ => true | _ => false) = true) (hi : (P.info? ty).map (·.size) = some cs.size)
    (h : wpList P ops Q rest (a.put o.dst (.agg cs)) w) : wpList P ops Q (o :: rest) a w :=
  wpList_step fun _ hK => by rw [if_pos hw]; exact wp_load_row ty x ho g hx t cs fr d hg hu hd hi (hK _ _ h)

/-- The one operation that may come up. -/
theorem next_one {rs : List Nat} (hrs : rs = [i]) (hr : Region.ready md ops listed = rs) (hi : ops[i]? = some oi) (hgd : oi.guard = none)
    (h : oi.wp P a w (fun a' w' => S w' ∧ wpAnyH P md ops Q S fuel (listed.setIfInBounds i true) a' w') Q) : wpAnyH P md ops Q S (fuel + 1) listed a w := by
  subst hrs
  refine wpAnyH_all hr (by simp) fun j hj => ?_
  obtain rfl : j = i := by simpa using hj
  unfold wpOp
  simp only [hi, wanted_plain hgd, if_true]
  exact .inl h
end
end Go.Proofs.YthnoiohganknnabDoor
