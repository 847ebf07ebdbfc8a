/- The moves of Held once more, each with the operation and the frame written out, for great frames. No function of the program is walked here. -/
import Derived.Test.YthnoiohganknnabDoorHeld
namespace Go.Proofs.YthnoiohganknnabDoor
open Go.RowKit

section
variable {P : Program} {ops : Array Oper} {Q : Exit → Act → World → Prop} {md : Region.Mode} {S : World → Prop} {fuel : Nat} {listed : Array Bool} {tm : Array Value} {df : List Deferred} {w : World}
  {op : Op} {ty0 : TypeId} {pos : String} {aft : Array Edge}

/-- The beginning: the number of operations is written out. -/
theorem mv_begin {id : Nat} {a : Act} (n : Nat) (hn : ops.size = n) (hm : P.follows .mixedOrders = true)
    (h : wpAnyH P .any ops Q S n (Array.replicate n false) a w.drew) : (Code.region id ops true).wp P Q a w := by
  subst hn
  exact wp_region_held hm h

/-- An operation that yields in every world that meets S is taken first. -/
theorem mv_run (i d : Nat) (v : Value) (hi : ops[i]? = some ⟨some d, op, ty0, pos, aft, none⟩) (hs : Region.noSelect ops = true) (hf : Region.free md ops listed i = true) (hr : (Region.ready md ops listed).contains i = true)
    (hQ : ∀ c a w, Q (.panic c) (a.put (some d) v) w → Q (.panic c) a w) (hrun : ∀ w, S w → (execOp (Act.eval ⟨tm, df⟩) ⟨some d, op, ty0, pos, aft, none⟩).run P w = .ok (.value v) w) (hS : S w)
    (h : wpAnyH P md ops Q S fuel (listed.setIfInBounds i true) ⟨tm.setIfInBounds d v, df⟩ w) : wpAnyH P md ops Q S (fuel + 1) listed ⟨tm, df⟩ w :=
  wpAnyH_take hi hs hf hr hQ (.inl ⟨rfl, hrun⟩) hS h

/-- A load of a whole row is taken first. -/
theorem mv_row (i d : Nat) (ty : TypeId) (x : Operand) (hi : ops[i]? = some ⟨some d, .load ty x, ty0, pos, aft, none⟩) (g : Nat) (t : TypeId) (cs : Array Value) (fr : Nat × Nat) (hx : Act.eval ⟨tm, df⟩ x = .pointer (some ⟨g, 0, none⟩))
    (hs : Region.noSelect ops = true) (hf : Region.free md ops listed i = true) (hr : (Region.ready md ops listed).contains i = true)
    (hQ : ∀ c a w, Q (.panic c) (a.put (some d) (.agg cs)) w → Q (.panic c) a w) (D : TypeDesc) (hrow : ∀ w, S w → w.heap[g]? = some (.cells cs t fr)) (hu : P.underlying ty = some D)
    (hd : (match D with | .struct _ | .array _ _ => true | _ => false) = true) (hsz : (P.info? ty).map (·.size) = some cs.size) (hS : S w)
    (h : wpAnyH P md ops Q S fuel (listed.setIfInBounds i true) ⟨tm.setIfInBounds d (.agg cs), df⟩ w) : wpAnyH P md ops Q S (fuel + 1) listed ⟨tm, df⟩ w :=
  mv_run i d (.agg cs) hi hs hf hr hQ (fun w' hw' => by
    unfold execOp
    simp only [hx, Instr.loadAt, Instr.sureAddr, Sem.run_bind, Sem.run_pure, Result.andThen_ok, run_loadVar_row w' g t ty cs fr D (hrow w' hw') hu hd hsz]) hS h

/-- A load of m numbers out of a row is taken first. -/
theorem mv_part (i d : Nat) (ty : TypeId) (x : Operand) (hi : ops[i]? = some ⟨some d, .load ty x, ty0, pos, aft, none⟩) (g o : Nat) (t : TypeId) (k : IntKind) (n m : Nat) (f : Nat → Int) (fr : Nat × Nat) (hx : Act.eval ⟨tm, df⟩ x = .pointer (some ⟨g, o, none⟩))
    (hs : Region.noSelect ops = true) (hf : Region.free md ops listed i = true) (hr : (Region.ready md ops listed).contains i = true)
    (hQ : ∀ c a w, Q (.panic c) (a.put (some d) (.agg (arr k m fun j => f (o + j)))) w → Q (.panic c) a w) (D : TypeDesc) (hrow : ∀ w, S w → w.heap[g]? = some (.cells (arr k n f) t fr)) (hm : o + m ≤ n) (hu : P.underlying ty = some D)
    (hd : D.isRow = true) (hsz : (P.info? ty).map (·.size) = some m) (hS : S w)
    (h : wpAnyH P md ops Q S fuel (listed.setIfInBounds i true) ⟨tm.setIfInBounds d (.agg (arr k m fun j => f (o + j))), df⟩ w) : wpAnyH P md ops Q S (fuel + 1) listed ⟨tm, df⟩ w :=
  mv_run i d (.agg (arr k m fun j => f (o + j))) hi hs hf hr hQ (fun w' hw' => by
    unfold execOp
    simp only [hx, Instr.loadAt, Instr.sureAddr, Sem.run_bind, Sem.run_pure, Result.andThen_ok, run_part (hrow w' hw') hm hu hd hsz]) hS h

/-- A load of m numbers whose cells are known one by one is taken first. -/
theorem mv_at (i d : Nat) (ty : TypeId) (x : Operand) (hi : ops[i]? = some ⟨some d, .load ty x, ty0, pos, aft, none⟩) (g o : Nat) (k : IntKind) (m : Nat) (f : Nat → Int) (hx : Act.eval ⟨tm, df⟩ x = .pointer (some ⟨g, o, none⟩))
    (hs : Region.noSelect ops = true) (hf : Region.free md ops listed i = true) (hr : (Region.ready md ops listed).contains i = true)
    (hQ : ∀ c a w, Q (.panic c) (a.put (some d) (.agg (arr k m f))) w → Q (.panic c) a w) (D : TypeDesc) (hc : ∀ w, S w → ∀ i, i < m → w.cell? ⟨g, o + i, none⟩ = some (.int k (f i))) (hu : P.underlying ty = some D)
    (hd : D.isRow = true) (hsz : (P.info? ty).map (·.size) = some m) (hS : S w)
    (h : wpAnyH P md ops Q S fuel (listed.setIfInBounds i true) ⟨tm.setIfInBounds d (.agg (arr k m f)), df⟩ w) : wpAnyH P md ops Q S (fuel + 1) listed ⟨tm, df⟩ w :=
  mv_run i d (.agg (arr k m f)) hi hs hf hr hQ (fun w' hw' => by
    unfold execOp
    simp only [hx, Instr.loadAt, Instr.sureAddr, Sem.run_bind, Sem.run_pure, Result.andThen_ok, run_at (hc w' hw') hu hd hsz]) hS h

/-- The one operation that may come up. -/
theorem mv_next (i : Nat) {dst : Option Tmp} (hi : ops[i]? = some ⟨dst, op, ty0, pos, aft, none⟩) (hr : Region.ready md ops listed = [i])
    (h : Oper.wp P ⟨dst, op, ty0, pos, aft, none⟩ ⟨tm, df⟩ w (fun a' w' => S w' ∧ wpAnyH P md ops Q S fuel (listed.setIfInBounds i true) a' w') Q) : wpAnyH P md ops Q S (fuel + 1) listed ⟨tm, df⟩ w :=
  next_one rfl hr hi rfl h

/-- .. a load of a whole row. -/
theorem mv_next_row (i d : Nat) (ty : TypeId) (x : Operand) (hi : ops[i]? = some ⟨some d, .load ty x, ty0, pos, aft, none⟩) (hr : Region.ready md ops listed = [i]) (g : Nat) (t : TypeId) (cs : Array Value) (fr : Nat × Nat) (hx : Act.eval ⟨tm, df⟩ x = .pointer (some ⟨g, 0, none⟩))
    (D : TypeDesc) (hrow : w.heap[g]? = some (.cells cs t fr)) (hu : P.underlying ty = some D) (hd : (match D with | .struct _ | .array _ _ => true | _ => false) = true) (hsz : (P.info? ty).map (·.size) = some cs.size) (hS : S w)
    (h : wpAnyH P md ops Q S fuel (listed.setIfInBounds i true) ⟨tm.setIfInBounds d (.agg cs), df⟩ w) : wpAnyH P md ops Q S (fuel + 1) listed ⟨tm, df⟩ w :=
  mv_next i hi hr (wp_load_row ty x rfl g hx t cs fr D hrow hu hd hsz ⟨hS, h⟩)

/-- .. a store of a whole row. -/
theorem mv_next_store (i : Nat) (ty : TypeId) (x y : Operand) (hi : ops[i]? = some ⟨none, .store ty x y, ty0, pos, aft, none⟩) (hr : Region.ready md ops listed = [i]) (g : Nat) (t : TypeId) (cells old : Array Value) (hx : Act.eval ⟨tm, df⟩ x = .pointer (some ⟨g, 0, none⟩)) (hy : Act.eval ⟨tm, df⟩ y = .agg cells)
    (hg : w.heap[g]? = some (.cells old t (0, 0))) (hsz : (P.info? ty).map (·.size) = some cells.size) (hold : old.size = cells.size) (h1 : cells.all (·.oneCell') = true) (hS : S (w.setRow g cells))
    (h : wpAnyH P md ops Q S fuel (listed.setIfInBounds i true) ⟨tm, df⟩ (w.setRow g cells)) : wpAnyH P md ops Q S (fuel + 1) listed ⟨tm, df⟩ w :=
  mv_next i hi hr (wp_store_row ty x y rfl g cells hx hy t old hg hsz hold h1 ⟨hS, h⟩)
end
end Go.Proofs.YthnoiohganknnabDoor
