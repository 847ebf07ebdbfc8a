/- How rows of elements lie in memory; parts of them loaded; lists compared. No function of the program is walked here. -/
import Derived.Test.YthnoiohganknnabDoorHeld
import Derived.Laws.StructEq
namespace Go.Proofs.YthnoiohganknnabDoor
open Go.RowKit

/-- Elements of m cells each, one behind the other. -/
def RowsAt {α : Type} (w : World) (m : Nat) (cs : α → Array Value) (sp : Option Addr) (xs : List α) : Prop :=
  0 < xs.length → ∃ b off, sp = some ⟨b, off, none⟩ ∧ ∀ i x, xs[i]? = some x → ∀ j u, (cs x)[j]? = some u → w.cell? ⟨b, off + i * m + j, none⟩ = some u
theorem RowsAt.below {α : Type} {w w' : World} {m : Nat} {cs : α → Array Value} {sp : Option Addr} {xs : List α} (h : RowsAt w m cs sp xs) (hb : Below w.heap.size w w') : RowsAt w' m cs sp xs := fun hl => by
  obtain ⟨b, off, hs, hc⟩ := h hl
  exact ⟨b, off, hs, fun i x hx j u hu => (hb.cell (block_lt_of_cell (hc i x hx j u hu))).trans (hc i x hx j u hu)⟩
theorem RowsAt.none {α : Type} {w : World} {m : Nat} {cs : α → Array Value} {sp : Option Addr} : RowsAt w m cs sp [] := fun h => by simp at h

/-- A load of m cells that are known one by one. -/
theorem run_mid {P : Program} {ty : TypeId} {g o : Nat} {cs : Array Value} {d : TypeDesc} {w : World} (hc : ∀ j u, cs[j]? = some u → w.cell? ⟨g, o + j, none⟩ = some u) (hu : P.underlying ty = some d)
    (hd : d.isRow = true) (hsz : (P.info? ty).map (·.size) = some cs.size) : (loadVar ty ⟨g, o, none⟩).run P w = .ok (.agg cs) w := by
  have hr := run_loadVar_mid (P := P) w g o ty cs.toList d (fun j v hv => hc j v (by simpa using hv)) hu hd (by simpa using hsz)
  rw [Array.toArray_toList] at hr
  exact hr
theorem load_mid {P : Program} {ops : Array Oper} {Q : Exit → Act → World → Prop} {a : Act} {w : World} {rest : List Oper} {o : Oper} (hgd : o.guard = none) (ty : TypeId) (x : Operand) (ho : o.op = .load ty x) (g p : Nat) (hx : a.eval x = .pointer (some ⟨g, p, none⟩))
    (cs : Array Value) (d : TypeDesc) (hc : ∀ j u, cs[j]? = some u → w.cell? ⟨g, p + j, none⟩ = some u) (hu : P.underlying ty = some d)
    (hd : d.isRow = true) (hsz : (P.info? ty).map (·.size) = some cs.size)
    (h : wpList P ops Q rest (a.put o.dst (.agg cs)) w) : wpList P ops Q (o :: rest) a w :=
  wpList_plain hgd fun _ hK => by
    unfold Oper.wp execOp
    simp only [ho, hx, Instr.loadAt, Instr.sureAddr, Sem.run_bind, Sem.run_pure, Result.andThen_ok, run_mid hc hu hd hsz]
    exact hK _ _ h
theorem wpList_gen {P : Program} {ops : Array Oper} {Q : Exit → Act → World → Prop} {l : List Oper} {a : Act} {w0 : World} (F : World → Prop) (h0 : F w0) (h : ∀ W1, F W1 → wpList P ops Q l a W1) : wpList P ops Q l a w0 := h _ h0
def leB (a b : ByteArray) : Bool := Op.bytesLess a.toList b.toList || (a.toList == b.toList)
theorem results_cell_tmp {P : Program} {fn : Func} {p q : Tmp} {ty : TypeId} (h : fn.results = #[.cell p ty, .tmp q]) (tmps : Array Value) (w : World) (g : Nat) (t : TypeId) (cs : Array Value) (fr : Nat × Nat) (d : TypeDesc) (v : Value)
    (hp : tmps.getD p undef = .pointer (some ⟨g, 0, none⟩)) (hq : tmps.getD q undef = v) (hg : w.heap[g]? = some (.cells cs t fr))
    (hu : P.underlying ty = some d) (hd : (match d with | .struct _ | .array _ _ => true | _ => false) = true) (hi : (P.info? ty).map (·.size) = some cs.size) :
    (results fn tmps).run P w = .ok (.tuple #[.agg cs, v]) w := by
  have hp' : tmps[p]?.getD undef = .pointer (some ⟨g, 0, none⟩) := by simpa using hp
  have hq' : tmps[q]?.getD undef = v := by simpa using hq
  simp [results, h, hp', hq', asAddr, run_loadVar_row w g t ty cs fr d hg hu hd hi]
theorem quiet_load {P : Program} {ops : Array Oper} {C : World → Prop} {Q : Act → Prop} {tm : Array Value} {df : List Deferred} {rest : List Oper} {ty0 : TypeId} {pos : String} {aft : Array Edge} {d : Nat} (v : Value) (ty : TypeId) (x : Operand) (p : Addr) (hx : Act.eval ⟨tm, df⟩ x = .pointer (some p))
    (hl : ∀ w, C w → (loadVar ty p).run P w = .ok v w) (h : wpQuiet P ops C Q rest ⟨tm.setIfInBounds d v, df⟩) : wpQuiet P ops C Q (⟨some d, .load ty x, ty0, pos, aft, none⟩ :: rest) ⟨tm, df⟩ := by
  refine wpQuiet_step fun K hK => ?_
  rw [if_pos (wanted_plain rfl)]
  refine ⟨v, fun w hw => ?_, hK _ h⟩
  unfold Oper.quietAt execOp
  simp only [hx, Instr.loadAt, Instr.sureAddr, Sem.run_bind, Sem.run_pure, Result.andThen_ok, hl w hw]
  exact ⟨rfl, rfl⟩

/-- Are two lists of the same length, and each two the same? -/
def eqAll {α : Type} (eq : α → α → Bool) : List α → List α → Bool
  | [], [] => true
  | a :: r, b :: q => eq a b && eqAll eq r q
  | _, _ => false
theorem eqAll_len {α : Type} {eq : α → α → Bool} : ∀ {r q : List α}, eqAll eq r q = true → r.length = q.length
  | [], [], _ => rfl
  | a :: r, b :: q, h => by
    simp [eqAll] at h
    simp [eqAll_len h.2]
  | [], _ :: _, h => by simp [eqAll] at h
  | _ :: _, [], h => by simp [eqAll] at h
theorem eqAll_iff {α : Type} {eq : α → α → Bool} : ∀ {r q : List α}, r.length = q.length → (eqAll eq r q = true ↔ ∀ (i : Nat) a b, r[i]? = some a → q[i]? = some b → eq a b = true)
  | [], [], _ => by simp [eqAll]
  | a :: r, b :: q, h => by
    have h' : r.length = q.length := by simpa using h
    simp only [eqAll, Bool.and_eq_true, eqAll_iff h']
    constructor
    · rintro ⟨p, t⟩ i x y hx hy
      cases i with
      | zero => simp at hx hy; subst hx; subst hy; exact p
      | succ i => exact t i x y (by simpa using hx) (by simpa using hy)
    · intro t
      exact ⟨t 0 a b rfl rfl, fun i x y hx hy => t (i + 1) x y (by simpa using hx) (by simpa using hy)⟩
  | [], _ :: _, h => by simp at h
  | _ :: _, [], h => by simp at h
end Go.Proofs.YthnoiohganknnabDoor
