/- The contract of read: tokens as a tree, or where they are no file. -/
/- The contract of read: tokens as a tree, or where they are no file. -/
/- The contract of rising: each token stands behind the one ahead of it. -/
/- The contract of deepest: the deepest node of a tree. -/
/- Lists for Parse: the kids of the nodes as they are laid. -/
/- The contract of Parse. -/
/- The contract of parse's Text. -/
/- The tokens of a text are few, small and near: so Text stands for every text. -/
import Derived.Test.YtbadafkfjfbnlaaGreatDoorMrgK
import Derived.Recover
import Derived.Defers
import Derived.Test.YtbadafkfjfbnlaaGreatDoorMrgD
namespace Go.Proofs.YtbadafkfjfbnlaaGreatDoor
set_option maxRecDepth 100000
open Go.RowKit

section
variable {P : Program} {ops : Array Oper} {Q : Exit → Act → List Frame → World → Prop} {i : Nat} {rest : List Nat} {a : Act} {cs cs' : List Frame} {w w' : World} {o : Oper} {v : Value}
structure WpO (P : Program) (ops : Array Oper) (Q : Exit → Act → List Frame → World → Prop) (l : List Nat) (a : Act) (cs : List Frame) (w : World) : Prop where
  out : wpOpsS P ops Q l a cs w
theorem opsS_end (h : Q .normal a cs w) : WpO P ops Q [] a cs w := ⟨h⟩
def oAt (ops : Array Oper) (i : Nat) : Oper := (ops[i]?).getD ((ops[0]?).getD ⟨none, .move (.tmp 0), 0, "", #[], none⟩)
theorem oAt_some (h : (ops[i]?).isSome = true) : ops[i]? = some (oAt ops i) := by
  unfold oAt
  cases hh : ops[i]? with
  | none => rw [hh] at h; cases h
  | some o => rfl
theorem opsS_value (a' : Act) (v : Value) (w' : World) (ho : (ops[i]?).isSome = true) (hw : Region.wanted (oAt ops i) (yielded ops a.tmps) = true) (hr : (execOp a.eval (oAt ops i)).run P w = .ok (.value v) w') (ha : a.put (oAt ops i).dst v = a') (h : WpO P ops Q rest a' cs w') : WpO P ops Q (i :: rest) a cs w := by
  refine ⟨?_⟩
  rw [wpOpsS, oAt_some ho]
  simp only [hw, hr, if_true]
  rw [← ha] at h
  exact h.out
theorem opsS_skip (a' : Act) (w' : World) (ho : (ops[i]?).isSome = true) (hw : Region.wanted (oAt ops i) (yielded ops a.tmps) = true) (hr : (execOp a.eval (oAt ops i)).run P w = .ok .skip w') (ha : a.put (oAt ops i).dst undef = a') (h : WpO P ops Q rest a' cs w') : WpO P ops Q (i :: rest) a cs w := by
  refine ⟨?_⟩
  rw [wpOpsS, oAt_some ho]
  simp only [hw, hr, if_true]
  rw [← ha] at h
  exact h.out
theorem opsS_recover (a' : Act) (v : Value) (cs' : List Frame) (ho : (ops[i]?).isSome = true) (hw : Region.wanted (oAt ops i) (yielded ops a.tmps) = true) (hr : (execOp a.eval (oAt ops i)).run P w = .ok .recover w) (hc : recoverD cs = some (v, cs')) (ha : a.put (oAt ops i).dst v = a') (h : WpO P ops Q rest a' cs' w) : WpO P ops Q (i :: rest) a cs w := by
  refine ⟨?_⟩
  rw [wpOpsS, oAt_some ho]
  simp only [hw, hr, hc, if_true]
  rw [← ha] at h
  exact h.out
theorem opsS_none (a' : Act) (ho : (ops[i]?).isSome = true) (hw : Region.wanted (oAt ops i) (yielded ops a.tmps) = true) (hr : (execOp a.eval (oAt ops i)).run P w = .ok .recover w) (hc : recoverD cs = none) (ha : a.put (oAt ops i).dst .nilIface = a') (h : WpO P ops Q rest a' cs w) : WpO P ops Q (i :: rest) a cs w := by
  refine ⟨?_⟩
  rw [wpOpsS, oAt_some ho]
  simp only [hw, hr, hc, if_true]
  rw [← ha] at h
  exact h.out
theorem opsS_store (a' : Act) (ty : TypeId) (x y : Operand) (g : Nat) (cells : Array Value) (t : TypeId) (old : Array Value) (ho : (ops[i]?).isSome = true) (hw : Region.wanted (oAt ops i) (yielded ops a.tmps) = true) (hop : (oAt ops i).op = .store ty x y) (hx : a.eval x = .pointer (some ⟨g, 0, none⟩)) (hy : a.eval y = .agg cells)
    (hg : w.heap[g]? = some (.cells old t (0, 0))) (hi : (P.info? ty).map (·.size) = some cells.size) (hold : old.size = cells.size) (h1 : cells.all (·.oneCell') = true) (ha : a.put (oAt ops i).dst undef = a')
    (h : WpO P ops Q rest a' cs (w.setRow g cells)) : WpO P ops Q (i :: rest) a cs w :=
  opsS_skip a' (w.setRow g cells) ho hw (by
    unfold execOp
    simp only [hop, hx, hy, Instr.storeAt, Instr.sureAddr, Sem.run_bind, Sem.run_pure, Result.andThen_ok, run_storeVar_row w g t ty old cells hg hi hold h1]) ha h
end
set_option maxRecDepth 100000 in
set_option maxHeartbeats 400000 in
theorem catch_wrong (k : Nat) (s z0 z1 : Int) (older : List PanicEntry) (w : World) (hk : w.heap[k]? = some (.cells #[.int .i64 z0, .int .i64 z1] 28 (0, 0))) :
    CallsD Tryz.prog 55 #[.pointer (some ⟨k, 0, none⟩)] (.panicking ({ v := .iface 97 (.agg (wroC s)), recovered := false } :: older)) w fun e u' w' =>
      e = .returned (.tuple #[]) ∧ u' = .panicking ({ v := .iface 97 (.agg (wroC s)), recovered := true } :: older) ∧ w'.heap[k]? = some (.cells (wroC s) 28 (0, 0)) ∧ w.grownBy w' (some k) := by
  refine callsD_of_wpS Tryz.func55 rfl fun c₀ cs hu => ?_
  apply wpS_seq
  apply wpS_region
  rw [Tryz.ntmps55]
  refine WpO.out ?_
  show WpO _ _ _ [0, 1, 2, 3, 4, 5, 6, 7] ⟨#[.pointer (some ⟨k, 0, none⟩), undef, undef, undef, undef, undef, undef, undef, undef, undef, undef], []⟩ _ _
  refine opsS_recover ⟨#[.pointer (some ⟨k, 0, none⟩), undef, undef, undef, .iface 97 (.agg (wroC s)), undef, undef, undef, undef, undef, undef], []⟩ (.iface 97 (.agg (wroC s))) ({ c₀ with mode := .panicking ({ v := .iface 97 (.agg (wroC s)), recovered := true } :: older) } :: cs) (by kernel_rfl) (by kernel_rfl) (by kernel_rfl) (by simp [recoverD, hu]) (by kernel_rfl) ?_
  refine opsS_value ⟨#[.pointer (some ⟨k, 0, none⟩), undef, undef, undef, .iface 97 (.agg (wroC s)), .tuple #[.agg (wroC s), .bool true], undef, undef, undef, undef, undef], []⟩ (.tuple #[.agg (wroC s), .bool true]) w (by kernel_rfl) (by kernel_rfl) (by kernel_rfl) (by kernel_rfl) ?_
  refine opsS_value ⟨#[.pointer (some ⟨k, 0, none⟩), undef, undef, .tuple #[.agg (wroC s), .bool true], .iface 97 (.agg (wroC s)), .tuple #[.agg (wroC s), .bool true], undef, undef, undef, undef, undef], []⟩ (.tuple #[.agg (wroC s), .bool true]) w (by kernel_rfl) (by kernel_rfl) (by kernel_rfl) (by kernel_rfl) ?_
  refine opsS_value ⟨#[.pointer (some ⟨k, 0, none⟩), undef, undef, .tuple #[.agg (wroC s), .bool true], .iface 97 (.agg (wroC s)), .tuple #[.agg (wroC s), .bool true], .agg (wroC s), undef, undef, undef, undef], []⟩ (.agg (wroC s)) w (by kernel_rfl) (by kernel_rfl) (by kernel_rfl) (by kernel_rfl) ?_
  refine opsS_value ⟨#[.pointer (some ⟨k, 0, none⟩), undef, undef, .tuple #[.agg (wroC s), .bool true], .iface 97 (.agg (wroC s)), .tuple #[.agg (wroC s), .bool true], .agg (wroC s), .bool true, undef, undef, undef], []⟩ (.bool true) w (by kernel_rfl) (by kernel_rfl) (by kernel_rfl) (by kernel_rfl) ?_
  refine opsS_value ⟨#[.pointer (some ⟨k, 0, none⟩), .pointer (some ⟨w.heap.size, 0, none⟩), undef, .tuple #[.agg (wroC s), .bool true], .iface 97 (.agg (wroC s)), .tuple #[.agg (wroC s), .bool true], .agg (wroC s), .bool true, undef, undef, undef], []⟩ (.pointer (some ⟨w.heap.size, 0, none⟩)) (w.alloc (.cells #[.int .i64 0, .int .i64 0] 97)) (by kernel_rfl) (by kernel_rfl) (by kernel_rfl) (by kernel_rfl) ?_
  have hn := heap_alloc_new w (.cells #[.int .i64 0, .int .i64 0] 97)
  have hb : Below w.heap.size w (w.alloc (.cells #[.int .i64 0, .int .i64 0] 97)) := (Below.refl _ _).alloc (Nat.le_refl _) _
  generalize w.alloc (.cells #[.int .i64 0, .int .i64 0] 97) = X at hn hb ⊢
  refine opsS_store ⟨#[.pointer (some ⟨k, 0, none⟩), .pointer (some ⟨w.heap.size, 0, none⟩), undef, .tuple #[.agg (wroC s), .bool true], .iface 97 (.agg (wroC s)), .tuple #[.agg (wroC s), .bool true], .agg (wroC s), .bool true, undef, undef, undef], []⟩ 97 (.tmp 1) (.tmp 6) w.heap.size (wroC s) 97 _ (by kernel_rfl) (by kernel_rfl) (by kernel_rfl) (by kernel_rfl) (by kernel_rfl) hn (by kernel_rfl) rfl (by simp [wroC, Value.oneCell']) (by kernel_rfl) ?_
  have hrow := heap_setRow_same (cs := wroC s) hn
  have hb2 : Below w.heap.size w (X.setRow w.heap.size (wroC s)) := below_setRow' hb (Nat.le_refl _) _
  generalize X.setRow w.heap.size (wroC s) = Y at hrow hb2 ⊢
  refine opsS_value ⟨#[.pointer (some ⟨k, 0, none⟩), .pointer (some ⟨w.heap.size, 0, none⟩), .bool true, .tuple #[.agg (wroC s), .bool true], .iface 97 (.agg (wroC s)), .tuple #[.agg (wroC s), .bool true], .agg (wroC s), .bool true, undef, undef, undef], []⟩ (.bool true) Y (by kernel_rfl) (by kernel_rfl) (by kernel_rfl) (by kernel_rfl) ?_
  have hkY : Y.heap[k]? = some (.cells #[.int .i64 z0, .int .i64 z1] 28 (0, 0)) := (hb2.block _ (lt_of_row hk)).trans hk
  have hklt := lt_of_row hk
  have c0 : Y.cell? ⟨w.heap.size, 0, none⟩ = some (.int .i64 210) := (cell_of_row _ _ 0 _ _ _ hrow).trans rfl
  have c1 : Y.cell? ⟨w.heap.size, 1, none⟩ = some (.int .i64 s) := (cell_of_row _ _ 1 _ _ _ hrow).trans rfl
  have d0 : Y.cell? ⟨k, 0, none⟩ = some (.int .i64 z0) := (cell_of_row _ _ 0 _ _ _ hkY).trans rfl
  have d1 : Y.cell? ⟨k, 1, none⟩ = some (.int .i64 z1) := (cell_of_row _ _ 1 _ _ _ hkY).trans rfl
  have f0 : Y.frozen? ⟨k, 0, none⟩ = false := frozen_of_row _ _ _ _ _ hkY
  have f1 : Y.frozen? ⟨k, 1, none⟩ = false := frozen_of_row _ _ _ _ _ hkY
  have HROW : Hid (((Y.setCell ⟨k, 0, none⟩ (.int .i64 210)).setCell ⟨k, 1, none⟩ (.int .i64 s)).heap[k]? = some (.cells (wroC s) 28 (0, 0))) := heap_setCell_same _ _ 1 _ _ _ (heap_setCell_same _ _ 0 _ _ _ hkY)
  have HG : Hid (w.grownBy ((Y.setCell ⟨k, 0, none⟩ (.int .i64 210)).setCell ⟨k, 1, none⟩ (.int .i64 s)) (some k)) := by
    have h1 := ((Below.refl 0 Y).setCell (p := ⟨k, 0, none⟩) (Nat.zero_le _) (.int .i64 210)).setCell (p := ⟨k, 1, none⟩) (Nat.zero_le _) (.int .i64 s)
    exact ⟨h1.os.trans hb2.os, h1.tape.trans hb2.tape, h1.output.trans hb2.output, Nat.le_trans hb2.size h1.size, fun j hj hjk => (heap_setCell_other _ _ _ _ (fun e => hjk (by rw [show j = k from e]))).trans ((heap_setCell_other _ _ _ _ (fun e => hjk (by rw [show j = k from e]))).trans (hb2.block j hj))⟩
  clear hn hb hrow hb2 hkY
  refine opsS_end ?_
  show Code.wpS _ _ _ _ _ _
  refine wpS_of_wp ?_
  go_wp2
  exact ⟨rfl, _, rfl, _, by kernel_rfl, rfl, rfl, HROW, HG⟩
set_option maxRecDepth 100000 in
set_option maxHeartbeats 400000 in
theorem catch_idle (k : Nat) (w : World) :
    CallsD Tryz.prog 55 #[.pointer (some ⟨k, 0, none⟩)] .returning w fun e u' w' =>
      e = .returned (.tuple #[]) ∧ u' = .returning ∧ Below w.heap.size w w' := by
  refine callsD_of_wpS Tryz.func55 rfl fun c₀ cs hu => ?_
  apply wpS_seq
  apply wpS_region
  rw [Tryz.ntmps55]
  refine WpO.out ?_
  show WpO _ _ _ [0, 1, 2, 3, 4, 5, 6, 7] ⟨#[.pointer (some ⟨k, 0, none⟩), undef, undef, undef, undef, undef, undef, undef, undef, undef, undef], []⟩ _ _
  refine opsS_none ⟨#[.pointer (some ⟨k, 0, none⟩), undef, undef, undef, .nilIface, undef, undef, undef, undef, undef, undef], []⟩ (by kernel_rfl) (by kernel_rfl) (by kernel_rfl) (by simp [recoverD, hu]) (by kernel_rfl) ?_
  refine opsS_value ⟨#[.pointer (some ⟨k, 0, none⟩), undef, undef, undef, .nilIface, .tuple #[.agg #[.int .i64 0, .int .i64 0], .bool false], undef, undef, undef, undef, undef], []⟩ (.tuple #[.agg #[.int .i64 0, .int .i64 0], .bool false]) w (by kernel_rfl) (by kernel_rfl) (by kernel_rfl) (by kernel_rfl) ?_
  refine opsS_value ⟨#[.pointer (some ⟨k, 0, none⟩), undef, undef, .tuple #[.agg #[.int .i64 0, .int .i64 0], .bool false], .nilIface, .tuple #[.agg #[.int .i64 0, .int .i64 0], .bool false], undef, undef, undef, undef, undef], []⟩ (.tuple #[.agg #[.int .i64 0, .int .i64 0], .bool false]) w (by kernel_rfl) (by kernel_rfl) (by kernel_rfl) (by kernel_rfl) ?_
  refine opsS_value ⟨#[.pointer (some ⟨k, 0, none⟩), undef, undef, .tuple #[.agg #[.int .i64 0, .int .i64 0], .bool false], .nilIface, .tuple #[.agg #[.int .i64 0, .int .i64 0], .bool false], .agg #[.int .i64 0, .int .i64 0], undef, undef, undef, undef], []⟩ (.agg #[.int .i64 0, .int .i64 0]) w (by kernel_rfl) (by kernel_rfl) (by kernel_rfl) (by kernel_rfl) ?_
  refine opsS_value ⟨#[.pointer (some ⟨k, 0, none⟩), undef, undef, .tuple #[.agg #[.int .i64 0, .int .i64 0], .bool false], .nilIface, .tuple #[.agg #[.int .i64 0, .int .i64 0], .bool false], .agg #[.int .i64 0, .int .i64 0], .bool false, undef, undef, undef], []⟩ (.bool false) w (by kernel_rfl) (by kernel_rfl) (by kernel_rfl) (by kernel_rfl) ?_
  refine opsS_value ⟨#[.pointer (some ⟨k, 0, none⟩), .pointer (some ⟨w.heap.size, 0, none⟩), undef, .tuple #[.agg #[.int .i64 0, .int .i64 0], .bool false], .nilIface, .tuple #[.agg #[.int .i64 0, .int .i64 0], .bool false], .agg #[.int .i64 0, .int .i64 0], .bool false, undef, undef, undef], []⟩ (.pointer (some ⟨w.heap.size, 0, none⟩)) (w.alloc (.cells #[.int .i64 0, .int .i64 0] 97)) (by kernel_rfl) (by kernel_rfl) (by kernel_rfl) (by kernel_rfl) ?_
  have hn := heap_alloc_new w (.cells #[.int .i64 0, .int .i64 0] 97)
  have hb : Below w.heap.size w (w.alloc (.cells #[.int .i64 0, .int .i64 0] 97)) := (Below.refl _ _).alloc (Nat.le_refl _) _
  generalize w.alloc (.cells #[.int .i64 0, .int .i64 0] 97) = X at hn hb ⊢
  refine opsS_store ⟨#[.pointer (some ⟨k, 0, none⟩), .pointer (some ⟨w.heap.size, 0, none⟩), undef, .tuple #[.agg #[.int .i64 0, .int .i64 0], .bool false], .nilIface, .tuple #[.agg #[.int .i64 0, .int .i64 0], .bool false], .agg #[.int .i64 0, .int .i64 0], .bool false, undef, undef, undef], []⟩ 97 (.tmp 1) (.tmp 6) w.heap.size #[.int .i64 0, .int .i64 0] 97 _ (by kernel_rfl) (by kernel_rfl) (by kernel_rfl) (by kernel_rfl) (by kernel_rfl) hn (by kernel_rfl) rfl (by simp [Value.oneCell']) (by kernel_rfl) ?_
  have hb2 : Below w.heap.size w (X.setRow w.heap.size #[.int .i64 0, .int .i64 0]) := below_setRow' hb (Nat.le_refl _) _
  generalize X.setRow w.heap.size #[.int .i64 0, .int .i64 0] = Y at hb2 ⊢
  refine opsS_value ⟨#[.pointer (some ⟨k, 0, none⟩), .pointer (some ⟨w.heap.size, 0, none⟩), .bool false, .tuple #[.agg #[.int .i64 0, .int .i64 0], .bool false], .nilIface, .tuple #[.agg #[.int .i64 0, .int .i64 0], .bool false], .agg #[.int .i64 0, .int .i64 0], .bool false, undef, undef, undef], []⟩ (.bool false) Y (by kernel_rfl) (by kernel_rfl) (by kernel_rfl) (by kernel_rfl) ?_
  have HB : Hid (Below w.heap.size w Y) := hb2
  clear hn hb hb2
  refine opsS_end ?_
  show Code.wpS _ _ _ _ _ _
  refine wpS_of_wp ?_
  go_wp2
  refine ⟨rfl, .returning, ?_, _, by kernel_rfl, rfl, rfl, HB⟩
  cases c₀
  cases hu
  rfl
end Go.Proofs.YtbadafkfjfbnlaaGreatDoor

namespace Go.Proofs.YtbadafkfjfbnlaaGreatDoor
set_option maxRecDepth 100000
open Go.RowKit

theorem results_cc {P : Program} {fn : Func} {p q : Tmp} {ty ty2 : TypeId} (h : fn.results = #[.cell p ty, .cell q ty2]) (tmps : Array Value) (w : World) (g g2 : Nat) (t t2 : TypeId) (cs cs2 : Array Value) (fr fr2 : Nat × Nat) (d d2 : TypeDesc)
    (hp : tmps.getD p undef = .pointer (some ⟨g, 0, none⟩)) (hq : tmps.getD q undef = .pointer (some ⟨g2, 0, none⟩)) (hg : w.heap[g]? = some (.cells cs t fr)) (hg2 : w.heap[g2]? = some (.cells cs2 t2 fr2))
    (hu : P.underlying ty = some d) (hd : (match d with | .struct _ | .array _ _ => true | _ => false) = true) (hi : (P.info? ty).map (·.size) = some cs.size)
    (hu2 : P.underlying ty2 = some d2) (hd2 : (match d2 with | .struct _ | .array _ _ => true | _ => false) = true) (hi2 : (P.info? ty2).map (·.size) = some cs2.size) :
    (results fn tmps).run P w = .ok (.tuple #[.agg cs, .agg cs2]) w := by
  have hp' : tmps[p]?.getD undef = .pointer (some ⟨g, 0, none⟩) := by simpa using hp
  have hq' : tmps[q]?.getD undef = .pointer (some ⟨g2, 0, none⟩) := by simpa using hq
  simp [results, h, hp', hq', asAddr, run_loadVar_row w g t ty cs fr d hg hu hd hi, run_loadVar_row w g2 t2 ty2 cs2 fr2 d2 hg2 hu2 hd2 hi2]
theorem TrAt.other {B : Nat} {w : World} {v : Value} {L : List Nd} (h : TrAt B w v L) {k : Nat} {old : Array Value} {t : TypeId} (hk : w.heap[k]? = some (.cells old t (0, 0))) (ht : t = 25 ∨ t = 28) (hB : k < B) (i : Nat) (x : Value) : TrAt B (w.setCell ⟨k, i, none⟩ x) v L := by
  obtain ⟨N, S, h1, h2, h3⟩ := h
  refine ⟨N, S, h1.keep fun q hq => heap_setCell_other _ _ _ _ fun e => ?_, h2.keep (fun _ h => h) fun j hj => heap_setCell_other _ _ _ _ fun e => ?_, fun j hj => ⟨(h3 j hj).1, by simp; exact (h3 j hj).2⟩⟩
  · exact h1.ne hk (by rcases ht with rfl | rfl <;> decide) (by rw [hq, show q = k from e])
  · have h5 : j = k := e
    have := (h3 j hj).1
    omega
/-- What read tells of tokens. -/
def RdP (w : World) (ts : List Tok) (e : Ending) (w' : World) : Prop :=
  Below w.heap.size w w' ∧ match filO ts with
      | .ok t _ => cntP t ≤ 400000 ∧ ∃ v, e = .returned (.tuple #[.agg #[v], .agg #[.int .i64 0, .int .i64 0]]) ∧ TrAt w.heap.size w' v (layP 0 t)
      | .bad s => e = .returned (.tuple #[.agg #[.slice none 0 0], .agg (wroC s)])
      | .out => False
set_option maxRecDepth 100000 in
set_option maxHeartbeats 400000 in
theorem read_any (w : World) (st : Option Addr) (cap : Nat) (ts : List Tok) (few : ts.length ≤ 100000) (ok : ∀ t ∈ ts, -1000000000000000000 ≤ t.pos ∧ t.pos ≤ 1000000000000000000 ∧ t.text.size ≤ 100000)
    (henv : ∀ W : World, (∀ k, k < w.heap.size → W.heap[k]? = w.heap[k]?) → RowsT W st ts ∧ Tabl W) :
    Calls Tryz.prog 39 #[.slice st ts.length cap] w (RdP w ts) := by
  have HENV : Hid (∀ W : World, (∀ k, k < w.heap.size → W.heap[k]? = w.heap[k]?) → RowsT W st ts ∧ Tabl W) := henv
  have HOK : Hid (∀ t ∈ ts, -1000000000000000000 ≤ t.pos ∧ t.pos ≤ 1000000000000000000 ∧ t.text.size ≤ 100000) := ok
  clear henv ok
  have hmf : ∀ (fn : Fn) (first cap : Array Value) (w : World), (Instr.makeFunc fn first cap).run Tryz.prog w = .ok (.func fn first cap) w := fun _ _ _ _ => rfl
  go_enter_defers Tryz.func39, Tryz.ntmps39
  go_wp2_with fail
  refine calls_gen (fun W => W.heap[w.heap.size]? = some (.cells #[.slice none 0 0] 25 (0, 0)) ∧ W.heap[w.heap.size + 1]? = some (.cells #[.int .i64 0, .int .i64 0] 28 (0, 0)) ∧ W.heap[w.heap.size + 1 + 1]? = some (.cells #[.slice st ts.length cap, .int .i64 0] 100 (0, 0)) ∧ Below w.heap.size w W) ?_ ?_
  · have n0 := heap_alloc_new w (.cells #[.slice none 0 0] 25)
    have n1 := heap_alloc_new (w.alloc (.cells #[.slice none 0 0] 25)) (.cells #[.int .i64 0, .int .i64 0] 28)
    have n2 := heap_alloc_new ((w.alloc (.cells #[.slice none 0 0] 25)).alloc (.cells #[.int .i64 0, .int .i64 0] 28)) (.cells #[.slice st ts.length cap, .int .i64 0] 100)
    simp only [World.size_alloc] at n1 n2
    exact ⟨(Below.heap_alloc _ _ _ (by simp; try omega)).trans ((Below.heap_alloc _ _ _ (by simp)).trans n0), (Below.heap_alloc _ _ _ (by simp)).trans n1, n2, (((Below.refl _ _).alloc (Nat.le_refl _) _).alloc (by simp) _).alloc (by simp; try omega) _⟩
  rintro W ⟨hz, hs, hr, hB⟩
  have hsz : w.heap.size + 1 + 1 < W.heap.size := lt_of_row hr
  have hR : Rdr (w.heap.size + 1 + 1 + 1) W (w.heap.size + 1 + 1) st cap ts 0 := ⟨hr, Nat.zero_le _, few, HOK.out, by omega, by omega, fun W' hW' => HENV.out W' fun k hk => (hW' k (by omega) (by omega)).trans (hB.block k hk)⟩
  refine (qfile_of (12 * ts.length + 12) hR fil_ends).mono ?_
  rintro e W4 ⟨hG, hm⟩
  have hz4 : W4.heap[w.heap.size]? = some (.cells #[.slice none 0 0] 25 (0, 0)) := (hG.block _ (by omega) (by simp; try omega)).trans hz
  have hs4 : W4.heap[w.heap.size + 1]? = some (.cells #[.int .i64 0, .int .i64 0] 28 (0, 0)) := (hG.block _ (by omega) (by simp; try omega)).trans hs
  have hB4 : Below w.heap.size w W4 := ⟨hG.os.trans hB.os, hG.tape.trans hB.tape, hG.output.trans hB.output, Nat.le_trans hB.size hG.size, fun k hk => (hG.block k (by omega) (by simp; try omega)).trans (hB.block k hk)⟩
  have HX : Hid (filP ts (12 * ts.length + 12) 0 = filO ts) := rfl
  rw [HX.out] at hm
  clear HX hG hR hB hz hs hr
  obtain ⟨r, hr⟩ : ∃ r, filO ts = r := ⟨_, rfl⟩
  rw [hr] at hm
  cases r with
  | out => exact hm.elim
  | bad s =>
    cases hm
    refine leaves_cons (f := 55) (args := #[.pointer (some ⟨w.heap.size + 1, 0, none⟩)]) (by simp) (by kernel_rfl) ?_
    refine (catch_wrong (w.heap.size + 1) s 0 0 [] W4 hs4).mono ?_
    rintro e u' W5 ⟨rfl, rfl, hs5, hG5⟩
    have hz5 : W5.heap[w.heap.size]? = some (.cells #[.slice none 0 0] 25 (0, 0)) := (hG5.block _ (lt_of_row hz4) (by simp; try omega)).trans hz4
    have hB5 : Below w.heap.size w W5 := ⟨hG5.os.trans hB4.os, hG5.tape.trans hB4.tape, hG5.output.trans hB4.output, Nat.le_trans hB4.size hG5.size, fun k hk => (hG5.block k (Nat.lt_of_lt_of_le hk hB4.size) (by simp; try omega)).trans (hB4.block k hk)⟩
    refine ⟨_, results_cc Tryz.results39 _ _ w.heap.size (w.heap.size + 1) _ _ _ _ (0, 0) (0, 0) _ _ rfl rfl hz5 hs5 Tryz.underlying25 rfl (by kernel_rfl) Tryz.underlying28 rfl (by kernel_rfl), hB5, ?_⟩
    rw [hr]
  | ok t q =>
    obtain ⟨b, rfl, hP, hRd⟩ := hm
    have hb4 := lt_of_row hs4
    have hcnt : cntP t ≤ 400000 := by
      have h1 := fil_cnt hr
      have h2 := hRd.le
      omega
    have HP : Hid _ := hP
    have HB4 : Hid _ := hB4
    clear hP hRd hB4
    go_wp2_with fail
    refine (number_nodes HP.out (fun j h => h.2) hcnt).mono ?_
    rintro e W5 ⟨v, rfl, hT5, hB5⟩
    obtain ⟨s5, c5, rfl⟩ := hT5.shape
    have hz5 := (hB5.block _ (lt_of_row hz4)).trans hz4
    have hs5 := (hB5.block _ (lt_of_row hs4)).trans hs4
    have HT : Hid (TrAt w.heap.size (((W5.setCell ⟨w.heap.size, 0, none⟩ (.slice s5 (layP 0 t).length c5)).setCell ⟨w.heap.size + 1, 0, none⟩ (.int .i64 0)).setCell ⟨w.heap.size + 1, 1, none⟩ (.int .i64 0)) (.slice s5 (layP 0 t).length c5) (layP 0 t)) := by
      have h1 := hT5.other hz5 (.inl rfl) (by omega) 0 (.slice s5 (layP 0 t).length c5)
      have hs6 := (heap_setCell_other W5 ⟨w.heap.size, 0, none⟩ (w.heap.size + 1) (.slice s5 (layP 0 t).length c5) (by simp)).trans hs5
      have h2 := h1.other hs6 (.inr rfl) (by omega) 0 (.int .i64 0)
      have hs7 := heap_setCell_same _ _ 0 _ _ (.int .i64 0) hs6
      exact (h2.other hs7 (.inr rfl) (by omega) 1 (.int .i64 0)).mono (by omega)
    have HZ : Hid ((((W5.setCell ⟨w.heap.size, 0, none⟩ (.slice s5 (layP 0 t).length c5)).setCell ⟨w.heap.size + 1, 0, none⟩ (.int .i64 0)).setCell ⟨w.heap.size + 1, 1, none⟩ (.int .i64 0)).heap[w.heap.size]? = some (.cells #[.slice s5 (layP 0 t).length c5] 25 (0, 0))) :=
      (heap_setCell_other _ _ _ _ (by simp)).trans ((heap_setCell_other _ _ _ _ (by simp)).trans (heap_setCell_same _ _ 0 _ _ _ hz5))
    have HS : Hid ((((W5.setCell ⟨w.heap.size, 0, none⟩ (.slice s5 (layP 0 t).length c5)).setCell ⟨w.heap.size + 1, 0, none⟩ (.int .i64 0)).setCell ⟨w.heap.size + 1, 1, none⟩ (.int .i64 0)).heap[w.heap.size + 1]? = some (.cells #[.int .i64 0, .int .i64 0] 28 (0, 0))) :=
      heap_setCell_same _ _ 1 _ _ _ (heap_setCell_same _ _ 0 _ _ _ ((heap_setCell_other _ _ _ _ (by simp)).trans hs5))
    have HB : Hid (Below w.heap.size w (((W5.setCell ⟨w.heap.size, 0, none⟩ (.slice s5 (layP 0 t).length c5)).setCell ⟨w.heap.size + 1, 0, none⟩ (.int .i64 0)).setCell ⟨w.heap.size + 1, 1, none⟩ (.int .i64 0))) :=
      (((HB4.out.trans (hB5.mono (by omega))).setCell (p := ⟨w.heap.size, 0, none⟩) (Nat.le_refl _) _).setCell (p := ⟨w.heap.size + 1, 0, none⟩) (Nat.le_succ _) _).setCell (p := ⟨w.heap.size + 1, 1, none⟩) (Nat.le_succ _) _
    have z0 : W5.cell? ⟨w.heap.size, 0, none⟩ = some (.slice none 0 0) := (cell_of_row _ _ 0 _ _ _ hz5).trans rfl
    have f0 : W5.frozen? ⟨w.heap.size, 0, none⟩ = false := frozen_of_row _ _ _ _ _ hz5
    have s0 : W5.cell? ⟨w.heap.size + 1, 0, none⟩ = some (.int .i64 0) := (cell_of_row _ _ 0 _ _ _ hs5).trans rfl
    have s1 : W5.cell? ⟨w.heap.size + 1, 1, none⟩ = some (.int .i64 0) := (cell_of_row _ _ 1 _ _ _ hs5).trans rfl
    have g0 : W5.frozen? ⟨w.heap.size + 1, 0, none⟩ = false := frozen_of_row _ _ _ _ _ hs5
    have g1 : W5.frozen? ⟨w.heap.size + 1, 1, none⟩ = false := frozen_of_row _ _ _ _ _ hs5
    have HR : Hid _ := hr
    clear hz5 hs5 hz4 hs4 hT5 hB5 HP HB4 hr
    generalize (layP 0 t).length = nn at HT HZ HS HB ⊢
    go_wp2
    refine leaves_cons (f := 55) (args := #[.pointer (some ⟨w.heap.size + 1, 0, none⟩)]) (by simp) (by kernel_rfl) ?_
    refine (catch_idle (w.heap.size + 1) _).mono ?_
    rintro e u' W6 ⟨rfl, rfl, hB6⟩
    refine ⟨_, results_cc Tryz.results39 _ _ w.heap.size (w.heap.size + 1) _ _ _ _ (0, 0) (0, 0) _ _ rfl rfl ((hB6.block _ (lt_of_row HZ.out)).trans HZ.out) ((hB6.block _ (lt_of_row HS.out)).trans HS.out) Tryz.underlying25 rfl (by kernel_rfl) Tryz.underlying28 rfl (by kernel_rfl), HB.out.trans (hB6.mono HB.out.size), ?_⟩
    rw [HR.out]
    exact ⟨hcnt, _, rfl, HT.out.below hB6⟩
end Go.Proofs.YtbadafkfjfbnlaaGreatDoor

namespace Go.Proofs.YtbadafkfjfbnlaaGreatDoor
set_option maxRecDepth 100000
open Go.RowKit

/-- Does each token stand behind the one ahead of it? -/
def risB : Int → List Tok → Bool
  | _, [] => true
  | last, t :: r => if t.pos ≤ last then false else risB t.pos r
set_option maxRecDepth 100000 in
set_option maxHeartbeats 1000000 in
theorem rising_any (sp : Option Addr) (cap : Nat) (ts : List Tok) (w : World) (hr : RowsT w sp ts) (hm : ts.length ≤ 100000) :
    Calls Tryz.prog 38 #[.slice sp ts.length cap] w fun e w' => e = .returned (.bool (risB (-1) ts)) ∧ Below w.heap.size w w' := by
  have HR : Hid (RowsT w sp ts) := hr
  clear hr
  go_enter Tryz.func38, Tryz.ntmps38
  go_wp2
  go_loopw [3, 8] (fun l i wr => ∃ (t : Nat) (last : Int), t ≤ ts.length ∧ i = .int .i64 t ∧ l = .int .i64 last ∧ Below w.heap.size w wr ∧ risB last (ts.drop t) = risB (-1) ts) (fun l i _ => ts.length - (intOf i).toNat)
  case atStart => exact ⟨0, -1, Nat.zero_le _, rfl, rfl, Below.refl _ _, rfl⟩
  case round =>
    obtain ⟨t, last, ht, rfl, rfl, hB, hch⟩ := hrel
    have HB : Hid (Below w.heap.size w wr) := hB
    have HCH : Hid (risB last (ts.drop t) = risB (-1) ts) := hch
    clear hB hch
    by_cases hlt : t < ts.length
    · have hd : decide ((t : Int) < ts.length) = true := by simp; omega
      obtain ⟨b, o, rfl, -⟩ := HR.out (by omega)
      obtain ⟨x, hx⟩ : ∃ x, ts[t]? = some x := ⟨_, List.getElem?_eq_getElem (by omega)⟩
      obtain ⟨k0, k1, k2⟩ := tok_cell (RowsAt.below HR.out HB.out) hx
      have HD : Hid (ts.drop t = x :: ts.drop (t + 1)) := by
        have hg := List.getElem?_eq_some_iff.1 hx
        show ts.drop t = x :: ts.drop (t + 1)
        rw [← List.getElem_cons_drop (h := hlt), hg.2]
      clear hx
      have HA : Hid (Below w.heap.size w (wr.alloc (.cells x.cells 60 (0, 0)))) := HB.out.alloc HB.out.size _
      by_cases hp : x.pos ≤ last
      · have HN : Hid (false = risB (-1) ts) := by rw [← HCH.out, HD.out, risB, if_pos hp]; exact rfl
        go_wp2
        go_ret
        exact ⟨by rw [← HN.out]; exact rfl, HA.out⟩
      · have HN : Hid (risB x.pos (ts.drop (t + 1)) = risB (-1) ts) := by rw [← HCH.out, HD.out, risB, if_neg hp]; exact rfl
        go_wp2
        refine ⟨⟨t + 1, x.pos, by omega, by congr 1, rfl, HA.out, HN.out⟩, ?_⟩
        show ts.length - ((t : Int) + 1).toNat < ts.length - (t : Int).toNat
        omega
    · have hd : decide ((t : Int) < ts.length) = false := by simp; omega
      have HN : Hid (true = risB (-1) ts) := by rw [← HCH.out, List.drop_eq_nil_of_le (by omega)]; exact rfl
      go_wp2
      go_ret
      exact ⟨by rw [← HN.out]; exact rfl, HB.out⟩
end Go.Proofs.YtbadafkfjfbnlaaGreatDoor

namespace Go.Proofs.YtbadafkfjfbnlaaGreatDoor
set_option maxRecDepth 100000
open Go.RowKit

/-- The greatest depth, of nodes from one on. -/
def dpF : (Nat → Int) → Nat → Int → List Nd → Int
  | _, _, m, [] => m
  | D, i, m, d :: r => dpF (fun j => if j ∈ d.kids then D i + 1 else upd D i (D i + 1) j) (i + 1) (max m (D i + 1)) r
theorem make_ints (n : Nat) (hn : n ≤ 400000) (w : World) : (Instr.makeSlice 47 (.int .i64 n) (.int .i64 n)).run Tryz.prog w = .ok (.slice (some ⟨w.heap.size, 0, none⟩) n n) (w.alloc (.cells (arr .i64 n fun _ => 0) 3)) := by
  have h : (Tryz.prog.info? 3).map (fun i => (i.zero, i.size, i.bytes)) = some (some (.int .i64 0), 1, 8) := by kernel_rfl
  cases hi : Tryz.prog.info? 3 with
  | none => rw [hi] at h; cases h
  | some i =>
    rw [hi] at h
    simp only [Option.map_some, Option.some.injEq, Prod.mk.injEq] at h
    obtain ⟨hz, hs, hb⟩ := h
    have h := run_makeSlice (P := Tryz.prog) w 47 3 i (.int .i64 0) Tryz.underlying47 hi hz .i64 .i64 n n (by omega) (by omega) (by rw [hs]; omega) (by rw [hb]; omega) (by omega)
    rw [show ((n : Int)).toNat = n by omega, hs, Nat.mul_one] at h
    have e : madeCells (Value.int .i64 0).cells n = arr .i64 n fun _ => 0 := by
      apply Array.ext
      · simp [madeCells, arr, Value.cells]
      · intro j h1 h2
        simp [madeCells, arr, Value.cells, Nat.mod_one]
    rw [h, e]
theorem node_cell {w : World} {b o i : Nat} {N : List NdM} (h : RowsAt w 7 NdM.cells (some ⟨b, o, none⟩) N) {m : NdM} (hm : N[i]? = some m) (j : Nat) (u : Value) (hu : m.cells[j]? = some u) : w.cell? ⟨b, o + i * 7 + j, none⟩ = some u := by
  obtain ⟨b', o', e, hc⟩ := h (by have := (List.getElem?_eq_some_iff.1 hm).1; omega)
  injection e with e
  injection e with e1 e2
  subst e1 e2
  exact hc i m hm j u hu
set_option maxRecDepth 100000 in
set_option maxHeartbeats 1000000 in
theorem deepest_any (w : World) (sp : Option Addr) (cap : Nat) (N : List NdM) (S : Nat → Prop) (L : List Nd) (hN : RowsAt w 7 NdM.cells sp N) (hP : Rep w S N L) (hn : L.length ≤ 400000) (hk : ∀ d ∈ L, (∀ k ∈ d.kids, k < L.length) ∧ d.kids.length ≤ 400000) :
    Calls Tryz.prog 40 #[.agg #[.slice sp L.length cap]] w fun e w' => e = .returned (.int .i64 (dpF (fun _ => 0) 0 0 L)) ∧ Below w.heap.size w w' := by
  have HN : Hid (RowsAt w 7 NdM.cells sp N) := hN
  have HP : Hid (Rep w S N L) := hP
  have HK : Hid (∀ d ∈ L, (∀ k ∈ d.kids, k < L.length) ∧ d.kids.length ≤ 400000) := hk
  have hmk := make_ints L.length hn
  clear hN hP hk
  go_enter Tryz.func40, Tryz.ntmps40
  go_wp2
  refine wp_gen (fun W => W.heap[w.heap.size + 1]? = some (.cells (arr .i64 L.length fun _ => 0) 3 (0, 0)) ∧ Below w.heap.size w W) ?_ ?_
  · exact ⟨by have h := heap_alloc_new (w.alloc (.cells #[.slice sp L.length cap] 25)) (.cells (arr .i64 L.length fun _ => 0) 3); simpa using h, ((Below.refl _ _).alloc (Nat.le_refl _) _).alloc (by simp) _⟩
  rintro W0 ⟨hK0, hB0⟩
  clear hmk
  go_loopw [4, 16] (fun l i wr => ∃ (t : Nat) (D : Nat → Int) (m : Int), t ≤ L.length ∧ i = .int .i64 t ∧ l = .int .i64 m ∧ Below w.heap.size w wr ∧ wr.heap[w.heap.size + 1]? = some (.cells (arr .i64 L.length D) 3 (0, 0)) ∧ (∀ j, 0 ≤ D j ∧ D j ≤ t) ∧ dpF D t m (L.drop t) = dpF (fun _ => 0) 0 0 L) (fun l i _ => L.length - (intOf i).toNat)
  case atStart => exact ⟨0, fun _ => 0, 0, Nat.zero_le _, rfl, rfl, hB0, hK0, fun _ => by simp, rfl⟩
  case round =>
    obtain ⟨t, D, m, ht, rfl, rfl, hB, hrow, hD, hch⟩ := hrel
    have HB : Hid (Below w.heap.size w wr) := hB
    have HROW : Hid (wr.heap[w.heap.size + 1]? = some (.cells (arr .i64 L.length D) 3 (0, 0))) := hrow
    have HCH : Hid (dpF D t m (L.drop t) = dpF (fun _ => 0) 0 0 L) := hch
    have HD : Hid (∀ j, 0 ≤ D j ∧ D j ≤ t) := hD
    clear hB hch hrow hD
    by_cases hlt : t < L.length
    · have hd : decide ((t : Int) < L.length) = true := by simp; omega
      have hNl : N.length = L.length := HP.out.1
      obtain ⟨b, o, rfl, -⟩ := HN.out (by omega)
      obtain ⟨d, hx⟩ : ∃ d, L[t]? = some d := ⟨_, List.getElem?_eq_getElem (by omega)⟩
      obtain ⟨x, hm⟩ : ∃ x, N[t]? = some x := ⟨_, List.getElem?_eq_getElem (by omega)⟩
      have hR := RowsAt.below HN.out HB.out
      have k0 : wr.cell? ⟨b, o + t * 7, none⟩ = some (.int .i64 x.k) := node_cell hR hm 0 _ rfl
      have k1 : wr.cell? ⟨b, o + t * 7 + 1, none⟩ = some (.string x.x) := node_cell hR hm 1 _ rfl
      have k2 : wr.cell? ⟨b, o + t * 7 + 2, none⟩ = some (.int .i64 x.n) := node_cell hR hm 2 _ rfl
      have k3 : wr.cell? ⟨b, o + t * 7 + 3, none⟩ = some (.slice x.ks x.kn x.kc) := node_cell hR hm 3 _ rfl
      have k4 : wr.cell? ⟨b, o + t * 7 + 4, none⟩ = some (.int .i64 x.a) := node_cell hR hm 4 _ rfl
      have k5 : wr.cell? ⟨b, o + t * 7 + 5, none⟩ = some (.int .i64 x.f) := node_cell hR hm 5 _ rfl
      have k6 : wr.cell? ⟨b, o + t * 7 + 6, none⟩ = some (.int .i64 x.t) := node_cell hR hm 6 _ rfl
      obtain ⟨-, hkn, hkr, -, -⟩ := HP.out.2 t x d hm hx
      have HKR : Hid (RowsAt w 1 intC x.ks d.kids) := hkr
      have HDR : Hid (L.drop t = d :: L.drop (t + 1)) := by
        have hg := List.getElem?_eq_some_iff.1 hx
        show L.drop t = d :: L.drop (t + 1)
        rw [← List.getElem_cons_drop (h := hlt), hg.2]
      have HKD : Hid (∀ k ∈ d.kids, k < L.length) := (HK.out d (List.mem_of_getElem? hx)).1
      have hkl := (HK.out d (List.mem_of_getElem? hx)).2
      clear hx hm hkr hR
      rw [hkn] at k3
      clear hkn
      have hlt1 := lt_of_row HROW.out
      have hrB := row_set HROW.out t (D t + 1)
      have ca := row_cell HROW.out hlt
      have fa : wr.frozen? ⟨w.heap.size + 1, t, none⟩ = false := frozen_of_row _ _ _ _ _ HROW.out
      have cb := row_cell hrB hlt
      have cu : upd D t (D t + 1) t = D t + 1 := by simp [upd]
      rw [cu] at cb
      clear cu
      have HRB : Hid (((wr.setCell ⟨w.heap.size + 1, t, none⟩ (.int .i64 (D t + 1))).alloc (.cells #[.int .i64 x.k, .string x.x, .int .i64 x.n, .slice x.ks d.kids.length x.kc, .int .i64 x.a, .int .i64 x.f, .int .i64 x.t] 49 (0, 0))).heap[w.heap.size + 1]? = some (.cells (arr .i64 L.length (upd D t (D t + 1))) 3 (0, 0))) := (Below.heap_alloc _ _ _ (lt_of_row hrB)).trans hrB
      have HBB : Hid (Below w.heap.size w ((wr.setCell ⟨w.heap.size + 1, t, none⟩ (.int .i64 (D t + 1))).alloc (.cells #[.int .i64 x.k, .string x.x, .int .i64 x.n, .slice x.ks d.kids.length x.kc, .int .i64 x.a, .int .i64 x.f, .int .i64 x.t] 49 (0, 0)))) := (HB.out.setCell (p := ⟨w.heap.size + 1, t, none⟩) (Nat.le_succ _) _).alloc (by simp; exact HB.out.size) _
      obtain ⟨hd0, hd1⟩ := HD.out t
      clear hrB
      go_wp2_with fail
      refine wp_gen (fun W => W.heap[w.heap.size + 1]? = some (.cells (arr .i64 L.length (upd D t (D t + 1))) 3 (0, 0)) ∧ Below w.heap.size w W) ⟨HRB.out, HBB.out⟩ ?_
      rintro W1 ⟨hr1, hb1⟩
      have HNX : Hid (dpF (fun j => if j ∈ d.kids then D t + 1 else upd D t (D t + 1) j) (t + 1) (max m (D t + 1)) (L.drop (t + 1)) = dpF (fun _ => 0) 0 0 L) := by
        rw [← HCH.out, HDR.out]
        exact rfl
      have HDN : Hid (∀ j, 0 ≤ (if j ∈ d.kids then D t + 1 else upd D t (D t + 1) j) ∧ (if j ∈ d.kids then D t + 1 else upd D t (D t + 1) j) ≤ ((t + 1 : Nat) : Int)) := fun j => by
        have h1 := HD.out j
        unfold upd
        split
        · omega
        · split <;> omega
      clear k0 k1 k2 k3 k4 k5 k6 ca fa cb HROW HB HRB HBB HCH HDR HN HP HK hK0 hB0 hNl
      go_loopw [36] (fun i w2 => ∃ u : Nat, u ≤ d.kids.length ∧ i = .int .i64 u ∧ Below w.heap.size w w2 ∧ w2.heap[w.heap.size + 1]? = some (.cells (arr .i64 L.length (fun j => if j ∈ d.kids.take u then D t + 1 else upd D t (D t + 1) j)) 3 (0, 0))) (fun i _ => d.kids.length - (intOf i).toNat)
      case atStart => exact ⟨0, Nat.zero_le _, rfl, hb1, by simpa using hr1⟩
      case round =>
        obtain ⟨u, hu, rfl, hB2, hr2⟩ := hrel
        have HB2 : Hid (Below w.heap.size w wr) := hB2
        have HR2 : Hid (wr.heap[w.heap.size + 1]? = some (.cells (arr .i64 L.length (fun j => if j ∈ d.kids.take u then D t + 1 else upd D t (D t + 1) j)) 3 (0, 0))) := hr2
        clear hB2 hr2 hr1 hb1
        by_cases hul : u < d.kids.length
        · have hd2 : decide ((u : Int) < d.kids.length) = true := by simp; omega
          obtain ⟨k, hk⟩ : ∃ k, d.kids[u]? = some k := ⟨_, List.getElem?_eq_getElem hul⟩
          obtain ⟨b2, o2, hks, hc⟩ := HKR.out (by omega)
          have hkL : k < L.length := HKD.out k (List.mem_of_getElem? hk)
          have q0 : wr.cell? ⟨b2, o2 + u, none⟩ = some (.int .i64 k) := by
            have h1 := hc u k hk 0 (.int .i64 k) rfl
            rw [Nat.mul_one, Nat.add_zero] at h1
            exact (HB2.out.cell (block_lt_of_cell h1)).trans h1
          have q1 : wr.cell? ⟨w.heap.size + 1, t, none⟩ = some (.int .i64 (D t + 1)) := by
            rw [row_cell HR2.out hlt]
            congr 2
            simp [upd]
          have q2 := row_cell HR2.out hkL
          have f2 : wr.frozen? ⟨w.heap.size + 1, k, none⟩ = false := frozen_of_row _ _ _ _ _ HR2.out
          have HR3 : Hid ((wr.setCell ⟨w.heap.size + 1, k, none⟩ (.int .i64 (D t + 1))).heap[w.heap.size + 1]? = some (.cells (arr .i64 L.length (fun j => if j ∈ d.kids.take (u + 1) then D t + 1 else upd D t (D t + 1) j)) 3 (0, 0))) := by
            show _ = _
            rw [row_set HR2.out k (D t + 1)]
            congr 2
            refine arr_congr fun j _ => ?_
            rw [List.take_add_one, hk]
            unfold upd
            by_cases hjk : j = k
            · subst hjk; simp
            · simp [hjk]
          have HB3 : Hid (Below w.heap.size w (wr.setCell ⟨w.heap.size + 1, k, none⟩ (.int .i64 (D t + 1)))) := HB2.out.setCell (p := ⟨w.heap.size + 1, k, none⟩) (Nat.le_succ _) _
          clear hc hk
          generalize (if k ∈ d.kids.take u then D t + 1 else upd D t (D t + 1) k) = old at q2
          go_wp2
          refine ⟨⟨u + 1, by omega, by congr 1, HB3.out, HR3.out⟩, ?_⟩
          show d.kids.length - ((u : Int) + 1).toNat < d.kids.length - (u : Int).toNat
          omega
        · have hd2 : decide ((u : Int) < d.kids.length) = false := by simp; omega
          have HR4 : Hid (wr.heap[w.heap.size + 1]? = some (.cells (arr .i64 L.length (fun j => if j ∈ d.kids then D t + 1 else upd D t (D t + 1) j)) 3 (0, 0))) := by
            have h := HR2.out
            rwa [List.take_of_length_le (by omega)] at h
          go_wp2
          refine ⟨⟨t + 1, _, _, by omega, by congr 1, rfl, HB2.out, HR4.out, HDN.out, HNX.out⟩, ?_⟩
          show L.length - ((t : Int) + 1).toNat < L.length - (t : Int).toNat
          omega
    · have hd : decide ((t : Int) < L.length) = false := by simp; omega
      have HM : Hid (m = dpF (fun _ => 0) 0 0 L) := by rw [← HCH.out, List.drop_eq_nil_of_le (by omega)]; exact rfl
      go_wp2
      go_ret
      exact ⟨by rw [← HM.out]; exact rfl, HB.out⟩
end Go.Proofs.YtbadafkfjfbnlaaGreatDoor

namespace Go.Proofs.YtbadafkfjfbnlaaGreatDoor
set_option maxRecDepth 100000
open Go.RowKit

theorem kid_bnd : ∀ (l : List Pt) (i : Nat), (∀ k ∈ kidI i l, i ≤ k ∧ k < i + cntL l) ∧ (kidI i l).length ≤ cntL l
  | [], i => by simp [kidI]
  | t :: r, i => by
    have h := kid_bnd r (i + cntP t)
    have h1 : 1 ≤ cntP t := by cases t; rw [cntP]; omega
    rw [kidI, cntL]
    refine ⟨fun k hk => ?_, by rw [List.length_cons]; omega⟩
    rcases List.mem_cons.1 hk with rfl | hk
    · omega
    · have := h.1 k hk
      omega
mutual
theorem lay_bnd : ∀ (t : Pt) (i : Nat), ∀ d ∈ layP i t, (∀ k ∈ d.kids, k < i + cntP t) ∧ d.kids.length ≤ cntP t
  | .mk k x n a f t l, i => by
    rw [layP, cntP]
    intro d hd
    rcases List.mem_cons.1 hd with rfl | hd
    · have h := kid_bnd l (i + 1)
      exact ⟨fun k hk => by have := h.1 k hk; omega, by have := h.2; show (kidI (i + 1) l).length ≤ _; omega⟩
    · have h := layL_bnd l (i + 1) d hd
      exact ⟨fun k hk => by have := h.1 k hk; omega, by have := h.2; omega⟩
theorem layL_bnd : ∀ (l : List Pt) (i : Nat), ∀ d ∈ layL i l, (∀ k ∈ d.kids, k < i + cntL l) ∧ d.kids.length ≤ cntL l
  | [], i => by simp [layL]
  | t :: r, i => by
    rw [layL, cntL]
    intro d hd
    rcases List.mem_append.1 hd with hd | hd
    · have h := lay_bnd t i d hd
      exact ⟨fun k hk => by have := h.1 k hk; omega, by have := h.2; omega⟩
    · have h := layL_bnd r (i + cntP t) d hd
      exact ⟨fun k hk => by have := h.1 k hk; omega, by have := h.2; omega⟩
end
mutual
theorem lay_cnt : ∀ (t : Pt) (i : Nat), (layP i t).length = cntP t
  | .mk k x n a f t l, i => by
    rw [layP, cntP, List.length_cons, layL_cnt l]
    omega
theorem layL_cnt : ∀ (l : List Pt) (i : Nat), (layL i l).length = cntL l
  | [], i => by simp [layL, cntL]
  | t :: r, i => by rw [layL, cntL, List.length_append, lay_cnt t, layL_cnt r]
end
theorem rows_agree {α : Type} {w W : World} {m : Nat} {cs : α → Array Value} {sp : Option Addr} {xs : List α} (h : ∀ k, k < w.heap.size → W.heap[k]? = w.heap[k]?) (hr : RowsAt w m cs sp xs) : RowsAt W m cs sp xs := fun hl => by
  obtain ⟨b, o, e, hc⟩ := hr hl
  exact ⟨b, o, e, fun i x hx j u hu => (World.cell?_of_block (a := ⟨b, o + i * m + j, Option.none⟩) (h b (block_lt_of_cell (hc i x hx j u hu)))).trans (hc i x hx j u hu)⟩
theorem tabl_agree {w W : World} (h : ∀ k, k < w.heap.size → W.heap[k]? = w.heap[k]?) (hT : Tabl w) : Tabl W := by
  obtain ⟨F, hF⟩ := hT
  refine ⟨F, fun i l hi => ?_⟩
  obtain ⟨h1, h2⟩ := hF i l hi
  exact ⟨(World.cell?_of_block (a := ⟨2, i, Option.none⟩) (h _ (block_lt_of_cell h1))).trans h1, rows_agree h h2⟩
/-- What Parse tells of tokens: an error and its place, or the tree. -/
def parO (ts : List Tok) : (Int × Int) ⊕ Pt :=
  if chkO ts ≠ 0 then .inl (2, 0) else if risB (-1) ts = false then .inl (2, 0) else
  match filO ts with
  | .ok t _ => if 2048 < (layP 0 t).length then .inl (3, 0) else if 24 < dpF (fun _ => 0) 0 0 (layP 0 t) then .inl (3, 0) else .inr t
  | .bad s => .inl (210, s)
  | .out => .inl (0, 0)
end Go.Proofs.YtbadafkfjfbnlaaGreatDoor

namespace Go.Proofs.YtbadafkfjfbnlaaGreatDoor
set_option maxRecDepth 100000
open Go.RowKit

/-- The facts that last while Parse runs. -/
structure PrF (w W : World) : Prop where
  b : Below w.heap.size w W
  z : W.heap[w.heap.size]? = some (.cells #[.slice none 0 0] 25 (0, 0))
  s : W.heap[w.heap.size + 1]? = some (.cells #[.int .i64 0, .int .i64 0] 28 (0, 0))
theorem PrF.below {w W W' : World} (h : PrF w W) (hb : Below W.heap.size W W') : PrF w W' := ⟨h.b.trans (hb.mono h.b.size), (hb.block _ (lt_of_row h.z)).trans h.z, (hb.block _ (lt_of_row h.s)).trans h.s⟩
/-- What Parse and Text answer. -/
def PrP (w : World) (r : (Int × Int) ⊕ Pt) (e : Ending) (w' : World) : Prop :=
  Below w.heap.size w w' ∧ match r with
  | .inl p => e = .returned (.tuple #[.agg #[.slice none 0 0], .agg #[.int .i64 p.1, .int .i64 p.2]])
  | .inr t => ∃ v, e = .returned (.tuple #[.agg #[v], .agg #[.int .i64 0, .int .i64 0]]) ∧ TrAt w.heap.size w' v (layP 0 t)
/-- The two results are written, and told. -/
theorem prf_done {w W : World} (h : PrF w W) (v : Value) (a b : Int) :
    Below w.heap.size w (((W.setCell ⟨w.heap.size, 0, none⟩ v).setCell ⟨w.heap.size + 1, 0, none⟩ (.int .i64 a)).setCell ⟨w.heap.size + 1, 1, none⟩ (.int .i64 b)) ∧
    (((W.setCell ⟨w.heap.size, 0, none⟩ v).setCell ⟨w.heap.size + 1, 0, none⟩ (.int .i64 a)).setCell ⟨w.heap.size + 1, 1, none⟩ (.int .i64 b)).heap[w.heap.size]? = some (.cells #[v] 25 (0, 0)) ∧
    (((W.setCell ⟨w.heap.size, 0, none⟩ v).setCell ⟨w.heap.size + 1, 0, none⟩ (.int .i64 a)).setCell ⟨w.heap.size + 1, 1, none⟩ (.int .i64 b)).heap[w.heap.size + 1]? = some (.cells #[.int .i64 a, .int .i64 b] 28 (0, 0)) :=
  ⟨((h.b.setCell (p := ⟨w.heap.size, 0, none⟩) (Nat.le_refl _) _).setCell (p := ⟨w.heap.size + 1, 0, none⟩) (Nat.le_succ _) _).setCell (p := ⟨w.heap.size + 1, 1, none⟩) (Nat.le_succ _) _,
   (heap_setCell_other _ _ _ _ (by simp)).trans ((heap_setCell_other _ _ _ _ (by simp)).trans (heap_setCell_same _ _ 0 _ _ _ h.z)),
   heap_setCell_same _ _ 1 _ _ _ (heap_setCell_same _ _ 0 _ _ _ ((heap_setCell_other _ _ _ _ (by simp)).trans h.s))⟩
theorem PrF.c {w W : World} (h : PrF w W) : W.cell? ⟨w.heap.size, 0, none⟩ = some (.slice none 0 0) ∧ W.cell? ⟨w.heap.size + 1, 0, none⟩ = some (.int .i64 0) ∧ W.cell? ⟨w.heap.size + 1, 1, none⟩ = some (.int .i64 0) :=
  ⟨(cell_of_row _ _ 0 _ _ _ h.z).trans rfl, (cell_of_row _ _ 0 _ _ _ h.s).trans rfl, (cell_of_row _ _ 1 _ _ _ h.s).trans rfl⟩
theorem PrF.f {w W : World} (h : PrF w W) : W.frozen? ⟨w.heap.size, 0, none⟩ = false ∧ W.frozen? ⟨w.heap.size + 1, 0, none⟩ = false ∧ W.frozen? ⟨w.heap.size + 1, 1, none⟩ = false :=
  ⟨frozen_of_row _ _ _ _ _ h.z, frozen_of_row _ _ _ _ _ h.s, frozen_of_row _ _ _ _ _ h.s⟩
set_option maxRecDepth 100000 in
set_option maxHeartbeats 1000000 in
theorem parse_any (w : World) (st : Option Addr) (cap : Nat) (ts : List Tok) (hr : RowsT w st ts) (hT : Tabl w) (few : ts.length ≤ 100000) (ok : ∀ t ∈ ts, -1000000000000000000 ≤ t.pos ∧ t.pos ≤ 1000000000000000000 ∧ t.text.size ≤ 100000) :
    Calls Tryz.prog 22 #[.slice st ts.length cap] w (PrP w (parO ts)) := by
  have HR : Hid (∀ W, Below w.heap.size w W → RowsT W st ts) := fun W hb => rows_agree hb.block hr
  have HT : Hid (∀ W, Below w.heap.size w W → Tabl W) := fun W hb => tabl_agree hb.block hT
  have HOK : Hid _ := ok
  clear hr hT ok
  go_enter Tryz.func22, Tryz.ntmps22
  go_wp2_with fail
  refine calls_gen (fun W => PrF w W) ?_ ?_
  · have n0 := heap_alloc_new w (.cells #[.slice none 0 0] 25)
    have n1 := heap_alloc_new (w.alloc (.cells #[.slice none 0 0] 25)) (.cells #[.int .i64 0, .int .i64 0] 28)
    simp only [World.size_alloc] at n1
    exact ⟨((Below.refl _ _).alloc (Nat.le_refl _) _).alloc (by simp) _, (Below.heap_alloc _ _ _ (by simp)).trans n0, n1⟩
  intro W f
  refine (check_any st cap ts W (HR.out W f.b) few).mono ?_
  rintro e W1 ⟨rfl, b1⟩
  have F1 : Hid (PrF w W1) := f.below b1
  clear f b1
  by_cases hc : chkO ts = 0
  · rw [hc]
    go_wp2_with fail
    refine (rising_any st cap ts W1 (HR.out W1 F1.out.b) few).mono ?_
    rintro e W2 ⟨rfl, b2⟩
    have F2 : Hid (PrF w W2) := F1.out.below b2
    clear F1 b2
    cases hri : risB (-1) ts
    · have HX : Hid (parO ts = .inl (2, 0)) := by show _ = _; unfold parO; simp [hc, hri]
      obtain ⟨c0, c1, c2⟩ := F2.out.c
      obtain ⟨f0, f1, f2⟩ := F2.out.f
      go_wp2
      exact bodyPost_ret (results_cc Tryz.results22 _ _ w.heap.size (w.heap.size + 1) _ _ _ _ (0, 0) (0, 0) _ _ rfl rfl (prf_done F2.out _ _ _).2.1 (prf_done F2.out _ _ _).2.2 Tryz.underlying25 rfl (by kernel_rfl) Tryz.underlying28 rfl (by kernel_rfl)) rfl (by rw [HX.out]; exact ⟨(prf_done F2.out _ _ _).1, rfl⟩)
    · go_wp2_with fail
      refine (read_any W2 st cap ts few HOK.out (fun W' hW' => ⟨rows_agree hW' (HR.out W2 F2.out.b), tabl_agree hW' (HT.out W2 F2.out.b)⟩)).mono ?_
      rintro e W3 ⟨b3, hm⟩
      have F3 : Hid (PrF w W3) := F2.out.below b3
      have hsz : w.heap.size + 2 ≤ W2.heap.size := lt_of_row F2.out.s
      obtain ⟨s, n, c, a, b, L, R, rfl, hTr, hn, hk, hR, hE⟩ : ∃ (s : Option Addr) (n c : Nat) (a b : Int) (L : List Nd) (R : (Int × Int) ⊕ Pt), e = .returned (.tuple #[.agg #[.slice s n c], .agg #[.int .i64 a, .int .i64 b]]) ∧ (n = L.length ∧ TrAt (w.heap.size + 2) W3 (.slice s n c) L) ∧ L.length ≤ 400000 ∧ (∀ d ∈ L, (∀ k ∈ d.kids, k < L.length) ∧ d.kids.length ≤ 400000) ∧
          (parO ts = if 2048 < L.length then .inl (3, 0) else if 24 < dpF (fun _ => 0) 0 0 L then .inl (3, 0) else R) ∧ ∀ w', Below w.heap.size w w' → TrAt w.heap.size w' (.slice s n c) L → PrP w R (.returned (.tuple #[.agg #[.slice s n c], .agg #[.int .i64 a, .int .i64 b]])) w' := by
        obtain ⟨r, hr⟩ : ∃ r, filO ts = r := ⟨_, rfl⟩
        rw [hr] at hm
        cases r with
        | out => exact hm.elim
        | bad s => exact ⟨none, 0, 0, 210, s, [], .inl (210, s), hm, ⟨rfl, TrAt.nil _ _⟩, by simp, by simp, by unfold parO; simp [hc, hri, hr, dpF], fun w' hb _ => ⟨hb, rfl⟩⟩
        | ok t q =>
          obtain ⟨hcn, v, rfl, hT⟩ := hm
          obtain ⟨s, c, rfl⟩ := hT.shape
          have hl := layP_len 0 t
          exact ⟨s, _, c, 0, 0, layP 0 t, .inr t, rfl, ⟨rfl, hT.mono hsz⟩, by omega, fun d hd => by
            have h := lay_bnd t 0 d hd
            exact ⟨fun k hk => by have := h.1 k hk; omega, by omega⟩, by unfold parO; rw [if_neg (by simp [hc]), if_neg (by simp [hri]), hr], fun w' hb ht => ⟨hb, _, rfl, ht⟩⟩
      obtain ⟨hnL, hTr⟩ := hTr
      subst hnL
      have HTR : Hid _ := hTr
      have HKB : Hid _ := hk
      have HPO : Hid _ := hR
      have HE : Hid _ := hE
      clear hTr hk hR hE hm b3 F2 hsz
      obtain ⟨c0, c1, c2⟩ := F3.out.c
      obtain ⟨f0, f1, f2⟩ := F3.out.f
      have hl1 := lt_of_row F3.out.s
      have hl0 := lt_of_row F3.out.z
      by_cases h2 : 2048 < L.length
      · have h2' : (L.length : Int) > 2048 := by omega
        have HX : Hid (parO ts = .inl (3, 0)) := by show _ = _; rw [HPO.out, if_pos h2]
        go_wp2
        have d := prf_done F3.out (.slice none 0 0) 3 0
        generalize (((W3.setCell ⟨w.heap.size, 0, none⟩ (.slice none 0 0)).setCell ⟨w.heap.size + 1, 0, none⟩ (.int .i64 3)).setCell ⟨w.heap.size + 1, 1, none⟩ (.int .i64 0)) = Y at d ⊢
        have e1 := (Below.heap_alloc Y (.cells #[.slice s L.length c] 25 (0, 0)) _ (lt_of_row d.2.1)).trans d.2.1
        have e2 := (Below.heap_alloc Y (.cells #[.slice s L.length c] 25 (0, 0)) _ (lt_of_row d.2.2)).trans d.2.2
        have e3 := (Below.heap_alloc _ (.cells #[.int .i64 a, .int .i64 b] 28 (0, 0)) _ (lt_of_row e1)).trans e1
        have e4 := (Below.heap_alloc _ (.cells #[.int .i64 a, .int .i64 b] 28 (0, 0)) _ (lt_of_row e2)).trans e2
        exact bodyPost_ret (results_cc Tryz.results22 _ _ w.heap.size (w.heap.size + 1) _ _ _ _ (0, 0) (0, 0) _ _ rfl rfl e3 e4 Tryz.underlying25 rfl (by kernel_rfl) Tryz.underlying28 rfl (by kernel_rfl)) rfl (by rw [HX.out]; exact ⟨(d.1.alloc d.1.size _).alloc (Nat.le_trans d.1.size (by simp)) _, rfl⟩)
      · have h2' : ¬ (L.length : Int) > 2048 := by omega
        go_wp2_with fail
        refine calls_gen (fun W => PrF w W ∧ W.heap[W3.heap.size]? = some (.cells #[.slice s L.length c] 25 (0, 0)) ∧ W.heap[W3.heap.size + 1]? = some (.cells #[.int .i64 a, .int .i64 b] 28 (0, 0)) ∧ TrAt (w.heap.size + 2) W (.slice s L.length c) L) ?_ ?_
        · have n0 := heap_alloc_new W3 (.cells #[.slice s L.length c] 25)
          have n1 := heap_alloc_new (W3.alloc (.cells #[.slice s L.length c] 25)) (.cells #[.int .i64 a, .int .i64 b] 28)
          simp only [World.size_alloc] at n1
          have hbb := ((Below.refl W3.heap.size W3).alloc (Nat.le_refl _) (.cells #[.slice s L.length c] 25)).alloc (by simp) (.cells #[.int .i64 a, .int .i64 b] 28)
          exact ⟨F3.out.below hbb, (Below.heap_alloc _ _ _ (by simp)).trans n0, n1, TrAt.below HTR.out hbb⟩
        rintro W4 ⟨f4, ht4, hs4, hT4⟩
        obtain ⟨N, S, hO, hRep, hSS⟩ := hT4
        obtain ⟨sp', cap', hv, hrows, -, -, -⟩ := OwnG.rows elN hO
        have hT4 : TrAt (w.heap.size + 2) W4 (.slice s L.length c) L := ⟨N, S, hO, hRep, hSS⟩
        injection hv with hv1 hv2 hv3
        subst hv1 hv3
        refine (deepest_any W4 s c N S L hrows hRep hn HKB.out).mono ?_
        rintro e W5 ⟨rfl, b5⟩
        have F5 : Hid (PrF w W5) := f4.below b5
        have HT5 : Hid (TrAt (w.heap.size + 2) W5 (.slice s L.length c) L) := hT4.below b5
        have ht5 := (b5.block _ (lt_of_row ht4)).trans ht4
        have hs5 := (b5.block _ (lt_of_row hs4)).trans hs4
        clear f4 ht4 hs4 hT4 b5 hO hRep hrows hv2 c0 c1 c2 f0 f1 f2
        obtain ⟨c0, c1, c2⟩ := F5.out.c
        obtain ⟨f0, f1, f2⟩ := F5.out.f
        have d0 : W5.cell? ⟨W3.heap.size, 0, none⟩ = some (.slice s L.length c) := (cell_of_row _ _ 0 _ _ _ ht5).trans rfl
        have d1 : W5.cell? ⟨W3.heap.size + 1, 0, none⟩ = some (.int .i64 a) := (cell_of_row _ _ 0 _ _ _ hs5).trans rfl
        have d2 : W5.cell? ⟨W3.heap.size + 1, 1, none⟩ = some (.int .i64 b) := (cell_of_row _ _ 1 _ _ _ hs5).trans rfl
        by_cases h3 : 24 < dpF (fun _ => 0) 0 0 L
        · have h3' : dpF (fun _ => 0) 0 0 L > 24 := h3
          have HX : Hid (parO ts = .inl (3, 0)) := by show _ = _; rw [HPO.out, if_neg h2, if_pos h3]
          go_wp2
          exact bodyPost_ret (results_cc Tryz.results22 _ _ w.heap.size (w.heap.size + 1) _ _ _ _ (0, 0) (0, 0) _ _ rfl rfl (prf_done F5.out _ _ _).2.1 (prf_done F5.out _ _ _).2.2 Tryz.underlying25 rfl (by kernel_rfl) Tryz.underlying28 rfl (by kernel_rfl)) rfl (by rw [HX.out]; exact ⟨(prf_done F5.out _ _ _).1, rfl⟩)
        · have h3' : ¬ dpF (fun _ => 0) 0 0 L > 24 := h3
          have HX : Hid (parO ts = R) := by show _ = _; rw [HPO.out, if_neg h2, if_neg h3]
          clear ht5 hs5
          go_wp2
          have HTF : Hid (TrAt w.heap.size (((W5.setCell ⟨w.heap.size, 0, none⟩ (.slice s L.length c)).setCell ⟨w.heap.size + 1, 0, none⟩ (.int .i64 a)).setCell ⟨w.heap.size + 1, 1, none⟩ (.int .i64 b)) (.slice s L.length c) L) := by
            have t1 := HT5.out.other F5.out.z (.inl rfl) (by omega) 0 (.slice s L.length c)
            have r1 := (heap_setCell_other W5 ⟨w.heap.size, 0, none⟩ (w.heap.size + 1) (.slice s L.length c) (by simp)).trans F5.out.s
            have t2 := t1.other r1 (.inr rfl) (by omega) 0 (.int .i64 a)
            exact (t2.other (heap_setCell_same _ _ 0 _ _ (.int .i64 a) r1) (.inr rfl) (by omega) 1 (.int .i64 b)).mono (by omega)
          have HDN : Hid _ := prf_done F5.out (.slice s L.length c) a b
          go_region
          go_wp2
          generalize (((W5.setCell ⟨w.heap.size, 0, none⟩ (.slice s L.length c)).setCell ⟨w.heap.size + 1, 0, none⟩ (.int .i64 a)).setCell ⟨w.heap.size + 1, 1, none⟩ (.int .i64 b)) = Y at HTF HDN ⊢
          exact bodyPost_ret (results_cc Tryz.results22 _ Y.drew w.heap.size (w.heap.size + 1) _ _ _ _ (0, 0) (0, 0) _ _ rfl rfl HDN.out.2.1 HDN.out.2.2 Tryz.underlying25 rfl (by kernel_rfl) Tryz.underlying28 rfl (by kernel_rfl)) rfl (by rw [HX.out]; exact HE.out _ HDN.out.1.drew (HTF.out.below (Below.refl _ _).drew))
  · have HX : Hid (parO ts = .inl (2, 0)) := by show _ = _; unfold parO; simp [hc]
    obtain ⟨c0, c1, c2⟩ := F1.out.c
    obtain ⟨f0, f1, f2⟩ := F1.out.f
    go_wp2
    exact bodyPost_ret (results_cc Tryz.results22 _ _ w.heap.size (w.heap.size + 1) _ _ _ _ (0, 0) (0, 0) _ _ rfl rfl (prf_done F1.out _ _ _).2.1 (prf_done F1.out _ _ _).2.2 Tryz.underlying25 rfl (by kernel_rfl) Tryz.underlying28 rfl (by kernel_rfl)) rfl (by rw [HX.out]; exact ⟨(prf_done F1.out _ _ _).1, rfl⟩)
end Go.Proofs.YtbadafkfjfbnlaaGreatDoor

namespace Go.Proofs.YtbadafkfjfbnlaaGreatDoor
set_option maxRecDepth 100000
open Go.RowKit

/-- What Text tells of a text. -/
def txtO (s : List UInt8) : (Int × Int) ⊕ Pt := if (lexO s).2.1 = 0 then parO (lexO s).1 else .inl ((lexO s).2.1, (lexO s).2.2)
set_option maxRecDepth 100000 in
set_option maxHeartbeats 1000000 in
theorem text_any (w : World) (x : ByteArray) (hT : Tabl w) (few : (lexO x.data.toList).1.length ≤ 100000) (ok : ∀ t ∈ (lexO x.data.toList).1, -1000000000000000000 ≤ t.pos ∧ t.pos ≤ 1000000000000000000 ∧ t.text.size ≤ 100000) :
    Calls Tryz.prog 8 #[.string x] w (PrP w (txtO x.data.toList)) := by
  have HT : Hid (∀ W, Below w.heap.size w W → Tabl W) := fun W hb => tabl_agree hb.block hT
  obtain ⟨ts, er, p, hl⟩ : ∃ ts er p, lexO x.data.toList = (ts, er, p) := ⟨_, _, _, rfl⟩
  have HO : Hid (txtO x.data.toList = if er = 0 then parO ts else .inl (er, p)) := by show _ = _; unfold txtO; rw [hl]
  rw [hl] at few ok
  have HOK : Hid _ := ok
  have few' : ts.length ≤ 100000 := few
  clear hT ok few
  have HL : Hid _ := hl
  clear hl
  go_enter Tryz.func8, Tryz.ntmps8
  go_wp2_with fail
  refine calls_gen (fun W => PrF w W) ?_ ?_
  · have n0 := heap_alloc_new w (.cells #[.slice none 0 0] 25)
    have n1 := heap_alloc_new (w.alloc (.cells #[.slice none 0 0] 25)) (.cells #[.int .i64 0, .int .i64 0] 28)
    simp only [World.size_alloc] at n1
    exact ⟨((Below.refl _ _).alloc (Nat.le_refl _) _).alloc (by simp) _, (Below.heap_alloc _ _ _ (by simp)).trans n0, n1⟩
  intro W f
  refine (lex_any x W).mono ?_
  rintro e W1 ⟨⟨v, rfl, hv⟩, b1⟩
  rw [HL.out] at hv ⊢
  obtain ⟨st, cap, rfl, hrows, -, -, -⟩ := OwnG.rows elT hv
  have F1 : Hid (PrF w W1) := f.below b1
  have HRW : Hid (RowsT W1 st ts) := hrows
  clear f b1 hv hrows HL
  obtain ⟨c0, c1, c2⟩ := F1.out.c
  obtain ⟨f0, f1, f2⟩ := F1.out.f
  have hl1 := lt_of_row F1.out.s
  have hl0 := lt_of_row F1.out.z
  by_cases he : er = 0
  · have HX : Hid (txtO x.data.toList = parO ts) := by show _ = _; rw [HO.out, if_pos he]
    clear HO
    subst he
    go_wp2_with fail
    refine calls_gen (fun W => PrF w W ∧ RowsT W st ts) ?_ ?_
    · have hbb := (Below.refl W1.heap.size W1).alloc (Nat.le_refl _) (.cells #[.int .i64 0, .int .i64 p] 28)
      exact ⟨F1.out.below hbb, RowsAt.below HRW.out hbb⟩
    rintro W2 ⟨f2', hr2⟩
    refine (parse_any W2 st cap ts hr2 (HT.out W2 f2'.b) few' HOK.out).mono ?_
    rintro e W3 ⟨b3, hm⟩
    have F3 : Hid (PrF w W3) := f2'.below b3
    have hsz : w.heap.size + 2 ≤ W2.heap.size := lt_of_row f2'.s
    obtain ⟨s, n, c, a, b, rfl, hE⟩ : ∃ (s : Option Addr) (n c : Nat) (a b : Int), e = .returned (.tuple #[.agg #[.slice s n c], .agg #[.int .i64 a, .int .i64 b]]) ∧ PrP w (parO ts) (.returned (.tuple #[.agg #[.slice s n c], .agg #[.int .i64 a, .int .i64 b]])) (((W3.setCell ⟨w.heap.size, 0, none⟩ (.slice s n c)).setCell ⟨w.heap.size + 1, 0, none⟩ (.int .i64 a)).setCell ⟨w.heap.size + 1, 1, none⟩ (.int .i64 b)) := by
      cases hp : parO ts with
      | inl q =>
        rw [hp] at hm
        exact ⟨none, 0, 0, q.1, q.2, hm, (prf_done F3.out _ _ _).1, rfl⟩
      | inr t =>
        rw [hp] at hm
        obtain ⟨v, rfl, hT3⟩ := hm
        obtain ⟨s, c, rfl⟩ := hT3.shape
        refine ⟨s, _, c, 0, 0, rfl, (prf_done F3.out _ _ _).1, _, rfl, ?_⟩
        have t1 := (hT3.mono hsz).other F3.out.z (.inl rfl) (by omega) 0 (.slice s (layP 0 t).length c)
        have r1 := (heap_setCell_other W3 ⟨w.heap.size, 0, none⟩ (w.heap.size + 1) (.slice s (layP 0 t).length c) (by simp)).trans F3.out.s
        have t2 := t1.other r1 (.inr rfl) (by omega) 0 (.int .i64 0)
        exact (t2.other (heap_setCell_same _ _ 0 _ _ (.int .i64 0) r1) (.inr rfl) (by omega) 1 (.int .i64 0)).mono (by omega)
    have HE : Hid _ := hE
    clear hm hE b3 f2' hr2 c0 c1 c2 f0 f1 f2
    obtain ⟨c0, c1, c2⟩ := F3.out.c
    obtain ⟨f0, f1, f2⟩ := F3.out.f
    go_wp2
    exact bodyPost_ret (results_cc Tryz.results8 _ _ w.heap.size (w.heap.size + 1) _ _ _ _ (0, 0) (0, 0) _ _ rfl rfl (prf_done F3.out _ _ _).2.1 (prf_done F3.out _ _ _).2.2 Tryz.underlying25 rfl (by kernel_rfl) Tryz.underlying28 rfl (by kernel_rfl)) rfl (by rw [HX.out]; exact HE.out)
  · have HX : Hid (txtO x.data.toList = .inl (er, p)) := by show _ = _; rw [HO.out, if_neg he]
    clear HO
    go_wp2
    refine wp_gen (fun W => PrF w W ∧ W.heap[W1.heap.size]? = some (.cells #[.int .i64 er, .int .i64 p] 28 (0, 0))) ⟨F1.out.below ((Below.refl W1.heap.size W1).alloc (Nat.le_refl _) _), heap_alloc_new _ _⟩ ?_
    rintro W2 ⟨f2', h2⟩
    have F2 : Hid (PrF w W2) := f2'
    clear c0 c1 c2 f0 f1 f2 f2'
    obtain ⟨c0, c1, c2⟩ := F2.out.c
    obtain ⟨f0, f1, f2⟩ := F2.out.f
    have d0 : W2.cell? ⟨W1.heap.size, 0, none⟩ = some (.int .i64 er) := (cell_of_row _ _ 0 _ _ _ h2).trans rfl
    have d1 : W2.cell? ⟨W1.heap.size, 1, none⟩ = some (.int .i64 p) := (cell_of_row _ _ 1 _ _ _ h2).trans rfl
    have HDN : Hid _ := prf_done F2.out (.slice none 0 0) er p
    clear h2
    go_region
    go_wp2
    generalize (((W2.setCell ⟨w.heap.size, 0, none⟩ (.slice none 0 0)).setCell ⟨w.heap.size + 1, 0, none⟩ (.int .i64 er)).setCell ⟨w.heap.size + 1, 1, none⟩ (.int .i64 p)) = Y at HDN ⊢
    exact bodyPost_ret (results_cc Tryz.results8 _ Y.drew w.heap.size (w.heap.size + 1) _ _ _ _ (0, 0) (0, 0) _ _ rfl rfl HDN.out.2.1 HDN.out.2.2 Tryz.underlying25 rfl (by kernel_rfl) Tryz.underlying28 rfl (by kernel_rfl)) rfl (by rw [HX.out]; exact ⟨HDN.out.1.drew, rfl⟩)
end Go.Proofs.YtbadafkfjfbnlaaGreatDoor

namespace Go.Proofs.YtbadafkfjfbnlaaGreatDoor
set_option maxRecDepth 100000
open Go.RowKit

theorem lexG_bnd {L : List UInt8} (hL : L.length ≤ 4096) : ∀ (f p : Nat) (ts : List Tok), p ≤ L.length → ts.length ≤ 1024 → (∀ t ∈ ts, 0 ≤ t.pos ∧ t.pos ≤ 4096 ∧ t.text.size ≤ 4096) →
    (lexG L f p ts).1.length ≤ 1024 ∧ ∀ t ∈ (lexG L f p ts).1, 0 ≤ t.pos ∧ t.pos ≤ 4096 ∧ t.text.size ≤ 4096 := by
  intro f
  induction f with
  | zero => exact fun p ts _ h1 h2 => ⟨h1, h2⟩
  | succ f ih =>
    intro p ts hp h1 h2
    rw [lexG]
    have hn : (p < L.length ∨ clo (lastT ts) = true) → (lookR (L.drop p) (clo (lastT ts))).2.2 = 0 → p + (lookR (L.drop p) (clo (lastT ts))).2.1 ≤ L.length := fun hc he => by
      have h := (look_size (L := L.drop p) (en := clo (lastT ts)) (k := (lookR (L.drop p) (clo (lastT ts))).1) (n := (lookR (L.drop p) (clo (lastT ts))).2.1) (by rw [← he]) fun hd => by
        rcases hc with hc | hc
        · have := List.length_drop (i := p) (l := L)
          rw [hd] at this
          simp at this
          omega
        · exact hc).1
      rw [List.length_drop] at h
      omega
    generalize lookR (L.drop p) (clo (lastT ts)) = r at hn ⊢
    split
    · rename_i hcond
      split
      · simp
      · rename_i he
        have hn := hn hcond (by simpa using he)
        split
        · exact ih _ _ hn h1 h2
        · split
          · simp
          · refine ih _ _ hn (by rw [List.length_append]; simp; omega) fun t ht => ?_
            rcases List.mem_append.1 ht with ht | ht
            · exact h2 t ht
            · obtain rfl := List.mem_singleton.1 ht
              refine ⟨Int.natCast_nonneg _, by show (p : Int) ≤ 4096; omega, ?_⟩
              show (strU ((L.drop p).take r.2.1)).size ≤ 4096
              have : (strU ((L.drop p).take r.2.1)).size = ((L.drop p).take r.2.1).length := by simp [strU, ByteArray.size]
              rw [this, List.length_take, List.length_drop]
              omega
    · exact ⟨h1, h2⟩
theorem lexO_bnd (L : List UInt8) : (lexO L).1.length ≤ 1024 ∧ ∀ t ∈ (lexO L).1, 0 ≤ t.pos ∧ t.pos ≤ 4096 ∧ t.text.size ≤ 4096 := by
  unfold lexO
  split
  · simp
  · exact lexG_bnd (by omega) _ _ _ (Nat.zero_le _) (by simp) (by simp)
theorem text_all (w : World) (x : ByteArray) (hT : Tabl w) : Calls Tryz.prog 8 #[.string x] w (PrP w (txtO x.data.toList)) := by
  have h := lexO_bnd x.data.toList
  exact text_any w x hT (by omega) fun t ht => by have := h.2 t ht; omega
end Go.Proofs.YtbadafkfjfbnlaaGreatDoor
