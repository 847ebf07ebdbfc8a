/- What stands at a path; the contracts of merge's merged and clash. -/
import Derived.Test.YtmbnbehlfbdpnabMObs
import Derived.Test.YtmbnbehlfbdpnabNameC
namespace Go.Proofs.Ytmbnbehlfbdpnab
open Go.RowKit

/-- A text, and whether it is there. -/
structure May where
  value : ByteArray
  there : Bool
def May.cells (m : May) : Array Value := #[.string m.value, .bool m.there]
def mayEq (a b : May) : Bool := (a.value.toList == b.value.toList) && (a.there == b.there)
/-- What stands at a path in the three. -/
structure St3 where
  b : May
  o : May
  t : May
def St3.cells (s : St3) : Array Value := #[.string s.b.value, .bool s.b.there, .string s.o.value, .bool s.o.there, .string s.t.value, .bool s.t.there]
def no : May := ⟨⟨#[]⟩, false⟩
def mergedR (s : St3) : May × Bool := if mayEq s.o s.b then (s.t, true) else if mayEq s.t s.b || mayEq s.t s.o then (s.o, true) else (no, false)
theorem equal_may (a b : May) (w : World) : (Op.equalIn 10000 67 (.agg #[.string a.value, .bool a.there]) (.agg #[.string b.value, .bool b.there])).run Try.prog w = .ok (mayEq a b) w := by
  have hf : (Try.prog.fieldsOf 67).toList.map (fun f => (f.name == "_", f.type, f.offset)) = [(false, 9, 0), (false, 4, 1)] := by kernel_rfl
  rw [show (10000 : Nat) = 9999 + 1 from rfl, run_equalIn_struct w 9999 67 _ _ (by kernel_rfl) (by kernel_rfl)]
  have p0 : ∀ e : May, (part 9 #[.string e.value, .bool e.there] 0).run Try.prog w = .ok (.string e.value) w := fun e => by simp [part, isAgg, run_underlying Try.underlying9]
  have p1 : ∀ e : May, (part 4 #[.string e.value, .bool e.there] 1).run Try.prog w = .ok (.bool e.there) w := fun e => by simp [part, isAgg, run_underlying Try.underlying4]
  generalize (Try.prog.fieldsOf 67).toList = fs at hf ⊢
  have hl : fs.length = 2 := by simpa using congrArg List.length hf
  obtain ⟨f0, f1, rfl⟩ : ∃ a b, fs = [a, b] := by
    cases fs with
    | nil => simp at hl
    | cons a r => cases r with
      | nil => simp at hl
      | cons b r => cases r with
        | nil => exact ⟨a, b, rfl⟩
        | cons c r => simp at hl
  simp only [List.map_cons, List.map_nil, List.cons.injEq, Prod.mk.injEq, beq_eq_false_iff_ne, ne_eq, and_true] at hf
  obtain ⟨⟨n0, t0, o0⟩, n1, t1, o1⟩ := hf
  simp only [Op.eqFields, n0, n1, t0, t1, o0, o1, ne_eq, not_false_eq_true, if_true, Sem.run_bind, p0, Result.andThen_ok]
  rw [run_equalIn_string w 9998 9 _ _ Try.underlying9]
  simp only [Result.andThen_ok, mayEq]
  cases h0 : (a.value.toList == b.value.toList) with
  | false => simp
  | true =>
    simp only [Bool.not_true, Bool.false_eq_true, if_false, Bool.true_and, Sem.run_bind, p1, Result.andThen_ok]
    rw [run_equalIn_bool w 9998 4 _ _ Try.underlying4]
    cases h1 : (a.there == b.there) <;> simp

set_option maxRecDepth 100000 in
set_option maxHeartbeats 1000000 in
theorem merged_any (s : St3) (w : World) :
    Calls Try.prog 19 #[.agg s.cells] w fun e w' => e = .returned (.tuple #[.agg (mergedR s).1.cells, .bool (mergedR s).2]) ∧ Below w.heap.size w w' := by
  have q1 := equal_may s.o s.b
  have q2 := equal_may s.t s.b
  have q3 := equal_may s.t s.o
  have HM : Hid (mergedR s = if mayEq s.o s.b then (s.t, true) else if mayEq s.t s.b || mayEq s.t s.o then (s.o, true) else (no, false)) := rfl
  have hB : ∀ m : May, Below w.heap.size w ((w.alloc (.cells s.cells 68)).alloc (.cells m.cells 67)) := fun m => ((Below.refl _ _).alloc (Nat.le_refl _) _).alloc (by simp) _
  have hB3 : Hid (∀ m : May, Below w.heap.size w ((w.alloc (.cells s.cells 68)).alloc (.cells m.cells 67))) := hB
  clear hB
  have hrow : Hid (∀ m : May, ((w.alloc (.cells s.cells 68)).alloc (.cells m.cells 67)).heap[w.heap.size + 1]? = some (.cells m.cells 67 (0, 0))) := by
    intro m
    have := heap_alloc_new (w.alloc (.cells s.cells 68)) (.cells m.cells 67)
    rw [World.size_alloc] at this
    exact this
  show Calls Try.prog 19 #[.agg #[.string s.b.value, .bool s.b.there, .string s.o.value, .bool s.o.there, .string s.t.value, .bool s.t.there]] w _
  cases h1 : mayEq s.o s.b with
  | true =>
    have HM1 : Hid (mergedR s = (s.t, true)) := by rw [HM.out, h1]; rfl
    rw [h1] at q1
    go_enter Try.func19, Try.ntmps19
    go_wp2
    refine bodyPost_ret (v := .tuple #[.agg s.t.cells, .bool true]) (results_cell_tmp Try.results19 _ _ (w.heap.size + 1) 67 s.t.cells (0, 0) _ _ rfl rfl (hrow.out s.t) Try.underlying67 rfl (by kernel_rfl)) rfl ⟨by rw [HM1.out], hB3.out s.t⟩
  | false =>
    rw [h1] at q1
    cases h2 : mayEq s.t s.b with
    | true =>
      have HM1 : Hid (mergedR s = (s.o, true)) := by rw [HM.out, h1, h2]; rfl
      rw [h2] at q2
      go_enter Try.func19, Try.ntmps19
      go_wp2
      refine bodyPost_ret (v := .tuple #[.agg s.o.cells, .bool true]) (results_cell_tmp Try.results19 _ _ (w.heap.size + 1) 67 s.o.cells (0, 0) _ _ rfl rfl (hrow.out s.o) Try.underlying67 rfl (by kernel_rfl)) rfl ⟨by rw [HM1.out], hB3.out s.o⟩
    | false =>
      rw [h2] at q2
      cases h3 : mayEq s.t s.o with
      | true =>
        have HM1 : Hid (mergedR s = (s.o, true)) := by rw [HM.out, h1, h2, h3]; rfl
        rw [h3] at q3
        go_enter Try.func19, Try.ntmps19
        go_wp2
        refine bodyPost_ret (v := .tuple #[.agg s.o.cells, .bool true]) (results_cell_tmp Try.results19 _ _ (w.heap.size + 1) 67 s.o.cells (0, 0) _ _ rfl rfl (hrow.out s.o) Try.underlying67 rfl (by kernel_rfl)) rfl ⟨by rw [HM1.out], hB3.out s.o⟩
      | false =>
        have HM1 : Hid (mergedR s = (no, false)) := by rw [HM.out, h1, h2, h3]; rfl
        rw [h3] at q3
        go_enter Try.func19, Try.ntmps19
        go_wp2
        refine bodyPost_ret (v := .tuple #[.agg no.cells, .bool false]) (results_cell_tmp Try.results19 _ _ (w.heap.size + 1) 67 no.cells (0, 0) _ _ rfl rfl (hrow.out no) Try.underlying67 rfl (by kernel_rfl)) rfl ⟨by rw [HM1.out], hB3.out no⟩

/-- A clash. -/
structure Cl where
  path : ByteArray
  s : St3
def Cl.cells (c : Cl) : Array Value := #[.string c.path, .string c.s.b.value, .string c.s.o.value, .string c.s.t.value, .bool c.s.b.there, .bool c.s.o.there, .bool c.s.t.there]
theorem Cl.size (c : Cl) : c.cells.size = 7 := rfl
theorem results_cell {P : Program} {fn : Func} {p : Tmp} {ty : TypeId} (h : fn.results = #[.cell p ty]) (tmps : Array Value) (w : World) (g : Nat) (t : TypeId) (cs : Array Value) (fr : Nat × Nat) (d : TypeDesc)
    (hp : tmps.getD p undef = .pointer (some ⟨g, 0, none⟩)) (hg : w.heap[g]? = some (.cells cs t fr))
    (hu : P.underlying ty = some d) (hd : (match d with | .struct _ | .array _ _ => true | _ => false) = true) (hi : (P.info? ty).map (·.size) = some cs.size) :
    (results fn tmps).run P w = .ok (.agg cs) w := by
  have hp' : tmps[p]?.getD undef = .pointer (some ⟨g, 0, none⟩) := by simpa using hp
  simp [results, h, hp', asAddr, run_loadVar_row w g t ty cs fr d hg hu hd hi]

set_option maxRecDepth 100000 in
set_option maxHeartbeats 1000000 in
theorem clash_any (p : ByteArray) (s : St3) (w : World) :
    Calls Try.prog 20 #[.string p, .agg s.cells] w fun e w' => e = .returned (.agg (Cl.cells ⟨p, s⟩)) ∧ Below w.heap.size w w' := by
  have hB : Hid (Below w.heap.size w ((w.alloc (.cells s.cells 68)).alloc (.cells (Cl.cells ⟨p, s⟩) 44))) := ((Below.refl _ _).alloc (Nat.le_refl _) _).alloc (by simp) _
  have hrow : Hid (((w.alloc (.cells s.cells 68)).alloc (.cells (Cl.cells ⟨p, s⟩) 44)).heap[w.heap.size + 1]? = some (.cells (Cl.cells ⟨p, s⟩) 44 (0, 0))) := by
    have := heap_alloc_new (w.alloc (.cells s.cells 68)) (.cells (Cl.cells ⟨p, s⟩) 44)
    rw [World.size_alloc] at this
    exact this
  show Calls Try.prog 20 #[.string p, .agg #[.string s.b.value, .bool s.b.there, .string s.o.value, .bool s.o.there, .string s.t.value, .bool s.t.there]] w _
  go_enter Try.func20, Try.ntmps20
  go_wp2
  refine bodyPost_ret (v := .agg (Cl.cells ⟨p, s⟩)) (results_cell Try.results20 _ _ (w.heap.size + 1) 44 _ (0, 0) _ rfl hrow.out Try.underlying44 rfl (by kernel_rfl)) rfl ⟨rfl, hB.out⟩
end Go.Proofs.Ytmbnbehlfbdpnab
