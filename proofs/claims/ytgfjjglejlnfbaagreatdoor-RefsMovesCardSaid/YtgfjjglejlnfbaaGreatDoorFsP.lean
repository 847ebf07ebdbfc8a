/- The contract of refs' place: where a branch stands, or would stand, among those that rise. -/
import Derived.Test.YtgfjjglejlnfbaaGreatDoorFsD
import Derived.Test.YtgfjjglejlnfbaaGreatDoorShelf
import Derived.Test.YtgfjjglejlnfbaaGreatDoorMrgA
namespace Go.Proofs.YtgfjjglejlnfbaaGreatDoor
open Go.RowKit

theorem re_one' (e : Re) : e.cells.all (·.oneCell') = true := by
  rw [Array.all_eq_true]
  intro i hi
  have h := Array.getElem?_eq_getElem hi
  rcases Re.cut h with ⟨-, h⟩ | ⟨k, -, -, h⟩ <;> rw [h] <;> rfl
theorem load_midg {P : Program} {ops : Array Oper} {Q : Exit → Act → World → Prop} {a : Act} {w : World} {rest : List Oper} {o : Oper} (x : Operand) (ty : TypeId) (ho : o.op = .load ty x) (hwt : Region.wanted o (yielded ops a.tmps) = true) (g p : Nat) (hx : a.eval x = .pointer (some ⟨g, p, none⟩))
    (cs : Array Value) (d : TypeDesc) (hc : ∀ j u, cs[j]? = some u → w.cell? ⟨g, p + j, none⟩ = some u) (hu : P.underlying ty = some d)
    (hd : d.isRow = true) (hsz : (P.info? ty).map (·.size) = some cs.size)
    (h : wpList P ops Q rest (a.put o.dst (.agg cs)) w) : wpList P ops Q (o :: rest) a w :=
  wpList_step fun _ hK => by
    rw [if_pos hwt]
    unfold Oper.wp execOp
    simp only [ho, hx, Instr.loadAt, Instr.sureAddr, Sem.run_bind, Sem.run_pure, Result.andThen_ok, run_mid hc hu hd hsz]
    exact hK _ _ h
theorem results_two {P : Program} {fn : Func} {p q : Tmp} (h : fn.results = #[.tmp p, .tmp q]) (tmps : Array Value) (w : World) (u v : Value) (hp : tmps.getD p undef = u) (hq : tmps.getD q undef = v) :
    (results fn tmps).run P w = .ok (.tuple #[u, v]) w := by
  have hp' : tmps[p]?.getD undef = u := by simpa using hp
  have hq' : tmps[q]?.getD undef = v := by simpa using hq
  simp [results, h, hp', hq']
/-- A branch's name against another one. -/
def cmpR (f : Re) (name : ByteArray) : Int := Lib.compareBytes f.name.data.toList name.data.toList
/-- The branches ahead of k are less, those from k on are not. -/
def PartsR (fs : List Re) (name : ByteArray) (k : Nat) : Prop := k ≤ fs.length ∧ (∀ (i : Nat) (f : Re), i < k → fs[i]? = some f → cmpR f name < 0) ∧ ∀ (i : Nat) (f : Re), k ≤ i → fs[i]? = some f → 0 ≤ cmpR f name
def foundR (fs : List Re) (name : ByteArray) (k : Nat) : Bool := match fs[k]? with | some f => cmpR f name == 0 | none => false
def MonoR (fs : List Re) (name : ByteArray) : Prop := ∀ (i j : Nat) (f g : Re), i ≤ j → fs[i]? = some f → fs[j]? = some g → cmpR g name < 0 → cmpR f name < 0
set_option maxRecDepth 100000 in
set_option maxHeartbeats 1000000 in
theorem xplace1_any (f : Re) (name : ByteArray) (w : World) :
    Calls Tryz.prog 73 #[.agg f.cells, .string name] w fun e w' => e = .returned (.int .i64 (cmpR f name)) ∧ Below w.heap.size w w' := by
  have c0 : (w.alloc (.cells f.cells 92)).cell? ⟨w.heap.size, 0, none⟩ = some (.string f.name) := (cell_of_row _ _ _ _ _ _ (heap_alloc_new w (.cells f.cells 92))).trans f.cell0
  have HC : Hid (∀ W, Calls Tryz.prog 74 #[.string f.name, .string name] W fun e w' => e = .returned (.int .i64 (cmpR f name)) ∧ w' = W) := fun W => Tryz.strings_Compare _ _ _
  have hbx : ∀ W, (Instr.box 92 (.agg f.cells)).run Tryz.prog W = .ok (.pointer (some ⟨W.heap.size, 0, none⟩)) (W.alloc (.cells f.cells 92)) := fun W => by first | rfl | kernel_rfl
  generalize cmpR f name = r at HC ⊢
  go_enter Tryz.func73, Tryz.ntmps73
  go_wp2_with (go_at_call 74; refine (HC.out _).mono ?_; rintro e w' ⟨rfl, rfl⟩)
  go_ret
  exact ⟨rfl, (Below.refl _ _).alloc (Nat.le_refl _) _⟩
set_option maxRecDepth 100000 in
set_option maxHeartbeats 2000000 in
theorem bsR_any (sp : Option Addr) (cap : Nat) (fs : List Re) (path : ByteArray) (w : World) (hr : RowsAt w 33 Re.cells sp fs) (hl : fs.length ≤ 1000000) (hs : MonoR fs path) :
    Calls Tryz.prog 72 #[.slice sp fs.length cap, .string path, .func (.func 73) #[] #[]] w fun e w' => (∃ k : Nat, PartsR fs path k ∧ e = .returned (.tuple #[.int .i64 k, .bool (foundR fs path k)])) ∧ Below w.heap.size w w' := by
  have HR : Hid (RowsAt w 33 Re.cells sp fs) := hr
  have HS : Hid (MonoR fs path) := hs
  clear hr hs
  go_enter Tryz.func72, Tryz.ntmps72
  go_wp2
  go_loopw [9, 10] (fun i j wr => ∃ a b : Nat, a ≤ b ∧ b ≤ fs.length ∧ i = .int .i64 a ∧ j = .int .i64 b ∧ Below w.heap.size w wr ∧ (∀ (k : Nat) (f : Re), k < a → fs[k]? = some f → cmpR f path < 0) ∧ ∀ (k : Nat) (f : Re), b ≤ k → fs[k]? = some f → 0 ≤ cmpR f path) (fun i j _ => (intOf j).toNat - (intOf i).toNat)
  case atStart => exact ⟨0, fs.length, Nat.zero_le _, Nat.le_refl _, rfl, rfl, Below.refl _ _, fun k f hk => by omega, fun k f hk hf => by rw [List.getElem?_eq_none hk] at hf; cases hf⟩
  case round =>
    obtain ⟨a, b, hab, hbl, rfl, rfl, hB, h1, h2⟩ := hrel
    have H1 : Hid _ := h1
    have H2 : Hid _ := h2
    clear h1 h2
    by_cases hlt : a < b
    · obtain ⟨bb, off, rfl, -⟩ := HR.out (by omega)
      obtain ⟨f, hf⟩ : ∃ f, fs[(a + b) / 2]? = some f := ⟨_, List.getElem?_eq_getElem (by omega)⟩
      have HCC : Hid _ := re_cells (RowsAt.below HR.out hB) hf
      have HF : Hid _ := hf
      have hd : decide ((a : Int) < b) = true := by simp; omega
      clear hf
      go_wp2_with (refine load_mid (by rfl) 92 (.tmp 27) (by rfl) bb (off + (a + b) / 2 * 33) (by rfl) f.cells _ HCC.out Tryz.underlying92 rfl (by rw [f.size]; kernel_rfl) ?_)
      refine (xplace1_any f path wr).mono ?_
      rintro e w2 ⟨rfl, hB2⟩
      have f2 : Below w.heap.size w w2 := hB.trans (hB2.mono hB.size)
      clear hB2
      by_cases hneg : cmpR f path < 0
      · have hd2 : decide (cmpR f path < 0) = true := by simpa using hneg
        go_wp2
        go_roundw
        case rel =>
          refine ⟨(a + b) / 2 + 1, b, by omega, hbl, by go_num, rfl, f2, fun k g hk hg => ?_, H2.out⟩
          exact HS.out k ((a + b) / 2) g f (by omega) hg HF.out hneg
        case measure => simp [intOf]; omega
      · have hd2 : decide (cmpR f path < 0) = false := by simpa using hneg
        go_wp2
        go_roundw
        case rel =>
          refine ⟨a, (a + b) / 2, by omega, by omega, rfl, by go_num, f2, H1.out, fun k g hk hg => ?_⟩
          exact Int.not_lt.1 fun hlt' => Int.not_lt.2 hneg (HS.out ((a + b) / 2) k f g hk HF.out hg hlt')
        case measure => simp [intOf]; omega
    · obtain rfl : a = b := by omega
      have hd : decide ((a : Int) < a) = false := by simp
      have HP : Hid (PartsR fs path a) := ⟨hbl, H1.out, H2.out⟩
      clear H1 H2
      by_cases hlt2 : a < fs.length
      · have hd3 : decide ((a : Int) < (fs.length : Int)) = true := by simp; omega
        obtain ⟨bb, off, rfl, -⟩ := HR.out (by omega)
        obtain ⟨f, hf⟩ : ∃ f, fs[a]? = some f := ⟨_, List.getElem?_eq_getElem (by omega)⟩
        have HCC : Hid _ := re_cells (RowsAt.below HR.out hB) hf
        have HF : Hid _ := hf
        clear hf
        go_wp2_with (first | (refine load_midg (.tmp 43) 92 (by rfl) (by rfl) bb (off + a * 33) (by rfl) f.cells _ HCC.out Tryz.underlying92 rfl (by rw [f.size]; kernel_rfl) ?_) | (go_at_call 73; refine (xplace1_any f path wr).mono ?_; rintro e w2 ⟨rfl, hB2⟩))
        have f2 : Below w.heap.size w w2 := hB.trans (hB2.mono hB.size)
        refine bodyPost_ret (v := .tuple #[.int .i64 a, .bool (decide (cmpR f path = 0))]) (results_two Tryz.results72 _ _ _ _ rfl rfl) rfl ⟨⟨a, HP.out, ?_⟩, f2⟩
        unfold foundR
        rw [HF.out]
        rfl
      · have hd3 : decide ((a : Int) < (fs.length : Int)) = false := by simp; omega
        go_wp2
        refine bodyPost_ret (v := .tuple #[.int .i64 a, .bool false]) (results_two Tryz.results72 _ _ _ _ rfl rfl) rfl ⟨⟨a, HP.out, ?_⟩, hB⟩
        unfold foundR
        rw [List.getElem?_eq_none (by omega)]

set_option maxRecDepth 100000 in
set_option maxHeartbeats 1000000 in
theorem xplace_any (sp : Option Addr) (cap : Nat) (fs : List Re) (path : ByteArray) (w : World) (hr : RowsAt w 33 Re.cells sp fs) (hl : fs.length ≤ 1000000) (hs : MonoR fs path) :
    Calls Tryz.prog 38 #[.agg #[.slice sp fs.length cap], .string path] w fun e w' => (∃ k : Nat, PartsR fs path k ∧ e = .returned (.tuple #[.int .i64 k, .bool (foundR fs path k)])) ∧ Below w.heap.size w w' := by
  have HR : Hid (RowsAt w 33 Re.cells sp fs) := hr
  have HS : Hid (MonoR fs path) := hs
  clear hr hs
  go_enter Tryz.func38, Tryz.ntmps38
  go_wp2_with fail
  refine calls_gen (fun W => Below w.heap.size w W) ((Below.refl _ _).alloc (Nat.le_refl _) _) ?_
  intro W1 b1
  refine (bsR_any sp cap fs path W1 (HR.out.below b1) hl HS.out).mono ?_
  rintro e w2 ⟨⟨k, hk, rfl⟩, hB2⟩
  have hb := b1.trans (hB2.mono b1.size)
  go_wp2
  exact bodyPost_ret (v := .tuple #[.int .i64 k, .bool (foundR fs path k)]) (results_two Tryz.results38 _ _ _ _ rfl rfl) rfl ⟨⟨k, hk, rfl⟩, hb⟩
end Go.Proofs.YtgfjjglejlnfbaaGreatDoor
