/- Lemmas that every contract of this seat uses: worlds, rows of cells, arrays by value. No function of the program is walked here. -/
import Derived.Test.YtbadafkfjfbnlaaGreatDoorRows
import Derived.WalkKit
import Derived.WalkSpells
import Derived.WalkLawsBesides
import Derived.Deep.QuietTactic
import Derived.BigQuiet
import Derived.Laws.Rows
namespace Go.Proofs.YtbadafkfjfbnlaaGreatDoor
open Go.RowKit

theorem ret_int {k : IntKind} {a b : Int} (h : a = b) : Ending.returned (.int k a) = .returned (.int k b) := by rw [h]

/-- A world is given a name, with what is known of it. -/
theorem wp_gen {P : Program} {c : Code} {Q : Exit → Act → World → Prop} {a : Act} {w0 : World} (F : World → Prop) (h0 : F w0) (h : ∀ W1, F W1 → Code.wp P c Q a W1) : Code.wp P c Q a w0 := h _ h0

theorem calls_gen {P : Program} {f : FuncId} {args : Array Value} {R : Ending → World → Prop} {w0 : World} (F : World → Prop) (h0 : F w0) (h : ∀ W1, F W1 → Calls P f args W1 R) : Calls P f args w0 R := h _ h0
theorem heap3 (w : World) (A B C : Obj) : (((w.alloc A).alloc B).alloc C).heap[w.heap.size + 1]? = some B := by
  rw [Below.heap_alloc _ _ _ (by simp), heap_alloc2_new]

theorem lt_of_row {w : World} {g : Nat} {o : Obj} (h : w.heap[g]? = some o) : g < w.heap.size := by
  by_cases hlt : g < w.heap.size
  · exact hlt
  · have hn : w.heap[g]? = none := by simp; omega
    simp [hn] at h

theorem cells8 {w : World} {g : Nat} {a b c d e f g' k : Value} {t : TypeId} (h : w.heap[g]? = some (.cells #[a, b, c, d, e, f, g', k] t (0, 0))) :
    w.cell? ⟨g, 0, none⟩ = some a ∧ w.cell? ⟨g, 1, none⟩ = some b ∧ w.cell? ⟨g, 2, none⟩ = some c ∧ w.cell? ⟨g, 3, none⟩ = some d ∧ w.cell? ⟨g, 4, none⟩ = some e ∧ w.cell? ⟨g, 5, none⟩ = some f ∧ w.cell? ⟨g, 6, none⟩ = some g' ∧ w.cell? ⟨g, 7, none⟩ = some k := by
  refine ⟨?_, ?_, ?_, ?_, ?_, ?_, ?_, ?_⟩ <;> (rw [cell_of_row _ _ _ _ _ _ h]; rfl)

/-- An array of n numbers of one kind, by value. -/
def arr (k : IntKind) (n : Nat) (f : Nat → Int) : Array Value := Array.ofFn (n := n) fun i => .int k (f i)
theorem arr_size (k : IntKind) (n : Nat) (f : Nat → Int) : (arr k n f).size = n := by simp [arr]
theorem arr_get {k : IntKind} {n : Nat} {f : Nat → Int} {i : Nat} (h : i < n) : (arr k n f)[i]? = some (.int k (f i)) := by
  simp [arr, h]
def upd (f : Nat → Int) (j : Nat) (x : Int) : Nat → Int := fun i => if i = j then x else f i
theorem arr_set {k : IntKind} {n : Nat} {f : Nat → Int} {j : Nat} {x : Int} : (arr k n f).setIfInBounds j (.int k x) = arr k n (upd f j x) := by
  apply Array.ext
  · simp [arr]
  · intro i h1 h2
    have hi : i < n := by simpa [arr] using h2
    rw [Array.getElem_setIfInBounds (by simpa [arr] using hi)]
    by_cases hj : j = i
    · subst hj; simp [arr, upd]
    · have hj' : ¬ i = j := fun e => hj e.symm
      simp [arr, upd, hj, hj']
theorem arr_congr {k : IntKind} {n : Nat} {f g : Nat → Int} (h : ∀ i, i < n → f i = g i) : arr k n f = arr k n g := by
  apply Array.ext
  · simp [arr]
  · intro i h1 h2
    simp [arr] at h1 h2 ⊢
    exact h i h1

theorem arr_one (k : IntKind) (n : Nat) (f : Nat → Int) : (arr k n f).all (·.oneCell') = true := by
  rw [Array.all_eq_true_iff_forall_mem]
  intro v hv
  obtain ⟨i, hi, rfl⟩ := Array.mem_iff_getElem.1 hv
  simp [arr, Value.oneCell']
theorem heap_setRow_same {w : World} {g : Nat} {cs old : Array Value} {t : TypeId} {fr : Nat × Nat} (h : w.heap[g]? = some (.cells old t fr)) : (w.setRow g cs).heap[g]? = some (.cells cs t fr) := setRow_heap w g old cs t fr h
theorem below_setRow' {B : Nat} {a w : World} (h : Below B a w) {g : Nat} (hg : B ≤ g) (cs : Array Value) : Below B a (w.setRow g cs) :=
  h.trans ⟨rfl, rfl, rfl, by simp, fun k hk => setRow_other w g k cs (by omega)⟩
theorem row_cell {w : World} {g : Nat} {k : IntKind} {n : Nat} {f : Nat → Int} {t : TypeId} {fr : Nat × Nat} (h : w.heap[g]? = some (.cells (arr k n f) t fr)) {i : Nat} (hi : i < n) : w.cell? ⟨g, i, none⟩ = some (.int k (f i)) := by
  rw [cell_of_row _ _ _ _ _ _ h, arr_get hi]
theorem row_set {w : World} {g : Nat} {k : IntKind} {n : Nat} {f : Nat → Int} {t : TypeId} (h : w.heap[g]? = some (.cells (arr k n f) t (0, 0))) (j : Nat) (x : Int) :
    (w.setCell ⟨g, j, none⟩ (.int k x)).heap[g]? = some (.cells (arr k n (upd f j x)) t (0, 0)) := by
  rw [heap_setCell_same _ _ _ _ _ _ h, arr_set]

/-- An array's element. -/
theorem index_arr {P : Program} {t e : TypeId} {n : Nat} {k : IntKind} {cs : Array Value} {i : Nat} {v : Value} (ht : P.underlying t = some (.array n e)) (he : P.underlying e = some (.int k))
    (hs : (P.info? e).map (·.size) = some 1) (hi : i < n) (hv : cs[i]? = some v) (w : World) : (Instr.index t (.agg cs) (.int .i64 i)).run P w = .ok v w := by
  have h1 : (underlying t).run P w = .ok (.array n e) w := run_underlying ht w
  have h2 : (underlying e).run P w = .ok (.int k) w := run_underlying he w
  cases hq : P.info? e with
  | none => simp [hq] at hs
  | some q =>
    have hq1 : q.size = 1 := by simpa [hq] using hs
    have h3 : (sizeOf e).run P w = .ok 1 w := by simp [sizeOf, typeInfo, hq, hq1]
    simp [Instr.index, asIntOf, h1, h3, hi, part, isAgg, h2, hv]
end Go.Proofs.YtbadafkfjfbnlaaGreatDoor
