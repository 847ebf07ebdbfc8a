/- What objects and entries are as cells; how they lie in memory; two of them compared. No function of the program is walked here. -/
import Derived.Test.YtgfjjglejlnfbaaGreatDoorPut
import Derived.Laws.StructEq
namespace Go.Proofs.YtgfjjglejlnfbaaGreatDoor
open Go.RowKit

/-- An entry. -/
structure Ent where
  name : ByteArray
  folder : Bool
  id : Nat → Int
def Ent.cells (e : Ent) : Array Value := #[.string e.name, .bool e.folder] ++ arr .u8 32 e.id
theorem Ent.size (e : Ent) : e.cells.size = 34 := by simp [Ent.cells, arr_size]
theorem Ent.cell0 (e : Ent) : e.cells[0]? = some (.string e.name) := by simp [Ent.cells, Array.getElem?_append]
theorem Ent.cell1 (e : Ent) : e.cells[1]? = some (.bool e.folder) := by simp [Ent.cells, Array.getElem?_append]
theorem Ent.cellId (e : Ent) (j : Nat) (h : j < 32) : e.cells[2 + j]? = some (.int .u8 (e.id j)) := by
  simp only [Ent.cells, Array.getElem?_append]
  rw [if_neg (by simp)]
  simp only [List.size_toArray, List.length_cons, List.length_nil, Nat.zero_add, Nat.reduceAdd, Nat.add_sub_cancel_left]
  exact arr_get h

/-- An object as it is handed on: its lists are slices. -/
structure Ob where
  kind : Int
  bs : Value
  es : Value
  tree : Nat → Int
  ps : Value
  num : Int
  note : ByteArray
def Ob.cells (o : Ob) : Array Value := #[.int .i64 o.kind, o.bs, o.es] ++ arr .u8 32 o.tree ++ #[o.ps, .int .u32 o.num, .string o.note]
theorem Ob.size (o : Ob) : o.cells.size = 38 := by simp [Ob.cells, arr_size]
theorem Ob.cell0 (o : Ob) : o.cells[0]? = some (.int .i64 o.kind) := by simp [Ob.cells, arr_size]
theorem Ob.cell1 (o : Ob) : o.cells[1]? = some o.bs := by simp [Ob.cells, arr_size]
theorem Ob.cell2 (o : Ob) : o.cells[2]? = some o.es := by simp [Ob.cells, arr_size]
theorem Ob.cell35 (o : Ob) : o.cells[35]? = some o.ps := by simp [Ob.cells, arr_size]
theorem Ob.cell36 (o : Ob) : o.cells[36]? = some (.int .u32 o.num) := by simp [Ob.cells, arr_size]
theorem Ob.cell37 (o : Ob) : o.cells[37]? = some (.string o.note) := by simp [Ob.cells, arr_size]
theorem Ob.cellTree (o : Ob) (j : Nat) (h : j < 32) : o.cells[3 + j]? = some (.int .u8 (o.tree j)) := by
  simp only [Ob.cells, Array.getElem?_append, Array.size_append, arr_size]
  rw [if_pos (by simp; omega), if_neg (by simp)]
  simp only [List.size_toArray, List.length_cons, List.length_nil, Nat.zero_add, Nat.reduceAdd, Nat.add_sub_cancel_left]
  exact arr_get h

/-- An object's cells in a row. -/
structure ObRow (w : World) (g o : Nat) (x : Ob) : Prop where
  c0 : w.cell? ⟨g, o, none⟩ = some (.int .i64 x.kind)
  c1 : w.cell? ⟨g, o + 1, none⟩ = some x.bs
  c2 : w.cell? ⟨g, o + 2, none⟩ = some x.es
  c35 : w.cell? ⟨g, o + 35, none⟩ = some x.ps
  c36 : w.cell? ⟨g, o + 36, none⟩ = some (.int .u32 x.num)
  c37 : w.cell? ⟨g, o + 37, none⟩ = some (.string x.note)
  tree : ∀ i, i < 32 → w.cell? ⟨g, o + 3 + i, none⟩ = some (.int .u8 (x.tree i))
theorem obRow {w : World} {g : Nat} {x : Ob} {t : TypeId} {fr : Nat × Nat} (h : w.heap[g]? = some (.cells x.cells t fr)) : ObRow w g 0 x :=
  ⟨(cell_of_row _ _ _ _ _ _ h).trans x.cell0, (cell_of_row _ _ _ _ _ _ h).trans x.cell1, (cell_of_row _ _ _ _ _ _ h).trans x.cell2, (cell_of_row _ _ _ _ _ _ h).trans x.cell35,
   (cell_of_row _ _ _ _ _ _ h).trans x.cell36, (cell_of_row _ _ _ _ _ _ h).trans x.cell37, fun i hi => by rw [Nat.zero_add]; exact (cell_of_row _ _ _ _ _ _ h).trans (x.cellTree i hi)⟩
theorem ObRow.below {w w' : World} {g o : Nat} {x : Ob} (h : ObRow w g o x) (hb : Below w.heap.size w w') : ObRow w' g o x := by
  have hg : g < w.heap.size := block_lt_of_cell h.c0
  exact ⟨(hb.cell (p := ⟨g, o, none⟩) hg).trans h.c0, (hb.cell (p := ⟨g, o + 1, none⟩) hg).trans h.c1, (hb.cell (p := ⟨g, o + 2, none⟩) hg).trans h.c2, (hb.cell (p := ⟨g, o + 35, none⟩) hg).trans h.c35,
    (hb.cell (p := ⟨g, o + 36, none⟩) hg).trans h.c36, (hb.cell (p := ⟨g, o + 37, none⟩) hg).trans h.c37, fun i hi => (hb.cell (p := ⟨g, o + 3 + i, none⟩) hg).trans (h.tree i hi)⟩

/-- Elements of m cells each, one behind the other. -/
def RowsAt {α : Type} (w : World) (m : Nat) (cs : α → Array Value) (sp : Option Addr) (xs : List α) : Prop :=
  0 < xs.length → ∃ b off, sp = some ⟨b, off, none⟩ ∧ ∀ i x, xs[i]? = some x → ∀ j u, (cs x)[j]? = some u → w.cell? ⟨b, off + i * m + j, none⟩ = some u
theorem RowsAt.below {α : Type} {w w' : World} {m : Nat} {cs : α → Array Value} {sp : Option Addr} {xs : List α} (h : RowsAt w m cs sp xs) (hb : Below w.heap.size w w') : RowsAt w' m cs sp xs := fun hl => by
  obtain ⟨b, off, hs, hc⟩ := h hl
  exact ⟨b, off, hs, fun i x hx j u hu => (hb.cell (block_lt_of_cell (hc i x hx j u hu))).trans (hc i x hx j u hu)⟩
theorem RowsAt.none {α : Type} {w : World} {m : Nat} {cs : α → Array Value} {sp : Option Addr} : RowsAt w m cs sp [] := fun h => by simp at h

/-- A load of m cells that are known one by one. -/
theorem run_mid {P : Program} {ty : TypeId} {g o : Nat} {cs : Array Value} {d : TypeDesc} {w : World} (hc : ∀ j u, cs[j]? = some u → w.cell? ⟨g, o + j, none⟩ = some u) (hu : P.underlying ty = some d)
    (hd : d.isRow = true) (hsz : (P.info? ty).map (·.size) = some cs.size) : (loadVar ty ⟨g, o, none⟩).run P w = .ok (.agg cs) w := by
  have hr := run_loadVar_mid (P := P) w g o ty cs.toList d (fun j v hv => hc j v (by simpa using hv)) hu hd (by simpa using hsz)
  rw [Array.toArray_toList] at hr
  exact hr
theorem load_mid {P : Program} {ops : Array Oper} {Q : Exit → Act → World → Prop} {a : Act} {w : World} {rest : List Oper} {o : Oper} (hgd : o.guard = none) (ty : TypeId) (x : Operand) (ho : o.op = .load ty x) (g p : Nat) (hx : a.eval x = .pointer (some ⟨g, p, none⟩))
    (cs : Array Value) (d : TypeDesc) (hc : ∀ j u, cs[j]? = some u → w.cell? ⟨g, p + j, none⟩ = some u) (hu : P.underlying ty = some d)
    (hd : d.isRow = true) (hsz : (P.info? ty).map (·.size) = some cs.size)
    (h : wpList P ops Q rest (a.put o.dst (.agg cs)) w) : wpList P ops Q (o :: rest) a w :=
  wpList_plain hgd fun _ hK => by
    unfold Oper.wp execOp
    simp only [ho, hx, Instr.loadAt, Instr.sureAddr, Sem.run_bind, Sem.run_pure, Result.andThen_ok, run_mid hc hu hd hsz]
    exact hK _ _ h

/-- Are the first n numbers the same? -/
def eqTo (f g : Nat → Int) (n : Nat) : Bool := (List.range n).all fun i => f i == g i
theorem eqTo_true {f g : Nat → Int} {n : Nat} (h : ∀ i, i < n → f i = g i) : eqTo f g n = true := by
  unfold eqTo
  rw [List.all_eq_true]
  intro i hi
  simp [h i (List.mem_range.1 hi)]
theorem eqTo_iff {f g : Nat → Int} {n : Nat} : eqTo f g n = true ↔ ∀ i, i < n → f i = g i := by
  unfold eqTo
  rw [List.all_eq_true]
  simp
theorem run_elem {P : Program} {e : TypeId} {k k' : IntKind} {n i : Nat} {f : Nat → Int} {w : World} (he : P.underlying e = some (.int k')) (hi : i < n) : (part e (arr k n f) i).run P w = .ok (.int k (f i)) w := by
  simp [part, isAgg, run_underlying he, arr_get hi]
theorem equal_arr' {P : Program} (d : Nat) (t e : TypeId) (n : Nat) (k k' : IntKind) (f g : Nat → Int) (ht : P.underlying t = some (.array n e)) (he : P.underlying e = some (.int k')) (hs : (P.info? e).map (·.size) = some 1) (w : World)
    (hd : ∀ a b, (Op.equalIn d e (.int k a) (.int k b)).run P w = .ok (a == b) w) :
    (Op.equalIn (d + 1) t (.agg (arr k n f)) (.agg (arr k n g))).run P w = .ok (eqTo f g n) w := by
  have h3 : (sizeOf e).run P w = .ok 1 w := by
    cases hq : P.info? e with
    | none => simp [hq] at hs
    | some q =>
      have hq1 : q.size = 1 := by simpa [hq] using hs
      simp [sizeOf, typeInfo, hq, hq1]
  have key : ∀ m s, s + m ≤ n → ((forIn (List.range' s m) ((none : Option Bool), ()) fun i (_ : Option Bool × Unit) => do
        let a ← part e (arr k n f) (i * 1)
        let b ← part e (arr k n g) (i * 1)
        let c ← Op.equalIn d e a b
        if (!c) = true then pure (.done (some false, ())) else pure (.yield (none, ()))).run P w) = .ok (if (List.range' s m).all fun i => f i == g i then none else some false, ()) w := by
    intro m
    induction m with
    | zero => intro s _; simp
    | succ m ih =>
      intro s hsm
      simp only [List.range'_succ, List.forIn_cons, Nat.mul_one, Sem.run_bind, run_elem he (show s < n by omega), Result.andThen_ok, hd, List.all_cons]
      by_cases hfg : f s = g s
      · have hb : (f s == g s) = true := by simp [hfg]
        simp only [hb, Bool.not_true, Bool.false_eq_true, if_false, Sem.run_pure, Result.andThen_ok, Bool.true_and]
        have := ih (s + 1) (by omega)
        simp only [Nat.mul_one] at this
        exact this
      · have hb : (f s == g s) = false := by simp [hfg]
        simp [hb]
  have h0 := key n 0 (by omega)
  simp only [Op.equalIn, Sem.run_bind, run_underlying ht, Result.andThen_ok, h3, Std.Legacy.Range.forIn_eq_forIn_range']
  have e0 : [:n].size = n := by simp [Std.Legacy.Range.size]
  rw [e0, h0]
  unfold eqTo
  rw [List.range_eq_range']
  cases (List.range' 0 n).all fun i => f i == g i <;> simp
theorem equal_arr {P : Program} (d : Nat) (t e : TypeId) (n : Nat) (k k' : IntKind) (f g : Nat → Int) (ht : P.underlying t = some (.array n e)) (he : P.underlying e = some (.int k')) (hs : (P.info? e).map (·.size) = some 1) (w : World) :
    (Op.equalIn (d + 1 + 1) t (.agg (arr k n f)) (.agg (arr k n g))).run P w = .ok (eqTo f g n) w :=
  equal_arr' (d + 1) t e n k k' f g ht he hs w fun a b => run_equalIn_int w d e k k' a b he

/-- Two Ids compared. -/
theorem equal_id (f g : Nat → Int) (w : World) : (Op.equalIn 10000 26 (.agg (arr .u8 32 f)) (.agg (arr .u8 32 g))).run Tryz.prog w = .ok (eqTo f g 32) w :=
  equal_arr 9998 26 5 32 .u8 .u8 f g Tryz.underlying26 Tryz.underlying5 (by kernel_rfl) w

/-- Two entries compared. -/
def entEq (a b : Ent) : Bool := (a.name.toList == b.name.toList) && (a.folder == b.folder) && eqTo a.id b.id 32
theorem part_id (e : Ent) (w : World) : (part 26 e.cells 2).run Tryz.prog w = .ok (.agg (arr .u8 32 e.id)) w := by
  have h : e.cells.extract 2 (2 + 32) = arr .u8 32 e.id := by
    apply Array.ext
    · simp [Ent.size, arr_size]
    · intro i h1 h2
      have hi : i < 32 := by simpa [arr_size] using h2
      have e1 := e.cellId i hi
      have e2 := arr_get (k := .u8) (f := e.id) hi
      rw [Array.getElem_extract]
      rw [Array.getElem?_eq_getElem (by simp [Ent.size]; omega)] at e1
      rw [Array.getElem?_eq_getElem h2] at e2
      exact (Option.some.inj e1).trans (Option.some.inj e2).symm
  simp [part, isAgg, run_underlying Tryz.underlying26, h]
theorem equal_ent (a b : Ent) (w : World) : (Op.equalIn 10000 133 (.agg a.cells) (.agg b.cells)).run Tryz.prog w = .ok (entEq a b) w := by
  have hf : (Tryz.prog.fieldsOf 133).toList.map (fun f => (f.name == "_", f.type, f.offset)) = [(false, 9, 0), (false, 4, 1), (false, 26, 2)] := by kernel_rfl
  rw [show (10000 : Nat) = 9999 + 1 from rfl, run_equalIn_struct w 9999 133 a.cells b.cells (by kernel_rfl) (by kernel_rfl)]
  have p0 : ∀ e : Ent, (part 9 e.cells 0).run Tryz.prog w = .ok (.string e.name) w := fun e => by simp [part, isAgg, run_underlying Tryz.underlying9, e.cell0]
  have p1 : ∀ e : Ent, (part 4 e.cells 1).run Tryz.prog w = .ok (.bool e.folder) w := fun e => by simp [part, isAgg, run_underlying Tryz.underlying4, e.cell1]
  have e2 := equal_arr 9997 26 5 32 .u8 .u8 a.id b.id Tryz.underlying26 Tryz.underlying5 (by kernel_rfl) w
  generalize (Tryz.prog.fieldsOf 133).toList = fs at hf ⊢
  have hl : fs.length = 3 := by simpa using congrArg List.length hf
  obtain ⟨f0, f1, f2, rfl⟩ : ∃ a b c, fs = [a, b, c] := by
    cases fs with
    | nil => simp at hl
    | cons a r => cases r with
      | nil => simp at hl
      | cons b r => cases r with
        | nil => simp at hl
        | cons c r => cases r with
          | nil => exact ⟨a, b, c, rfl⟩
          | cons d r => simp at hl
  simp only [List.map_cons, List.map_nil, List.cons.injEq, Prod.mk.injEq, beq_eq_false_iff_ne, ne_eq, and_true] at hf
  obtain ⟨⟨n0, t0, o0⟩, ⟨n1, t1, o1⟩, n2, t2, o2⟩ := hf
  simp only [Op.eqFields, n0, n1, n2, t0, t1, t2, o0, o1, o2, ne_eq, not_false_eq_true, if_true, Sem.run_bind, p0, Result.andThen_ok]
  rw [run_equalIn_string w 9998 9 _ _ Tryz.underlying9]
  simp only [Result.andThen_ok, entEq]
  cases h0 : a.name.toList == b.name.toList with
  | false => simp
  | true =>
    simp only [Bool.not_true, Bool.false_eq_true, if_false, Bool.true_and, Sem.run_bind, p1, Result.andThen_ok]
    rw [run_equalIn_bool' w 9998 4 _ _ Tryz.underlying4]
    cases h1 : a.folder == b.folder with
    | false => simp
    | true =>
      simp only [Result.andThen_ok, Bool.not_true, Bool.false_eq_true, if_false, Bool.true_and, Sem.run_bind, part_id]
      rw [e2]
      cases eqTo a.id b.id 32 <;> simp
end Go.Proofs.YtgfjjglejlnfbaaGreatDoor
