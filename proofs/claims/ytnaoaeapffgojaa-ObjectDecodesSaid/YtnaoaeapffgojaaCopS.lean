/- The contract of the laws' copied: its region of three appends, in whatever order its parts come. -/
import Derived.Test.YtnaoaeapffgojaaAppF
namespace Go.Proofs.Ytnaoaeapffgojaa
open Go.RowKit

def copOps : Array Oper := #[{ dst := some 3, op := Op.buildSlice 22 0 #[], type := 22, pos := "law.go:20", after := #[], guard := none }, { dst := some 4, op := Op.fieldAddr 30 (Operand.tmp 1) 1, type := 0, pos := "law.go:20", after := #[], guard := none }, { dst := some 5, op := Op.load 22 (Operand.tmp 4), type := 22, pos := "law.go:20", after := #[{ on := 1, ground := Ground.data }], guard := none }, { dst := some 6, op := Op.call { callee := Callee.builtin Builtin.append, args := #[Operand.tmp 3, Operand.tmp 5], argTypes := #[22, 22] }, type := 22, pos := "law.go:20", after := #[{ on := 0, ground := Ground.data }, { on := 2, ground := Ground.data }], guard := none }, { dst := some 7, op := Op.buildSlice 24 0 #[], type := 24, pos := "law.go:20", after := #[], guard := none }, { dst := some 8, op := Op.fieldAddr 30 (Operand.tmp 1) 2, type := 0, pos := "law.go:20", after := #[], guard := none }, { dst := some 9, op := Op.load 24 (Operand.tmp 8), type := 24, pos := "law.go:20", after := #[{ on := 5, ground := Ground.data }], guard := none }, { dst := some 10, op := Op.call { callee := Callee.builtin Builtin.append, args := #[Operand.tmp 7, Operand.tmp 9], argTypes := #[24, 24] }, type := 24, pos := "law.go:20", after := #[{ on := 4, ground := Ground.data }, { on := 6, ground := Ground.data }, { on := 3, ground := Ground.chain }], guard := none }, { dst := some 11, op := Op.buildSlice 27 0 #[], type := 27, pos := "law.go:20", after := #[], guard := none }, { dst := some 12, op := Op.fieldAddr 30 (Operand.tmp 1) 4, type := 0, pos := "law.go:20", after := #[], guard := none }, { dst := some 13, op := Op.load 27 (Operand.tmp 12), type := 27, pos := "law.go:20", after := #[{ on := 9, ground := Ground.data }], guard := none }, { dst := some 14, op := Op.call { callee := Callee.builtin Builtin.append, args := #[Operand.tmp 11, Operand.tmp 13], argTypes := #[27, 27] }, type := 27, pos := "law.go:20", after := #[{ on := 8, ground := Ground.data }, { on := 10, ground := Ground.data }, { on := 7, ground := Ground.chain }], guard := none }, { dst := some 15, op := Op.fieldAddr 30 (Operand.tmp 1) 1, type := 0, pos := "law.go:20", after := #[{ on := 0, ground := Ground.phase }, { on := 1, ground := Ground.phase }, { on := 2, ground := Ground.phase }, { on := 3, ground := Ground.phase }, { on := 4, ground := Ground.textOnly Departure.lateStores }, { on := 5, ground := Ground.phase }, { on := 6, ground := Ground.phase }, { on := 7, ground := Ground.textOnly Departure.lateStoresUnsure }, { on := 8, ground := Ground.textOnly Departure.lateStores }, { on := 9, ground := Ground.phase }, { on := 10, ground := Ground.phase }, { on := 11, ground := Ground.textOnly Departure.lateStoresUnsure }], guard := none }, { dst := none, op := Op.store 22 (Operand.tmp 15) (Operand.tmp 6), type := 0, pos := "law.go:20", after := #[{ on := 12, ground := Ground.data }, { on := 3, ground := Ground.data }, { on := 11, ground := Ground.chain }, { on := 0, ground := Ground.phase }, { on := 1, ground := Ground.phase }, { on := 2, ground := Ground.phase }, { on := 3, ground := Ground.phase }, { on := 4, ground := Ground.textOnly Departure.lateStores }, { on := 5, ground := Ground.phase }, { on := 6, ground := Ground.phase }, { on := 7, ground := Ground.textOnly Departure.lateStoresUnsure }, { on := 8, ground := Ground.textOnly Departure.lateStores }, { on := 9, ground := Ground.phase }, { on := 10, ground := Ground.phase }, { on := 11, ground := Ground.textOnly Departure.lateStoresUnsure }], guard := none }, { dst := some 16, op := Op.fieldAddr 30 (Operand.tmp 1) 2, type := 0, pos := "law.go:20", after := #[{ on := 0, ground := Ground.phase }, { on := 1, ground := Ground.phase }, { on := 2, ground := Ground.phase }, { on := 3, ground := Ground.phase }, { on := 4, ground := Ground.phase }, { on := 5, ground := Ground.phase }, { on := 6, ground := Ground.phase }, { on := 7, ground := Ground.phase }, { on := 8, ground := Ground.textOnly Departure.lateStores }, { on := 9, ground := Ground.phase }, { on := 10, ground := Ground.phase }, { on := 11, ground := Ground.textOnly Departure.lateStoresUnsure }, { on := 12, ground := Ground.phase }, { on := 13, ground := Ground.phase }], guard := none }, { dst := none, op := Op.store 24 (Operand.tmp 16) (Operand.tmp 10), type := 0, pos := "law.go:20", after := #[{ on := 14, ground := Ground.data }, { on := 7, ground := Ground.data }, { on := 13, ground := Ground.chain }, { on := 0, ground := Ground.phase }, { on := 1, ground := Ground.phase }, { on := 2, ground := Ground.phase }, { on := 3, ground := Ground.phase }, { on := 4, ground := Ground.phase }, { on := 5, ground := Ground.phase }, { on := 6, ground := Ground.phase }, { on := 7, ground := Ground.phase }, { on := 8, ground := Ground.textOnly Departure.lateStores }, { on := 9, ground := Ground.phase }, { on := 10, ground := Ground.phase }, { on := 11, ground := Ground.textOnly Departure.lateStoresUnsure }, { on := 12, ground := Ground.phase }, { on := 13, ground := Ground.phase }], guard := none }, { dst := some 17, op := Op.fieldAddr 30 (Operand.tmp 1) 4, type := 0, pos := "law.go:20", after := #[{ on := 0, ground := Ground.phase }, { on := 1, ground := Ground.phase }, { on := 2, ground := Ground.phase }, { on := 3, ground := Ground.phase }, { on := 4, ground := Ground.phase }, { on := 5, ground := Ground.phase }, { on := 6, ground := Ground.phase }, { on := 7, ground := Ground.phase }, { on := 8, ground := Ground.phase }, { on := 9, ground := Ground.phase }, { on := 10, ground := Ground.phase }, { on := 11, ground := Ground.phase }, { on := 12, ground := Ground.phase }, { on := 13, ground := Ground.phase }, { on := 14, ground := Ground.phase }, { on := 15, ground := Ground.phase }], guard := none }, { dst := none, op := Op.store 27 (Operand.tmp 17) (Operand.tmp 14), type := 0, pos := "law.go:20", after := #[{ on := 16, ground := Ground.data }, { on := 11, ground := Ground.data }, { on := 15, ground := Ground.chain }, { on := 0, ground := Ground.phase }, { on := 1, ground := Ground.phase }, { on := 2, ground := Ground.phase }, { on := 3, ground := Ground.phase }, { on := 4, ground := Ground.phase }, { on := 5, ground := Ground.phase }, { on := 6, ground := Ground.phase }, { on := 7, ground := Ground.phase }, { on := 8, ground := Ground.phase }, { on := 9, ground := Ground.phase }, { on := 10, ground := Ground.phase }, { on := 11, ground := Ground.phase }, { on := 12, ground := Ground.phase }, { on := 13, ground := Ground.phase }, { on := 14, ground := Ground.phase }, { on := 15, ground := Ground.phase }], guard := none }]

/-- A slice of elements in new memory. -/
def Fr {α : Type} (m : Nat) (f : α → Array Value) (B : Nat) (xs : List α) (v : Value) (W : World) : Prop := ∃ sp cap, v = .slice sp xs.length cap ∧ RowsAt W m f sp xs ∧ (∀ a, sp = some a → B ≤ a.block) ∧ sp ≠ none
theorem Fr.below {α : Type} {m : Nat} {f : α → Array Value} {B : Nat} {xs : List α} {v : Value} {W W' : World} (h : Fr m f B xs v W) (hb : Below W.heap.size W W') : Fr m f B xs v W' := by
  obtain ⟨sp, cap, h1, h2, h3, h4⟩ := h
  exact ⟨sp, cap, h1, h2.below hb, h3, h4⟩
def bcell (x : Int) : Array Value := #[.int .u8 x]
def bl (c : Co) : List Int := (List.range c.nb).map c.bf
theorem bl_len (c : Co) : (bl c).length = c.nb := by simp [bl]
theorem src_rows {w : World} {sp : Option Addr} {c : Co} (h : SrcAt w .u8 sp c.nb c.bf) : RowsAt w 1 bcell sp (bl c) := fun hl => by
  rw [bl_len] at hl
  obtain ⟨b, off, hs, hc⟩ := h hl
  refine ⟨b, off, hs, fun i x hx j u hu => ?_⟩
  have hi : i < c.nb := by rw [← bl_len c]; exact (List.getElem?_eq_some_iff.1 hx).1
  have hx' : c.bf i = x := by simpa [bl, hi] using hx
  have hj : j = 0 := by
    have : j < (bcell x).size := (Array.getElem?_eq_some_iff.1 hu).1
    have h1 : (bcell x).size = 1 := rfl
    omega
  subst hj
  have hu' : (Value.int .u8 x) = u := by simpa [bcell] using hu
  rw [← hu', ← hx', Nat.mul_one, Nat.add_zero]
  exact hc i hi
theorem rows_src {w : World} {sp : Option Addr} {c : Co} (h : RowsAt w 1 bcell sp (bl c)) : SrcAt w .u8 sp c.nb c.bf := fun hl => by
  obtain ⟨b, off, hs, hc⟩ := h (by rw [bl_len]; exact hl)
  refine ⟨b, off, hs, fun i hi => ?_⟩
  have := hc i (c.bf i) (by simp [bl, hi]) 0 (.int .u8 (c.bf i)) rfl
  rwa [Nat.mul_one, Nat.add_zero] at this
theorem wpOp_plain {P : Program} {ops : Array Oper} {Q : Exit → Act → World → Prop} {K : Act → World → Prop} {a : Act} {w : World} {i : Nat} {oi : Oper} (hi : ops[i]? = some oi) (hg : oi.guard = none) (h : oi.wp P a w K Q) : wpOp P ops Q i K a w := by
  unfold wpOp
  simp only [hi, wanted_plain hg, if_true]
  exact .inl h
theorem op_append {P : Program} {Q : Exit → Act → World → Prop} {K : Act → World → Prop} {a : Act} {w w' : World} {o : Oper} {v' vs vx : Value} (s x : Operand) (t : TypeId) (ho : o.op = .call { callee := .builtin .append, args := #[s, x], argTypes := #[t, t] }) (hs : a.eval s = vs) (hx : a.eval x = vx)
    (hr : (Builtin.append_ #[t, t] o.type #[vs, vx]).run P w = .ok v' w') (h : K (a.put o.dst v') w') : o.wp P a w K Q := by
  unfold Oper.wp execOp
  simp only [ho, resolve, invoke, builtin, Sem.run_bind, Sem.run_pure, Result.andThen_ok, List.map_toArray, List.map_cons, List.map_nil, hs, hx, hr]
  exact h
theorem op_build {P : Program} {Q : Exit → Act → World → Prop} {K : Act → World → Prop} {a : Act} {w w' : World} {o : Oper} {v' : Value} (t : TypeId) (ho : o.op = .buildSlice t 0 #[])
    (hr : (Instr.buildSlice t 0 #[]).run P w = .ok v' w') (h : K (a.put o.dst v') w') : o.wp P a w K Q := by
  unfold Oper.wp execOp
  simp only [ho, Sem.run_bind, Sem.run_pure, Result.andThen_ok, List.map_toArray, List.map_nil, hr]
  exact h
theorem op_load {P : Program} {Q : Exit → Act → World → Prop} {K : Act → World → Prop} {a : Act} {w : World} {o : Oper} {v : Value} {p : Addr} (t : TypeId) (x : Operand) (ho : o.op = .load t x) (hx : a.eval x = .pointer (some p))
    (hr : (loadVar t p).run P w = .ok v w) (h : K (a.put o.dst v) w) : o.wp P a w K Q := by
  unfold Oper.wp execOp
  simp only [ho, hx, Instr.loadAt, Instr.sureAddr, Sem.run_bind, Sem.run_pure, Result.andThen_ok, hr]
  exact h
theorem ldB {W : World} {p : Addr} {s : Option Addr} {n k : Nat} (q : W.cell? p = some (.slice s n k)) : (loadVar 22 p).run Try.prog W = .ok (.slice s n k) W := by go_simp
theorem ldE {W : World} {p : Addr} {s : Option Addr} {n k : Nat} (q : W.cell? p = some (.slice s n k)) : (loadVar 24 p).run Try.prog W = .ok (.slice s n k) W := by go_simp
theorem ldI {W : World} {p : Addr} {s : Option Addr} {n k : Nat} (q : W.cell? p = some (.slice s n k)) : (loadVar 27 p).run Try.prog W = .ok (.slice s n k) W := by go_simp
theorem bldB (W : World) : (Instr.buildSlice 22 0 #[]).run Try.prog W = .ok (.slice (some ⟨W.heap.size, 0, none⟩) 0 0) (W.alloc (.cells #[] 5)) := by kernel_rfl
theorem bldE (W : World) : (Instr.buildSlice 24 0 #[]).run Try.prog W = .ok (.slice (some ⟨W.heap.size, 0, none⟩) 0 0) (W.alloc (.cells #[] 40)) := by kernel_rfl
theorem bldI (W : World) : (Instr.buildSlice 27 0 #[]).run Try.prog W = .ok (.slice (some ⟨W.heap.size, 0, none⟩) 0 0) (W.alloc (.cells #[] 26)) := by kernel_rfl
/-- What the region begins with. -/
structure Cop (c : Co) (w W1 : World) (h : Nat) (s1 s2 s3 : Option Addr) (k1 k2 k3 : Nat) : Prop where
  s : Below h w W1
  lt : h < W1.heap.size
  c1 : W1.cell? ⟨h, 1, none⟩ = some (.slice s1 c.nb k1)
  c2 : W1.cell? ⟨h, 2, none⟩ = some (.slice s2 c.es.length k2)
  c3 : W1.cell? ⟨h, 35, none⟩ = some (.slice s3 c.ps.length k3)
  r1 : RowsAt W1 1 bcell s1 (bl c)
  n1 : s1 = none → (bl c).length = 0 ∧ k1 = 0
  l1 : (bl c).length ≤ 100000
  r2 : RowsAt W1 34 Ent.cells s2 c.es
  n2 : s2 = none → c.es.length = 0 ∧ k2 = 0
  l2 : c.es.length ≤ 100000
  r3 : RowsAt W1 32 (arr .u8 32) s3 c.ps
  n3 : s3 = none → c.ps.length = 0 ∧ k3 = 0
  l3 : c.ps.length ≤ 100000
instance : Inhabited Ent := ⟨⟨⟨#[]⟩, false, fun _ => 0⟩⟩
theorem appB {c : Co} {w W1 W : World} {s1 s2 s3 : Option Addr} {h k1 k2 k3 g : Nat} (X : Cop c w W1 h s1 s2 s3 k1 k2 k3) (hS : Below W1.heap.size W1 W) (hg : W1.heap.size ≤ g) (ty : TypeId) :
    ∃ v' W', (Builtin.append_ #[22, 22] ty #[.slice (some ⟨g, 0, none⟩) 0 0, .slice s1 c.nb k1]).run Try.prog W = .ok v' W' ∧ Below W.heap.size W W' ∧ Fr 1 bcell W1.heap.size (bl c) v' W' := by
  obtain ⟨i, hi, hz0, hz1, hz2⟩ := info_parts info5
  obtain ⟨v', W', h1, h2, sp, cap, h3, h4, h5, h6⟩ := app_fresh (t := 22) (ty := ty) bcell Try.underlying22 hi hz0 hz1 (by rw [hz2]; omega) (by omega) (fun _ => rfl) g s1 k1 (bl c) W (X.r1.below hS) X.n1 X.l1
  rw [bl_len] at h1
  exact ⟨v', W', h1, h2, sp, cap, h3, h4, fun a ha => by have := hS.size; rcases h5 a ha with q | q <;> omega, h6⟩
theorem appE {c : Co} {w W1 W : World} {s1 s2 s3 : Option Addr} {h k1 k2 k3 g : Nat} (X : Cop c w W1 h s1 s2 s3 k1 k2 k3) (hS : Below W1.heap.size W1 W) (hg : W1.heap.size ≤ g) (ty : TypeId) :
    ∃ v' W', (Builtin.append_ #[24, 24] ty #[.slice (some ⟨g, 0, none⟩) 0 0, .slice s2 c.es.length k2]).run Try.prog W = .ok v' W' ∧ Below W.heap.size W W' ∧ Fr 34 Ent.cells W1.heap.size c.es v' W' := by
  obtain ⟨i, hi, hz0, hz1, hz2⟩ := info_parts (show (Try.prog.info? 40).map (fun i => (i.zero, i.size, i.bytes)) = some (some (.agg (Ent.cells ⟨⟨#[]⟩, false, fun _ => 0⟩)), 34, 56) by kernel_rfl)
  obtain ⟨v', W', h1, h2, sp, cap, h3, h4, h5, h6⟩ := app_fresh (t := 24) (ty := ty) Ent.cells Try.underlying24 hi hz0 hz1 (by rw [hz2]; omega) (by omega) Ent.size g s2 k2 c.es W (X.r2.below hS) X.n2 X.l2
  exact ⟨v', W', h1, h2, sp, cap, h3, h4, fun a ha => by have := hS.size; rcases h5 a ha with q | q <;> omega, h6⟩
theorem appI {c : Co} {w W1 W : World} {s1 s2 s3 : Option Addr} {h k1 k2 k3 g : Nat} (X : Cop c w W1 h s1 s2 s3 k1 k2 k3) (hS : Below W1.heap.size W1 W) (hg : W1.heap.size ≤ g) (ty : TypeId) :
    ∃ v' W', (Builtin.append_ #[27, 27] ty #[.slice (some ⟨g, 0, none⟩) 0 0, .slice s3 c.ps.length k3]).run Try.prog W = .ok v' W' ∧ Below W.heap.size W W' ∧ Fr 32 (arr .u8 32) W1.heap.size c.ps v' W' := by
  obtain ⟨i, hi, hz0, hz1, hz2⟩ := info_parts (show (Try.prog.info? 26).map (fun i => (i.zero, i.size, i.bytes)) = some (some (.agg (arr .u8 32 fun _ => 0)), 32, 32) by kernel_rfl)
  obtain ⟨v', W', h1, h2, sp, cap, h3, h4, h5, h6⟩ := app_fresh (t := 27) (ty := ty) (arr .u8 32) Try.underlying27 hi hz0 hz1 (by rw [hz2]; omega) (by omega) (fun _ => arr_size _ _ _) g s3 k3 c.ps W (X.r3.below hS) X.n3 X.l3
  exact ⟨v', W', h1, h2, sp, cap, h3, h4, fun a ha => by have := hS.size; rcases h5 a ha with q | q <;> omega, h6⟩
section
variable {Q : Exit → Act → World → Prop} {o : Ob} {c : Co} {w W1 : World} {h k1 k2 k3 : Nat} {s1 s2 s3 : Option Addr}

theorem cop_111_111_2 (_hQ : ∀ (ch) (a : Act) (d : Nat) (v : Value) (w : World), Q (.panic ch) (a.put (some d) v) w → Q (.panic ch) a w) (X : Cop c w W1 h s1 s2 s3 k1 k2 k3) (fin : ∀ (u3 u7 u11 v1 v2 v3 : Value) (W : World), Below W1.heap.size W1 W → Fr 1 bcell W1.heap.size (bl c) v1 W → Fr 34 Ent.cells W1.heap.size c.es v2 W → Fr 32 (arr .u8 32) W1.heap.size c.ps v3 W → wpAnyH Try.prog .any copOps Q (fun w' => Below h w w') 5 #[true, true, true, true, true, true, true, true, true, true, true, true, true, false, false, false, false, false] ⟨#[.agg o.cells, .pointer (some ⟨h, 0, none⟩), .pointer (some ⟨h + 1, 0, none⟩), u3, .pointer (some ⟨h, 1, none⟩), .slice s1 c.nb k1, v1, u7, .pointer (some ⟨h, 2, none⟩), .slice s2 c.es.length k2, v2, u11, .pointer (some ⟨h, 35, none⟩), .slice s3 c.ps.length k3, v3, .pointer (some ⟨h, 1, none⟩), undef, undef, undef], []⟩ W) (W : World) (hT : Below W1.heap.size W1 W) (g3 : Nat) (_hg0 : W1.heap.size ≤ g3) (g7 : Nat) (_hg1 : W1.heap.size ≤ g7) (g11 : Nat) (hg2 : W1.heap.size ≤ g11) (v1 : Value) (f0 : Fr 1 bcell W1.heap.size (bl c) v1 W) (v2 : Value) (f1 : Fr 34 Ent.cells W1.heap.size c.es v2 W) : wpAnyH Try.prog .any copOps Q (fun w' => Below h w w') 6 #[true, true, true, true, true, true, true, true, true, true, true, false, true, false, false, false, false, false] ⟨#[.agg o.cells, .pointer (some ⟨h, 0, none⟩), .pointer (some ⟨h + 1, 0, none⟩), .slice (some ⟨g3, 0, none⟩) 0 0, .pointer (some ⟨h, 1, none⟩), .slice s1 c.nb k1, v1, .slice (some ⟨g7, 0, none⟩) 0 0, .pointer (some ⟨h, 2, none⟩), .slice s2 c.es.length k2, v2, .slice (some ⟨g11, 0, none⟩) 0 0, .pointer (some ⟨h, 35, none⟩), .slice s3 c.ps.length k3, undef, .pointer (some ⟨h, 1, none⟩), undef, undef, undef], []⟩ W := by
  refine wpAnyH_all (rs := [11]) (by kernel_rfl) (by simp) fun i hi => ?_
  simp only [List.mem_cons, List.not_mem_nil, or_false] at hi
  subst hi
  · refine wpOp_plain rfl rfl ?_
    obtain ⟨v, W', hr, hB, hF⟩ := appI X hT hg2 27
    refine op_append (.tmp 11) (.tmp 13) 27 rfl rfl rfl hr ?_
    have hT2 := hT.trans (hB.mono hT.size)
    refine ⟨X.s.trans (hT2.mono (Nat.le_of_lt X.lt)), ?_⟩
    simp only [Act.put, List.setIfInBounds_toArray, List.set_cons_succ, List.set_cons_zero]
    exact fin _ _ _ _ _ _ _ hT2 (f0.below hB) (f1.below hB) hF
theorem cop_111_110_2 (hQ : ∀ (ch) (a : Act) (d : Nat) (v : Value) (w : World), Q (.panic ch) (a.put (some d) v) w → Q (.panic ch) a w) (X : Cop c w W1 h s1 s2 s3 k1 k2 k3) (fin : ∀ (u3 u7 u11 v1 v2 v3 : Value) (W : World), Below W1.heap.size W1 W → Fr 1 bcell W1.heap.size (bl c) v1 W → Fr 34 Ent.cells W1.heap.size c.es v2 W → Fr 32 (arr .u8 32) W1.heap.size c.ps v3 W → wpAnyH Try.prog .any copOps Q (fun w' => Below h w w') 5 #[true, true, true, true, true, true, true, true, true, true, true, true, true, false, false, false, false, false] ⟨#[.agg o.cells, .pointer (some ⟨h, 0, none⟩), .pointer (some ⟨h + 1, 0, none⟩), u3, .pointer (some ⟨h, 1, none⟩), .slice s1 c.nb k1, v1, u7, .pointer (some ⟨h, 2, none⟩), .slice s2 c.es.length k2, v2, u11, .pointer (some ⟨h, 35, none⟩), .slice s3 c.ps.length k3, v3, .pointer (some ⟨h, 1, none⟩), undef, undef, undef], []⟩ W) (W : World) (hT : Below W1.heap.size W1 W) (g3 : Nat) (hg0 : W1.heap.size ≤ g3) (g7 : Nat) (hg1 : W1.heap.size ≤ g7) (g11 : Nat) (hg2 : W1.heap.size ≤ g11) (v1 : Value) (f0 : Fr 1 bcell W1.heap.size (bl c) v1 W) (v2 : Value) (f1 : Fr 34 Ent.cells W1.heap.size c.es v2 W) : wpAnyH Try.prog .any copOps Q (fun w' => Below h w w') 8 #[true, true, true, true, true, true, true, true, true, true, false, false, false, false, false, false, false, false] ⟨#[.agg o.cells, .pointer (some ⟨h, 0, none⟩), .pointer (some ⟨h + 1, 0, none⟩), .slice (some ⟨g3, 0, none⟩) 0 0, .pointer (some ⟨h, 1, none⟩), .slice s1 c.nb k1, v1, .slice (some ⟨g7, 0, none⟩) 0 0, .pointer (some ⟨h, 2, none⟩), .slice s2 c.es.length k2, v2, .slice (some ⟨g11, 0, none⟩) 0 0, .pointer (some ⟨h, 35, none⟩), undef, undef, undef, undef, undef, undef], []⟩ W := by
  refine wpAnyH_all (rs := [10]) (by kernel_rfl) (by simp) fun i hi => ?_
  simp only [List.mem_cons, List.not_mem_nil, or_false] at hi
  subst hi
  · refine wpOp_plain rfl rfl ?_
    have q : W.cell? ⟨h, 35, none⟩ = some (.slice s3 c.ps.length k3) := (hT.cell (p := ⟨h, 35, none⟩) X.lt).trans X.c3
    refine op_load 27 (.tmp 12) rfl rfl (ldI q) ?_
    refine ⟨X.s.trans (hT.mono (Nat.le_of_lt X.lt)), ?_⟩
    simp only [Act.put, List.setIfInBounds_toArray, List.set_cons_succ, List.set_cons_zero]
    refine mv_run 12 15 (.pointer (some ⟨h, 1, none⟩)) rfl (by kernel_rfl) (by kernel_rfl) (by kernel_rfl) (fun _ _ _ hq => hQ _ _ _ _ _ hq) (fun w' _ => by go_simp) (X.s.trans (hT.mono (Nat.le_of_lt X.lt))) ?_
    simp only [List.setIfInBounds_toArray, List.set_cons_succ, List.set_cons_zero]
    exact cop_111_111_2 hQ X fin _ hT g3 hg0 g7 hg1 g11 hg2 v1 f0 v2 f1
theorem cop_110_111_2 (hQ : ∀ (ch) (a : Act) (d : Nat) (v : Value) (w : World), Q (.panic ch) (a.put (some d) v) w → Q (.panic ch) a w) (X : Cop c w W1 h s1 s2 s3 k1 k2 k3) (fin : ∀ (u3 u7 u11 v1 v2 v3 : Value) (W : World), Below W1.heap.size W1 W → Fr 1 bcell W1.heap.size (bl c) v1 W → Fr 34 Ent.cells W1.heap.size c.es v2 W → Fr 32 (arr .u8 32) W1.heap.size c.ps v3 W → wpAnyH Try.prog .any copOps Q (fun w' => Below h w w') 5 #[true, true, true, true, true, true, true, true, true, true, true, true, true, false, false, false, false, false] ⟨#[.agg o.cells, .pointer (some ⟨h, 0, none⟩), .pointer (some ⟨h + 1, 0, none⟩), u3, .pointer (some ⟨h, 1, none⟩), .slice s1 c.nb k1, v1, u7, .pointer (some ⟨h, 2, none⟩), .slice s2 c.es.length k2, v2, u11, .pointer (some ⟨h, 35, none⟩), .slice s3 c.ps.length k3, v3, .pointer (some ⟨h, 1, none⟩), undef, undef, undef], []⟩ W) (W : World) (hT : Below W1.heap.size W1 W) (g3 : Nat) (hg0 : W1.heap.size ≤ g3) (g7 : Nat) (hg1 : W1.heap.size ≤ g7) (v1 : Value) (f0 : Fr 1 bcell W1.heap.size (bl c) v1 W) (v2 : Value) (f1 : Fr 34 Ent.cells W1.heap.size c.es v2 W) : wpAnyH Try.prog .any copOps Q (fun w' => Below h w w') 7 #[true, true, true, true, true, true, true, true, false, true, true, false, true, false, false, false, false, false] ⟨#[.agg o.cells, .pointer (some ⟨h, 0, none⟩), .pointer (some ⟨h + 1, 0, none⟩), .slice (some ⟨g3, 0, none⟩) 0 0, .pointer (some ⟨h, 1, none⟩), .slice s1 c.nb k1, v1, .slice (some ⟨g7, 0, none⟩) 0 0, .pointer (some ⟨h, 2, none⟩), .slice s2 c.es.length k2, v2, undef, .pointer (some ⟨h, 35, none⟩), .slice s3 c.ps.length k3, undef, .pointer (some ⟨h, 1, none⟩), undef, undef, undef], []⟩ W := by
  refine wpAnyH_all (rs := [8]) (by kernel_rfl) (by simp) fun i hi => ?_
  simp only [List.mem_cons, List.not_mem_nil, or_false] at hi
  subst hi
  · refine wpOp_plain rfl rfl ?_
    refine op_build 27 rfl (bldI W) ?_
    have hB : Below W.heap.size W (W.alloc (.cells #[] 26)) := (Below.refl _ _).alloc (Nat.le_refl _) _
    have hT2 := hT.trans (hB.mono hT.size)
    refine ⟨X.s.trans (hT2.mono (Nat.le_of_lt X.lt)), ?_⟩
    simp only [Act.put, List.setIfInBounds_toArray, List.set_cons_succ, List.set_cons_zero]
    exact cop_111_111_2 hQ X fin _ hT2 g3 hg0 g7 hg1 W.heap.size hT.size v1 (f0.below hB) v2 (f1.below hB)
theorem cop_111_111_1 (hQ : ∀ (ch) (a : Act) (d : Nat) (v : Value) (w : World), Q (.panic ch) (a.put (some d) v) w → Q (.panic ch) a w) (X : Cop c w W1 h s1 s2 s3 k1 k2 k3) (fin : ∀ (u3 u7 u11 v1 v2 v3 : Value) (W : World), Below W1.heap.size W1 W → Fr 1 bcell W1.heap.size (bl c) v1 W → Fr 34 Ent.cells W1.heap.size c.es v2 W → Fr 32 (arr .u8 32) W1.heap.size c.ps v3 W → wpAnyH Try.prog .any copOps Q (fun w' => Below h w w') 5 #[true, true, true, true, true, true, true, true, true, true, true, true, true, false, false, false, false, false] ⟨#[.agg o.cells, .pointer (some ⟨h, 0, none⟩), .pointer (some ⟨h + 1, 0, none⟩), u3, .pointer (some ⟨h, 1, none⟩), .slice s1 c.nb k1, v1, u7, .pointer (some ⟨h, 2, none⟩), .slice s2 c.es.length k2, v2, u11, .pointer (some ⟨h, 35, none⟩), .slice s3 c.ps.length k3, v3, .pointer (some ⟨h, 1, none⟩), undef, undef, undef], []⟩ W) (W : World) (hT : Below W1.heap.size W1 W) (g3 : Nat) (hg0 : W1.heap.size ≤ g3) (g7 : Nat) (hg1 : W1.heap.size ≤ g7) (g11 : Nat) (hg2 : W1.heap.size ≤ g11) (v1 : Value) (f0 : Fr 1 bcell W1.heap.size (bl c) v1 W) : wpAnyH Try.prog .any copOps Q (fun w' => Below h w w') 7 #[true, true, true, true, true, true, true, false, true, true, true, false, true, false, false, false, false, false] ⟨#[.agg o.cells, .pointer (some ⟨h, 0, none⟩), .pointer (some ⟨h + 1, 0, none⟩), .slice (some ⟨g3, 0, none⟩) 0 0, .pointer (some ⟨h, 1, none⟩), .slice s1 c.nb k1, v1, .slice (some ⟨g7, 0, none⟩) 0 0, .pointer (some ⟨h, 2, none⟩), .slice s2 c.es.length k2, undef, .slice (some ⟨g11, 0, none⟩) 0 0, .pointer (some ⟨h, 35, none⟩), .slice s3 c.ps.length k3, undef, .pointer (some ⟨h, 1, none⟩), undef, undef, undef], []⟩ W := by
  refine wpAnyH_all (rs := [7]) (by kernel_rfl) (by simp) fun i hi => ?_
  simp only [List.mem_cons, List.not_mem_nil, or_false] at hi
  subst hi
  · refine wpOp_plain rfl rfl ?_
    obtain ⟨v, W', hr, hB, hF⟩ := appE X hT hg1 24
    refine op_append (.tmp 7) (.tmp 9) 24 rfl rfl rfl hr ?_
    have hT2 := hT.trans (hB.mono hT.size)
    refine ⟨X.s.trans (hT2.mono (Nat.le_of_lt X.lt)), ?_⟩
    simp only [Act.put, List.setIfInBounds_toArray, List.set_cons_succ, List.set_cons_zero]
    exact cop_111_111_2 hQ X fin _ hT2 g3 hg0 g7 hg1 g11 hg2 v1 (f0.below hB) v hF
theorem cop_110_110_2 (hQ : ∀ (ch) (a : Act) (d : Nat) (v : Value) (w : World), Q (.panic ch) (a.put (some d) v) w → Q (.panic ch) a w) (X : Cop c w W1 h s1 s2 s3 k1 k2 k3) (fin : ∀ (u3 u7 u11 v1 v2 v3 : Value) (W : World), Below W1.heap.size W1 W → Fr 1 bcell W1.heap.size (bl c) v1 W → Fr 34 Ent.cells W1.heap.size c.es v2 W → Fr 32 (arr .u8 32) W1.heap.size c.ps v3 W → wpAnyH Try.prog .any copOps Q (fun w' => Below h w w') 5 #[true, true, true, true, true, true, true, true, true, true, true, true, true, false, false, false, false, false] ⟨#[.agg o.cells, .pointer (some ⟨h, 0, none⟩), .pointer (some ⟨h + 1, 0, none⟩), u3, .pointer (some ⟨h, 1, none⟩), .slice s1 c.nb k1, v1, u7, .pointer (some ⟨h, 2, none⟩), .slice s2 c.es.length k2, v2, u11, .pointer (some ⟨h, 35, none⟩), .slice s3 c.ps.length k3, v3, .pointer (some ⟨h, 1, none⟩), undef, undef, undef], []⟩ W) (W : World) (hT : Below W1.heap.size W1 W) (g3 : Nat) (hg0 : W1.heap.size ≤ g3) (g7 : Nat) (hg1 : W1.heap.size ≤ g7) (v1 : Value) (f0 : Fr 1 bcell W1.heap.size (bl c) v1 W) (v2 : Value) (f1 : Fr 34 Ent.cells W1.heap.size c.es v2 W) : wpAnyH Try.prog .any copOps Q (fun w' => Below h w w') 9 #[true, true, true, true, true, true, true, true, false, true, false, false, false, false, false, false, false, false] ⟨#[.agg o.cells, .pointer (some ⟨h, 0, none⟩), .pointer (some ⟨h + 1, 0, none⟩), .slice (some ⟨g3, 0, none⟩) 0 0, .pointer (some ⟨h, 1, none⟩), .slice s1 c.nb k1, v1, .slice (some ⟨g7, 0, none⟩) 0 0, .pointer (some ⟨h, 2, none⟩), .slice s2 c.es.length k2, v2, undef, .pointer (some ⟨h, 35, none⟩), undef, undef, undef, undef, undef, undef], []⟩ W := by
  refine wpAnyH_all (rs := [8, 10]) (by kernel_rfl) (by simp) fun i hi => ?_
  simp only [List.mem_cons, List.not_mem_nil, or_false] at hi
  rcases hi with rfl | rfl
  · refine wpOp_plain rfl rfl ?_
    refine op_build 27 rfl (bldI W) ?_
    have hB : Below W.heap.size W (W.alloc (.cells #[] 26)) := (Below.refl _ _).alloc (Nat.le_refl _) _
    have hT2 := hT.trans (hB.mono hT.size)
    refine ⟨X.s.trans (hT2.mono (Nat.le_of_lt X.lt)), ?_⟩
    simp only [Act.put, List.setIfInBounds_toArray, List.set_cons_succ, List.set_cons_zero]
    exact cop_111_110_2 hQ X fin _ hT2 g3 hg0 g7 hg1 W.heap.size hT.size v1 (f0.below hB) v2 (f1.below hB)
  · refine wpOp_plain rfl rfl ?_
    have q : W.cell? ⟨h, 35, none⟩ = some (.slice s3 c.ps.length k3) := (hT.cell (p := ⟨h, 35, none⟩) X.lt).trans X.c3
    refine op_load 27 (.tmp 12) rfl rfl (ldI q) ?_
    refine ⟨X.s.trans (hT.mono (Nat.le_of_lt X.lt)), ?_⟩
    simp only [Act.put, List.setIfInBounds_toArray, List.set_cons_succ, List.set_cons_zero]
    refine mv_run 12 15 (.pointer (some ⟨h, 1, none⟩)) rfl (by kernel_rfl) (by kernel_rfl) (by kernel_rfl) (fun _ _ _ hq => hQ _ _ _ _ _ hq) (fun w' _ => by go_simp) (X.s.trans (hT.mono (Nat.le_of_lt X.lt))) ?_
    simp only [List.setIfInBounds_toArray, List.set_cons_succ, List.set_cons_zero]
    exact cop_110_111_2 hQ X fin _ hT g3 hg0 g7 hg1 v1 f0 v2 f1
theorem cop_111_110_1 (hQ : ∀ (ch) (a : Act) (d : Nat) (v : Value) (w : World), Q (.panic ch) (a.put (some d) v) w → Q (.panic ch) a w) (X : Cop c w W1 h s1 s2 s3 k1 k2 k3) (fin : ∀ (u3 u7 u11 v1 v2 v3 : Value) (W : World), Below W1.heap.size W1 W → Fr 1 bcell W1.heap.size (bl c) v1 W → Fr 34 Ent.cells W1.heap.size c.es v2 W → Fr 32 (arr .u8 32) W1.heap.size c.ps v3 W → wpAnyH Try.prog .any copOps Q (fun w' => Below h w w') 5 #[true, true, true, true, true, true, true, true, true, true, true, true, true, false, false, false, false, false] ⟨#[.agg o.cells, .pointer (some ⟨h, 0, none⟩), .pointer (some ⟨h + 1, 0, none⟩), u3, .pointer (some ⟨h, 1, none⟩), .slice s1 c.nb k1, v1, u7, .pointer (some ⟨h, 2, none⟩), .slice s2 c.es.length k2, v2, u11, .pointer (some ⟨h, 35, none⟩), .slice s3 c.ps.length k3, v3, .pointer (some ⟨h, 1, none⟩), undef, undef, undef], []⟩ W) (W : World) (hT : Below W1.heap.size W1 W) (g3 : Nat) (hg0 : W1.heap.size ≤ g3) (g7 : Nat) (hg1 : W1.heap.size ≤ g7) (g11 : Nat) (hg2 : W1.heap.size ≤ g11) (v1 : Value) (f0 : Fr 1 bcell W1.heap.size (bl c) v1 W) : wpAnyH Try.prog .any copOps Q (fun w' => Below h w w') 9 #[true, true, true, true, true, true, true, false, true, true, false, false, false, false, false, false, false, false] ⟨#[.agg o.cells, .pointer (some ⟨h, 0, none⟩), .pointer (some ⟨h + 1, 0, none⟩), .slice (some ⟨g3, 0, none⟩) 0 0, .pointer (some ⟨h, 1, none⟩), .slice s1 c.nb k1, v1, .slice (some ⟨g7, 0, none⟩) 0 0, .pointer (some ⟨h, 2, none⟩), .slice s2 c.es.length k2, undef, .slice (some ⟨g11, 0, none⟩) 0 0, .pointer (some ⟨h, 35, none⟩), undef, undef, undef, undef, undef, undef], []⟩ W := by
  refine wpAnyH_all (rs := [7, 10]) (by kernel_rfl) (by simp) fun i hi => ?_
  simp only [List.mem_cons, List.not_mem_nil, or_false] at hi
  rcases hi with rfl | rfl
  · refine wpOp_plain rfl rfl ?_
    obtain ⟨v, W', hr, hB, hF⟩ := appE X hT hg1 24
    refine op_append (.tmp 7) (.tmp 9) 24 rfl rfl rfl hr ?_
    have hT2 := hT.trans (hB.mono hT.size)
    refine ⟨X.s.trans (hT2.mono (Nat.le_of_lt X.lt)), ?_⟩
    simp only [Act.put, List.setIfInBounds_toArray, List.set_cons_succ, List.set_cons_zero]
    exact cop_111_110_2 hQ X fin _ hT2 g3 hg0 g7 hg1 g11 hg2 v1 (f0.below hB) v hF
  · refine wpOp_plain rfl rfl ?_
    have q : W.cell? ⟨h, 35, none⟩ = some (.slice s3 c.ps.length k3) := (hT.cell (p := ⟨h, 35, none⟩) X.lt).trans X.c3
    refine op_load 27 (.tmp 12) rfl rfl (ldI q) ?_
    refine ⟨X.s.trans (hT.mono (Nat.le_of_lt X.lt)), ?_⟩
    simp only [Act.put, List.setIfInBounds_toArray, List.set_cons_succ, List.set_cons_zero]
    refine mv_run 12 15 (.pointer (some ⟨h, 1, none⟩)) rfl (by kernel_rfl) (by kernel_rfl) (by kernel_rfl) (fun _ _ _ hq => hQ _ _ _ _ _ hq) (fun w' _ => by go_simp) (X.s.trans (hT.mono (Nat.le_of_lt X.lt))) ?_
    simp only [List.setIfInBounds_toArray, List.set_cons_succ, List.set_cons_zero]
    exact cop_111_111_1 hQ X fin _ hT g3 hg0 g7 hg1 g11 hg2 v1 f0
theorem cop_111_101_1 (hQ : ∀ (ch) (a : Act) (d : Nat) (v : Value) (w : World), Q (.panic ch) (a.put (some d) v) w → Q (.panic ch) a w) (X : Cop c w W1 h s1 s2 s3 k1 k2 k3) (fin : ∀ (u3 u7 u11 v1 v2 v3 : Value) (W : World), Below W1.heap.size W1 W → Fr 1 bcell W1.heap.size (bl c) v1 W → Fr 34 Ent.cells W1.heap.size c.es v2 W → Fr 32 (arr .u8 32) W1.heap.size c.ps v3 W → wpAnyH Try.prog .any copOps Q (fun w' => Below h w w') 5 #[true, true, true, true, true, true, true, true, true, true, true, true, true, false, false, false, false, false] ⟨#[.agg o.cells, .pointer (some ⟨h, 0, none⟩), .pointer (some ⟨h + 1, 0, none⟩), u3, .pointer (some ⟨h, 1, none⟩), .slice s1 c.nb k1, v1, u7, .pointer (some ⟨h, 2, none⟩), .slice s2 c.es.length k2, v2, u11, .pointer (some ⟨h, 35, none⟩), .slice s3 c.ps.length k3, v3, .pointer (some ⟨h, 1, none⟩), undef, undef, undef], []⟩ W) (W : World) (hT : Below W1.heap.size W1 W) (g3 : Nat) (hg0 : W1.heap.size ≤ g3) (g7 : Nat) (hg1 : W1.heap.size ≤ g7) (g11 : Nat) (hg2 : W1.heap.size ≤ g11) (v1 : Value) (f0 : Fr 1 bcell W1.heap.size (bl c) v1 W) : wpAnyH Try.prog .any copOps Q (fun w' => Below h w w') 9 #[true, true, true, true, true, true, false, false, true, true, true, false, false, false, false, false, false, false] ⟨#[.agg o.cells, .pointer (some ⟨h, 0, none⟩), .pointer (some ⟨h + 1, 0, none⟩), .slice (some ⟨g3, 0, none⟩) 0 0, .pointer (some ⟨h, 1, none⟩), .slice s1 c.nb k1, v1, .slice (some ⟨g7, 0, none⟩) 0 0, .pointer (some ⟨h, 2, none⟩), undef, undef, .slice (some ⟨g11, 0, none⟩) 0 0, .pointer (some ⟨h, 35, none⟩), .slice s3 c.ps.length k3, undef, undef, undef, undef, undef], []⟩ W := by
  refine wpAnyH_all (rs := [6]) (by kernel_rfl) (by simp) fun i hi => ?_
  simp only [List.mem_cons, List.not_mem_nil, or_false] at hi
  subst hi
  · refine wpOp_plain rfl rfl ?_
    have q : W.cell? ⟨h, 2, none⟩ = some (.slice s2 c.es.length k2) := (hT.cell (p := ⟨h, 2, none⟩) X.lt).trans X.c2
    refine op_load 24 (.tmp 8) rfl rfl (ldE q) ?_
    refine ⟨X.s.trans (hT.mono (Nat.le_of_lt X.lt)), ?_⟩
    simp only [Act.put, List.setIfInBounds_toArray, List.set_cons_succ, List.set_cons_zero]
    refine mv_run 12 15 (.pointer (some ⟨h, 1, none⟩)) rfl (by kernel_rfl) (by kernel_rfl) (by kernel_rfl) (fun _ _ _ hq => hQ _ _ _ _ _ hq) (fun w' _ => by go_simp) (X.s.trans (hT.mono (Nat.le_of_lt X.lt))) ?_
    simp only [List.setIfInBounds_toArray, List.set_cons_succ, List.set_cons_zero]
    exact cop_111_111_1 hQ X fin _ hT g3 hg0 g7 hg1 g11 hg2 v1 f0
theorem cop_110_111_1 (hQ : ∀ (ch) (a : Act) (d : Nat) (v : Value) (w : World), Q (.panic ch) (a.put (some d) v) w → Q (.panic ch) a w) (X : Cop c w W1 h s1 s2 s3 k1 k2 k3) (fin : ∀ (u3 u7 u11 v1 v2 v3 : Value) (W : World), Below W1.heap.size W1 W → Fr 1 bcell W1.heap.size (bl c) v1 W → Fr 34 Ent.cells W1.heap.size c.es v2 W → Fr 32 (arr .u8 32) W1.heap.size c.ps v3 W → wpAnyH Try.prog .any copOps Q (fun w' => Below h w w') 5 #[true, true, true, true, true, true, true, true, true, true, true, true, true, false, false, false, false, false] ⟨#[.agg o.cells, .pointer (some ⟨h, 0, none⟩), .pointer (some ⟨h + 1, 0, none⟩), u3, .pointer (some ⟨h, 1, none⟩), .slice s1 c.nb k1, v1, u7, .pointer (some ⟨h, 2, none⟩), .slice s2 c.es.length k2, v2, u11, .pointer (some ⟨h, 35, none⟩), .slice s3 c.ps.length k3, v3, .pointer (some ⟨h, 1, none⟩), undef, undef, undef], []⟩ W) (W : World) (hT : Below W1.heap.size W1 W) (g3 : Nat) (hg0 : W1.heap.size ≤ g3) (g7 : Nat) (hg1 : W1.heap.size ≤ g7) (v1 : Value) (f0 : Fr 1 bcell W1.heap.size (bl c) v1 W) : wpAnyH Try.prog .any copOps Q (fun w' => Below h w w') 8 #[true, true, true, true, true, true, true, false, false, true, true, false, true, false, false, false, false, false] ⟨#[.agg o.cells, .pointer (some ⟨h, 0, none⟩), .pointer (some ⟨h + 1, 0, none⟩), .slice (some ⟨g3, 0, none⟩) 0 0, .pointer (some ⟨h, 1, none⟩), .slice s1 c.nb k1, v1, .slice (some ⟨g7, 0, none⟩) 0 0, .pointer (some ⟨h, 2, none⟩), .slice s2 c.es.length k2, undef, undef, .pointer (some ⟨h, 35, none⟩), .slice s3 c.ps.length k3, undef, .pointer (some ⟨h, 1, none⟩), undef, undef, undef], []⟩ W := by
  refine wpAnyH_all (rs := [7, 8]) (by kernel_rfl) (by simp) fun i hi => ?_
  simp only [List.mem_cons, List.not_mem_nil, or_false] at hi
  rcases hi with rfl | rfl
  · refine wpOp_plain rfl rfl ?_
    obtain ⟨v, W', hr, hB, hF⟩ := appE X hT hg1 24
    refine op_append (.tmp 7) (.tmp 9) 24 rfl rfl rfl hr ?_
    have hT2 := hT.trans (hB.mono hT.size)
    refine ⟨X.s.trans (hT2.mono (Nat.le_of_lt X.lt)), ?_⟩
    simp only [Act.put, List.setIfInBounds_toArray, List.set_cons_succ, List.set_cons_zero]
    exact cop_110_111_2 hQ X fin _ hT2 g3 hg0 g7 hg1 v1 (f0.below hB) v hF
  · refine wpOp_plain rfl rfl ?_
    refine op_build 27 rfl (bldI W) ?_
    have hB : Below W.heap.size W (W.alloc (.cells #[] 26)) := (Below.refl _ _).alloc (Nat.le_refl _) _
    have hT2 := hT.trans (hB.mono hT.size)
    refine ⟨X.s.trans (hT2.mono (Nat.le_of_lt X.lt)), ?_⟩
    simp only [Act.put, List.setIfInBounds_toArray, List.set_cons_succ, List.set_cons_zero]
    exact cop_111_111_1 hQ X fin _ hT2 g3 hg0 g7 hg1 W.heap.size hT.size v1 (f0.below hB)
theorem cop_101_111_1 (hQ : ∀ (ch) (a : Act) (d : Nat) (v : Value) (w : World), Q (.panic ch) (a.put (some d) v) w → Q (.panic ch) a w) (X : Cop c w W1 h s1 s2 s3 k1 k2 k3) (fin : ∀ (u3 u7 u11 v1 v2 v3 : Value) (W : World), Below W1.heap.size W1 W → Fr 1 bcell W1.heap.size (bl c) v1 W → Fr 34 Ent.cells W1.heap.size c.es v2 W → Fr 32 (arr .u8 32) W1.heap.size c.ps v3 W → wpAnyH Try.prog .any copOps Q (fun w' => Below h w w') 5 #[true, true, true, true, true, true, true, true, true, true, true, true, true, false, false, false, false, false] ⟨#[.agg o.cells, .pointer (some ⟨h, 0, none⟩), .pointer (some ⟨h + 1, 0, none⟩), u3, .pointer (some ⟨h, 1, none⟩), .slice s1 c.nb k1, v1, u7, .pointer (some ⟨h, 2, none⟩), .slice s2 c.es.length k2, v2, u11, .pointer (some ⟨h, 35, none⟩), .slice s3 c.ps.length k3, v3, .pointer (some ⟨h, 1, none⟩), undef, undef, undef], []⟩ W) (W : World) (hT : Below W1.heap.size W1 W) (g3 : Nat) (hg0 : W1.heap.size ≤ g3) (g11 : Nat) (hg2 : W1.heap.size ≤ g11) (v1 : Value) (f0 : Fr 1 bcell W1.heap.size (bl c) v1 W) : wpAnyH Try.prog .any copOps Q (fun w' => Below h w w') 8 #[true, true, true, true, false, true, true, false, true, true, true, false, true, false, false, false, false, false] ⟨#[.agg o.cells, .pointer (some ⟨h, 0, none⟩), .pointer (some ⟨h + 1, 0, none⟩), .slice (some ⟨g3, 0, none⟩) 0 0, .pointer (some ⟨h, 1, none⟩), .slice s1 c.nb k1, v1, undef, .pointer (some ⟨h, 2, none⟩), .slice s2 c.es.length k2, undef, .slice (some ⟨g11, 0, none⟩) 0 0, .pointer (some ⟨h, 35, none⟩), .slice s3 c.ps.length k3, undef, .pointer (some ⟨h, 1, none⟩), undef, undef, undef], []⟩ W := by
  refine wpAnyH_all (rs := [4]) (by kernel_rfl) (by simp) fun i hi => ?_
  simp only [List.mem_cons, List.not_mem_nil, or_false] at hi
  subst hi
  · refine wpOp_plain rfl rfl ?_
    refine op_build 24 rfl (bldE W) ?_
    have hB : Below W.heap.size W (W.alloc (.cells #[] 40)) := (Below.refl _ _).alloc (Nat.le_refl _) _
    have hT2 := hT.trans (hB.mono hT.size)
    refine ⟨X.s.trans (hT2.mono (Nat.le_of_lt X.lt)), ?_⟩
    simp only [Act.put, List.setIfInBounds_toArray, List.set_cons_succ, List.set_cons_zero]
    exact cop_111_111_1 hQ X fin _ hT2 g3 hg0 W.heap.size hT.size g11 hg2 v1 (f0.below hB)
theorem cop_111_111_0 (hQ : ∀ (ch) (a : Act) (d : Nat) (v : Value) (w : World), Q (.panic ch) (a.put (some d) v) w → Q (.panic ch) a w) (X : Cop c w W1 h s1 s2 s3 k1 k2 k3) (fin : ∀ (u3 u7 u11 v1 v2 v3 : Value) (W : World), Below W1.heap.size W1 W → Fr 1 bcell W1.heap.size (bl c) v1 W → Fr 34 Ent.cells W1.heap.size c.es v2 W → Fr 32 (arr .u8 32) W1.heap.size c.ps v3 W → wpAnyH Try.prog .any copOps Q (fun w' => Below h w w') 5 #[true, true, true, true, true, true, true, true, true, true, true, true, true, false, false, false, false, false] ⟨#[.agg o.cells, .pointer (some ⟨h, 0, none⟩), .pointer (some ⟨h + 1, 0, none⟩), u3, .pointer (some ⟨h, 1, none⟩), .slice s1 c.nb k1, v1, u7, .pointer (some ⟨h, 2, none⟩), .slice s2 c.es.length k2, v2, u11, .pointer (some ⟨h, 35, none⟩), .slice s3 c.ps.length k3, v3, .pointer (some ⟨h, 1, none⟩), undef, undef, undef], []⟩ W) (W : World) (hT : Below W1.heap.size W1 W) (g3 : Nat) (hg0 : W1.heap.size ≤ g3) (g7 : Nat) (hg1 : W1.heap.size ≤ g7) (g11 : Nat) (hg2 : W1.heap.size ≤ g11) : wpAnyH Try.prog .any copOps Q (fun w' => Below h w w') 9 #[true, true, true, false, true, true, true, false, true, true, true, false, false, false, false, false, false, false] ⟨#[.agg o.cells, .pointer (some ⟨h, 0, none⟩), .pointer (some ⟨h + 1, 0, none⟩), .slice (some ⟨g3, 0, none⟩) 0 0, .pointer (some ⟨h, 1, none⟩), .slice s1 c.nb k1, undef, .slice (some ⟨g7, 0, none⟩) 0 0, .pointer (some ⟨h, 2, none⟩), .slice s2 c.es.length k2, undef, .slice (some ⟨g11, 0, none⟩) 0 0, .pointer (some ⟨h, 35, none⟩), .slice s3 c.ps.length k3, undef, undef, undef, undef, undef], []⟩ W := by
  refine wpAnyH_all (rs := [3]) (by kernel_rfl) (by simp) fun i hi => ?_
  simp only [List.mem_cons, List.not_mem_nil, or_false] at hi
  subst hi
  · refine wpOp_plain rfl rfl ?_
    obtain ⟨v, W', hr, hB, hF⟩ := appB X hT hg0 22
    refine op_append (.tmp 3) (.tmp 5) 22 rfl rfl rfl hr ?_
    have hT2 := hT.trans (hB.mono hT.size)
    refine ⟨X.s.trans (hT2.mono (Nat.le_of_lt X.lt)), ?_⟩
    simp only [Act.put, List.setIfInBounds_toArray, List.set_cons_succ, List.set_cons_zero]
    refine mv_run 12 15 (.pointer (some ⟨h, 1, none⟩)) rfl (by kernel_rfl) (by kernel_rfl) (by kernel_rfl) (fun _ _ _ hq => hQ _ _ _ _ _ hq) (fun w' _ => by go_simp) (X.s.trans (hT2.mono (Nat.le_of_lt X.lt))) ?_
    simp only [List.setIfInBounds_toArray, List.set_cons_succ, List.set_cons_zero]
    exact cop_111_111_1 hQ X fin _ hT2 g3 hg0 g7 hg1 g11 hg2 v hF
theorem cop_111_100_1 (hQ : ∀ (ch) (a : Act) (d : Nat) (v : Value) (w : World), Q (.panic ch) (a.put (some d) v) w → Q (.panic ch) a w) (X : Cop c w W1 h s1 s2 s3 k1 k2 k3) (fin : ∀ (u3 u7 u11 v1 v2 v3 : Value) (W : World), Below W1.heap.size W1 W → Fr 1 bcell W1.heap.size (bl c) v1 W → Fr 34 Ent.cells W1.heap.size c.es v2 W → Fr 32 (arr .u8 32) W1.heap.size c.ps v3 W → wpAnyH Try.prog .any copOps Q (fun w' => Below h w w') 5 #[true, true, true, true, true, true, true, true, true, true, true, true, true, false, false, false, false, false] ⟨#[.agg o.cells, .pointer (some ⟨h, 0, none⟩), .pointer (some ⟨h + 1, 0, none⟩), u3, .pointer (some ⟨h, 1, none⟩), .slice s1 c.nb k1, v1, u7, .pointer (some ⟨h, 2, none⟩), .slice s2 c.es.length k2, v2, u11, .pointer (some ⟨h, 35, none⟩), .slice s3 c.ps.length k3, v3, .pointer (some ⟨h, 1, none⟩), undef, undef, undef], []⟩ W) (W : World) (hT : Below W1.heap.size W1 W) (g3 : Nat) (hg0 : W1.heap.size ≤ g3) (g7 : Nat) (hg1 : W1.heap.size ≤ g7) (g11 : Nat) (hg2 : W1.heap.size ≤ g11) (v1 : Value) (f0 : Fr 1 bcell W1.heap.size (bl c) v1 W) : wpAnyH Try.prog .any copOps Q (fun w' => Below h w w') 10 #[true, true, true, true, true, true, false, false, true, true, false, false, false, false, false, false, false, false] ⟨#[.agg o.cells, .pointer (some ⟨h, 0, none⟩), .pointer (some ⟨h + 1, 0, none⟩), .slice (some ⟨g3, 0, none⟩) 0 0, .pointer (some ⟨h, 1, none⟩), .slice s1 c.nb k1, v1, .slice (some ⟨g7, 0, none⟩) 0 0, .pointer (some ⟨h, 2, none⟩), undef, undef, .slice (some ⟨g11, 0, none⟩) 0 0, .pointer (some ⟨h, 35, none⟩), undef, undef, undef, undef, undef, undef], []⟩ W := by
  refine wpAnyH_all (rs := [6, 10]) (by kernel_rfl) (by simp) fun i hi => ?_
  simp only [List.mem_cons, List.not_mem_nil, or_false] at hi
  rcases hi with rfl | rfl
  · refine wpOp_plain rfl rfl ?_
    have q : W.cell? ⟨h, 2, none⟩ = some (.slice s2 c.es.length k2) := (hT.cell (p := ⟨h, 2, none⟩) X.lt).trans X.c2
    refine op_load 24 (.tmp 8) rfl rfl (ldE q) ?_
    refine ⟨X.s.trans (hT.mono (Nat.le_of_lt X.lt)), ?_⟩
    simp only [Act.put, List.setIfInBounds_toArray, List.set_cons_succ, List.set_cons_zero]
    exact cop_111_110_1 hQ X fin _ hT g3 hg0 g7 hg1 g11 hg2 v1 f0
  · refine wpOp_plain rfl rfl ?_
    have q : W.cell? ⟨h, 35, none⟩ = some (.slice s3 c.ps.length k3) := (hT.cell (p := ⟨h, 35, none⟩) X.lt).trans X.c3
    refine op_load 27 (.tmp 12) rfl rfl (ldI q) ?_
    refine ⟨X.s.trans (hT.mono (Nat.le_of_lt X.lt)), ?_⟩
    simp only [Act.put, List.setIfInBounds_toArray, List.set_cons_succ, List.set_cons_zero]
    exact cop_111_101_1 hQ X fin _ hT g3 hg0 g7 hg1 g11 hg2 v1 f0
theorem cop_110_110_1 (hQ : ∀ (ch) (a : Act) (d : Nat) (v : Value) (w : World), Q (.panic ch) (a.put (some d) v) w → Q (.panic ch) a w) (X : Cop c w W1 h s1 s2 s3 k1 k2 k3) (fin : ∀ (u3 u7 u11 v1 v2 v3 : Value) (W : World), Below W1.heap.size W1 W → Fr 1 bcell W1.heap.size (bl c) v1 W → Fr 34 Ent.cells W1.heap.size c.es v2 W → Fr 32 (arr .u8 32) W1.heap.size c.ps v3 W → wpAnyH Try.prog .any copOps Q (fun w' => Below h w w') 5 #[true, true, true, true, true, true, true, true, true, true, true, true, true, false, false, false, false, false] ⟨#[.agg o.cells, .pointer (some ⟨h, 0, none⟩), .pointer (some ⟨h + 1, 0, none⟩), u3, .pointer (some ⟨h, 1, none⟩), .slice s1 c.nb k1, v1, u7, .pointer (some ⟨h, 2, none⟩), .slice s2 c.es.length k2, v2, u11, .pointer (some ⟨h, 35, none⟩), .slice s3 c.ps.length k3, v3, .pointer (some ⟨h, 1, none⟩), undef, undef, undef], []⟩ W) (W : World) (hT : Below W1.heap.size W1 W) (g3 : Nat) (hg0 : W1.heap.size ≤ g3) (g7 : Nat) (hg1 : W1.heap.size ≤ g7) (v1 : Value) (f0 : Fr 1 bcell W1.heap.size (bl c) v1 W) : wpAnyH Try.prog .any copOps Q (fun w' => Below h w w') 10 #[true, true, true, true, true, true, true, false, false, true, false, false, false, false, false, false, false, false] ⟨#[.agg o.cells, .pointer (some ⟨h, 0, none⟩), .pointer (some ⟨h + 1, 0, none⟩), .slice (some ⟨g3, 0, none⟩) 0 0, .pointer (some ⟨h, 1, none⟩), .slice s1 c.nb k1, v1, .slice (some ⟨g7, 0, none⟩) 0 0, .pointer (some ⟨h, 2, none⟩), .slice s2 c.es.length k2, undef, undef, .pointer (some ⟨h, 35, none⟩), undef, undef, undef, undef, undef, undef], []⟩ W := by
  refine wpAnyH_all (rs := [7, 8, 10]) (by kernel_rfl) (by simp) fun i hi => ?_
  simp only [List.mem_cons, List.not_mem_nil, or_false] at hi
  rcases hi with rfl | rfl | rfl
  · refine wpOp_plain rfl rfl ?_
    obtain ⟨v, W', hr, hB, hF⟩ := appE X hT hg1 24
    refine op_append (.tmp 7) (.tmp 9) 24 rfl rfl rfl hr ?_
    have hT2 := hT.trans (hB.mono hT.size)
    refine ⟨X.s.trans (hT2.mono (Nat.le_of_lt X.lt)), ?_⟩
    simp only [Act.put, List.setIfInBounds_toArray, List.set_cons_succ, List.set_cons_zero]
    exact cop_110_110_2 hQ X fin _ hT2 g3 hg0 g7 hg1 v1 (f0.below hB) v hF
  · refine wpOp_plain rfl rfl ?_
    refine op_build 27 rfl (bldI W) ?_
    have hB : Below W.heap.size W (W.alloc (.cells #[] 26)) := (Below.refl _ _).alloc (Nat.le_refl _) _
    have hT2 := hT.trans (hB.mono hT.size)
    refine ⟨X.s.trans (hT2.mono (Nat.le_of_lt X.lt)), ?_⟩
    simp only [Act.put, List.setIfInBounds_toArray, List.set_cons_succ, List.set_cons_zero]
    exact cop_111_110_1 hQ X fin _ hT2 g3 hg0 g7 hg1 W.heap.size hT.size v1 (f0.below hB)
  · refine wpOp_plain rfl rfl ?_
    have q : W.cell? ⟨h, 35, none⟩ = some (.slice s3 c.ps.length k3) := (hT.cell (p := ⟨h, 35, none⟩) X.lt).trans X.c3
    refine op_load 27 (.tmp 12) rfl rfl (ldI q) ?_
    refine ⟨X.s.trans (hT.mono (Nat.le_of_lt X.lt)), ?_⟩
    simp only [Act.put, List.setIfInBounds_toArray, List.set_cons_succ, List.set_cons_zero]
    refine mv_run 12 15 (.pointer (some ⟨h, 1, none⟩)) rfl (by kernel_rfl) (by kernel_rfl) (by kernel_rfl) (fun _ _ _ hq => hQ _ _ _ _ _ hq) (fun w' _ => by go_simp) (X.s.trans (hT.mono (Nat.le_of_lt X.lt))) ?_
    simp only [List.setIfInBounds_toArray, List.set_cons_succ, List.set_cons_zero]
    exact cop_110_111_1 hQ X fin _ hT g3 hg0 g7 hg1 v1 f0
theorem cop_110_101_1 (hQ : ∀ (ch) (a : Act) (d : Nat) (v : Value) (w : World), Q (.panic ch) (a.put (some d) v) w → Q (.panic ch) a w) (X : Cop c w W1 h s1 s2 s3 k1 k2 k3) (fin : ∀ (u3 u7 u11 v1 v2 v3 : Value) (W : World), Below W1.heap.size W1 W → Fr 1 bcell W1.heap.size (bl c) v1 W → Fr 34 Ent.cells W1.heap.size c.es v2 W → Fr 32 (arr .u8 32) W1.heap.size c.ps v3 W → wpAnyH Try.prog .any copOps Q (fun w' => Below h w w') 5 #[true, true, true, true, true, true, true, true, true, true, true, true, true, false, false, false, false, false] ⟨#[.agg o.cells, .pointer (some ⟨h, 0, none⟩), .pointer (some ⟨h + 1, 0, none⟩), u3, .pointer (some ⟨h, 1, none⟩), .slice s1 c.nb k1, v1, u7, .pointer (some ⟨h, 2, none⟩), .slice s2 c.es.length k2, v2, u11, .pointer (some ⟨h, 35, none⟩), .slice s3 c.ps.length k3, v3, .pointer (some ⟨h, 1, none⟩), undef, undef, undef], []⟩ W) (W : World) (hT : Below W1.heap.size W1 W) (g3 : Nat) (hg0 : W1.heap.size ≤ g3) (g7 : Nat) (hg1 : W1.heap.size ≤ g7) (v1 : Value) (f0 : Fr 1 bcell W1.heap.size (bl c) v1 W) : wpAnyH Try.prog .any copOps Q (fun w' => Below h w w') 10 #[true, true, true, true, true, true, false, false, false, true, true, false, false, false, false, false, false, false] ⟨#[.agg o.cells, .pointer (some ⟨h, 0, none⟩), .pointer (some ⟨h + 1, 0, none⟩), .slice (some ⟨g3, 0, none⟩) 0 0, .pointer (some ⟨h, 1, none⟩), .slice s1 c.nb k1, v1, .slice (some ⟨g7, 0, none⟩) 0 0, .pointer (some ⟨h, 2, none⟩), undef, undef, undef, .pointer (some ⟨h, 35, none⟩), .slice s3 c.ps.length k3, undef, undef, undef, undef, undef], []⟩ W := by
  refine wpAnyH_all (rs := [6, 8]) (by kernel_rfl) (by simp) fun i hi => ?_
  simp only [List.mem_cons, List.not_mem_nil, or_false] at hi
  rcases hi with rfl | rfl
  · refine wpOp_plain rfl rfl ?_
    have q : W.cell? ⟨h, 2, none⟩ = some (.slice s2 c.es.length k2) := (hT.cell (p := ⟨h, 2, none⟩) X.lt).trans X.c2
    refine op_load 24 (.tmp 8) rfl rfl (ldE q) ?_
    refine ⟨X.s.trans (hT.mono (Nat.le_of_lt X.lt)), ?_⟩
    simp only [Act.put, List.setIfInBounds_toArray, List.set_cons_succ, List.set_cons_zero]
    refine mv_run 12 15 (.pointer (some ⟨h, 1, none⟩)) rfl (by kernel_rfl) (by kernel_rfl) (by kernel_rfl) (fun _ _ _ hq => hQ _ _ _ _ _ hq) (fun w' _ => by go_simp) (X.s.trans (hT.mono (Nat.le_of_lt X.lt))) ?_
    simp only [List.setIfInBounds_toArray, List.set_cons_succ, List.set_cons_zero]
    exact cop_110_111_1 hQ X fin _ hT g3 hg0 g7 hg1 v1 f0
  · refine wpOp_plain rfl rfl ?_
    refine op_build 27 rfl (bldI W) ?_
    have hB : Below W.heap.size W (W.alloc (.cells #[] 26)) := (Below.refl _ _).alloc (Nat.le_refl _) _
    have hT2 := hT.trans (hB.mono hT.size)
    refine ⟨X.s.trans (hT2.mono (Nat.le_of_lt X.lt)), ?_⟩
    simp only [Act.put, List.setIfInBounds_toArray, List.set_cons_succ, List.set_cons_zero]
    exact cop_111_101_1 hQ X fin _ hT2 g3 hg0 g7 hg1 W.heap.size hT.size v1 (f0.below hB)
theorem cop_101_110_1 (hQ : ∀ (ch) (a : Act) (d : Nat) (v : Value) (w : World), Q (.panic ch) (a.put (some d) v) w → Q (.panic ch) a w) (X : Cop c w W1 h s1 s2 s3 k1 k2 k3) (fin : ∀ (u3 u7 u11 v1 v2 v3 : Value) (W : World), Below W1.heap.size W1 W → Fr 1 bcell W1.heap.size (bl c) v1 W → Fr 34 Ent.cells W1.heap.size c.es v2 W → Fr 32 (arr .u8 32) W1.heap.size c.ps v3 W → wpAnyH Try.prog .any copOps Q (fun w' => Below h w w') 5 #[true, true, true, true, true, true, true, true, true, true, true, true, true, false, false, false, false, false] ⟨#[.agg o.cells, .pointer (some ⟨h, 0, none⟩), .pointer (some ⟨h + 1, 0, none⟩), u3, .pointer (some ⟨h, 1, none⟩), .slice s1 c.nb k1, v1, u7, .pointer (some ⟨h, 2, none⟩), .slice s2 c.es.length k2, v2, u11, .pointer (some ⟨h, 35, none⟩), .slice s3 c.ps.length k3, v3, .pointer (some ⟨h, 1, none⟩), undef, undef, undef], []⟩ W) (W : World) (hT : Below W1.heap.size W1 W) (g3 : Nat) (hg0 : W1.heap.size ≤ g3) (g11 : Nat) (hg2 : W1.heap.size ≤ g11) (v1 : Value) (f0 : Fr 1 bcell W1.heap.size (bl c) v1 W) : wpAnyH Try.prog .any copOps Q (fun w' => Below h w w') 10 #[true, true, true, true, false, true, true, false, true, true, false, false, false, false, false, false, false, false] ⟨#[.agg o.cells, .pointer (some ⟨h, 0, none⟩), .pointer (some ⟨h + 1, 0, none⟩), .slice (some ⟨g3, 0, none⟩) 0 0, .pointer (some ⟨h, 1, none⟩), .slice s1 c.nb k1, v1, undef, .pointer (some ⟨h, 2, none⟩), .slice s2 c.es.length k2, undef, .slice (some ⟨g11, 0, none⟩) 0 0, .pointer (some ⟨h, 35, none⟩), undef, undef, undef, undef, undef, undef], []⟩ W := by
  refine wpAnyH_all (rs := [4, 10]) (by kernel_rfl) (by simp) fun i hi => ?_
  simp only [List.mem_cons, List.not_mem_nil, or_false] at hi
  rcases hi with rfl | rfl
  · refine wpOp_plain rfl rfl ?_
    refine op_build 24 rfl (bldE W) ?_
    have hB : Below W.heap.size W (W.alloc (.cells #[] 40)) := (Below.refl _ _).alloc (Nat.le_refl _) _
    have hT2 := hT.trans (hB.mono hT.size)
    refine ⟨X.s.trans (hT2.mono (Nat.le_of_lt X.lt)), ?_⟩
    simp only [Act.put, List.setIfInBounds_toArray, List.set_cons_succ, List.set_cons_zero]
    exact cop_111_110_1 hQ X fin _ hT2 g3 hg0 W.heap.size hT.size g11 hg2 v1 (f0.below hB)
  · refine wpOp_plain rfl rfl ?_
    have q : W.cell? ⟨h, 35, none⟩ = some (.slice s3 c.ps.length k3) := (hT.cell (p := ⟨h, 35, none⟩) X.lt).trans X.c3
    refine op_load 27 (.tmp 12) rfl rfl (ldI q) ?_
    refine ⟨X.s.trans (hT.mono (Nat.le_of_lt X.lt)), ?_⟩
    simp only [Act.put, List.setIfInBounds_toArray, List.set_cons_succ, List.set_cons_zero]
    refine mv_run 12 15 (.pointer (some ⟨h, 1, none⟩)) rfl (by kernel_rfl) (by kernel_rfl) (by kernel_rfl) (fun _ _ _ hq => hQ _ _ _ _ _ hq) (fun w' _ => by go_simp) (X.s.trans (hT.mono (Nat.le_of_lt X.lt))) ?_
    simp only [List.setIfInBounds_toArray, List.set_cons_succ, List.set_cons_zero]
    exact cop_101_111_1 hQ X fin _ hT g3 hg0 g11 hg2 v1 f0
theorem cop_101_101_1 (hQ : ∀ (ch) (a : Act) (d : Nat) (v : Value) (w : World), Q (.panic ch) (a.put (some d) v) w → Q (.panic ch) a w) (X : Cop c w W1 h s1 s2 s3 k1 k2 k3) (fin : ∀ (u3 u7 u11 v1 v2 v3 : Value) (W : World), Below W1.heap.size W1 W → Fr 1 bcell W1.heap.size (bl c) v1 W → Fr 34 Ent.cells W1.heap.size c.es v2 W → Fr 32 (arr .u8 32) W1.heap.size c.ps v3 W → wpAnyH Try.prog .any copOps Q (fun w' => Below h w w') 5 #[true, true, true, true, true, true, true, true, true, true, true, true, true, false, false, false, false, false] ⟨#[.agg o.cells, .pointer (some ⟨h, 0, none⟩), .pointer (some ⟨h + 1, 0, none⟩), u3, .pointer (some ⟨h, 1, none⟩), .slice s1 c.nb k1, v1, u7, .pointer (some ⟨h, 2, none⟩), .slice s2 c.es.length k2, v2, u11, .pointer (some ⟨h, 35, none⟩), .slice s3 c.ps.length k3, v3, .pointer (some ⟨h, 1, none⟩), undef, undef, undef], []⟩ W) (W : World) (hT : Below W1.heap.size W1 W) (g3 : Nat) (hg0 : W1.heap.size ≤ g3) (g11 : Nat) (hg2 : W1.heap.size ≤ g11) (v1 : Value) (f0 : Fr 1 bcell W1.heap.size (bl c) v1 W) : wpAnyH Try.prog .any copOps Q (fun w' => Below h w w') 10 #[true, true, true, true, false, true, false, false, true, true, true, false, false, false, false, false, false, false] ⟨#[.agg o.cells, .pointer (some ⟨h, 0, none⟩), .pointer (some ⟨h + 1, 0, none⟩), .slice (some ⟨g3, 0, none⟩) 0 0, .pointer (some ⟨h, 1, none⟩), .slice s1 c.nb k1, v1, undef, .pointer (some ⟨h, 2, none⟩), undef, undef, .slice (some ⟨g11, 0, none⟩) 0 0, .pointer (some ⟨h, 35, none⟩), .slice s3 c.ps.length k3, undef, undef, undef, undef, undef], []⟩ W := by
  refine wpAnyH_all (rs := [4, 6]) (by kernel_rfl) (by simp) fun i hi => ?_
  simp only [List.mem_cons, List.not_mem_nil, or_false] at hi
  rcases hi with rfl | rfl
  · refine wpOp_plain rfl rfl ?_
    refine op_build 24 rfl (bldE W) ?_
    have hB : Below W.heap.size W (W.alloc (.cells #[] 40)) := (Below.refl _ _).alloc (Nat.le_refl _) _
    have hT2 := hT.trans (hB.mono hT.size)
    refine ⟨X.s.trans (hT2.mono (Nat.le_of_lt X.lt)), ?_⟩
    simp only [Act.put, List.setIfInBounds_toArray, List.set_cons_succ, List.set_cons_zero]
    exact cop_111_101_1 hQ X fin _ hT2 g3 hg0 W.heap.size hT.size g11 hg2 v1 (f0.below hB)
  · refine wpOp_plain rfl rfl ?_
    have q : W.cell? ⟨h, 2, none⟩ = some (.slice s2 c.es.length k2) := (hT.cell (p := ⟨h, 2, none⟩) X.lt).trans X.c2
    refine op_load 24 (.tmp 8) rfl rfl (ldE q) ?_
    refine ⟨X.s.trans (hT.mono (Nat.le_of_lt X.lt)), ?_⟩
    simp only [Act.put, List.setIfInBounds_toArray, List.set_cons_succ, List.set_cons_zero]
    refine mv_run 12 15 (.pointer (some ⟨h, 1, none⟩)) rfl (by kernel_rfl) (by kernel_rfl) (by kernel_rfl) (fun _ _ _ hq => hQ _ _ _ _ _ hq) (fun w' _ => by go_simp) (X.s.trans (hT.mono (Nat.le_of_lt X.lt))) ?_
    simp only [List.setIfInBounds_toArray, List.set_cons_succ, List.set_cons_zero]
    exact cop_101_111_1 hQ X fin _ hT g3 hg0 g11 hg2 v1 f0
theorem cop_100_111_1 (hQ : ∀ (ch) (a : Act) (d : Nat) (v : Value) (w : World), Q (.panic ch) (a.put (some d) v) w → Q (.panic ch) a w) (X : Cop c w W1 h s1 s2 s3 k1 k2 k3) (fin : ∀ (u3 u7 u11 v1 v2 v3 : Value) (W : World), Below W1.heap.size W1 W → Fr 1 bcell W1.heap.size (bl c) v1 W → Fr 34 Ent.cells W1.heap.size c.es v2 W → Fr 32 (arr .u8 32) W1.heap.size c.ps v3 W → wpAnyH Try.prog .any copOps Q (fun w' => Below h w w') 5 #[true, true, true, true, true, true, true, true, true, true, true, true, true, false, false, false, false, false] ⟨#[.agg o.cells, .pointer (some ⟨h, 0, none⟩), .pointer (some ⟨h + 1, 0, none⟩), u3, .pointer (some ⟨h, 1, none⟩), .slice s1 c.nb k1, v1, u7, .pointer (some ⟨h, 2, none⟩), .slice s2 c.es.length k2, v2, u11, .pointer (some ⟨h, 35, none⟩), .slice s3 c.ps.length k3, v3, .pointer (some ⟨h, 1, none⟩), undef, undef, undef], []⟩ W) (W : World) (hT : Below W1.heap.size W1 W) (g3 : Nat) (hg0 : W1.heap.size ≤ g3) (v1 : Value) (f0 : Fr 1 bcell W1.heap.size (bl c) v1 W) : wpAnyH Try.prog .any copOps Q (fun w' => Below h w w') 9 #[true, true, true, true, false, true, true, false, false, true, true, false, true, false, false, false, false, false] ⟨#[.agg o.cells, .pointer (some ⟨h, 0, none⟩), .pointer (some ⟨h + 1, 0, none⟩), .slice (some ⟨g3, 0, none⟩) 0 0, .pointer (some ⟨h, 1, none⟩), .slice s1 c.nb k1, v1, undef, .pointer (some ⟨h, 2, none⟩), .slice s2 c.es.length k2, undef, undef, .pointer (some ⟨h, 35, none⟩), .slice s3 c.ps.length k3, undef, .pointer (some ⟨h, 1, none⟩), undef, undef, undef], []⟩ W := by
  refine wpAnyH_all (rs := [4, 8]) (by kernel_rfl) (by simp) fun i hi => ?_
  simp only [List.mem_cons, List.not_mem_nil, or_false] at hi
  rcases hi with rfl | rfl
  · refine wpOp_plain rfl rfl ?_
    refine op_build 24 rfl (bldE W) ?_
    have hB : Below W.heap.size W (W.alloc (.cells #[] 40)) := (Below.refl _ _).alloc (Nat.le_refl _) _
    have hT2 := hT.trans (hB.mono hT.size)
    refine ⟨X.s.trans (hT2.mono (Nat.le_of_lt X.lt)), ?_⟩
    simp only [Act.put, List.setIfInBounds_toArray, List.set_cons_succ, List.set_cons_zero]
    exact cop_110_111_1 hQ X fin _ hT2 g3 hg0 W.heap.size hT.size v1 (f0.below hB)
  · refine wpOp_plain rfl rfl ?_
    refine op_build 27 rfl (bldI W) ?_
    have hB : Below W.heap.size W (W.alloc (.cells #[] 26)) := (Below.refl _ _).alloc (Nat.le_refl _) _
    have hT2 := hT.trans (hB.mono hT.size)
    refine ⟨X.s.trans (hT2.mono (Nat.le_of_lt X.lt)), ?_⟩
    simp only [Act.put, List.setIfInBounds_toArray, List.set_cons_succ, List.set_cons_zero]
    exact cop_101_111_1 hQ X fin _ hT2 g3 hg0 W.heap.size hT.size v1 (f0.below hB)
theorem cop_111_110_0 (hQ : ∀ (ch) (a : Act) (d : Nat) (v : Value) (w : World), Q (.panic ch) (a.put (some d) v) w → Q (.panic ch) a w) (X : Cop c w W1 h s1 s2 s3 k1 k2 k3) (fin : ∀ (u3 u7 u11 v1 v2 v3 : Value) (W : World), Below W1.heap.size W1 W → Fr 1 bcell W1.heap.size (bl c) v1 W → Fr 34 Ent.cells W1.heap.size c.es v2 W → Fr 32 (arr .u8 32) W1.heap.size c.ps v3 W → wpAnyH Try.prog .any copOps Q (fun w' => Below h w w') 5 #[true, true, true, true, true, true, true, true, true, true, true, true, true, false, false, false, false, false] ⟨#[.agg o.cells, .pointer (some ⟨h, 0, none⟩), .pointer (some ⟨h + 1, 0, none⟩), u3, .pointer (some ⟨h, 1, none⟩), .slice s1 c.nb k1, v1, u7, .pointer (some ⟨h, 2, none⟩), .slice s2 c.es.length k2, v2, u11, .pointer (some ⟨h, 35, none⟩), .slice s3 c.ps.length k3, v3, .pointer (some ⟨h, 1, none⟩), undef, undef, undef], []⟩ W) (W : World) (hT : Below W1.heap.size W1 W) (g3 : Nat) (hg0 : W1.heap.size ≤ g3) (g7 : Nat) (hg1 : W1.heap.size ≤ g7) (g11 : Nat) (hg2 : W1.heap.size ≤ g11) : wpAnyH Try.prog .any copOps Q (fun w' => Below h w w') 10 #[true, true, true, false, true, true, true, false, true, true, false, false, false, false, false, false, false, false] ⟨#[.agg o.cells, .pointer (some ⟨h, 0, none⟩), .pointer (some ⟨h + 1, 0, none⟩), .slice (some ⟨g3, 0, none⟩) 0 0, .pointer (some ⟨h, 1, none⟩), .slice s1 c.nb k1, undef, .slice (some ⟨g7, 0, none⟩) 0 0, .pointer (some ⟨h, 2, none⟩), .slice s2 c.es.length k2, undef, .slice (some ⟨g11, 0, none⟩) 0 0, .pointer (some ⟨h, 35, none⟩), undef, undef, undef, undef, undef, undef], []⟩ W := by
  refine wpAnyH_all (rs := [3, 10]) (by kernel_rfl) (by simp) fun i hi => ?_
  simp only [List.mem_cons, List.not_mem_nil, or_false] at hi
  rcases hi with rfl | rfl
  · refine wpOp_plain rfl rfl ?_
    obtain ⟨v, W', hr, hB, hF⟩ := appB X hT hg0 22
    refine op_append (.tmp 3) (.tmp 5) 22 rfl rfl rfl hr ?_
    have hT2 := hT.trans (hB.mono hT.size)
    refine ⟨X.s.trans (hT2.mono (Nat.le_of_lt X.lt)), ?_⟩
    simp only [Act.put, List.setIfInBounds_toArray, List.set_cons_succ, List.set_cons_zero]
    exact cop_111_110_1 hQ X fin _ hT2 g3 hg0 g7 hg1 g11 hg2 v hF
  · refine wpOp_plain rfl rfl ?_
    have q : W.cell? ⟨h, 35, none⟩ = some (.slice s3 c.ps.length k3) := (hT.cell (p := ⟨h, 35, none⟩) X.lt).trans X.c3
    refine op_load 27 (.tmp 12) rfl rfl (ldI q) ?_
    refine ⟨X.s.trans (hT.mono (Nat.le_of_lt X.lt)), ?_⟩
    simp only [Act.put, List.setIfInBounds_toArray, List.set_cons_succ, List.set_cons_zero]
    exact cop_111_111_0 hQ X fin _ hT g3 hg0 g7 hg1 g11 hg2
theorem cop_111_101_0 (hQ : ∀ (ch) (a : Act) (d : Nat) (v : Value) (w : World), Q (.panic ch) (a.put (some d) v) w → Q (.panic ch) a w) (X : Cop c w W1 h s1 s2 s3 k1 k2 k3) (fin : ∀ (u3 u7 u11 v1 v2 v3 : Value) (W : World), Below W1.heap.size W1 W → Fr 1 bcell W1.heap.size (bl c) v1 W → Fr 34 Ent.cells W1.heap.size c.es v2 W → Fr 32 (arr .u8 32) W1.heap.size c.ps v3 W → wpAnyH Try.prog .any copOps Q (fun w' => Below h w w') 5 #[true, true, true, true, true, true, true, true, true, true, true, true, true, false, false, false, false, false] ⟨#[.agg o.cells, .pointer (some ⟨h, 0, none⟩), .pointer (some ⟨h + 1, 0, none⟩), u3, .pointer (some ⟨h, 1, none⟩), .slice s1 c.nb k1, v1, u7, .pointer (some ⟨h, 2, none⟩), .slice s2 c.es.length k2, v2, u11, .pointer (some ⟨h, 35, none⟩), .slice s3 c.ps.length k3, v3, .pointer (some ⟨h, 1, none⟩), undef, undef, undef], []⟩ W) (W : World) (hT : Below W1.heap.size W1 W) (g3 : Nat) (hg0 : W1.heap.size ≤ g3) (g7 : Nat) (hg1 : W1.heap.size ≤ g7) (g11 : Nat) (hg2 : W1.heap.size ≤ g11) : wpAnyH Try.prog .any copOps Q (fun w' => Below h w w') 10 #[true, true, true, false, true, true, false, false, true, true, true, false, false, false, false, false, false, false] ⟨#[.agg o.cells, .pointer (some ⟨h, 0, none⟩), .pointer (some ⟨h + 1, 0, none⟩), .slice (some ⟨g3, 0, none⟩) 0 0, .pointer (some ⟨h, 1, none⟩), .slice s1 c.nb k1, undef, .slice (some ⟨g7, 0, none⟩) 0 0, .pointer (some ⟨h, 2, none⟩), undef, undef, .slice (some ⟨g11, 0, none⟩) 0 0, .pointer (some ⟨h, 35, none⟩), .slice s3 c.ps.length k3, undef, undef, undef, undef, undef], []⟩ W := by
  refine wpAnyH_all (rs := [3, 6]) (by kernel_rfl) (by simp) fun i hi => ?_
  simp only [List.mem_cons, List.not_mem_nil, or_false] at hi
  rcases hi with rfl | rfl
  · refine wpOp_plain rfl rfl ?_
    obtain ⟨v, W', hr, hB, hF⟩ := appB X hT hg0 22
    refine op_append (.tmp 3) (.tmp 5) 22 rfl rfl rfl hr ?_
    have hT2 := hT.trans (hB.mono hT.size)
    refine ⟨X.s.trans (hT2.mono (Nat.le_of_lt X.lt)), ?_⟩
    simp only [Act.put, List.setIfInBounds_toArray, List.set_cons_succ, List.set_cons_zero]
    exact cop_111_101_1 hQ X fin _ hT2 g3 hg0 g7 hg1 g11 hg2 v hF
  · refine wpOp_plain rfl rfl ?_
    have q : W.cell? ⟨h, 2, none⟩ = some (.slice s2 c.es.length k2) := (hT.cell (p := ⟨h, 2, none⟩) X.lt).trans X.c2
    refine op_load 24 (.tmp 8) rfl rfl (ldE q) ?_
    refine ⟨X.s.trans (hT.mono (Nat.le_of_lt X.lt)), ?_⟩
    simp only [Act.put, List.setIfInBounds_toArray, List.set_cons_succ, List.set_cons_zero]
    exact cop_111_111_0 hQ X fin _ hT g3 hg0 g7 hg1 g11 hg2
theorem cop_111_011_0 (hQ : ∀ (ch) (a : Act) (d : Nat) (v : Value) (w : World), Q (.panic ch) (a.put (some d) v) w → Q (.panic ch) a w) (X : Cop c w W1 h s1 s2 s3 k1 k2 k3) (fin : ∀ (u3 u7 u11 v1 v2 v3 : Value) (W : World), Below W1.heap.size W1 W → Fr 1 bcell W1.heap.size (bl c) v1 W → Fr 34 Ent.cells W1.heap.size c.es v2 W → Fr 32 (arr .u8 32) W1.heap.size c.ps v3 W → wpAnyH Try.prog .any copOps Q (fun w' => Below h w w') 5 #[true, true, true, true, true, true, true, true, true, true, true, true, true, false, false, false, false, false] ⟨#[.agg o.cells, .pointer (some ⟨h, 0, none⟩), .pointer (some ⟨h + 1, 0, none⟩), u3, .pointer (some ⟨h, 1, none⟩), .slice s1 c.nb k1, v1, u7, .pointer (some ⟨h, 2, none⟩), .slice s2 c.es.length k2, v2, u11, .pointer (some ⟨h, 35, none⟩), .slice s3 c.ps.length k3, v3, .pointer (some ⟨h, 1, none⟩), undef, undef, undef], []⟩ W) (W : World) (hT : Below W1.heap.size W1 W) (g3 : Nat) (hg0 : W1.heap.size ≤ g3) (g7 : Nat) (hg1 : W1.heap.size ≤ g7) (g11 : Nat) (hg2 : W1.heap.size ≤ g11) : wpAnyH Try.prog .any copOps Q (fun w' => Below h w w') 10 #[true, true, false, false, true, true, true, false, true, true, true, false, false, false, false, false, false, false] ⟨#[.agg o.cells, .pointer (some ⟨h, 0, none⟩), .pointer (some ⟨h + 1, 0, none⟩), .slice (some ⟨g3, 0, none⟩) 0 0, .pointer (some ⟨h, 1, none⟩), undef, undef, .slice (some ⟨g7, 0, none⟩) 0 0, .pointer (some ⟨h, 2, none⟩), .slice s2 c.es.length k2, undef, .slice (some ⟨g11, 0, none⟩) 0 0, .pointer (some ⟨h, 35, none⟩), .slice s3 c.ps.length k3, undef, undef, undef, undef, undef], []⟩ W := by
  refine wpAnyH_all (rs := [2]) (by kernel_rfl) (by simp) fun i hi => ?_
  simp only [List.mem_cons, List.not_mem_nil, or_false] at hi
  subst hi
  · refine wpOp_plain rfl rfl ?_
    have q : W.cell? ⟨h, 1, none⟩ = some (.slice s1 c.nb k1) := (hT.cell (p := ⟨h, 1, none⟩) X.lt).trans X.c1
    refine op_load 22 (.tmp 4) rfl rfl (ldB q) ?_
    refine ⟨X.s.trans (hT.mono (Nat.le_of_lt X.lt)), ?_⟩
    simp only [Act.put, List.setIfInBounds_toArray, List.set_cons_succ, List.set_cons_zero]
    exact cop_111_111_0 hQ X fin _ hT g3 hg0 g7 hg1 g11 hg2
theorem cop_110_111_0 (hQ : ∀ (ch) (a : Act) (d : Nat) (v : Value) (w : World), Q (.panic ch) (a.put (some d) v) w → Q (.panic ch) a w) (X : Cop c w W1 h s1 s2 s3 k1 k2 k3) (fin : ∀ (u3 u7 u11 v1 v2 v3 : Value) (W : World), Below W1.heap.size W1 W → Fr 1 bcell W1.heap.size (bl c) v1 W → Fr 34 Ent.cells W1.heap.size c.es v2 W → Fr 32 (arr .u8 32) W1.heap.size c.ps v3 W → wpAnyH Try.prog .any copOps Q (fun w' => Below h w w') 5 #[true, true, true, true, true, true, true, true, true, true, true, true, true, false, false, false, false, false] ⟨#[.agg o.cells, .pointer (some ⟨h, 0, none⟩), .pointer (some ⟨h + 1, 0, none⟩), u3, .pointer (some ⟨h, 1, none⟩), .slice s1 c.nb k1, v1, u7, .pointer (some ⟨h, 2, none⟩), .slice s2 c.es.length k2, v2, u11, .pointer (some ⟨h, 35, none⟩), .slice s3 c.ps.length k3, v3, .pointer (some ⟨h, 1, none⟩), undef, undef, undef], []⟩ W) (W : World) (hT : Below W1.heap.size W1 W) (g3 : Nat) (hg0 : W1.heap.size ≤ g3) (g7 : Nat) (hg1 : W1.heap.size ≤ g7) : wpAnyH Try.prog .any copOps Q (fun w' => Below h w w') 10 #[true, true, true, false, true, true, true, false, false, true, true, false, false, false, false, false, false, false] ⟨#[.agg o.cells, .pointer (some ⟨h, 0, none⟩), .pointer (some ⟨h + 1, 0, none⟩), .slice (some ⟨g3, 0, none⟩) 0 0, .pointer (some ⟨h, 1, none⟩), .slice s1 c.nb k1, undef, .slice (some ⟨g7, 0, none⟩) 0 0, .pointer (some ⟨h, 2, none⟩), .slice s2 c.es.length k2, undef, undef, .pointer (some ⟨h, 35, none⟩), .slice s3 c.ps.length k3, undef, undef, undef, undef, undef], []⟩ W := by
  refine wpAnyH_all (rs := [3, 8]) (by kernel_rfl) (by simp) fun i hi => ?_
  simp only [List.mem_cons, List.not_mem_nil, or_false] at hi
  rcases hi with rfl | rfl
  · refine wpOp_plain rfl rfl ?_
    obtain ⟨v, W', hr, hB, hF⟩ := appB X hT hg0 22
    refine op_append (.tmp 3) (.tmp 5) 22 rfl rfl rfl hr ?_
    have hT2 := hT.trans (hB.mono hT.size)
    refine ⟨X.s.trans (hT2.mono (Nat.le_of_lt X.lt)), ?_⟩
    simp only [Act.put, List.setIfInBounds_toArray, List.set_cons_succ, List.set_cons_zero]
    refine mv_run 12 15 (.pointer (some ⟨h, 1, none⟩)) rfl (by kernel_rfl) (by kernel_rfl) (by kernel_rfl) (fun _ _ _ hq => hQ _ _ _ _ _ hq) (fun w' _ => by go_simp) (X.s.trans (hT2.mono (Nat.le_of_lt X.lt))) ?_
    simp only [List.setIfInBounds_toArray, List.set_cons_succ, List.set_cons_zero]
    exact cop_110_111_1 hQ X fin _ hT2 g3 hg0 g7 hg1 v hF
  · refine wpOp_plain rfl rfl ?_
    refine op_build 27 rfl (bldI W) ?_
    have hB : Below W.heap.size W (W.alloc (.cells #[] 26)) := (Below.refl _ _).alloc (Nat.le_refl _) _
    have hT2 := hT.trans (hB.mono hT.size)
    refine ⟨X.s.trans (hT2.mono (Nat.le_of_lt X.lt)), ?_⟩
    simp only [Act.put, List.setIfInBounds_toArray, List.set_cons_succ, List.set_cons_zero]
    exact cop_111_111_0 hQ X fin _ hT2 g3 hg0 g7 hg1 W.heap.size hT.size
theorem cop_101_111_0 (hQ : ∀ (ch) (a : Act) (d : Nat) (v : Value) (w : World), Q (.panic ch) (a.put (some d) v) w → Q (.panic ch) a w) (X : Cop c w W1 h s1 s2 s3 k1 k2 k3) (fin : ∀ (u3 u7 u11 v1 v2 v3 : Value) (W : World), Below W1.heap.size W1 W → Fr 1 bcell W1.heap.size (bl c) v1 W → Fr 34 Ent.cells W1.heap.size c.es v2 W → Fr 32 (arr .u8 32) W1.heap.size c.ps v3 W → wpAnyH Try.prog .any copOps Q (fun w' => Below h w w') 5 #[true, true, true, true, true, true, true, true, true, true, true, true, true, false, false, false, false, false] ⟨#[.agg o.cells, .pointer (some ⟨h, 0, none⟩), .pointer (some ⟨h + 1, 0, none⟩), u3, .pointer (some ⟨h, 1, none⟩), .slice s1 c.nb k1, v1, u7, .pointer (some ⟨h, 2, none⟩), .slice s2 c.es.length k2, v2, u11, .pointer (some ⟨h, 35, none⟩), .slice s3 c.ps.length k3, v3, .pointer (some ⟨h, 1, none⟩), undef, undef, undef], []⟩ W) (W : World) (hT : Below W1.heap.size W1 W) (g3 : Nat) (hg0 : W1.heap.size ≤ g3) (g11 : Nat) (hg2 : W1.heap.size ≤ g11) : wpAnyH Try.prog .any copOps Q (fun w' => Below h w w') 10 #[true, true, true, false, false, true, true, false, true, true, true, false, false, false, false, false, false, false] ⟨#[.agg o.cells, .pointer (some ⟨h, 0, none⟩), .pointer (some ⟨h + 1, 0, none⟩), .slice (some ⟨g3, 0, none⟩) 0 0, .pointer (some ⟨h, 1, none⟩), .slice s1 c.nb k1, undef, undef, .pointer (some ⟨h, 2, none⟩), .slice s2 c.es.length k2, undef, .slice (some ⟨g11, 0, none⟩) 0 0, .pointer (some ⟨h, 35, none⟩), .slice s3 c.ps.length k3, undef, undef, undef, undef, undef], []⟩ W := by
  refine wpAnyH_all (rs := [3, 4]) (by kernel_rfl) (by simp) fun i hi => ?_
  simp only [List.mem_cons, List.not_mem_nil, or_false] at hi
  rcases hi with rfl | rfl
  · refine wpOp_plain rfl rfl ?_
    obtain ⟨v, W', hr, hB, hF⟩ := appB X hT hg0 22
    refine op_append (.tmp 3) (.tmp 5) 22 rfl rfl rfl hr ?_
    have hT2 := hT.trans (hB.mono hT.size)
    refine ⟨X.s.trans (hT2.mono (Nat.le_of_lt X.lt)), ?_⟩
    simp only [Act.put, List.setIfInBounds_toArray, List.set_cons_succ, List.set_cons_zero]
    refine mv_run 12 15 (.pointer (some ⟨h, 1, none⟩)) rfl (by kernel_rfl) (by kernel_rfl) (by kernel_rfl) (fun _ _ _ hq => hQ _ _ _ _ _ hq) (fun w' _ => by go_simp) (X.s.trans (hT2.mono (Nat.le_of_lt X.lt))) ?_
    simp only [List.setIfInBounds_toArray, List.set_cons_succ, List.set_cons_zero]
    exact cop_101_111_1 hQ X fin _ hT2 g3 hg0 g11 hg2 v hF
  · refine wpOp_plain rfl rfl ?_
    refine op_build 24 rfl (bldE W) ?_
    have hB : Below W.heap.size W (W.alloc (.cells #[] 40)) := (Below.refl _ _).alloc (Nat.le_refl _) _
    have hT2 := hT.trans (hB.mono hT.size)
    refine ⟨X.s.trans (hT2.mono (Nat.le_of_lt X.lt)), ?_⟩
    simp only [Act.put, List.setIfInBounds_toArray, List.set_cons_succ, List.set_cons_zero]
    exact cop_111_111_0 hQ X fin _ hT2 g3 hg0 W.heap.size hT.size g11 hg2
theorem cop_011_111_0 (hQ : ∀ (ch) (a : Act) (d : Nat) (v : Value) (w : World), Q (.panic ch) (a.put (some d) v) w → Q (.panic ch) a w) (X : Cop c w W1 h s1 s2 s3 k1 k2 k3) (fin : ∀ (u3 u7 u11 v1 v2 v3 : Value) (W : World), Below W1.heap.size W1 W → Fr 1 bcell W1.heap.size (bl c) v1 W → Fr 34 Ent.cells W1.heap.size c.es v2 W → Fr 32 (arr .u8 32) W1.heap.size c.ps v3 W → wpAnyH Try.prog .any copOps Q (fun w' => Below h w w') 5 #[true, true, true, true, true, true, true, true, true, true, true, true, true, false, false, false, false, false] ⟨#[.agg o.cells, .pointer (some ⟨h, 0, none⟩), .pointer (some ⟨h + 1, 0, none⟩), u3, .pointer (some ⟨h, 1, none⟩), .slice s1 c.nb k1, v1, u7, .pointer (some ⟨h, 2, none⟩), .slice s2 c.es.length k2, v2, u11, .pointer (some ⟨h, 35, none⟩), .slice s3 c.ps.length k3, v3, .pointer (some ⟨h, 1, none⟩), undef, undef, undef], []⟩ W) (W : World) (hT : Below W1.heap.size W1 W) (g7 : Nat) (hg1 : W1.heap.size ≤ g7) (g11 : Nat) (hg2 : W1.heap.size ≤ g11) : wpAnyH Try.prog .any copOps Q (fun w' => Below h w w') 10 #[false, true, true, false, true, true, true, false, true, true, true, false, false, false, false, false, false, false] ⟨#[.agg o.cells, .pointer (some ⟨h, 0, none⟩), .pointer (some ⟨h + 1, 0, none⟩), undef, .pointer (some ⟨h, 1, none⟩), .slice s1 c.nb k1, undef, .slice (some ⟨g7, 0, none⟩) 0 0, .pointer (some ⟨h, 2, none⟩), .slice s2 c.es.length k2, undef, .slice (some ⟨g11, 0, none⟩) 0 0, .pointer (some ⟨h, 35, none⟩), .slice s3 c.ps.length k3, undef, undef, undef, undef, undef], []⟩ W := by
  refine wpAnyH_all (rs := [0]) (by kernel_rfl) (by simp) fun i hi => ?_
  simp only [List.mem_cons, List.not_mem_nil, or_false] at hi
  subst hi
  · refine wpOp_plain rfl rfl ?_
    refine op_build 22 rfl (bldB W) ?_
    have hB : Below W.heap.size W (W.alloc (.cells #[] 5)) := (Below.refl _ _).alloc (Nat.le_refl _) _
    have hT2 := hT.trans (hB.mono hT.size)
    refine ⟨X.s.trans (hT2.mono (Nat.le_of_lt X.lt)), ?_⟩
    simp only [Act.put, List.setIfInBounds_toArray, List.set_cons_zero]
    exact cop_111_111_0 hQ X fin _ hT2 W.heap.size hT.size g7 hg1 g11 hg2
theorem cop_110_100_1 (hQ : ∀ (ch) (a : Act) (d : Nat) (v : Value) (w : World), Q (.panic ch) (a.put (some d) v) w → Q (.panic ch) a w) (X : Cop c w W1 h s1 s2 s3 k1 k2 k3) (fin : ∀ (u3 u7 u11 v1 v2 v3 : Value) (W : World), Below W1.heap.size W1 W → Fr 1 bcell W1.heap.size (bl c) v1 W → Fr 34 Ent.cells W1.heap.size c.es v2 W → Fr 32 (arr .u8 32) W1.heap.size c.ps v3 W → wpAnyH Try.prog .any copOps Q (fun w' => Below h w w') 5 #[true, true, true, true, true, true, true, true, true, true, true, true, true, false, false, false, false, false] ⟨#[.agg o.cells, .pointer (some ⟨h, 0, none⟩), .pointer (some ⟨h + 1, 0, none⟩), u3, .pointer (some ⟨h, 1, none⟩), .slice s1 c.nb k1, v1, u7, .pointer (some ⟨h, 2, none⟩), .slice s2 c.es.length k2, v2, u11, .pointer (some ⟨h, 35, none⟩), .slice s3 c.ps.length k3, v3, .pointer (some ⟨h, 1, none⟩), undef, undef, undef], []⟩ W) (W : World) (hT : Below W1.heap.size W1 W) (g3 : Nat) (hg0 : W1.heap.size ≤ g3) (g7 : Nat) (hg1 : W1.heap.size ≤ g7) (v1 : Value) (f0 : Fr 1 bcell W1.heap.size (bl c) v1 W) : wpAnyH Try.prog .any copOps Q (fun w' => Below h w w') 11 #[true, true, true, true, true, true, false, false, false, true, false, false, false, false, false, false, false, false] ⟨#[.agg o.cells, .pointer (some ⟨h, 0, none⟩), .pointer (some ⟨h + 1, 0, none⟩), .slice (some ⟨g3, 0, none⟩) 0 0, .pointer (some ⟨h, 1, none⟩), .slice s1 c.nb k1, v1, .slice (some ⟨g7, 0, none⟩) 0 0, .pointer (some ⟨h, 2, none⟩), undef, undef, undef, .pointer (some ⟨h, 35, none⟩), undef, undef, undef, undef, undef, undef], []⟩ W := by
  refine wpAnyH_all (rs := [6, 8, 10]) (by kernel_rfl) (by simp) fun i hi => ?_
  simp only [List.mem_cons, List.not_mem_nil, or_false] at hi
  rcases hi with rfl | rfl | rfl
  · refine wpOp_plain rfl rfl ?_
    have q : W.cell? ⟨h, 2, none⟩ = some (.slice s2 c.es.length k2) := (hT.cell (p := ⟨h, 2, none⟩) X.lt).trans X.c2
    refine op_load 24 (.tmp 8) rfl rfl (ldE q) ?_
    refine ⟨X.s.trans (hT.mono (Nat.le_of_lt X.lt)), ?_⟩
    simp only [Act.put, List.setIfInBounds_toArray, List.set_cons_succ, List.set_cons_zero]
    exact cop_110_110_1 hQ X fin _ hT g3 hg0 g7 hg1 v1 f0
  · refine wpOp_plain rfl rfl ?_
    refine op_build 27 rfl (bldI W) ?_
    have hB : Below W.heap.size W (W.alloc (.cells #[] 26)) := (Below.refl _ _).alloc (Nat.le_refl _) _
    have hT2 := hT.trans (hB.mono hT.size)
    refine ⟨X.s.trans (hT2.mono (Nat.le_of_lt X.lt)), ?_⟩
    simp only [Act.put, List.setIfInBounds_toArray, List.set_cons_succ, List.set_cons_zero]
    exact cop_111_100_1 hQ X fin _ hT2 g3 hg0 g7 hg1 W.heap.size hT.size v1 (f0.below hB)
  · refine wpOp_plain rfl rfl ?_
    have q : W.cell? ⟨h, 35, none⟩ = some (.slice s3 c.ps.length k3) := (hT.cell (p := ⟨h, 35, none⟩) X.lt).trans X.c3
    refine op_load 27 (.tmp 12) rfl rfl (ldI q) ?_
    refine ⟨X.s.trans (hT.mono (Nat.le_of_lt X.lt)), ?_⟩
    simp only [Act.put, List.setIfInBounds_toArray, List.set_cons_succ, List.set_cons_zero]
    exact cop_110_101_1 hQ X fin _ hT g3 hg0 g7 hg1 v1 f0
theorem cop_101_100_1 (hQ : ∀ (ch) (a : Act) (d : Nat) (v : Value) (w : World), Q (.panic ch) (a.put (some d) v) w → Q (.panic ch) a w) (X : Cop c w W1 h s1 s2 s3 k1 k2 k3) (fin : ∀ (u3 u7 u11 v1 v2 v3 : Value) (W : World), Below W1.heap.size W1 W → Fr 1 bcell W1.heap.size (bl c) v1 W → Fr 34 Ent.cells W1.heap.size c.es v2 W → Fr 32 (arr .u8 32) W1.heap.size c.ps v3 W → wpAnyH Try.prog .any copOps Q (fun w' => Below h w w') 5 #[true, true, true, true, true, true, true, true, true, true, true, true, true, false, false, false, false, false] ⟨#[.agg o.cells, .pointer (some ⟨h, 0, none⟩), .pointer (some ⟨h + 1, 0, none⟩), u3, .pointer (some ⟨h, 1, none⟩), .slice s1 c.nb k1, v1, u7, .pointer (some ⟨h, 2, none⟩), .slice s2 c.es.length k2, v2, u11, .pointer (some ⟨h, 35, none⟩), .slice s3 c.ps.length k3, v3, .pointer (some ⟨h, 1, none⟩), undef, undef, undef], []⟩ W) (W : World) (hT : Below W1.heap.size W1 W) (g3 : Nat) (hg0 : W1.heap.size ≤ g3) (g11 : Nat) (hg2 : W1.heap.size ≤ g11) (v1 : Value) (f0 : Fr 1 bcell W1.heap.size (bl c) v1 W) : wpAnyH Try.prog .any copOps Q (fun w' => Below h w w') 11 #[true, true, true, true, false, true, false, false, true, true, false, false, false, false, false, false, false, false] ⟨#[.agg o.cells, .pointer (some ⟨h, 0, none⟩), .pointer (some ⟨h + 1, 0, none⟩), .slice (some ⟨g3, 0, none⟩) 0 0, .pointer (some ⟨h, 1, none⟩), .slice s1 c.nb k1, v1, undef, .pointer (some ⟨h, 2, none⟩), undef, undef, .slice (some ⟨g11, 0, none⟩) 0 0, .pointer (some ⟨h, 35, none⟩), undef, undef, undef, undef, undef, undef], []⟩ W := by
  refine wpAnyH_all (rs := [4, 6, 10]) (by kernel_rfl) (by simp) fun i hi => ?_
  simp only [List.mem_cons, List.not_mem_nil, or_false] at hi
  rcases hi with rfl | rfl | rfl
  · refine wpOp_plain rfl rfl ?_
    refine op_build 24 rfl (bldE W) ?_
    have hB : Below W.heap.size W (W.alloc (.cells #[] 40)) := (Below.refl _ _).alloc (Nat.le_refl _) _
    have hT2 := hT.trans (hB.mono hT.size)
    refine ⟨X.s.trans (hT2.mono (Nat.le_of_lt X.lt)), ?_⟩
    simp only [Act.put, List.setIfInBounds_toArray, List.set_cons_succ, List.set_cons_zero]
    exact cop_111_100_1 hQ X fin _ hT2 g3 hg0 W.heap.size hT.size g11 hg2 v1 (f0.below hB)
  · refine wpOp_plain rfl rfl ?_
    have q : W.cell? ⟨h, 2, none⟩ = some (.slice s2 c.es.length k2) := (hT.cell (p := ⟨h, 2, none⟩) X.lt).trans X.c2
    refine op_load 24 (.tmp 8) rfl rfl (ldE q) ?_
    refine ⟨X.s.trans (hT.mono (Nat.le_of_lt X.lt)), ?_⟩
    simp only [Act.put, List.setIfInBounds_toArray, List.set_cons_succ, List.set_cons_zero]
    exact cop_101_110_1 hQ X fin _ hT g3 hg0 g11 hg2 v1 f0
  · refine wpOp_plain rfl rfl ?_
    have q : W.cell? ⟨h, 35, none⟩ = some (.slice s3 c.ps.length k3) := (hT.cell (p := ⟨h, 35, none⟩) X.lt).trans X.c3
    refine op_load 27 (.tmp 12) rfl rfl (ldI q) ?_
    refine ⟨X.s.trans (hT.mono (Nat.le_of_lt X.lt)), ?_⟩
    simp only [Act.put, List.setIfInBounds_toArray, List.set_cons_succ, List.set_cons_zero]
    exact cop_101_101_1 hQ X fin _ hT g3 hg0 g11 hg2 v1 f0
theorem cop_100_110_1 (hQ : ∀ (ch) (a : Act) (d : Nat) (v : Value) (w : World), Q (.panic ch) (a.put (some d) v) w → Q (.panic ch) a w) (X : Cop c w W1 h s1 s2 s3 k1 k2 k3) (fin : ∀ (u3 u7 u11 v1 v2 v3 : Value) (W : World), Below W1.heap.size W1 W → Fr 1 bcell W1.heap.size (bl c) v1 W → Fr 34 Ent.cells W1.heap.size c.es v2 W → Fr 32 (arr .u8 32) W1.heap.size c.ps v3 W → wpAnyH Try.prog .any copOps Q (fun w' => Below h w w') 5 #[true, true, true, true, true, true, true, true, true, true, true, true, true, false, false, false, false, false] ⟨#[.agg o.cells, .pointer (some ⟨h, 0, none⟩), .pointer (some ⟨h + 1, 0, none⟩), u3, .pointer (some ⟨h, 1, none⟩), .slice s1 c.nb k1, v1, u7, .pointer (some ⟨h, 2, none⟩), .slice s2 c.es.length k2, v2, u11, .pointer (some ⟨h, 35, none⟩), .slice s3 c.ps.length k3, v3, .pointer (some ⟨h, 1, none⟩), undef, undef, undef], []⟩ W) (W : World) (hT : Below W1.heap.size W1 W) (g3 : Nat) (hg0 : W1.heap.size ≤ g3) (v1 : Value) (f0 : Fr 1 bcell W1.heap.size (bl c) v1 W) : wpAnyH Try.prog .any copOps Q (fun w' => Below h w w') 11 #[true, true, true, true, false, true, true, false, false, true, false, false, false, false, false, false, false, false] ⟨#[.agg o.cells, .pointer (some ⟨h, 0, none⟩), .pointer (some ⟨h + 1, 0, none⟩), .slice (some ⟨g3, 0, none⟩) 0 0, .pointer (some ⟨h, 1, none⟩), .slice s1 c.nb k1, v1, undef, .pointer (some ⟨h, 2, none⟩), .slice s2 c.es.length k2, undef, undef, .pointer (some ⟨h, 35, none⟩), undef, undef, undef, undef, undef, undef], []⟩ W := by
  refine wpAnyH_all (rs := [4, 8, 10]) (by kernel_rfl) (by simp) fun i hi => ?_
  simp only [List.mem_cons, List.not_mem_nil, or_false] at hi
  rcases hi with rfl | rfl | rfl
  · refine wpOp_plain rfl rfl ?_
    refine op_build 24 rfl (bldE W) ?_
    have hB : Below W.heap.size W (W.alloc (.cells #[] 40)) := (Below.refl _ _).alloc (Nat.le_refl _) _
    have hT2 := hT.trans (hB.mono hT.size)
    refine ⟨X.s.trans (hT2.mono (Nat.le_of_lt X.lt)), ?_⟩
    simp only [Act.put, List.setIfInBounds_toArray, List.set_cons_succ, List.set_cons_zero]
    exact cop_110_110_1 hQ X fin _ hT2 g3 hg0 W.heap.size hT.size v1 (f0.below hB)
  · refine wpOp_plain rfl rfl ?_
    refine op_build 27 rfl (bldI W) ?_
    have hB : Below W.heap.size W (W.alloc (.cells #[] 26)) := (Below.refl _ _).alloc (Nat.le_refl _) _
    have hT2 := hT.trans (hB.mono hT.size)
    refine ⟨X.s.trans (hT2.mono (Nat.le_of_lt X.lt)), ?_⟩
    simp only [Act.put, List.setIfInBounds_toArray, List.set_cons_succ, List.set_cons_zero]
    exact cop_101_110_1 hQ X fin _ hT2 g3 hg0 W.heap.size hT.size v1 (f0.below hB)
  · refine wpOp_plain rfl rfl ?_
    have q : W.cell? ⟨h, 35, none⟩ = some (.slice s3 c.ps.length k3) := (hT.cell (p := ⟨h, 35, none⟩) X.lt).trans X.c3
    refine op_load 27 (.tmp 12) rfl rfl (ldI q) ?_
    refine ⟨X.s.trans (hT.mono (Nat.le_of_lt X.lt)), ?_⟩
    simp only [Act.put, List.setIfInBounds_toArray, List.set_cons_succ, List.set_cons_zero]
    refine mv_run 12 15 (.pointer (some ⟨h, 1, none⟩)) rfl (by kernel_rfl) (by kernel_rfl) (by kernel_rfl) (fun _ _ _ hq => hQ _ _ _ _ _ hq) (fun w' _ => by go_simp) (X.s.trans (hT.mono (Nat.le_of_lt X.lt))) ?_
    simp only [List.setIfInBounds_toArray, List.set_cons_succ, List.set_cons_zero]
    exact cop_100_111_1 hQ X fin _ hT g3 hg0 v1 f0
theorem cop_100_101_1 (hQ : ∀ (ch) (a : Act) (d : Nat) (v : Value) (w : World), Q (.panic ch) (a.put (some d) v) w → Q (.panic ch) a w) (X : Cop c w W1 h s1 s2 s3 k1 k2 k3) (fin : ∀ (u3 u7 u11 v1 v2 v3 : Value) (W : World), Below W1.heap.size W1 W → Fr 1 bcell W1.heap.size (bl c) v1 W → Fr 34 Ent.cells W1.heap.size c.es v2 W → Fr 32 (arr .u8 32) W1.heap.size c.ps v3 W → wpAnyH Try.prog .any copOps Q (fun w' => Below h w w') 5 #[true, true, true, true, true, true, true, true, true, true, true, true, true, false, false, false, false, false] ⟨#[.agg o.cells, .pointer (some ⟨h, 0, none⟩), .pointer (some ⟨h + 1, 0, none⟩), u3, .pointer (some ⟨h, 1, none⟩), .slice s1 c.nb k1, v1, u7, .pointer (some ⟨h, 2, none⟩), .slice s2 c.es.length k2, v2, u11, .pointer (some ⟨h, 35, none⟩), .slice s3 c.ps.length k3, v3, .pointer (some ⟨h, 1, none⟩), undef, undef, undef], []⟩ W) (W : World) (hT : Below W1.heap.size W1 W) (g3 : Nat) (hg0 : W1.heap.size ≤ g3) (v1 : Value) (f0 : Fr 1 bcell W1.heap.size (bl c) v1 W) : wpAnyH Try.prog .any copOps Q (fun w' => Below h w w') 11 #[true, true, true, true, false, true, false, false, false, true, true, false, false, false, false, false, false, false] ⟨#[.agg o.cells, .pointer (some ⟨h, 0, none⟩), .pointer (some ⟨h + 1, 0, none⟩), .slice (some ⟨g3, 0, none⟩) 0 0, .pointer (some ⟨h, 1, none⟩), .slice s1 c.nb k1, v1, undef, .pointer (some ⟨h, 2, none⟩), undef, undef, undef, .pointer (some ⟨h, 35, none⟩), .slice s3 c.ps.length k3, undef, undef, undef, undef, undef], []⟩ W := by
  refine wpAnyH_all (rs := [4, 6, 8]) (by kernel_rfl) (by simp) fun i hi => ?_
  simp only [List.mem_cons, List.not_mem_nil, or_false] at hi
  rcases hi with rfl | rfl | rfl
  · refine wpOp_plain rfl rfl ?_
    refine op_build 24 rfl (bldE W) ?_
    have hB : Below W.heap.size W (W.alloc (.cells #[] 40)) := (Below.refl _ _).alloc (Nat.le_refl _) _
    have hT2 := hT.trans (hB.mono hT.size)
    refine ⟨X.s.trans (hT2.mono (Nat.le_of_lt X.lt)), ?_⟩
    simp only [Act.put, List.setIfInBounds_toArray, List.set_cons_succ, List.set_cons_zero]
    exact cop_110_101_1 hQ X fin _ hT2 g3 hg0 W.heap.size hT.size v1 (f0.below hB)
  · refine wpOp_plain rfl rfl ?_
    have q : W.cell? ⟨h, 2, none⟩ = some (.slice s2 c.es.length k2) := (hT.cell (p := ⟨h, 2, none⟩) X.lt).trans X.c2
    refine op_load 24 (.tmp 8) rfl rfl (ldE q) ?_
    refine ⟨X.s.trans (hT.mono (Nat.le_of_lt X.lt)), ?_⟩
    simp only [Act.put, List.setIfInBounds_toArray, List.set_cons_succ, List.set_cons_zero]
    refine mv_run 12 15 (.pointer (some ⟨h, 1, none⟩)) rfl (by kernel_rfl) (by kernel_rfl) (by kernel_rfl) (fun _ _ _ hq => hQ _ _ _ _ _ hq) (fun w' _ => by go_simp) (X.s.trans (hT.mono (Nat.le_of_lt X.lt))) ?_
    simp only [List.setIfInBounds_toArray, List.set_cons_succ, List.set_cons_zero]
    exact cop_100_111_1 hQ X fin _ hT g3 hg0 v1 f0
  · refine wpOp_plain rfl rfl ?_
    refine op_build 27 rfl (bldI W) ?_
    have hB : Below W.heap.size W (W.alloc (.cells #[] 26)) := (Below.refl _ _).alloc (Nat.le_refl _) _
    have hT2 := hT.trans (hB.mono hT.size)
    refine ⟨X.s.trans (hT2.mono (Nat.le_of_lt X.lt)), ?_⟩
    simp only [Act.put, List.setIfInBounds_toArray, List.set_cons_succ, List.set_cons_zero]
    exact cop_101_101_1 hQ X fin _ hT2 g3 hg0 W.heap.size hT.size v1 (f0.below hB)
theorem cop_111_100_0 (hQ : ∀ (ch) (a : Act) (d : Nat) (v : Value) (w : World), Q (.panic ch) (a.put (some d) v) w → Q (.panic ch) a w) (X : Cop c w W1 h s1 s2 s3 k1 k2 k3) (fin : ∀ (u3 u7 u11 v1 v2 v3 : Value) (W : World), Below W1.heap.size W1 W → Fr 1 bcell W1.heap.size (bl c) v1 W → Fr 34 Ent.cells W1.heap.size c.es v2 W → Fr 32 (arr .u8 32) W1.heap.size c.ps v3 W → wpAnyH Try.prog .any copOps Q (fun w' => Below h w w') 5 #[true, true, true, true, true, true, true, true, true, true, true, true, true, false, false, false, false, false] ⟨#[.agg o.cells, .pointer (some ⟨h, 0, none⟩), .pointer (some ⟨h + 1, 0, none⟩), u3, .pointer (some ⟨h, 1, none⟩), .slice s1 c.nb k1, v1, u7, .pointer (some ⟨h, 2, none⟩), .slice s2 c.es.length k2, v2, u11, .pointer (some ⟨h, 35, none⟩), .slice s3 c.ps.length k3, v3, .pointer (some ⟨h, 1, none⟩), undef, undef, undef], []⟩ W) (W : World) (hT : Below W1.heap.size W1 W) (g3 : Nat) (hg0 : W1.heap.size ≤ g3) (g7 : Nat) (hg1 : W1.heap.size ≤ g7) (g11 : Nat) (hg2 : W1.heap.size ≤ g11) : wpAnyH Try.prog .any copOps Q (fun w' => Below h w w') 11 #[true, true, true, false, true, true, false, false, true, true, false, false, false, false, false, false, false, false] ⟨#[.agg o.cells, .pointer (some ⟨h, 0, none⟩), .pointer (some ⟨h + 1, 0, none⟩), .slice (some ⟨g3, 0, none⟩) 0 0, .pointer (some ⟨h, 1, none⟩), .slice s1 c.nb k1, undef, .slice (some ⟨g7, 0, none⟩) 0 0, .pointer (some ⟨h, 2, none⟩), undef, undef, .slice (some ⟨g11, 0, none⟩) 0 0, .pointer (some ⟨h, 35, none⟩), undef, undef, undef, undef, undef, undef], []⟩ W := by
  refine wpAnyH_all (rs := [3, 6, 10]) (by kernel_rfl) (by simp) fun i hi => ?_
  simp only [List.mem_cons, List.not_mem_nil, or_false] at hi
  rcases hi with rfl | rfl | rfl
  · refine wpOp_plain rfl rfl ?_
    obtain ⟨v, W', hr, hB, hF⟩ := appB X hT hg0 22
    refine op_append (.tmp 3) (.tmp 5) 22 rfl rfl rfl hr ?_
    have hT2 := hT.trans (hB.mono hT.size)
    refine ⟨X.s.trans (hT2.mono (Nat.le_of_lt X.lt)), ?_⟩
    simp only [Act.put, List.setIfInBounds_toArray, List.set_cons_succ, List.set_cons_zero]
    exact cop_111_100_1 hQ X fin _ hT2 g3 hg0 g7 hg1 g11 hg2 v hF
  · refine wpOp_plain rfl rfl ?_
    have q : W.cell? ⟨h, 2, none⟩ = some (.slice s2 c.es.length k2) := (hT.cell (p := ⟨h, 2, none⟩) X.lt).trans X.c2
    refine op_load 24 (.tmp 8) rfl rfl (ldE q) ?_
    refine ⟨X.s.trans (hT.mono (Nat.le_of_lt X.lt)), ?_⟩
    simp only [Act.put, List.setIfInBounds_toArray, List.set_cons_succ, List.set_cons_zero]
    exact cop_111_110_0 hQ X fin _ hT g3 hg0 g7 hg1 g11 hg2
  · refine wpOp_plain rfl rfl ?_
    have q : W.cell? ⟨h, 35, none⟩ = some (.slice s3 c.ps.length k3) := (hT.cell (p := ⟨h, 35, none⟩) X.lt).trans X.c3
    refine op_load 27 (.tmp 12) rfl rfl (ldI q) ?_
    refine ⟨X.s.trans (hT.mono (Nat.le_of_lt X.lt)), ?_⟩
    simp only [Act.put, List.setIfInBounds_toArray, List.set_cons_succ, List.set_cons_zero]
    exact cop_111_101_0 hQ X fin _ hT g3 hg0 g7 hg1 g11 hg2
theorem cop_111_010_0 (hQ : ∀ (ch) (a : Act) (d : Nat) (v : Value) (w : World), Q (.panic ch) (a.put (some d) v) w → Q (.panic ch) a w) (X : Cop c w W1 h s1 s2 s3 k1 k2 k3) (fin : ∀ (u3 u7 u11 v1 v2 v3 : Value) (W : World), Below W1.heap.size W1 W → Fr 1 bcell W1.heap.size (bl c) v1 W → Fr 34 Ent.cells W1.heap.size c.es v2 W → Fr 32 (arr .u8 32) W1.heap.size c.ps v3 W → wpAnyH Try.prog .any copOps Q (fun w' => Below h w w') 5 #[true, true, true, true, true, true, true, true, true, true, true, true, true, false, false, false, false, false] ⟨#[.agg o.cells, .pointer (some ⟨h, 0, none⟩), .pointer (some ⟨h + 1, 0, none⟩), u3, .pointer (some ⟨h, 1, none⟩), .slice s1 c.nb k1, v1, u7, .pointer (some ⟨h, 2, none⟩), .slice s2 c.es.length k2, v2, u11, .pointer (some ⟨h, 35, none⟩), .slice s3 c.ps.length k3, v3, .pointer (some ⟨h, 1, none⟩), undef, undef, undef], []⟩ W) (W : World) (hT : Below W1.heap.size W1 W) (g3 : Nat) (hg0 : W1.heap.size ≤ g3) (g7 : Nat) (hg1 : W1.heap.size ≤ g7) (g11 : Nat) (hg2 : W1.heap.size ≤ g11) : wpAnyH Try.prog .any copOps Q (fun w' => Below h w w') 11 #[true, true, false, false, true, true, true, false, true, true, false, false, false, false, false, false, false, false] ⟨#[.agg o.cells, .pointer (some ⟨h, 0, none⟩), .pointer (some ⟨h + 1, 0, none⟩), .slice (some ⟨g3, 0, none⟩) 0 0, .pointer (some ⟨h, 1, none⟩), undef, undef, .slice (some ⟨g7, 0, none⟩) 0 0, .pointer (some ⟨h, 2, none⟩), .slice s2 c.es.length k2, undef, .slice (some ⟨g11, 0, none⟩) 0 0, .pointer (some ⟨h, 35, none⟩), undef, undef, undef, undef, undef, undef], []⟩ W := by
  refine wpAnyH_all (rs := [2, 10]) (by kernel_rfl) (by simp) fun i hi => ?_
  simp only [List.mem_cons, List.not_mem_nil, or_false] at hi
  rcases hi with rfl | rfl
  · refine wpOp_plain rfl rfl ?_
    have q : W.cell? ⟨h, 1, none⟩ = some (.slice s1 c.nb k1) := (hT.cell (p := ⟨h, 1, none⟩) X.lt).trans X.c1
    refine op_load 22 (.tmp 4) rfl rfl (ldB q) ?_
    refine ⟨X.s.trans (hT.mono (Nat.le_of_lt X.lt)), ?_⟩
    simp only [Act.put, List.setIfInBounds_toArray, List.set_cons_succ, List.set_cons_zero]
    exact cop_111_110_0 hQ X fin _ hT g3 hg0 g7 hg1 g11 hg2
  · refine wpOp_plain rfl rfl ?_
    have q : W.cell? ⟨h, 35, none⟩ = some (.slice s3 c.ps.length k3) := (hT.cell (p := ⟨h, 35, none⟩) X.lt).trans X.c3
    refine op_load 27 (.tmp 12) rfl rfl (ldI q) ?_
    refine ⟨X.s.trans (hT.mono (Nat.le_of_lt X.lt)), ?_⟩
    simp only [Act.put, List.setIfInBounds_toArray, List.set_cons_succ, List.set_cons_zero]
    exact cop_111_011_0 hQ X fin _ hT g3 hg0 g7 hg1 g11 hg2
theorem cop_111_001_0 (hQ : ∀ (ch) (a : Act) (d : Nat) (v : Value) (w : World), Q (.panic ch) (a.put (some d) v) w → Q (.panic ch) a w) (X : Cop c w W1 h s1 s2 s3 k1 k2 k3) (fin : ∀ (u3 u7 u11 v1 v2 v3 : Value) (W : World), Below W1.heap.size W1 W → Fr 1 bcell W1.heap.size (bl c) v1 W → Fr 34 Ent.cells W1.heap.size c.es v2 W → Fr 32 (arr .u8 32) W1.heap.size c.ps v3 W → wpAnyH Try.prog .any copOps Q (fun w' => Below h w w') 5 #[true, true, true, true, true, true, true, true, true, true, true, true, true, false, false, false, false, false] ⟨#[.agg o.cells, .pointer (some ⟨h, 0, none⟩), .pointer (some ⟨h + 1, 0, none⟩), u3, .pointer (some ⟨h, 1, none⟩), .slice s1 c.nb k1, v1, u7, .pointer (some ⟨h, 2, none⟩), .slice s2 c.es.length k2, v2, u11, .pointer (some ⟨h, 35, none⟩), .slice s3 c.ps.length k3, v3, .pointer (some ⟨h, 1, none⟩), undef, undef, undef], []⟩ W) (W : World) (hT : Below W1.heap.size W1 W) (g3 : Nat) (hg0 : W1.heap.size ≤ g3) (g7 : Nat) (hg1 : W1.heap.size ≤ g7) (g11 : Nat) (hg2 : W1.heap.size ≤ g11) : wpAnyH Try.prog .any copOps Q (fun w' => Below h w w') 11 #[true, true, false, false, true, true, false, false, true, true, true, false, false, false, false, false, false, false] ⟨#[.agg o.cells, .pointer (some ⟨h, 0, none⟩), .pointer (some ⟨h + 1, 0, none⟩), .slice (some ⟨g3, 0, none⟩) 0 0, .pointer (some ⟨h, 1, none⟩), undef, undef, .slice (some ⟨g7, 0, none⟩) 0 0, .pointer (some ⟨h, 2, none⟩), undef, undef, .slice (some ⟨g11, 0, none⟩) 0 0, .pointer (some ⟨h, 35, none⟩), .slice s3 c.ps.length k3, undef, undef, undef, undef, undef], []⟩ W := by
  refine wpAnyH_all (rs := [2, 6]) (by kernel_rfl) (by simp) fun i hi => ?_
  simp only [List.mem_cons, List.not_mem_nil, or_false] at hi
  rcases hi with rfl | rfl
  · refine wpOp_plain rfl rfl ?_
    have q : W.cell? ⟨h, 1, none⟩ = some (.slice s1 c.nb k1) := (hT.cell (p := ⟨h, 1, none⟩) X.lt).trans X.c1
    refine op_load 22 (.tmp 4) rfl rfl (ldB q) ?_
    refine ⟨X.s.trans (hT.mono (Nat.le_of_lt X.lt)), ?_⟩
    simp only [Act.put, List.setIfInBounds_toArray, List.set_cons_succ, List.set_cons_zero]
    exact cop_111_101_0 hQ X fin _ hT g3 hg0 g7 hg1 g11 hg2
  · refine wpOp_plain rfl rfl ?_
    have q : W.cell? ⟨h, 2, none⟩ = some (.slice s2 c.es.length k2) := (hT.cell (p := ⟨h, 2, none⟩) X.lt).trans X.c2
    refine op_load 24 (.tmp 8) rfl rfl (ldE q) ?_
    refine ⟨X.s.trans (hT.mono (Nat.le_of_lt X.lt)), ?_⟩
    simp only [Act.put, List.setIfInBounds_toArray, List.set_cons_succ, List.set_cons_zero]
    exact cop_111_011_0 hQ X fin _ hT g3 hg0 g7 hg1 g11 hg2
theorem cop_110_110_0 (hQ : ∀ (ch) (a : Act) (d : Nat) (v : Value) (w : World), Q (.panic ch) (a.put (some d) v) w → Q (.panic ch) a w) (X : Cop c w W1 h s1 s2 s3 k1 k2 k3) (fin : ∀ (u3 u7 u11 v1 v2 v3 : Value) (W : World), Below W1.heap.size W1 W → Fr 1 bcell W1.heap.size (bl c) v1 W → Fr 34 Ent.cells W1.heap.size c.es v2 W → Fr 32 (arr .u8 32) W1.heap.size c.ps v3 W → wpAnyH Try.prog .any copOps Q (fun w' => Below h w w') 5 #[true, true, true, true, true, true, true, true, true, true, true, true, true, false, false, false, false, false] ⟨#[.agg o.cells, .pointer (some ⟨h, 0, none⟩), .pointer (some ⟨h + 1, 0, none⟩), u3, .pointer (some ⟨h, 1, none⟩), .slice s1 c.nb k1, v1, u7, .pointer (some ⟨h, 2, none⟩), .slice s2 c.es.length k2, v2, u11, .pointer (some ⟨h, 35, none⟩), .slice s3 c.ps.length k3, v3, .pointer (some ⟨h, 1, none⟩), undef, undef, undef], []⟩ W) (W : World) (hT : Below W1.heap.size W1 W) (g3 : Nat) (hg0 : W1.heap.size ≤ g3) (g7 : Nat) (hg1 : W1.heap.size ≤ g7) : wpAnyH Try.prog .any copOps Q (fun w' => Below h w w') 11 #[true, true, true, false, true, true, true, false, false, true, false, false, false, false, false, false, false, false] ⟨#[.agg o.cells, .pointer (some ⟨h, 0, none⟩), .pointer (some ⟨h + 1, 0, none⟩), .slice (some ⟨g3, 0, none⟩) 0 0, .pointer (some ⟨h, 1, none⟩), .slice s1 c.nb k1, undef, .slice (some ⟨g7, 0, none⟩) 0 0, .pointer (some ⟨h, 2, none⟩), .slice s2 c.es.length k2, undef, undef, .pointer (some ⟨h, 35, none⟩), undef, undef, undef, undef, undef, undef], []⟩ W := by
  refine wpAnyH_all (rs := [3, 8, 10]) (by kernel_rfl) (by simp) fun i hi => ?_
  simp only [List.mem_cons, List.not_mem_nil, or_false] at hi
  rcases hi with rfl | rfl | rfl
  · refine wpOp_plain rfl rfl ?_
    obtain ⟨v, W', hr, hB, hF⟩ := appB X hT hg0 22
    refine op_append (.tmp 3) (.tmp 5) 22 rfl rfl rfl hr ?_
    have hT2 := hT.trans (hB.mono hT.size)
    refine ⟨X.s.trans (hT2.mono (Nat.le_of_lt X.lt)), ?_⟩
    simp only [Act.put, List.setIfInBounds_toArray, List.set_cons_succ, List.set_cons_zero]
    exact cop_110_110_1 hQ X fin _ hT2 g3 hg0 g7 hg1 v hF
  · refine wpOp_plain rfl rfl ?_
    refine op_build 27 rfl (bldI W) ?_
    have hB : Below W.heap.size W (W.alloc (.cells #[] 26)) := (Below.refl _ _).alloc (Nat.le_refl _) _
    have hT2 := hT.trans (hB.mono hT.size)
    refine ⟨X.s.trans (hT2.mono (Nat.le_of_lt X.lt)), ?_⟩
    simp only [Act.put, List.setIfInBounds_toArray, List.set_cons_succ, List.set_cons_zero]
    exact cop_111_110_0 hQ X fin _ hT2 g3 hg0 g7 hg1 W.heap.size hT.size
  · refine wpOp_plain rfl rfl ?_
    have q : W.cell? ⟨h, 35, none⟩ = some (.slice s3 c.ps.length k3) := (hT.cell (p := ⟨h, 35, none⟩) X.lt).trans X.c3
    refine op_load 27 (.tmp 12) rfl rfl (ldI q) ?_
    refine ⟨X.s.trans (hT.mono (Nat.le_of_lt X.lt)), ?_⟩
    simp only [Act.put, List.setIfInBounds_toArray, List.set_cons_succ, List.set_cons_zero]
    exact cop_110_111_0 hQ X fin _ hT g3 hg0 g7 hg1
theorem cop_110_101_0 (hQ : ∀ (ch) (a : Act) (d : Nat) (v : Value) (w : World), Q (.panic ch) (a.put (some d) v) w → Q (.panic ch) a w) (X : Cop c w W1 h s1 s2 s3 k1 k2 k3) (fin : ∀ (u3 u7 u11 v1 v2 v3 : Value) (W : World), Below W1.heap.size W1 W → Fr 1 bcell W1.heap.size (bl c) v1 W → Fr 34 Ent.cells W1.heap.size c.es v2 W → Fr 32 (arr .u8 32) W1.heap.size c.ps v3 W → wpAnyH Try.prog .any copOps Q (fun w' => Below h w w') 5 #[true, true, true, true, true, true, true, true, true, true, true, true, true, false, false, false, false, false] ⟨#[.agg o.cells, .pointer (some ⟨h, 0, none⟩), .pointer (some ⟨h + 1, 0, none⟩), u3, .pointer (some ⟨h, 1, none⟩), .slice s1 c.nb k1, v1, u7, .pointer (some ⟨h, 2, none⟩), .slice s2 c.es.length k2, v2, u11, .pointer (some ⟨h, 35, none⟩), .slice s3 c.ps.length k3, v3, .pointer (some ⟨h, 1, none⟩), undef, undef, undef], []⟩ W) (W : World) (hT : Below W1.heap.size W1 W) (g3 : Nat) (hg0 : W1.heap.size ≤ g3) (g7 : Nat) (hg1 : W1.heap.size ≤ g7) : wpAnyH Try.prog .any copOps Q (fun w' => Below h w w') 11 #[true, true, true, false, true, true, false, false, false, true, true, false, false, false, false, false, false, false] ⟨#[.agg o.cells, .pointer (some ⟨h, 0, none⟩), .pointer (some ⟨h + 1, 0, none⟩), .slice (some ⟨g3, 0, none⟩) 0 0, .pointer (some ⟨h, 1, none⟩), .slice s1 c.nb k1, undef, .slice (some ⟨g7, 0, none⟩) 0 0, .pointer (some ⟨h, 2, none⟩), undef, undef, undef, .pointer (some ⟨h, 35, none⟩), .slice s3 c.ps.length k3, undef, undef, undef, undef, undef], []⟩ W := by
  refine wpAnyH_all (rs := [3, 6, 8]) (by kernel_rfl) (by simp) fun i hi => ?_
  simp only [List.mem_cons, List.not_mem_nil, or_false] at hi
  rcases hi with rfl | rfl | rfl
  · refine wpOp_plain rfl rfl ?_
    obtain ⟨v, W', hr, hB, hF⟩ := appB X hT hg0 22
    refine op_append (.tmp 3) (.tmp 5) 22 rfl rfl rfl hr ?_
    have hT2 := hT.trans (hB.mono hT.size)
    refine ⟨X.s.trans (hT2.mono (Nat.le_of_lt X.lt)), ?_⟩
    simp only [Act.put, List.setIfInBounds_toArray, List.set_cons_succ, List.set_cons_zero]
    exact cop_110_101_1 hQ X fin _ hT2 g3 hg0 g7 hg1 v hF
  · refine wpOp_plain rfl rfl ?_
    have q : W.cell? ⟨h, 2, none⟩ = some (.slice s2 c.es.length k2) := (hT.cell (p := ⟨h, 2, none⟩) X.lt).trans X.c2
    refine op_load 24 (.tmp 8) rfl rfl (ldE q) ?_
    refine ⟨X.s.trans (hT.mono (Nat.le_of_lt X.lt)), ?_⟩
    simp only [Act.put, List.setIfInBounds_toArray, List.set_cons_succ, List.set_cons_zero]
    exact cop_110_111_0 hQ X fin _ hT g3 hg0 g7 hg1
  · refine wpOp_plain rfl rfl ?_
    refine op_build 27 rfl (bldI W) ?_
    have hB : Below W.heap.size W (W.alloc (.cells #[] 26)) := (Below.refl _ _).alloc (Nat.le_refl _) _
    have hT2 := hT.trans (hB.mono hT.size)
    refine ⟨X.s.trans (hT2.mono (Nat.le_of_lt X.lt)), ?_⟩
    simp only [Act.put, List.setIfInBounds_toArray, List.set_cons_succ, List.set_cons_zero]
    exact cop_111_101_0 hQ X fin _ hT2 g3 hg0 g7 hg1 W.heap.size hT.size
theorem cop_110_011_0 (hQ : ∀ (ch) (a : Act) (d : Nat) (v : Value) (w : World), Q (.panic ch) (a.put (some d) v) w → Q (.panic ch) a w) (X : Cop c w W1 h s1 s2 s3 k1 k2 k3) (fin : ∀ (u3 u7 u11 v1 v2 v3 : Value) (W : World), Below W1.heap.size W1 W → Fr 1 bcell W1.heap.size (bl c) v1 W → Fr 34 Ent.cells W1.heap.size c.es v2 W → Fr 32 (arr .u8 32) W1.heap.size c.ps v3 W → wpAnyH Try.prog .any copOps Q (fun w' => Below h w w') 5 #[true, true, true, true, true, true, true, true, true, true, true, true, true, false, false, false, false, false] ⟨#[.agg o.cells, .pointer (some ⟨h, 0, none⟩), .pointer (some ⟨h + 1, 0, none⟩), u3, .pointer (some ⟨h, 1, none⟩), .slice s1 c.nb k1, v1, u7, .pointer (some ⟨h, 2, none⟩), .slice s2 c.es.length k2, v2, u11, .pointer (some ⟨h, 35, none⟩), .slice s3 c.ps.length k3, v3, .pointer (some ⟨h, 1, none⟩), undef, undef, undef], []⟩ W) (W : World) (hT : Below W1.heap.size W1 W) (g3 : Nat) (hg0 : W1.heap.size ≤ g3) (g7 : Nat) (hg1 : W1.heap.size ≤ g7) : wpAnyH Try.prog .any copOps Q (fun w' => Below h w w') 11 #[true, true, false, false, true, true, true, false, false, true, true, false, false, false, false, false, false, false] ⟨#[.agg o.cells, .pointer (some ⟨h, 0, none⟩), .pointer (some ⟨h + 1, 0, none⟩), .slice (some ⟨g3, 0, none⟩) 0 0, .pointer (some ⟨h, 1, none⟩), undef, undef, .slice (some ⟨g7, 0, none⟩) 0 0, .pointer (some ⟨h, 2, none⟩), .slice s2 c.es.length k2, undef, undef, .pointer (some ⟨h, 35, none⟩), .slice s3 c.ps.length k3, undef, undef, undef, undef, undef], []⟩ W := by
  refine wpAnyH_all (rs := [2, 8]) (by kernel_rfl) (by simp) fun i hi => ?_
  simp only [List.mem_cons, List.not_mem_nil, or_false] at hi
  rcases hi with rfl | rfl
  · refine wpOp_plain rfl rfl ?_
    have q : W.cell? ⟨h, 1, none⟩ = some (.slice s1 c.nb k1) := (hT.cell (p := ⟨h, 1, none⟩) X.lt).trans X.c1
    refine op_load 22 (.tmp 4) rfl rfl (ldB q) ?_
    refine ⟨X.s.trans (hT.mono (Nat.le_of_lt X.lt)), ?_⟩
    simp only [Act.put, List.setIfInBounds_toArray, List.set_cons_succ, List.set_cons_zero]
    exact cop_110_111_0 hQ X fin _ hT g3 hg0 g7 hg1
  · refine wpOp_plain rfl rfl ?_
    refine op_build 27 rfl (bldI W) ?_
    have hB : Below W.heap.size W (W.alloc (.cells #[] 26)) := (Below.refl _ _).alloc (Nat.le_refl _) _
    have hT2 := hT.trans (hB.mono hT.size)
    refine ⟨X.s.trans (hT2.mono (Nat.le_of_lt X.lt)), ?_⟩
    simp only [Act.put, List.setIfInBounds_toArray, List.set_cons_succ, List.set_cons_zero]
    exact cop_111_011_0 hQ X fin _ hT2 g3 hg0 g7 hg1 W.heap.size hT.size
theorem cop_101_110_0 (hQ : ∀ (ch) (a : Act) (d : Nat) (v : Value) (w : World), Q (.panic ch) (a.put (some d) v) w → Q (.panic ch) a w) (X : Cop c w W1 h s1 s2 s3 k1 k2 k3) (fin : ∀ (u3 u7 u11 v1 v2 v3 : Value) (W : World), Below W1.heap.size W1 W → Fr 1 bcell W1.heap.size (bl c) v1 W → Fr 34 Ent.cells W1.heap.size c.es v2 W → Fr 32 (arr .u8 32) W1.heap.size c.ps v3 W → wpAnyH Try.prog .any copOps Q (fun w' => Below h w w') 5 #[true, true, true, true, true, true, true, true, true, true, true, true, true, false, false, false, false, false] ⟨#[.agg o.cells, .pointer (some ⟨h, 0, none⟩), .pointer (some ⟨h + 1, 0, none⟩), u3, .pointer (some ⟨h, 1, none⟩), .slice s1 c.nb k1, v1, u7, .pointer (some ⟨h, 2, none⟩), .slice s2 c.es.length k2, v2, u11, .pointer (some ⟨h, 35, none⟩), .slice s3 c.ps.length k3, v3, .pointer (some ⟨h, 1, none⟩), undef, undef, undef], []⟩ W) (W : World) (hT : Below W1.heap.size W1 W) (g3 : Nat) (hg0 : W1.heap.size ≤ g3) (g11 : Nat) (hg2 : W1.heap.size ≤ g11) : wpAnyH Try.prog .any copOps Q (fun w' => Below h w w') 11 #[true, true, true, false, false, true, true, false, true, true, false, false, false, false, false, false, false, false] ⟨#[.agg o.cells, .pointer (some ⟨h, 0, none⟩), .pointer (some ⟨h + 1, 0, none⟩), .slice (some ⟨g3, 0, none⟩) 0 0, .pointer (some ⟨h, 1, none⟩), .slice s1 c.nb k1, undef, undef, .pointer (some ⟨h, 2, none⟩), .slice s2 c.es.length k2, undef, .slice (some ⟨g11, 0, none⟩) 0 0, .pointer (some ⟨h, 35, none⟩), undef, undef, undef, undef, undef, undef], []⟩ W := by
  refine wpAnyH_all (rs := [3, 4, 10]) (by kernel_rfl) (by simp) fun i hi => ?_
  simp only [List.mem_cons, List.not_mem_nil, or_false] at hi
  rcases hi with rfl | rfl | rfl
  · refine wpOp_plain rfl rfl ?_
    obtain ⟨v, W', hr, hB, hF⟩ := appB X hT hg0 22
    refine op_append (.tmp 3) (.tmp 5) 22 rfl rfl rfl hr ?_
    have hT2 := hT.trans (hB.mono hT.size)
    refine ⟨X.s.trans (hT2.mono (Nat.le_of_lt X.lt)), ?_⟩
    simp only [Act.put, List.setIfInBounds_toArray, List.set_cons_succ, List.set_cons_zero]
    exact cop_101_110_1 hQ X fin _ hT2 g3 hg0 g11 hg2 v hF
  · refine wpOp_plain rfl rfl ?_
    refine op_build 24 rfl (bldE W) ?_
    have hB : Below W.heap.size W (W.alloc (.cells #[] 40)) := (Below.refl _ _).alloc (Nat.le_refl _) _
    have hT2 := hT.trans (hB.mono hT.size)
    refine ⟨X.s.trans (hT2.mono (Nat.le_of_lt X.lt)), ?_⟩
    simp only [Act.put, List.setIfInBounds_toArray, List.set_cons_succ, List.set_cons_zero]
    exact cop_111_110_0 hQ X fin _ hT2 g3 hg0 W.heap.size hT.size g11 hg2
  · refine wpOp_plain rfl rfl ?_
    have q : W.cell? ⟨h, 35, none⟩ = some (.slice s3 c.ps.length k3) := (hT.cell (p := ⟨h, 35, none⟩) X.lt).trans X.c3
    refine op_load 27 (.tmp 12) rfl rfl (ldI q) ?_
    refine ⟨X.s.trans (hT.mono (Nat.le_of_lt X.lt)), ?_⟩
    simp only [Act.put, List.setIfInBounds_toArray, List.set_cons_succ, List.set_cons_zero]
    exact cop_101_111_0 hQ X fin _ hT g3 hg0 g11 hg2
theorem cop_101_101_0 (hQ : ∀ (ch) (a : Act) (d : Nat) (v : Value) (w : World), Q (.panic ch) (a.put (some d) v) w → Q (.panic ch) a w) (X : Cop c w W1 h s1 s2 s3 k1 k2 k3) (fin : ∀ (u3 u7 u11 v1 v2 v3 : Value) (W : World), Below W1.heap.size W1 W → Fr 1 bcell W1.heap.size (bl c) v1 W → Fr 34 Ent.cells W1.heap.size c.es v2 W → Fr 32 (arr .u8 32) W1.heap.size c.ps v3 W → wpAnyH Try.prog .any copOps Q (fun w' => Below h w w') 5 #[true, true, true, true, true, true, true, true, true, true, true, true, true, false, false, false, false, false] ⟨#[.agg o.cells, .pointer (some ⟨h, 0, none⟩), .pointer (some ⟨h + 1, 0, none⟩), u3, .pointer (some ⟨h, 1, none⟩), .slice s1 c.nb k1, v1, u7, .pointer (some ⟨h, 2, none⟩), .slice s2 c.es.length k2, v2, u11, .pointer (some ⟨h, 35, none⟩), .slice s3 c.ps.length k3, v3, .pointer (some ⟨h, 1, none⟩), undef, undef, undef], []⟩ W) (W : World) (hT : Below W1.heap.size W1 W) (g3 : Nat) (hg0 : W1.heap.size ≤ g3) (g11 : Nat) (hg2 : W1.heap.size ≤ g11) : wpAnyH Try.prog .any copOps Q (fun w' => Below h w w') 11 #[true, true, true, false, false, true, false, false, true, true, true, false, false, false, false, false, false, false] ⟨#[.agg o.cells, .pointer (some ⟨h, 0, none⟩), .pointer (some ⟨h + 1, 0, none⟩), .slice (some ⟨g3, 0, none⟩) 0 0, .pointer (some ⟨h, 1, none⟩), .slice s1 c.nb k1, undef, undef, .pointer (some ⟨h, 2, none⟩), undef, undef, .slice (some ⟨g11, 0, none⟩) 0 0, .pointer (some ⟨h, 35, none⟩), .slice s3 c.ps.length k3, undef, undef, undef, undef, undef], []⟩ W := by
  refine wpAnyH_all (rs := [3, 4, 6]) (by kernel_rfl) (by simp) fun i hi => ?_
  simp only [List.mem_cons, List.not_mem_nil, or_false] at hi
  rcases hi with rfl | rfl | rfl
  · refine wpOp_plain rfl rfl ?_
    obtain ⟨v, W', hr, hB, hF⟩ := appB X hT hg0 22
    refine op_append (.tmp 3) (.tmp 5) 22 rfl rfl rfl hr ?_
    have hT2 := hT.trans (hB.mono hT.size)
    refine ⟨X.s.trans (hT2.mono (Nat.le_of_lt X.lt)), ?_⟩
    simp only [Act.put, List.setIfInBounds_toArray, List.set_cons_succ, List.set_cons_zero]
    exact cop_101_101_1 hQ X fin _ hT2 g3 hg0 g11 hg2 v hF
  · refine wpOp_plain rfl rfl ?_
    refine op_build 24 rfl (bldE W) ?_
    have hB : Below W.heap.size W (W.alloc (.cells #[] 40)) := (Below.refl _ _).alloc (Nat.le_refl _) _
    have hT2 := hT.trans (hB.mono hT.size)
    refine ⟨X.s.trans (hT2.mono (Nat.le_of_lt X.lt)), ?_⟩
    simp only [Act.put, List.setIfInBounds_toArray, List.set_cons_succ, List.set_cons_zero]
    exact cop_111_101_0 hQ X fin _ hT2 g3 hg0 W.heap.size hT.size g11 hg2
  · refine wpOp_plain rfl rfl ?_
    have q : W.cell? ⟨h, 2, none⟩ = some (.slice s2 c.es.length k2) := (hT.cell (p := ⟨h, 2, none⟩) X.lt).trans X.c2
    refine op_load 24 (.tmp 8) rfl rfl (ldE q) ?_
    refine ⟨X.s.trans (hT.mono (Nat.le_of_lt X.lt)), ?_⟩
    simp only [Act.put, List.setIfInBounds_toArray, List.set_cons_succ, List.set_cons_zero]
    exact cop_101_111_0 hQ X fin _ hT g3 hg0 g11 hg2
theorem cop_101_011_0 (hQ : ∀ (ch) (a : Act) (d : Nat) (v : Value) (w : World), Q (.panic ch) (a.put (some d) v) w → Q (.panic ch) a w) (X : Cop c w W1 h s1 s2 s3 k1 k2 k3) (fin : ∀ (u3 u7 u11 v1 v2 v3 : Value) (W : World), Below W1.heap.size W1 W → Fr 1 bcell W1.heap.size (bl c) v1 W → Fr 34 Ent.cells W1.heap.size c.es v2 W → Fr 32 (arr .u8 32) W1.heap.size c.ps v3 W → wpAnyH Try.prog .any copOps Q (fun w' => Below h w w') 5 #[true, true, true, true, true, true, true, true, true, true, true, true, true, false, false, false, false, false] ⟨#[.agg o.cells, .pointer (some ⟨h, 0, none⟩), .pointer (some ⟨h + 1, 0, none⟩), u3, .pointer (some ⟨h, 1, none⟩), .slice s1 c.nb k1, v1, u7, .pointer (some ⟨h, 2, none⟩), .slice s2 c.es.length k2, v2, u11, .pointer (some ⟨h, 35, none⟩), .slice s3 c.ps.length k3, v3, .pointer (some ⟨h, 1, none⟩), undef, undef, undef], []⟩ W) (W : World) (hT : Below W1.heap.size W1 W) (g3 : Nat) (hg0 : W1.heap.size ≤ g3) (g11 : Nat) (hg2 : W1.heap.size ≤ g11) : wpAnyH Try.prog .any copOps Q (fun w' => Below h w w') 11 #[true, true, false, false, false, true, true, false, true, true, true, false, false, false, false, false, false, false] ⟨#[.agg o.cells, .pointer (some ⟨h, 0, none⟩), .pointer (some ⟨h + 1, 0, none⟩), .slice (some ⟨g3, 0, none⟩) 0 0, .pointer (some ⟨h, 1, none⟩), undef, undef, undef, .pointer (some ⟨h, 2, none⟩), .slice s2 c.es.length k2, undef, .slice (some ⟨g11, 0, none⟩) 0 0, .pointer (some ⟨h, 35, none⟩), .slice s3 c.ps.length k3, undef, undef, undef, undef, undef], []⟩ W := by
  refine wpAnyH_all (rs := [2, 4]) (by kernel_rfl) (by simp) fun i hi => ?_
  simp only [List.mem_cons, List.not_mem_nil, or_false] at hi
  rcases hi with rfl | rfl
  · refine wpOp_plain rfl rfl ?_
    have q : W.cell? ⟨h, 1, none⟩ = some (.slice s1 c.nb k1) := (hT.cell (p := ⟨h, 1, none⟩) X.lt).trans X.c1
    refine op_load 22 (.tmp 4) rfl rfl (ldB q) ?_
    refine ⟨X.s.trans (hT.mono (Nat.le_of_lt X.lt)), ?_⟩
    simp only [Act.put, List.setIfInBounds_toArray, List.set_cons_succ, List.set_cons_zero]
    exact cop_101_111_0 hQ X fin _ hT g3 hg0 g11 hg2
  · refine wpOp_plain rfl rfl ?_
    refine op_build 24 rfl (bldE W) ?_
    have hB : Below W.heap.size W (W.alloc (.cells #[] 40)) := (Below.refl _ _).alloc (Nat.le_refl _) _
    have hT2 := hT.trans (hB.mono hT.size)
    refine ⟨X.s.trans (hT2.mono (Nat.le_of_lt X.lt)), ?_⟩
    simp only [Act.put, List.setIfInBounds_toArray, List.set_cons_succ, List.set_cons_zero]
    exact cop_111_011_0 hQ X fin _ hT2 g3 hg0 W.heap.size hT.size g11 hg2
theorem cop_100_111_0 (hQ : ∀ (ch) (a : Act) (d : Nat) (v : Value) (w : World), Q (.panic ch) (a.put (some d) v) w → Q (.panic ch) a w) (X : Cop c w W1 h s1 s2 s3 k1 k2 k3) (fin : ∀ (u3 u7 u11 v1 v2 v3 : Value) (W : World), Below W1.heap.size W1 W → Fr 1 bcell W1.heap.size (bl c) v1 W → Fr 34 Ent.cells W1.heap.size c.es v2 W → Fr 32 (arr .u8 32) W1.heap.size c.ps v3 W → wpAnyH Try.prog .any copOps Q (fun w' => Below h w w') 5 #[true, true, true, true, true, true, true, true, true, true, true, true, true, false, false, false, false, false] ⟨#[.agg o.cells, .pointer (some ⟨h, 0, none⟩), .pointer (some ⟨h + 1, 0, none⟩), u3, .pointer (some ⟨h, 1, none⟩), .slice s1 c.nb k1, v1, u7, .pointer (some ⟨h, 2, none⟩), .slice s2 c.es.length k2, v2, u11, .pointer (some ⟨h, 35, none⟩), .slice s3 c.ps.length k3, v3, .pointer (some ⟨h, 1, none⟩), undef, undef, undef], []⟩ W) (W : World) (hT : Below W1.heap.size W1 W) (g3 : Nat) (hg0 : W1.heap.size ≤ g3) : wpAnyH Try.prog .any copOps Q (fun w' => Below h w w') 11 #[true, true, true, false, false, true, true, false, false, true, true, false, false, false, false, false, false, false] ⟨#[.agg o.cells, .pointer (some ⟨h, 0, none⟩), .pointer (some ⟨h + 1, 0, none⟩), .slice (some ⟨g3, 0, none⟩) 0 0, .pointer (some ⟨h, 1, none⟩), .slice s1 c.nb k1, undef, undef, .pointer (some ⟨h, 2, none⟩), .slice s2 c.es.length k2, undef, undef, .pointer (some ⟨h, 35, none⟩), .slice s3 c.ps.length k3, undef, undef, undef, undef, undef], []⟩ W := by
  refine wpAnyH_all (rs := [3, 4, 8]) (by kernel_rfl) (by simp) fun i hi => ?_
  simp only [List.mem_cons, List.not_mem_nil, or_false] at hi
  rcases hi with rfl | rfl | rfl
  · refine wpOp_plain rfl rfl ?_
    obtain ⟨v, W', hr, hB, hF⟩ := appB X hT hg0 22
    refine op_append (.tmp 3) (.tmp 5) 22 rfl rfl rfl hr ?_
    have hT2 := hT.trans (hB.mono hT.size)
    refine ⟨X.s.trans (hT2.mono (Nat.le_of_lt X.lt)), ?_⟩
    simp only [Act.put, List.setIfInBounds_toArray, List.set_cons_succ, List.set_cons_zero]
    refine mv_run 12 15 (.pointer (some ⟨h, 1, none⟩)) rfl (by kernel_rfl) (by kernel_rfl) (by kernel_rfl) (fun _ _ _ hq => hQ _ _ _ _ _ hq) (fun w' _ => by go_simp) (X.s.trans (hT2.mono (Nat.le_of_lt X.lt))) ?_
    simp only [List.setIfInBounds_toArray, List.set_cons_succ, List.set_cons_zero]
    exact cop_100_111_1 hQ X fin _ hT2 g3 hg0 v hF
  · refine wpOp_plain rfl rfl ?_
    refine op_build 24 rfl (bldE W) ?_
    have hB : Below W.heap.size W (W.alloc (.cells #[] 40)) := (Below.refl _ _).alloc (Nat.le_refl _) _
    have hT2 := hT.trans (hB.mono hT.size)
    refine ⟨X.s.trans (hT2.mono (Nat.le_of_lt X.lt)), ?_⟩
    simp only [Act.put, List.setIfInBounds_toArray, List.set_cons_succ, List.set_cons_zero]
    exact cop_110_111_0 hQ X fin _ hT2 g3 hg0 W.heap.size hT.size
  · refine wpOp_plain rfl rfl ?_
    refine op_build 27 rfl (bldI W) ?_
    have hB : Below W.heap.size W (W.alloc (.cells #[] 26)) := (Below.refl _ _).alloc (Nat.le_refl _) _
    have hT2 := hT.trans (hB.mono hT.size)
    refine ⟨X.s.trans (hT2.mono (Nat.le_of_lt X.lt)), ?_⟩
    simp only [Act.put, List.setIfInBounds_toArray, List.set_cons_succ, List.set_cons_zero]
    exact cop_101_111_0 hQ X fin _ hT2 g3 hg0 W.heap.size hT.size
theorem cop_011_110_0 (hQ : ∀ (ch) (a : Act) (d : Nat) (v : Value) (w : World), Q (.panic ch) (a.put (some d) v) w → Q (.panic ch) a w) (X : Cop c w W1 h s1 s2 s3 k1 k2 k3) (fin : ∀ (u3 u7 u11 v1 v2 v3 : Value) (W : World), Below W1.heap.size W1 W → Fr 1 bcell W1.heap.size (bl c) v1 W → Fr 34 Ent.cells W1.heap.size c.es v2 W → Fr 32 (arr .u8 32) W1.heap.size c.ps v3 W → wpAnyH Try.prog .any copOps Q (fun w' => Below h w w') 5 #[true, true, true, true, true, true, true, true, true, true, true, true, true, false, false, false, false, false] ⟨#[.agg o.cells, .pointer (some ⟨h, 0, none⟩), .pointer (some ⟨h + 1, 0, none⟩), u3, .pointer (some ⟨h, 1, none⟩), .slice s1 c.nb k1, v1, u7, .pointer (some ⟨h, 2, none⟩), .slice s2 c.es.length k2, v2, u11, .pointer (some ⟨h, 35, none⟩), .slice s3 c.ps.length k3, v3, .pointer (some ⟨h, 1, none⟩), undef, undef, undef], []⟩ W) (W : World) (hT : Below W1.heap.size W1 W) (g7 : Nat) (hg1 : W1.heap.size ≤ g7) (g11 : Nat) (hg2 : W1.heap.size ≤ g11) : wpAnyH Try.prog .any copOps Q (fun w' => Below h w w') 11 #[false, true, true, false, true, true, true, false, true, true, false, false, false, false, false, false, false, false] ⟨#[.agg o.cells, .pointer (some ⟨h, 0, none⟩), .pointer (some ⟨h + 1, 0, none⟩), undef, .pointer (some ⟨h, 1, none⟩), .slice s1 c.nb k1, undef, .slice (some ⟨g7, 0, none⟩) 0 0, .pointer (some ⟨h, 2, none⟩), .slice s2 c.es.length k2, undef, .slice (some ⟨g11, 0, none⟩) 0 0, .pointer (some ⟨h, 35, none⟩), undef, undef, undef, undef, undef, undef], []⟩ W := by
  refine wpAnyH_all (rs := [0, 10]) (by kernel_rfl) (by simp) fun i hi => ?_
  simp only [List.mem_cons, List.not_mem_nil, or_false] at hi
  rcases hi with rfl | rfl
  · refine wpOp_plain rfl rfl ?_
    refine op_build 22 rfl (bldB W) ?_
    have hB : Below W.heap.size W (W.alloc (.cells #[] 5)) := (Below.refl _ _).alloc (Nat.le_refl _) _
    have hT2 := hT.trans (hB.mono hT.size)
    refine ⟨X.s.trans (hT2.mono (Nat.le_of_lt X.lt)), ?_⟩
    simp only [Act.put, List.setIfInBounds_toArray, List.set_cons_zero]
    exact cop_111_110_0 hQ X fin _ hT2 W.heap.size hT.size g7 hg1 g11 hg2
  · refine wpOp_plain rfl rfl ?_
    have q : W.cell? ⟨h, 35, none⟩ = some (.slice s3 c.ps.length k3) := (hT.cell (p := ⟨h, 35, none⟩) X.lt).trans X.c3
    refine op_load 27 (.tmp 12) rfl rfl (ldI q) ?_
    refine ⟨X.s.trans (hT.mono (Nat.le_of_lt X.lt)), ?_⟩
    simp only [Act.put, List.setIfInBounds_toArray, List.set_cons_succ, List.set_cons_zero]
    exact cop_011_111_0 hQ X fin _ hT g7 hg1 g11 hg2
theorem cop_011_101_0 (hQ : ∀ (ch) (a : Act) (d : Nat) (v : Value) (w : World), Q (.panic ch) (a.put (some d) v) w → Q (.panic ch) a w) (X : Cop c w W1 h s1 s2 s3 k1 k2 k3) (fin : ∀ (u3 u7 u11 v1 v2 v3 : Value) (W : World), Below W1.heap.size W1 W → Fr 1 bcell W1.heap.size (bl c) v1 W → Fr 34 Ent.cells W1.heap.size c.es v2 W → Fr 32 (arr .u8 32) W1.heap.size c.ps v3 W → wpAnyH Try.prog .any copOps Q (fun w' => Below h w w') 5 #[true, true, true, true, true, true, true, true, true, true, true, true, true, false, false, false, false, false] ⟨#[.agg o.cells, .pointer (some ⟨h, 0, none⟩), .pointer (some ⟨h + 1, 0, none⟩), u3, .pointer (some ⟨h, 1, none⟩), .slice s1 c.nb k1, v1, u7, .pointer (some ⟨h, 2, none⟩), .slice s2 c.es.length k2, v2, u11, .pointer (some ⟨h, 35, none⟩), .slice s3 c.ps.length k3, v3, .pointer (some ⟨h, 1, none⟩), undef, undef, undef], []⟩ W) (W : World) (hT : Below W1.heap.size W1 W) (g7 : Nat) (hg1 : W1.heap.size ≤ g7) (g11 : Nat) (hg2 : W1.heap.size ≤ g11) : wpAnyH Try.prog .any copOps Q (fun w' => Below h w w') 11 #[false, true, true, false, true, true, false, false, true, true, true, false, false, false, false, false, false, false] ⟨#[.agg o.cells, .pointer (some ⟨h, 0, none⟩), .pointer (some ⟨h + 1, 0, none⟩), undef, .pointer (some ⟨h, 1, none⟩), .slice s1 c.nb k1, undef, .slice (some ⟨g7, 0, none⟩) 0 0, .pointer (some ⟨h, 2, none⟩), undef, undef, .slice (some ⟨g11, 0, none⟩) 0 0, .pointer (some ⟨h, 35, none⟩), .slice s3 c.ps.length k3, undef, undef, undef, undef, undef], []⟩ W := by
  refine wpAnyH_all (rs := [0, 6]) (by kernel_rfl) (by simp) fun i hi => ?_
  simp only [List.mem_cons, List.not_mem_nil, or_false] at hi
  rcases hi with rfl | rfl
  · refine wpOp_plain rfl rfl ?_
    refine op_build 22 rfl (bldB W) ?_
    have hB : Below W.heap.size W (W.alloc (.cells #[] 5)) := (Below.refl _ _).alloc (Nat.le_refl _) _
    have hT2 := hT.trans (hB.mono hT.size)
    refine ⟨X.s.trans (hT2.mono (Nat.le_of_lt X.lt)), ?_⟩
    simp only [Act.put, List.setIfInBounds_toArray, List.set_cons_zero]
    exact cop_111_101_0 hQ X fin _ hT2 W.heap.size hT.size g7 hg1 g11 hg2
  · refine wpOp_plain rfl rfl ?_
    have q : W.cell? ⟨h, 2, none⟩ = some (.slice s2 c.es.length k2) := (hT.cell (p := ⟨h, 2, none⟩) X.lt).trans X.c2
    refine op_load 24 (.tmp 8) rfl rfl (ldE q) ?_
    refine ⟨X.s.trans (hT.mono (Nat.le_of_lt X.lt)), ?_⟩
    simp only [Act.put, List.setIfInBounds_toArray, List.set_cons_succ, List.set_cons_zero]
    exact cop_011_111_0 hQ X fin _ hT g7 hg1 g11 hg2
theorem cop_011_011_0 (hQ : ∀ (ch) (a : Act) (d : Nat) (v : Value) (w : World), Q (.panic ch) (a.put (some d) v) w → Q (.panic ch) a w) (X : Cop c w W1 h s1 s2 s3 k1 k2 k3) (fin : ∀ (u3 u7 u11 v1 v2 v3 : Value) (W : World), Below W1.heap.size W1 W → Fr 1 bcell W1.heap.size (bl c) v1 W → Fr 34 Ent.cells W1.heap.size c.es v2 W → Fr 32 (arr .u8 32) W1.heap.size c.ps v3 W → wpAnyH Try.prog .any copOps Q (fun w' => Below h w w') 5 #[true, true, true, true, true, true, true, true, true, true, true, true, true, false, false, false, false, false] ⟨#[.agg o.cells, .pointer (some ⟨h, 0, none⟩), .pointer (some ⟨h + 1, 0, none⟩), u3, .pointer (some ⟨h, 1, none⟩), .slice s1 c.nb k1, v1, u7, .pointer (some ⟨h, 2, none⟩), .slice s2 c.es.length k2, v2, u11, .pointer (some ⟨h, 35, none⟩), .slice s3 c.ps.length k3, v3, .pointer (some ⟨h, 1, none⟩), undef, undef, undef], []⟩ W) (W : World) (hT : Below W1.heap.size W1 W) (g7 : Nat) (hg1 : W1.heap.size ≤ g7) (g11 : Nat) (hg2 : W1.heap.size ≤ g11) : wpAnyH Try.prog .any copOps Q (fun w' => Below h w w') 11 #[false, true, false, false, true, true, true, false, true, true, true, false, false, false, false, false, false, false] ⟨#[.agg o.cells, .pointer (some ⟨h, 0, none⟩), .pointer (some ⟨h + 1, 0, none⟩), undef, .pointer (some ⟨h, 1, none⟩), undef, undef, .slice (some ⟨g7, 0, none⟩) 0 0, .pointer (some ⟨h, 2, none⟩), .slice s2 c.es.length k2, undef, .slice (some ⟨g11, 0, none⟩) 0 0, .pointer (some ⟨h, 35, none⟩), .slice s3 c.ps.length k3, undef, undef, undef, undef, undef], []⟩ W := by
  refine wpAnyH_all (rs := [0, 2]) (by kernel_rfl) (by simp) fun i hi => ?_
  simp only [List.mem_cons, List.not_mem_nil, or_false] at hi
  rcases hi with rfl | rfl
  · refine wpOp_plain rfl rfl ?_
    refine op_build 22 rfl (bldB W) ?_
    have hB : Below W.heap.size W (W.alloc (.cells #[] 5)) := (Below.refl _ _).alloc (Nat.le_refl _) _
    have hT2 := hT.trans (hB.mono hT.size)
    refine ⟨X.s.trans (hT2.mono (Nat.le_of_lt X.lt)), ?_⟩
    simp only [Act.put, List.setIfInBounds_toArray, List.set_cons_zero]
    exact cop_111_011_0 hQ X fin _ hT2 W.heap.size hT.size g7 hg1 g11 hg2
  · refine wpOp_plain rfl rfl ?_
    have q : W.cell? ⟨h, 1, none⟩ = some (.slice s1 c.nb k1) := (hT.cell (p := ⟨h, 1, none⟩) X.lt).trans X.c1
    refine op_load 22 (.tmp 4) rfl rfl (ldB q) ?_
    refine ⟨X.s.trans (hT.mono (Nat.le_of_lt X.lt)), ?_⟩
    simp only [Act.put, List.setIfInBounds_toArray, List.set_cons_succ, List.set_cons_zero]
    exact cop_011_111_0 hQ X fin _ hT g7 hg1 g11 hg2
theorem cop_010_111_0 (hQ : ∀ (ch) (a : Act) (d : Nat) (v : Value) (w : World), Q (.panic ch) (a.put (some d) v) w → Q (.panic ch) a w) (X : Cop c w W1 h s1 s2 s3 k1 k2 k3) (fin : ∀ (u3 u7 u11 v1 v2 v3 : Value) (W : World), Below W1.heap.size W1 W → Fr 1 bcell W1.heap.size (bl c) v1 W → Fr 34 Ent.cells W1.heap.size c.es v2 W → Fr 32 (arr .u8 32) W1.heap.size c.ps v3 W → wpAnyH Try.prog .any copOps Q (fun w' => Below h w w') 5 #[true, true, true, true, true, true, true, true, true, true, true, true, true, false, false, false, false, false] ⟨#[.agg o.cells, .pointer (some ⟨h, 0, none⟩), .pointer (some ⟨h + 1, 0, none⟩), u3, .pointer (some ⟨h, 1, none⟩), .slice s1 c.nb k1, v1, u7, .pointer (some ⟨h, 2, none⟩), .slice s2 c.es.length k2, v2, u11, .pointer (some ⟨h, 35, none⟩), .slice s3 c.ps.length k3, v3, .pointer (some ⟨h, 1, none⟩), undef, undef, undef], []⟩ W) (W : World) (hT : Below W1.heap.size W1 W) (g7 : Nat) (hg1 : W1.heap.size ≤ g7) : wpAnyH Try.prog .any copOps Q (fun w' => Below h w w') 11 #[false, true, true, false, true, true, true, false, false, true, true, false, false, false, false, false, false, false] ⟨#[.agg o.cells, .pointer (some ⟨h, 0, none⟩), .pointer (some ⟨h + 1, 0, none⟩), undef, .pointer (some ⟨h, 1, none⟩), .slice s1 c.nb k1, undef, .slice (some ⟨g7, 0, none⟩) 0 0, .pointer (some ⟨h, 2, none⟩), .slice s2 c.es.length k2, undef, undef, .pointer (some ⟨h, 35, none⟩), .slice s3 c.ps.length k3, undef, undef, undef, undef, undef], []⟩ W := by
  refine wpAnyH_all (rs := [0, 8]) (by kernel_rfl) (by simp) fun i hi => ?_
  simp only [List.mem_cons, List.not_mem_nil, or_false] at hi
  rcases hi with rfl | rfl
  · refine wpOp_plain rfl rfl ?_
    refine op_build 22 rfl (bldB W) ?_
    have hB : Below W.heap.size W (W.alloc (.cells #[] 5)) := (Below.refl _ _).alloc (Nat.le_refl _) _
    have hT2 := hT.trans (hB.mono hT.size)
    refine ⟨X.s.trans (hT2.mono (Nat.le_of_lt X.lt)), ?_⟩
    simp only [Act.put, List.setIfInBounds_toArray, List.set_cons_zero]
    exact cop_110_111_0 hQ X fin _ hT2 W.heap.size hT.size g7 hg1
  · refine wpOp_plain rfl rfl ?_
    refine op_build 27 rfl (bldI W) ?_
    have hB : Below W.heap.size W (W.alloc (.cells #[] 26)) := (Below.refl _ _).alloc (Nat.le_refl _) _
    have hT2 := hT.trans (hB.mono hT.size)
    refine ⟨X.s.trans (hT2.mono (Nat.le_of_lt X.lt)), ?_⟩
    simp only [Act.put, List.setIfInBounds_toArray, List.set_cons_succ, List.set_cons_zero]
    exact cop_011_111_0 hQ X fin _ hT2 g7 hg1 W.heap.size hT.size
theorem cop_001_111_0 (hQ : ∀ (ch) (a : Act) (d : Nat) (v : Value) (w : World), Q (.panic ch) (a.put (some d) v) w → Q (.panic ch) a w) (X : Cop c w W1 h s1 s2 s3 k1 k2 k3) (fin : ∀ (u3 u7 u11 v1 v2 v3 : Value) (W : World), Below W1.heap.size W1 W → Fr 1 bcell W1.heap.size (bl c) v1 W → Fr 34 Ent.cells W1.heap.size c.es v2 W → Fr 32 (arr .u8 32) W1.heap.size c.ps v3 W → wpAnyH Try.prog .any copOps Q (fun w' => Below h w w') 5 #[true, true, true, true, true, true, true, true, true, true, true, true, true, false, false, false, false, false] ⟨#[.agg o.cells, .pointer (some ⟨h, 0, none⟩), .pointer (some ⟨h + 1, 0, none⟩), u3, .pointer (some ⟨h, 1, none⟩), .slice s1 c.nb k1, v1, u7, .pointer (some ⟨h, 2, none⟩), .slice s2 c.es.length k2, v2, u11, .pointer (some ⟨h, 35, none⟩), .slice s3 c.ps.length k3, v3, .pointer (some ⟨h, 1, none⟩), undef, undef, undef], []⟩ W) (W : World) (hT : Below W1.heap.size W1 W) (g11 : Nat) (hg2 : W1.heap.size ≤ g11) : wpAnyH Try.prog .any copOps Q (fun w' => Below h w w') 11 #[false, true, true, false, false, true, true, false, true, true, true, false, false, false, false, false, false, false] ⟨#[.agg o.cells, .pointer (some ⟨h, 0, none⟩), .pointer (some ⟨h + 1, 0, none⟩), undef, .pointer (some ⟨h, 1, none⟩), .slice s1 c.nb k1, undef, undef, .pointer (some ⟨h, 2, none⟩), .slice s2 c.es.length k2, undef, .slice (some ⟨g11, 0, none⟩) 0 0, .pointer (some ⟨h, 35, none⟩), .slice s3 c.ps.length k3, undef, undef, undef, undef, undef], []⟩ W := by
  refine wpAnyH_all (rs := [0, 4]) (by kernel_rfl) (by simp) fun i hi => ?_
  simp only [List.mem_cons, List.not_mem_nil, or_false] at hi
  rcases hi with rfl | rfl
  · refine wpOp_plain rfl rfl ?_
    refine op_build 22 rfl (bldB W) ?_
    have hB : Below W.heap.size W (W.alloc (.cells #[] 5)) := (Below.refl _ _).alloc (Nat.le_refl _) _
    have hT2 := hT.trans (hB.mono hT.size)
    refine ⟨X.s.trans (hT2.mono (Nat.le_of_lt X.lt)), ?_⟩
    simp only [Act.put, List.setIfInBounds_toArray, List.set_cons_zero]
    exact cop_101_111_0 hQ X fin _ hT2 W.heap.size hT.size g11 hg2
  · refine wpOp_plain rfl rfl ?_
    refine op_build 24 rfl (bldE W) ?_
    have hB : Below W.heap.size W (W.alloc (.cells #[] 40)) := (Below.refl _ _).alloc (Nat.le_refl _) _
    have hT2 := hT.trans (hB.mono hT.size)
    refine ⟨X.s.trans (hT2.mono (Nat.le_of_lt X.lt)), ?_⟩
    simp only [Act.put, List.setIfInBounds_toArray, List.set_cons_succ, List.set_cons_zero]
    exact cop_011_111_0 hQ X fin _ hT2 W.heap.size hT.size g11 hg2
theorem cop_100_100_1 (hQ : ∀ (ch) (a : Act) (d : Nat) (v : Value) (w : World), Q (.panic ch) (a.put (some d) v) w → Q (.panic ch) a w) (X : Cop c w W1 h s1 s2 s3 k1 k2 k3) (fin : ∀ (u3 u7 u11 v1 v2 v3 : Value) (W : World), Below W1.heap.size W1 W → Fr 1 bcell W1.heap.size (bl c) v1 W → Fr 34 Ent.cells W1.heap.size c.es v2 W → Fr 32 (arr .u8 32) W1.heap.size c.ps v3 W → wpAnyH Try.prog .any copOps Q (fun w' => Below h w w') 5 #[true, true, true, true, true, true, true, true, true, true, true, true, true, false, false, false, false, false] ⟨#[.agg o.cells, .pointer (some ⟨h, 0, none⟩), .pointer (some ⟨h + 1, 0, none⟩), u3, .pointer (some ⟨h, 1, none⟩), .slice s1 c.nb k1, v1, u7, .pointer (some ⟨h, 2, none⟩), .slice s2 c.es.length k2, v2, u11, .pointer (some ⟨h, 35, none⟩), .slice s3 c.ps.length k3, v3, .pointer (some ⟨h, 1, none⟩), undef, undef, undef], []⟩ W) (W : World) (hT : Below W1.heap.size W1 W) (g3 : Nat) (hg0 : W1.heap.size ≤ g3) (v1 : Value) (f0 : Fr 1 bcell W1.heap.size (bl c) v1 W) : wpAnyH Try.prog .any copOps Q (fun w' => Below h w w') 12 #[true, true, true, true, false, true, false, false, false, true, false, false, false, false, false, false, false, false] ⟨#[.agg o.cells, .pointer (some ⟨h, 0, none⟩), .pointer (some ⟨h + 1, 0, none⟩), .slice (some ⟨g3, 0, none⟩) 0 0, .pointer (some ⟨h, 1, none⟩), .slice s1 c.nb k1, v1, undef, .pointer (some ⟨h, 2, none⟩), undef, undef, undef, .pointer (some ⟨h, 35, none⟩), undef, undef, undef, undef, undef, undef], []⟩ W := by
  refine wpAnyH_all (rs := [4, 6, 8, 10]) (by kernel_rfl) (by simp) fun i hi => ?_
  simp only [List.mem_cons, List.not_mem_nil, or_false] at hi
  rcases hi with rfl | rfl | rfl | rfl
  · refine wpOp_plain rfl rfl ?_
    refine op_build 24 rfl (bldE W) ?_
    have hB : Below W.heap.size W (W.alloc (.cells #[] 40)) := (Below.refl _ _).alloc (Nat.le_refl _) _
    have hT2 := hT.trans (hB.mono hT.size)
    refine ⟨X.s.trans (hT2.mono (Nat.le_of_lt X.lt)), ?_⟩
    simp only [Act.put, List.setIfInBounds_toArray, List.set_cons_succ, List.set_cons_zero]
    exact cop_110_100_1 hQ X fin _ hT2 g3 hg0 W.heap.size hT.size v1 (f0.below hB)
  · refine wpOp_plain rfl rfl ?_
    have q : W.cell? ⟨h, 2, none⟩ = some (.slice s2 c.es.length k2) := (hT.cell (p := ⟨h, 2, none⟩) X.lt).trans X.c2
    refine op_load 24 (.tmp 8) rfl rfl (ldE q) ?_
    refine ⟨X.s.trans (hT.mono (Nat.le_of_lt X.lt)), ?_⟩
    simp only [Act.put, List.setIfInBounds_toArray, List.set_cons_succ, List.set_cons_zero]
    exact cop_100_110_1 hQ X fin _ hT g3 hg0 v1 f0
  · refine wpOp_plain rfl rfl ?_
    refine op_build 27 rfl (bldI W) ?_
    have hB : Below W.heap.size W (W.alloc (.cells #[] 26)) := (Below.refl _ _).alloc (Nat.le_refl _) _
    have hT2 := hT.trans (hB.mono hT.size)
    refine ⟨X.s.trans (hT2.mono (Nat.le_of_lt X.lt)), ?_⟩
    simp only [Act.put, List.setIfInBounds_toArray, List.set_cons_succ, List.set_cons_zero]
    exact cop_101_100_1 hQ X fin _ hT2 g3 hg0 W.heap.size hT.size v1 (f0.below hB)
  · refine wpOp_plain rfl rfl ?_
    have q : W.cell? ⟨h, 35, none⟩ = some (.slice s3 c.ps.length k3) := (hT.cell (p := ⟨h, 35, none⟩) X.lt).trans X.c3
    refine op_load 27 (.tmp 12) rfl rfl (ldI q) ?_
    refine ⟨X.s.trans (hT.mono (Nat.le_of_lt X.lt)), ?_⟩
    simp only [Act.put, List.setIfInBounds_toArray, List.set_cons_succ, List.set_cons_zero]
    exact cop_100_101_1 hQ X fin _ hT g3 hg0 v1 f0
theorem cop_111_000_0 (hQ : ∀ (ch) (a : Act) (d : Nat) (v : Value) (w : World), Q (.panic ch) (a.put (some d) v) w → Q (.panic ch) a w) (X : Cop c w W1 h s1 s2 s3 k1 k2 k3) (fin : ∀ (u3 u7 u11 v1 v2 v3 : Value) (W : World), Below W1.heap.size W1 W → Fr 1 bcell W1.heap.size (bl c) v1 W → Fr 34 Ent.cells W1.heap.size c.es v2 W → Fr 32 (arr .u8 32) W1.heap.size c.ps v3 W → wpAnyH Try.prog .any copOps Q (fun w' => Below h w w') 5 #[true, true, true, true, true, true, true, true, true, true, true, true, true, false, false, false, false, false] ⟨#[.agg o.cells, .pointer (some ⟨h, 0, none⟩), .pointer (some ⟨h + 1, 0, none⟩), u3, .pointer (some ⟨h, 1, none⟩), .slice s1 c.nb k1, v1, u7, .pointer (some ⟨h, 2, none⟩), .slice s2 c.es.length k2, v2, u11, .pointer (some ⟨h, 35, none⟩), .slice s3 c.ps.length k3, v3, .pointer (some ⟨h, 1, none⟩), undef, undef, undef], []⟩ W) (W : World) (hT : Below W1.heap.size W1 W) (g3 : Nat) (hg0 : W1.heap.size ≤ g3) (g7 : Nat) (hg1 : W1.heap.size ≤ g7) (g11 : Nat) (hg2 : W1.heap.size ≤ g11) : wpAnyH Try.prog .any copOps Q (fun w' => Below h w w') 12 #[true, true, false, false, true, true, false, false, true, true, false, false, false, false, false, false, false, false] ⟨#[.agg o.cells, .pointer (some ⟨h, 0, none⟩), .pointer (some ⟨h + 1, 0, none⟩), .slice (some ⟨g3, 0, none⟩) 0 0, .pointer (some ⟨h, 1, none⟩), undef, undef, .slice (some ⟨g7, 0, none⟩) 0 0, .pointer (some ⟨h, 2, none⟩), undef, undef, .slice (some ⟨g11, 0, none⟩) 0 0, .pointer (some ⟨h, 35, none⟩), undef, undef, undef, undef, undef, undef], []⟩ W := by
  refine wpAnyH_all (rs := [2, 6, 10]) (by kernel_rfl) (by simp) fun i hi => ?_
  simp only [List.mem_cons, List.not_mem_nil, or_false] at hi
  rcases hi with rfl | rfl | rfl
  · refine wpOp_plain rfl rfl ?_
    have q : W.cell? ⟨h, 1, none⟩ = some (.slice s1 c.nb k1) := (hT.cell (p := ⟨h, 1, none⟩) X.lt).trans X.c1
    refine op_load 22 (.tmp 4) rfl rfl (ldB q) ?_
    refine ⟨X.s.trans (hT.mono (Nat.le_of_lt X.lt)), ?_⟩
    simp only [Act.put, List.setIfInBounds_toArray, List.set_cons_succ, List.set_cons_zero]
    exact cop_111_100_0 hQ X fin _ hT g3 hg0 g7 hg1 g11 hg2
  · refine wpOp_plain rfl rfl ?_
    have q : W.cell? ⟨h, 2, none⟩ = some (.slice s2 c.es.length k2) := (hT.cell (p := ⟨h, 2, none⟩) X.lt).trans X.c2
    refine op_load 24 (.tmp 8) rfl rfl (ldE q) ?_
    refine ⟨X.s.trans (hT.mono (Nat.le_of_lt X.lt)), ?_⟩
    simp only [Act.put, List.setIfInBounds_toArray, List.set_cons_succ, List.set_cons_zero]
    exact cop_111_010_0 hQ X fin _ hT g3 hg0 g7 hg1 g11 hg2
  · refine wpOp_plain rfl rfl ?_
    have q : W.cell? ⟨h, 35, none⟩ = some (.slice s3 c.ps.length k3) := (hT.cell (p := ⟨h, 35, none⟩) X.lt).trans X.c3
    refine op_load 27 (.tmp 12) rfl rfl (ldI q) ?_
    refine ⟨X.s.trans (hT.mono (Nat.le_of_lt X.lt)), ?_⟩
    simp only [Act.put, List.setIfInBounds_toArray, List.set_cons_succ, List.set_cons_zero]
    exact cop_111_001_0 hQ X fin _ hT g3 hg0 g7 hg1 g11 hg2
theorem cop_110_100_0 (hQ : ∀ (ch) (a : Act) (d : Nat) (v : Value) (w : World), Q (.panic ch) (a.put (some d) v) w → Q (.panic ch) a w) (X : Cop c w W1 h s1 s2 s3 k1 k2 k3) (fin : ∀ (u3 u7 u11 v1 v2 v3 : Value) (W : World), Below W1.heap.size W1 W → Fr 1 bcell W1.heap.size (bl c) v1 W → Fr 34 Ent.cells W1.heap.size c.es v2 W → Fr 32 (arr .u8 32) W1.heap.size c.ps v3 W → wpAnyH Try.prog .any copOps Q (fun w' => Below h w w') 5 #[true, true, true, true, true, true, true, true, true, true, true, true, true, false, false, false, false, false] ⟨#[.agg o.cells, .pointer (some ⟨h, 0, none⟩), .pointer (some ⟨h + 1, 0, none⟩), u3, .pointer (some ⟨h, 1, none⟩), .slice s1 c.nb k1, v1, u7, .pointer (some ⟨h, 2, none⟩), .slice s2 c.es.length k2, v2, u11, .pointer (some ⟨h, 35, none⟩), .slice s3 c.ps.length k3, v3, .pointer (some ⟨h, 1, none⟩), undef, undef, undef], []⟩ W) (W : World) (hT : Below W1.heap.size W1 W) (g3 : Nat) (hg0 : W1.heap.size ≤ g3) (g7 : Nat) (hg1 : W1.heap.size ≤ g7) : wpAnyH Try.prog .any copOps Q (fun w' => Below h w w') 12 #[true, true, true, false, true, true, false, false, false, true, false, false, false, false, false, false, false, false] ⟨#[.agg o.cells, .pointer (some ⟨h, 0, none⟩), .pointer (some ⟨h + 1, 0, none⟩), .slice (some ⟨g3, 0, none⟩) 0 0, .pointer (some ⟨h, 1, none⟩), .slice s1 c.nb k1, undef, .slice (some ⟨g7, 0, none⟩) 0 0, .pointer (some ⟨h, 2, none⟩), undef, undef, undef, .pointer (some ⟨h, 35, none⟩), undef, undef, undef, undef, undef, undef], []⟩ W := by
  refine wpAnyH_all (rs := [3, 6, 8, 10]) (by kernel_rfl) (by simp) fun i hi => ?_
  simp only [List.mem_cons, List.not_mem_nil, or_false] at hi
  rcases hi with rfl | rfl | rfl | rfl
  · refine wpOp_plain rfl rfl ?_
    obtain ⟨v, W', hr, hB, hF⟩ := appB X hT hg0 22
    refine op_append (.tmp 3) (.tmp 5) 22 rfl rfl rfl hr ?_
    have hT2 := hT.trans (hB.mono hT.size)
    refine ⟨X.s.trans (hT2.mono (Nat.le_of_lt X.lt)), ?_⟩
    simp only [Act.put, List.setIfInBounds_toArray, List.set_cons_succ, List.set_cons_zero]
    exact cop_110_100_1 hQ X fin _ hT2 g3 hg0 g7 hg1 v hF
  · refine wpOp_plain rfl rfl ?_
    have q : W.cell? ⟨h, 2, none⟩ = some (.slice s2 c.es.length k2) := (hT.cell (p := ⟨h, 2, none⟩) X.lt).trans X.c2
    refine op_load 24 (.tmp 8) rfl rfl (ldE q) ?_
    refine ⟨X.s.trans (hT.mono (Nat.le_of_lt X.lt)), ?_⟩
    simp only [Act.put, List.setIfInBounds_toArray, List.set_cons_succ, List.set_cons_zero]
    exact cop_110_110_0 hQ X fin _ hT g3 hg0 g7 hg1
  · refine wpOp_plain rfl rfl ?_
    refine op_build 27 rfl (bldI W) ?_
    have hB : Below W.heap.size W (W.alloc (.cells #[] 26)) := (Below.refl _ _).alloc (Nat.le_refl _) _
    have hT2 := hT.trans (hB.mono hT.size)
    refine ⟨X.s.trans (hT2.mono (Nat.le_of_lt X.lt)), ?_⟩
    simp only [Act.put, List.setIfInBounds_toArray, List.set_cons_succ, List.set_cons_zero]
    exact cop_111_100_0 hQ X fin _ hT2 g3 hg0 g7 hg1 W.heap.size hT.size
  · refine wpOp_plain rfl rfl ?_
    have q : W.cell? ⟨h, 35, none⟩ = some (.slice s3 c.ps.length k3) := (hT.cell (p := ⟨h, 35, none⟩) X.lt).trans X.c3
    refine op_load 27 (.tmp 12) rfl rfl (ldI q) ?_
    refine ⟨X.s.trans (hT.mono (Nat.le_of_lt X.lt)), ?_⟩
    simp only [Act.put, List.setIfInBounds_toArray, List.set_cons_succ, List.set_cons_zero]
    exact cop_110_101_0 hQ X fin _ hT g3 hg0 g7 hg1
theorem cop_110_010_0 (hQ : ∀ (ch) (a : Act) (d : Nat) (v : Value) (w : World), Q (.panic ch) (a.put (some d) v) w → Q (.panic ch) a w) (X : Cop c w W1 h s1 s2 s3 k1 k2 k3) (fin : ∀ (u3 u7 u11 v1 v2 v3 : Value) (W : World), Below W1.heap.size W1 W → Fr 1 bcell W1.heap.size (bl c) v1 W → Fr 34 Ent.cells W1.heap.size c.es v2 W → Fr 32 (arr .u8 32) W1.heap.size c.ps v3 W → wpAnyH Try.prog .any copOps Q (fun w' => Below h w w') 5 #[true, true, true, true, true, true, true, true, true, true, true, true, true, false, false, false, false, false] ⟨#[.agg o.cells, .pointer (some ⟨h, 0, none⟩), .pointer (some ⟨h + 1, 0, none⟩), u3, .pointer (some ⟨h, 1, none⟩), .slice s1 c.nb k1, v1, u7, .pointer (some ⟨h, 2, none⟩), .slice s2 c.es.length k2, v2, u11, .pointer (some ⟨h, 35, none⟩), .slice s3 c.ps.length k3, v3, .pointer (some ⟨h, 1, none⟩), undef, undef, undef], []⟩ W) (W : World) (hT : Below W1.heap.size W1 W) (g3 : Nat) (hg0 : W1.heap.size ≤ g3) (g7 : Nat) (hg1 : W1.heap.size ≤ g7) : wpAnyH Try.prog .any copOps Q (fun w' => Below h w w') 12 #[true, true, false, false, true, true, true, false, false, true, false, false, false, false, false, false, false, false] ⟨#[.agg o.cells, .pointer (some ⟨h, 0, none⟩), .pointer (some ⟨h + 1, 0, none⟩), .slice (some ⟨g3, 0, none⟩) 0 0, .pointer (some ⟨h, 1, none⟩), undef, undef, .slice (some ⟨g7, 0, none⟩) 0 0, .pointer (some ⟨h, 2, none⟩), .slice s2 c.es.length k2, undef, undef, .pointer (some ⟨h, 35, none⟩), undef, undef, undef, undef, undef, undef], []⟩ W := by
  refine wpAnyH_all (rs := [2, 8, 10]) (by kernel_rfl) (by simp) fun i hi => ?_
  simp only [List.mem_cons, List.not_mem_nil, or_false] at hi
  rcases hi with rfl | rfl | rfl
  · refine wpOp_plain rfl rfl ?_
    have q : W.cell? ⟨h, 1, none⟩ = some (.slice s1 c.nb k1) := (hT.cell (p := ⟨h, 1, none⟩) X.lt).trans X.c1
    refine op_load 22 (.tmp 4) rfl rfl (ldB q) ?_
    refine ⟨X.s.trans (hT.mono (Nat.le_of_lt X.lt)), ?_⟩
    simp only [Act.put, List.setIfInBounds_toArray, List.set_cons_succ, List.set_cons_zero]
    exact cop_110_110_0 hQ X fin _ hT g3 hg0 g7 hg1
  · refine wpOp_plain rfl rfl ?_
    refine op_build 27 rfl (bldI W) ?_
    have hB : Below W.heap.size W (W.alloc (.cells #[] 26)) := (Below.refl _ _).alloc (Nat.le_refl _) _
    have hT2 := hT.trans (hB.mono hT.size)
    refine ⟨X.s.trans (hT2.mono (Nat.le_of_lt X.lt)), ?_⟩
    simp only [Act.put, List.setIfInBounds_toArray, List.set_cons_succ, List.set_cons_zero]
    exact cop_111_010_0 hQ X fin _ hT2 g3 hg0 g7 hg1 W.heap.size hT.size
  · refine wpOp_plain rfl rfl ?_
    have q : W.cell? ⟨h, 35, none⟩ = some (.slice s3 c.ps.length k3) := (hT.cell (p := ⟨h, 35, none⟩) X.lt).trans X.c3
    refine op_load 27 (.tmp 12) rfl rfl (ldI q) ?_
    refine ⟨X.s.trans (hT.mono (Nat.le_of_lt X.lt)), ?_⟩
    simp only [Act.put, List.setIfInBounds_toArray, List.set_cons_succ, List.set_cons_zero]
    exact cop_110_011_0 hQ X fin _ hT g3 hg0 g7 hg1
theorem cop_110_001_0 (hQ : ∀ (ch) (a : Act) (d : Nat) (v : Value) (w : World), Q (.panic ch) (a.put (some d) v) w → Q (.panic ch) a w) (X : Cop c w W1 h s1 s2 s3 k1 k2 k3) (fin : ∀ (u3 u7 u11 v1 v2 v3 : Value) (W : World), Below W1.heap.size W1 W → Fr 1 bcell W1.heap.size (bl c) v1 W → Fr 34 Ent.cells W1.heap.size c.es v2 W → Fr 32 (arr .u8 32) W1.heap.size c.ps v3 W → wpAnyH Try.prog .any copOps Q (fun w' => Below h w w') 5 #[true, true, true, true, true, true, true, true, true, true, true, true, true, false, false, false, false, false] ⟨#[.agg o.cells, .pointer (some ⟨h, 0, none⟩), .pointer (some ⟨h + 1, 0, none⟩), u3, .pointer (some ⟨h, 1, none⟩), .slice s1 c.nb k1, v1, u7, .pointer (some ⟨h, 2, none⟩), .slice s2 c.es.length k2, v2, u11, .pointer (some ⟨h, 35, none⟩), .slice s3 c.ps.length k3, v3, .pointer (some ⟨h, 1, none⟩), undef, undef, undef], []⟩ W) (W : World) (hT : Below W1.heap.size W1 W) (g3 : Nat) (hg0 : W1.heap.size ≤ g3) (g7 : Nat) (hg1 : W1.heap.size ≤ g7) : wpAnyH Try.prog .any copOps Q (fun w' => Below h w w') 12 #[true, true, false, false, true, true, false, false, false, true, true, false, false, false, false, false, false, false] ⟨#[.agg o.cells, .pointer (some ⟨h, 0, none⟩), .pointer (some ⟨h + 1, 0, none⟩), .slice (some ⟨g3, 0, none⟩) 0 0, .pointer (some ⟨h, 1, none⟩), undef, undef, .slice (some ⟨g7, 0, none⟩) 0 0, .pointer (some ⟨h, 2, none⟩), undef, undef, undef, .pointer (some ⟨h, 35, none⟩), .slice s3 c.ps.length k3, undef, undef, undef, undef, undef], []⟩ W := by
  refine wpAnyH_all (rs := [2, 6, 8]) (by kernel_rfl) (by simp) fun i hi => ?_
  simp only [List.mem_cons, List.not_mem_nil, or_false] at hi
  rcases hi with rfl | rfl | rfl
  · refine wpOp_plain rfl rfl ?_
    have q : W.cell? ⟨h, 1, none⟩ = some (.slice s1 c.nb k1) := (hT.cell (p := ⟨h, 1, none⟩) X.lt).trans X.c1
    refine op_load 22 (.tmp 4) rfl rfl (ldB q) ?_
    refine ⟨X.s.trans (hT.mono (Nat.le_of_lt X.lt)), ?_⟩
    simp only [Act.put, List.setIfInBounds_toArray, List.set_cons_succ, List.set_cons_zero]
    exact cop_110_101_0 hQ X fin _ hT g3 hg0 g7 hg1
  · refine wpOp_plain rfl rfl ?_
    have q : W.cell? ⟨h, 2, none⟩ = some (.slice s2 c.es.length k2) := (hT.cell (p := ⟨h, 2, none⟩) X.lt).trans X.c2
    refine op_load 24 (.tmp 8) rfl rfl (ldE q) ?_
    refine ⟨X.s.trans (hT.mono (Nat.le_of_lt X.lt)), ?_⟩
    simp only [Act.put, List.setIfInBounds_toArray, List.set_cons_succ, List.set_cons_zero]
    exact cop_110_011_0 hQ X fin _ hT g3 hg0 g7 hg1
  · refine wpOp_plain rfl rfl ?_
    refine op_build 27 rfl (bldI W) ?_
    have hB : Below W.heap.size W (W.alloc (.cells #[] 26)) := (Below.refl _ _).alloc (Nat.le_refl _) _
    have hT2 := hT.trans (hB.mono hT.size)
    refine ⟨X.s.trans (hT2.mono (Nat.le_of_lt X.lt)), ?_⟩
    simp only [Act.put, List.setIfInBounds_toArray, List.set_cons_succ, List.set_cons_zero]
    exact cop_111_001_0 hQ X fin _ hT2 g3 hg0 g7 hg1 W.heap.size hT.size
theorem cop_101_100_0 (hQ : ∀ (ch) (a : Act) (d : Nat) (v : Value) (w : World), Q (.panic ch) (a.put (some d) v) w → Q (.panic ch) a w) (X : Cop c w W1 h s1 s2 s3 k1 k2 k3) (fin : ∀ (u3 u7 u11 v1 v2 v3 : Value) (W : World), Below W1.heap.size W1 W → Fr 1 bcell W1.heap.size (bl c) v1 W → Fr 34 Ent.cells W1.heap.size c.es v2 W → Fr 32 (arr .u8 32) W1.heap.size c.ps v3 W → wpAnyH Try.prog .any copOps Q (fun w' => Below h w w') 5 #[true, true, true, true, true, true, true, true, true, true, true, true, true, false, false, false, false, false] ⟨#[.agg o.cells, .pointer (some ⟨h, 0, none⟩), .pointer (some ⟨h + 1, 0, none⟩), u3, .pointer (some ⟨h, 1, none⟩), .slice s1 c.nb k1, v1, u7, .pointer (some ⟨h, 2, none⟩), .slice s2 c.es.length k2, v2, u11, .pointer (some ⟨h, 35, none⟩), .slice s3 c.ps.length k3, v3, .pointer (some ⟨h, 1, none⟩), undef, undef, undef], []⟩ W) (W : World) (hT : Below W1.heap.size W1 W) (g3 : Nat) (hg0 : W1.heap.size ≤ g3) (g11 : Nat) (hg2 : W1.heap.size ≤ g11) : wpAnyH Try.prog .any copOps Q (fun w' => Below h w w') 12 #[true, true, true, false, false, true, false, false, true, true, false, false, false, false, false, false, false, false] ⟨#[.agg o.cells, .pointer (some ⟨h, 0, none⟩), .pointer (some ⟨h + 1, 0, none⟩), .slice (some ⟨g3, 0, none⟩) 0 0, .pointer (some ⟨h, 1, none⟩), .slice s1 c.nb k1, undef, undef, .pointer (some ⟨h, 2, none⟩), undef, undef, .slice (some ⟨g11, 0, none⟩) 0 0, .pointer (some ⟨h, 35, none⟩), undef, undef, undef, undef, undef, undef], []⟩ W := by
  refine wpAnyH_all (rs := [3, 4, 6, 10]) (by kernel_rfl) (by simp) fun i hi => ?_
  simp only [List.mem_cons, List.not_mem_nil, or_false] at hi
  rcases hi with rfl | rfl | rfl | rfl
  · refine wpOp_plain rfl rfl ?_
    obtain ⟨v, W', hr, hB, hF⟩ := appB X hT hg0 22
    refine op_append (.tmp 3) (.tmp 5) 22 rfl rfl rfl hr ?_
    have hT2 := hT.trans (hB.mono hT.size)
    refine ⟨X.s.trans (hT2.mono (Nat.le_of_lt X.lt)), ?_⟩
    simp only [Act.put, List.setIfInBounds_toArray, List.set_cons_succ, List.set_cons_zero]
    exact cop_101_100_1 hQ X fin _ hT2 g3 hg0 g11 hg2 v hF
  · refine wpOp_plain rfl rfl ?_
    refine op_build 24 rfl (bldE W) ?_
    have hB : Below W.heap.size W (W.alloc (.cells #[] 40)) := (Below.refl _ _).alloc (Nat.le_refl _) _
    have hT2 := hT.trans (hB.mono hT.size)
    refine ⟨X.s.trans (hT2.mono (Nat.le_of_lt X.lt)), ?_⟩
    simp only [Act.put, List.setIfInBounds_toArray, List.set_cons_succ, List.set_cons_zero]
    exact cop_111_100_0 hQ X fin _ hT2 g3 hg0 W.heap.size hT.size g11 hg2
  · refine wpOp_plain rfl rfl ?_
    have q : W.cell? ⟨h, 2, none⟩ = some (.slice s2 c.es.length k2) := (hT.cell (p := ⟨h, 2, none⟩) X.lt).trans X.c2
    refine op_load 24 (.tmp 8) rfl rfl (ldE q) ?_
    refine ⟨X.s.trans (hT.mono (Nat.le_of_lt X.lt)), ?_⟩
    simp only [Act.put, List.setIfInBounds_toArray, List.set_cons_succ, List.set_cons_zero]
    exact cop_101_110_0 hQ X fin _ hT g3 hg0 g11 hg2
  · refine wpOp_plain rfl rfl ?_
    have q : W.cell? ⟨h, 35, none⟩ = some (.slice s3 c.ps.length k3) := (hT.cell (p := ⟨h, 35, none⟩) X.lt).trans X.c3
    refine op_load 27 (.tmp 12) rfl rfl (ldI q) ?_
    refine ⟨X.s.trans (hT.mono (Nat.le_of_lt X.lt)), ?_⟩
    simp only [Act.put, List.setIfInBounds_toArray, List.set_cons_succ, List.set_cons_zero]
    exact cop_101_101_0 hQ X fin _ hT g3 hg0 g11 hg2
theorem cop_101_010_0 (hQ : ∀ (ch) (a : Act) (d : Nat) (v : Value) (w : World), Q (.panic ch) (a.put (some d) v) w → Q (.panic ch) a w) (X : Cop c w W1 h s1 s2 s3 k1 k2 k3) (fin : ∀ (u3 u7 u11 v1 v2 v3 : Value) (W : World), Below W1.heap.size W1 W → Fr 1 bcell W1.heap.size (bl c) v1 W → Fr 34 Ent.cells W1.heap.size c.es v2 W → Fr 32 (arr .u8 32) W1.heap.size c.ps v3 W → wpAnyH Try.prog .any copOps Q (fun w' => Below h w w') 5 #[true, true, true, true, true, true, true, true, true, true, true, true, true, false, false, false, false, false] ⟨#[.agg o.cells, .pointer (some ⟨h, 0, none⟩), .pointer (some ⟨h + 1, 0, none⟩), u3, .pointer (some ⟨h, 1, none⟩), .slice s1 c.nb k1, v1, u7, .pointer (some ⟨h, 2, none⟩), .slice s2 c.es.length k2, v2, u11, .pointer (some ⟨h, 35, none⟩), .slice s3 c.ps.length k3, v3, .pointer (some ⟨h, 1, none⟩), undef, undef, undef], []⟩ W) (W : World) (hT : Below W1.heap.size W1 W) (g3 : Nat) (hg0 : W1.heap.size ≤ g3) (g11 : Nat) (hg2 : W1.heap.size ≤ g11) : wpAnyH Try.prog .any copOps Q (fun w' => Below h w w') 12 #[true, true, false, false, false, true, true, false, true, true, false, false, false, false, false, false, false, false] ⟨#[.agg o.cells, .pointer (some ⟨h, 0, none⟩), .pointer (some ⟨h + 1, 0, none⟩), .slice (some ⟨g3, 0, none⟩) 0 0, .pointer (some ⟨h, 1, none⟩), undef, undef, undef, .pointer (some ⟨h, 2, none⟩), .slice s2 c.es.length k2, undef, .slice (some ⟨g11, 0, none⟩) 0 0, .pointer (some ⟨h, 35, none⟩), undef, undef, undef, undef, undef, undef], []⟩ W := by
  refine wpAnyH_all (rs := [2, 4, 10]) (by kernel_rfl) (by simp) fun i hi => ?_
  simp only [List.mem_cons, List.not_mem_nil, or_false] at hi
  rcases hi with rfl | rfl | rfl
  · refine wpOp_plain rfl rfl ?_
    have q : W.cell? ⟨h, 1, none⟩ = some (.slice s1 c.nb k1) := (hT.cell (p := ⟨h, 1, none⟩) X.lt).trans X.c1
    refine op_load 22 (.tmp 4) rfl rfl (ldB q) ?_
    refine ⟨X.s.trans (hT.mono (Nat.le_of_lt X.lt)), ?_⟩
    simp only [Act.put, List.setIfInBounds_toArray, List.set_cons_succ, List.set_cons_zero]
    exact cop_101_110_0 hQ X fin _ hT g3 hg0 g11 hg2
  · refine wpOp_plain rfl rfl ?_
    refine op_build 24 rfl (bldE W) ?_
    have hB : Below W.heap.size W (W.alloc (.cells #[] 40)) := (Below.refl _ _).alloc (Nat.le_refl _) _
    have hT2 := hT.trans (hB.mono hT.size)
    refine ⟨X.s.trans (hT2.mono (Nat.le_of_lt X.lt)), ?_⟩
    simp only [Act.put, List.setIfInBounds_toArray, List.set_cons_succ, List.set_cons_zero]
    exact cop_111_010_0 hQ X fin _ hT2 g3 hg0 W.heap.size hT.size g11 hg2
  · refine wpOp_plain rfl rfl ?_
    have q : W.cell? ⟨h, 35, none⟩ = some (.slice s3 c.ps.length k3) := (hT.cell (p := ⟨h, 35, none⟩) X.lt).trans X.c3
    refine op_load 27 (.tmp 12) rfl rfl (ldI q) ?_
    refine ⟨X.s.trans (hT.mono (Nat.le_of_lt X.lt)), ?_⟩
    simp only [Act.put, List.setIfInBounds_toArray, List.set_cons_succ, List.set_cons_zero]
    exact cop_101_011_0 hQ X fin _ hT g3 hg0 g11 hg2
theorem cop_101_001_0 (hQ : ∀ (ch) (a : Act) (d : Nat) (v : Value) (w : World), Q (.panic ch) (a.put (some d) v) w → Q (.panic ch) a w) (X : Cop c w W1 h s1 s2 s3 k1 k2 k3) (fin : ∀ (u3 u7 u11 v1 v2 v3 : Value) (W : World), Below W1.heap.size W1 W → Fr 1 bcell W1.heap.size (bl c) v1 W → Fr 34 Ent.cells W1.heap.size c.es v2 W → Fr 32 (arr .u8 32) W1.heap.size c.ps v3 W → wpAnyH Try.prog .any copOps Q (fun w' => Below h w w') 5 #[true, true, true, true, true, true, true, true, true, true, true, true, true, false, false, false, false, false] ⟨#[.agg o.cells, .pointer (some ⟨h, 0, none⟩), .pointer (some ⟨h + 1, 0, none⟩), u3, .pointer (some ⟨h, 1, none⟩), .slice s1 c.nb k1, v1, u7, .pointer (some ⟨h, 2, none⟩), .slice s2 c.es.length k2, v2, u11, .pointer (some ⟨h, 35, none⟩), .slice s3 c.ps.length k3, v3, .pointer (some ⟨h, 1, none⟩), undef, undef, undef], []⟩ W) (W : World) (hT : Below W1.heap.size W1 W) (g3 : Nat) (hg0 : W1.heap.size ≤ g3) (g11 : Nat) (hg2 : W1.heap.size ≤ g11) : wpAnyH Try.prog .any copOps Q (fun w' => Below h w w') 12 #[true, true, false, false, false, true, false, false, true, true, true, false, false, false, false, false, false, false] ⟨#[.agg o.cells, .pointer (some ⟨h, 0, none⟩), .pointer (some ⟨h + 1, 0, none⟩), .slice (some ⟨g3, 0, none⟩) 0 0, .pointer (some ⟨h, 1, none⟩), undef, undef, undef, .pointer (some ⟨h, 2, none⟩), undef, undef, .slice (some ⟨g11, 0, none⟩) 0 0, .pointer (some ⟨h, 35, none⟩), .slice s3 c.ps.length k3, undef, undef, undef, undef, undef], []⟩ W := by
  refine wpAnyH_all (rs := [2, 4, 6]) (by kernel_rfl) (by simp) fun i hi => ?_
  simp only [List.mem_cons, List.not_mem_nil, or_false] at hi
  rcases hi with rfl | rfl | rfl
  · refine wpOp_plain rfl rfl ?_
    have q : W.cell? ⟨h, 1, none⟩ = some (.slice s1 c.nb k1) := (hT.cell (p := ⟨h, 1, none⟩) X.lt).trans X.c1
    refine op_load 22 (.tmp 4) rfl rfl (ldB q) ?_
    refine ⟨X.s.trans (hT.mono (Nat.le_of_lt X.lt)), ?_⟩
    simp only [Act.put, List.setIfInBounds_toArray, List.set_cons_succ, List.set_cons_zero]
    exact cop_101_101_0 hQ X fin _ hT g3 hg0 g11 hg2
  · refine wpOp_plain rfl rfl ?_
    refine op_build 24 rfl (bldE W) ?_
    have hB : Below W.heap.size W (W.alloc (.cells #[] 40)) := (Below.refl _ _).alloc (Nat.le_refl _) _
    have hT2 := hT.trans (hB.mono hT.size)
    refine ⟨X.s.trans (hT2.mono (Nat.le_of_lt X.lt)), ?_⟩
    simp only [Act.put, List.setIfInBounds_toArray, List.set_cons_succ, List.set_cons_zero]
    exact cop_111_001_0 hQ X fin _ hT2 g3 hg0 W.heap.size hT.size g11 hg2
  · refine wpOp_plain rfl rfl ?_
    have q : W.cell? ⟨h, 2, none⟩ = some (.slice s2 c.es.length k2) := (hT.cell (p := ⟨h, 2, none⟩) X.lt).trans X.c2
    refine op_load 24 (.tmp 8) rfl rfl (ldE q) ?_
    refine ⟨X.s.trans (hT.mono (Nat.le_of_lt X.lt)), ?_⟩
    simp only [Act.put, List.setIfInBounds_toArray, List.set_cons_succ, List.set_cons_zero]
    exact cop_101_011_0 hQ X fin _ hT g3 hg0 g11 hg2
theorem cop_100_110_0 (hQ : ∀ (ch) (a : Act) (d : Nat) (v : Value) (w : World), Q (.panic ch) (a.put (some d) v) w → Q (.panic ch) a w) (X : Cop c w W1 h s1 s2 s3 k1 k2 k3) (fin : ∀ (u3 u7 u11 v1 v2 v3 : Value) (W : World), Below W1.heap.size W1 W → Fr 1 bcell W1.heap.size (bl c) v1 W → Fr 34 Ent.cells W1.heap.size c.es v2 W → Fr 32 (arr .u8 32) W1.heap.size c.ps v3 W → wpAnyH Try.prog .any copOps Q (fun w' => Below h w w') 5 #[true, true, true, true, true, true, true, true, true, true, true, true, true, false, false, false, false, false] ⟨#[.agg o.cells, .pointer (some ⟨h, 0, none⟩), .pointer (some ⟨h + 1, 0, none⟩), u3, .pointer (some ⟨h, 1, none⟩), .slice s1 c.nb k1, v1, u7, .pointer (some ⟨h, 2, none⟩), .slice s2 c.es.length k2, v2, u11, .pointer (some ⟨h, 35, none⟩), .slice s3 c.ps.length k3, v3, .pointer (some ⟨h, 1, none⟩), undef, undef, undef], []⟩ W) (W : World) (hT : Below W1.heap.size W1 W) (g3 : Nat) (hg0 : W1.heap.size ≤ g3) : wpAnyH Try.prog .any copOps Q (fun w' => Below h w w') 12 #[true, true, true, false, false, true, true, false, false, true, false, false, false, false, false, false, false, false] ⟨#[.agg o.cells, .pointer (some ⟨h, 0, none⟩), .pointer (some ⟨h + 1, 0, none⟩), .slice (some ⟨g3, 0, none⟩) 0 0, .pointer (some ⟨h, 1, none⟩), .slice s1 c.nb k1, undef, undef, .pointer (some ⟨h, 2, none⟩), .slice s2 c.es.length k2, undef, undef, .pointer (some ⟨h, 35, none⟩), undef, undef, undef, undef, undef, undef], []⟩ W := by
  refine wpAnyH_all (rs := [3, 4, 8, 10]) (by kernel_rfl) (by simp) fun i hi => ?_
  simp only [List.mem_cons, List.not_mem_nil, or_false] at hi
  rcases hi with rfl | rfl | rfl | rfl
  · refine wpOp_plain rfl rfl ?_
    obtain ⟨v, W', hr, hB, hF⟩ := appB X hT hg0 22
    refine op_append (.tmp 3) (.tmp 5) 22 rfl rfl rfl hr ?_
    have hT2 := hT.trans (hB.mono hT.size)
    refine ⟨X.s.trans (hT2.mono (Nat.le_of_lt X.lt)), ?_⟩
    simp only [Act.put, List.setIfInBounds_toArray, List.set_cons_succ, List.set_cons_zero]
    exact cop_100_110_1 hQ X fin _ hT2 g3 hg0 v hF
  · refine wpOp_plain rfl rfl ?_
    refine op_build 24 rfl (bldE W) ?_
    have hB : Below W.heap.size W (W.alloc (.cells #[] 40)) := (Below.refl _ _).alloc (Nat.le_refl _) _
    have hT2 := hT.trans (hB.mono hT.size)
    refine ⟨X.s.trans (hT2.mono (Nat.le_of_lt X.lt)), ?_⟩
    simp only [Act.put, List.setIfInBounds_toArray, List.set_cons_succ, List.set_cons_zero]
    exact cop_110_110_0 hQ X fin _ hT2 g3 hg0 W.heap.size hT.size
  · refine wpOp_plain rfl rfl ?_
    refine op_build 27 rfl (bldI W) ?_
    have hB : Below W.heap.size W (W.alloc (.cells #[] 26)) := (Below.refl _ _).alloc (Nat.le_refl _) _
    have hT2 := hT.trans (hB.mono hT.size)
    refine ⟨X.s.trans (hT2.mono (Nat.le_of_lt X.lt)), ?_⟩
    simp only [Act.put, List.setIfInBounds_toArray, List.set_cons_succ, List.set_cons_zero]
    exact cop_101_110_0 hQ X fin _ hT2 g3 hg0 W.heap.size hT.size
  · refine wpOp_plain rfl rfl ?_
    have q : W.cell? ⟨h, 35, none⟩ = some (.slice s3 c.ps.length k3) := (hT.cell (p := ⟨h, 35, none⟩) X.lt).trans X.c3
    refine op_load 27 (.tmp 12) rfl rfl (ldI q) ?_
    refine ⟨X.s.trans (hT.mono (Nat.le_of_lt X.lt)), ?_⟩
    simp only [Act.put, List.setIfInBounds_toArray, List.set_cons_succ, List.set_cons_zero]
    exact cop_100_111_0 hQ X fin _ hT g3 hg0
theorem cop_100_101_0 (hQ : ∀ (ch) (a : Act) (d : Nat) (v : Value) (w : World), Q (.panic ch) (a.put (some d) v) w → Q (.panic ch) a w) (X : Cop c w W1 h s1 s2 s3 k1 k2 k3) (fin : ∀ (u3 u7 u11 v1 v2 v3 : Value) (W : World), Below W1.heap.size W1 W → Fr 1 bcell W1.heap.size (bl c) v1 W → Fr 34 Ent.cells W1.heap.size c.es v2 W → Fr 32 (arr .u8 32) W1.heap.size c.ps v3 W → wpAnyH Try.prog .any copOps Q (fun w' => Below h w w') 5 #[true, true, true, true, true, true, true, true, true, true, true, true, true, false, false, false, false, false] ⟨#[.agg o.cells, .pointer (some ⟨h, 0, none⟩), .pointer (some ⟨h + 1, 0, none⟩), u3, .pointer (some ⟨h, 1, none⟩), .slice s1 c.nb k1, v1, u7, .pointer (some ⟨h, 2, none⟩), .slice s2 c.es.length k2, v2, u11, .pointer (some ⟨h, 35, none⟩), .slice s3 c.ps.length k3, v3, .pointer (some ⟨h, 1, none⟩), undef, undef, undef], []⟩ W) (W : World) (hT : Below W1.heap.size W1 W) (g3 : Nat) (hg0 : W1.heap.size ≤ g3) : wpAnyH Try.prog .any copOps Q (fun w' => Below h w w') 12 #[true, true, true, false, false, true, false, false, false, true, true, false, false, false, false, false, false, false] ⟨#[.agg o.cells, .pointer (some ⟨h, 0, none⟩), .pointer (some ⟨h + 1, 0, none⟩), .slice (some ⟨g3, 0, none⟩) 0 0, .pointer (some ⟨h, 1, none⟩), .slice s1 c.nb k1, undef, undef, .pointer (some ⟨h, 2, none⟩), undef, undef, undef, .pointer (some ⟨h, 35, none⟩), .slice s3 c.ps.length k3, undef, undef, undef, undef, undef], []⟩ W := by
  refine wpAnyH_all (rs := [3, 4, 6, 8]) (by kernel_rfl) (by simp) fun i hi => ?_
  simp only [List.mem_cons, List.not_mem_nil, or_false] at hi
  rcases hi with rfl | rfl | rfl | rfl
  · refine wpOp_plain rfl rfl ?_
    obtain ⟨v, W', hr, hB, hF⟩ := appB X hT hg0 22
    refine op_append (.tmp 3) (.tmp 5) 22 rfl rfl rfl hr ?_
    have hT2 := hT.trans (hB.mono hT.size)
    refine ⟨X.s.trans (hT2.mono (Nat.le_of_lt X.lt)), ?_⟩
    simp only [Act.put, List.setIfInBounds_toArray, List.set_cons_succ, List.set_cons_zero]
    exact cop_100_101_1 hQ X fin _ hT2 g3 hg0 v hF
  · refine wpOp_plain rfl rfl ?_
    refine op_build 24 rfl (bldE W) ?_
    have hB : Below W.heap.size W (W.alloc (.cells #[] 40)) := (Below.refl _ _).alloc (Nat.le_refl _) _
    have hT2 := hT.trans (hB.mono hT.size)
    refine ⟨X.s.trans (hT2.mono (Nat.le_of_lt X.lt)), ?_⟩
    simp only [Act.put, List.setIfInBounds_toArray, List.set_cons_succ, List.set_cons_zero]
    exact cop_110_101_0 hQ X fin _ hT2 g3 hg0 W.heap.size hT.size
  · refine wpOp_plain rfl rfl ?_
    have q : W.cell? ⟨h, 2, none⟩ = some (.slice s2 c.es.length k2) := (hT.cell (p := ⟨h, 2, none⟩) X.lt).trans X.c2
    refine op_load 24 (.tmp 8) rfl rfl (ldE q) ?_
    refine ⟨X.s.trans (hT.mono (Nat.le_of_lt X.lt)), ?_⟩
    simp only [Act.put, List.setIfInBounds_toArray, List.set_cons_succ, List.set_cons_zero]
    exact cop_100_111_0 hQ X fin _ hT g3 hg0
  · refine wpOp_plain rfl rfl ?_
    refine op_build 27 rfl (bldI W) ?_
    have hB : Below W.heap.size W (W.alloc (.cells #[] 26)) := (Below.refl _ _).alloc (Nat.le_refl _) _
    have hT2 := hT.trans (hB.mono hT.size)
    refine ⟨X.s.trans (hT2.mono (Nat.le_of_lt X.lt)), ?_⟩
    simp only [Act.put, List.setIfInBounds_toArray, List.set_cons_succ, List.set_cons_zero]
    exact cop_101_101_0 hQ X fin _ hT2 g3 hg0 W.heap.size hT.size
theorem cop_100_011_0 (hQ : ∀ (ch) (a : Act) (d : Nat) (v : Value) (w : World), Q (.panic ch) (a.put (some d) v) w → Q (.panic ch) a w) (X : Cop c w W1 h s1 s2 s3 k1 k2 k3) (fin : ∀ (u3 u7 u11 v1 v2 v3 : Value) (W : World), Below W1.heap.size W1 W → Fr 1 bcell W1.heap.size (bl c) v1 W → Fr 34 Ent.cells W1.heap.size c.es v2 W → Fr 32 (arr .u8 32) W1.heap.size c.ps v3 W → wpAnyH Try.prog .any copOps Q (fun w' => Below h w w') 5 #[true, true, true, true, true, true, true, true, true, true, true, true, true, false, false, false, false, false] ⟨#[.agg o.cells, .pointer (some ⟨h, 0, none⟩), .pointer (some ⟨h + 1, 0, none⟩), u3, .pointer (some ⟨h, 1, none⟩), .slice s1 c.nb k1, v1, u7, .pointer (some ⟨h, 2, none⟩), .slice s2 c.es.length k2, v2, u11, .pointer (some ⟨h, 35, none⟩), .slice s3 c.ps.length k3, v3, .pointer (some ⟨h, 1, none⟩), undef, undef, undef], []⟩ W) (W : World) (hT : Below W1.heap.size W1 W) (g3 : Nat) (hg0 : W1.heap.size ≤ g3) : wpAnyH Try.prog .any copOps Q (fun w' => Below h w w') 12 #[true, true, false, false, false, true, true, false, false, true, true, false, false, false, false, false, false, false] ⟨#[.agg o.cells, .pointer (some ⟨h, 0, none⟩), .pointer (some ⟨h + 1, 0, none⟩), .slice (some ⟨g3, 0, none⟩) 0 0, .pointer (some ⟨h, 1, none⟩), undef, undef, undef, .pointer (some ⟨h, 2, none⟩), .slice s2 c.es.length k2, undef, undef, .pointer (some ⟨h, 35, none⟩), .slice s3 c.ps.length k3, undef, undef, undef, undef, undef], []⟩ W := by
  refine wpAnyH_all (rs := [2, 4, 8]) (by kernel_rfl) (by simp) fun i hi => ?_
  simp only [List.mem_cons, List.not_mem_nil, or_false] at hi
  rcases hi with rfl | rfl | rfl
  · refine wpOp_plain rfl rfl ?_
    have q : W.cell? ⟨h, 1, none⟩ = some (.slice s1 c.nb k1) := (hT.cell (p := ⟨h, 1, none⟩) X.lt).trans X.c1
    refine op_load 22 (.tmp 4) rfl rfl (ldB q) ?_
    refine ⟨X.s.trans (hT.mono (Nat.le_of_lt X.lt)), ?_⟩
    simp only [Act.put, List.setIfInBounds_toArray, List.set_cons_succ, List.set_cons_zero]
    exact cop_100_111_0 hQ X fin _ hT g3 hg0
  · refine wpOp_plain rfl rfl ?_
    refine op_build 24 rfl (bldE W) ?_
    have hB : Below W.heap.size W (W.alloc (.cells #[] 40)) := (Below.refl _ _).alloc (Nat.le_refl _) _
    have hT2 := hT.trans (hB.mono hT.size)
    refine ⟨X.s.trans (hT2.mono (Nat.le_of_lt X.lt)), ?_⟩
    simp only [Act.put, List.setIfInBounds_toArray, List.set_cons_succ, List.set_cons_zero]
    exact cop_110_011_0 hQ X fin _ hT2 g3 hg0 W.heap.size hT.size
  · refine wpOp_plain rfl rfl ?_
    refine op_build 27 rfl (bldI W) ?_
    have hB : Below W.heap.size W (W.alloc (.cells #[] 26)) := (Below.refl _ _).alloc (Nat.le_refl _) _
    have hT2 := hT.trans (hB.mono hT.size)
    refine ⟨X.s.trans (hT2.mono (Nat.le_of_lt X.lt)), ?_⟩
    simp only [Act.put, List.setIfInBounds_toArray, List.set_cons_succ, List.set_cons_zero]
    exact cop_101_011_0 hQ X fin _ hT2 g3 hg0 W.heap.size hT.size
theorem cop_011_100_0 (hQ : ∀ (ch) (a : Act) (d : Nat) (v : Value) (w : World), Q (.panic ch) (a.put (some d) v) w → Q (.panic ch) a w) (X : Cop c w W1 h s1 s2 s3 k1 k2 k3) (fin : ∀ (u3 u7 u11 v1 v2 v3 : Value) (W : World), Below W1.heap.size W1 W → Fr 1 bcell W1.heap.size (bl c) v1 W → Fr 34 Ent.cells W1.heap.size c.es v2 W → Fr 32 (arr .u8 32) W1.heap.size c.ps v3 W → wpAnyH Try.prog .any copOps Q (fun w' => Below h w w') 5 #[true, true, true, true, true, true, true, true, true, true, true, true, true, false, false, false, false, false] ⟨#[.agg o.cells, .pointer (some ⟨h, 0, none⟩), .pointer (some ⟨h + 1, 0, none⟩), u3, .pointer (some ⟨h, 1, none⟩), .slice s1 c.nb k1, v1, u7, .pointer (some ⟨h, 2, none⟩), .slice s2 c.es.length k2, v2, u11, .pointer (some ⟨h, 35, none⟩), .slice s3 c.ps.length k3, v3, .pointer (some ⟨h, 1, none⟩), undef, undef, undef], []⟩ W) (W : World) (hT : Below W1.heap.size W1 W) (g7 : Nat) (hg1 : W1.heap.size ≤ g7) (g11 : Nat) (hg2 : W1.heap.size ≤ g11) : wpAnyH Try.prog .any copOps Q (fun w' => Below h w w') 12 #[false, true, true, false, true, true, false, false, true, true, false, false, false, false, false, false, false, false] ⟨#[.agg o.cells, .pointer (some ⟨h, 0, none⟩), .pointer (some ⟨h + 1, 0, none⟩), undef, .pointer (some ⟨h, 1, none⟩), .slice s1 c.nb k1, undef, .slice (some ⟨g7, 0, none⟩) 0 0, .pointer (some ⟨h, 2, none⟩), undef, undef, .slice (some ⟨g11, 0, none⟩) 0 0, .pointer (some ⟨h, 35, none⟩), undef, undef, undef, undef, undef, undef], []⟩ W := by
  refine wpAnyH_all (rs := [0, 6, 10]) (by kernel_rfl) (by simp) fun i hi => ?_
  simp only [List.mem_cons, List.not_mem_nil, or_false] at hi
  rcases hi with rfl | rfl | rfl
  · refine wpOp_plain rfl rfl ?_
    refine op_build 22 rfl (bldB W) ?_
    have hB : Below W.heap.size W (W.alloc (.cells #[] 5)) := (Below.refl _ _).alloc (Nat.le_refl _) _
    have hT2 := hT.trans (hB.mono hT.size)
    refine ⟨X.s.trans (hT2.mono (Nat.le_of_lt X.lt)), ?_⟩
    simp only [Act.put, List.setIfInBounds_toArray, List.set_cons_zero]
    exact cop_111_100_0 hQ X fin _ hT2 W.heap.size hT.size g7 hg1 g11 hg2
  · refine wpOp_plain rfl rfl ?_
    have q : W.cell? ⟨h, 2, none⟩ = some (.slice s2 c.es.length k2) := (hT.cell (p := ⟨h, 2, none⟩) X.lt).trans X.c2
    refine op_load 24 (.tmp 8) rfl rfl (ldE q) ?_
    refine ⟨X.s.trans (hT.mono (Nat.le_of_lt X.lt)), ?_⟩
    simp only [Act.put, List.setIfInBounds_toArray, List.set_cons_succ, List.set_cons_zero]
    exact cop_011_110_0 hQ X fin _ hT g7 hg1 g11 hg2
  · refine wpOp_plain rfl rfl ?_
    have q : W.cell? ⟨h, 35, none⟩ = some (.slice s3 c.ps.length k3) := (hT.cell (p := ⟨h, 35, none⟩) X.lt).trans X.c3
    refine op_load 27 (.tmp 12) rfl rfl (ldI q) ?_
    refine ⟨X.s.trans (hT.mono (Nat.le_of_lt X.lt)), ?_⟩
    simp only [Act.put, List.setIfInBounds_toArray, List.set_cons_succ, List.set_cons_zero]
    exact cop_011_101_0 hQ X fin _ hT g7 hg1 g11 hg2
theorem cop_011_010_0 (hQ : ∀ (ch) (a : Act) (d : Nat) (v : Value) (w : World), Q (.panic ch) (a.put (some d) v) w → Q (.panic ch) a w) (X : Cop c w W1 h s1 s2 s3 k1 k2 k3) (fin : ∀ (u3 u7 u11 v1 v2 v3 : Value) (W : World), Below W1.heap.size W1 W → Fr 1 bcell W1.heap.size (bl c) v1 W → Fr 34 Ent.cells W1.heap.size c.es v2 W → Fr 32 (arr .u8 32) W1.heap.size c.ps v3 W → wpAnyH Try.prog .any copOps Q (fun w' => Below h w w') 5 #[true, true, true, true, true, true, true, true, true, true, true, true, true, false, false, false, false, false] ⟨#[.agg o.cells, .pointer (some ⟨h, 0, none⟩), .pointer (some ⟨h + 1, 0, none⟩), u3, .pointer (some ⟨h, 1, none⟩), .slice s1 c.nb k1, v1, u7, .pointer (some ⟨h, 2, none⟩), .slice s2 c.es.length k2, v2, u11, .pointer (some ⟨h, 35, none⟩), .slice s3 c.ps.length k3, v3, .pointer (some ⟨h, 1, none⟩), undef, undef, undef], []⟩ W) (W : World) (hT : Below W1.heap.size W1 W) (g7 : Nat) (hg1 : W1.heap.size ≤ g7) (g11 : Nat) (hg2 : W1.heap.size ≤ g11) : wpAnyH Try.prog .any copOps Q (fun w' => Below h w w') 12 #[false, true, false, false, true, true, true, false, true, true, false, false, false, false, false, false, false, false] ⟨#[.agg o.cells, .pointer (some ⟨h, 0, none⟩), .pointer (some ⟨h + 1, 0, none⟩), undef, .pointer (some ⟨h, 1, none⟩), undef, undef, .slice (some ⟨g7, 0, none⟩) 0 0, .pointer (some ⟨h, 2, none⟩), .slice s2 c.es.length k2, undef, .slice (some ⟨g11, 0, none⟩) 0 0, .pointer (some ⟨h, 35, none⟩), undef, undef, undef, undef, undef, undef], []⟩ W := by
  refine wpAnyH_all (rs := [0, 2, 10]) (by kernel_rfl) (by simp) fun i hi => ?_
  simp only [List.mem_cons, List.not_mem_nil, or_false] at hi
  rcases hi with rfl | rfl | rfl
  · refine wpOp_plain rfl rfl ?_
    refine op_build 22 rfl (bldB W) ?_
    have hB : Below W.heap.size W (W.alloc (.cells #[] 5)) := (Below.refl _ _).alloc (Nat.le_refl _) _
    have hT2 := hT.trans (hB.mono hT.size)
    refine ⟨X.s.trans (hT2.mono (Nat.le_of_lt X.lt)), ?_⟩
    simp only [Act.put, List.setIfInBounds_toArray, List.set_cons_zero]
    exact cop_111_010_0 hQ X fin _ hT2 W.heap.size hT.size g7 hg1 g11 hg2
  · refine wpOp_plain rfl rfl ?_
    have q : W.cell? ⟨h, 1, none⟩ = some (.slice s1 c.nb k1) := (hT.cell (p := ⟨h, 1, none⟩) X.lt).trans X.c1
    refine op_load 22 (.tmp 4) rfl rfl (ldB q) ?_
    refine ⟨X.s.trans (hT.mono (Nat.le_of_lt X.lt)), ?_⟩
    simp only [Act.put, List.setIfInBounds_toArray, List.set_cons_succ, List.set_cons_zero]
    exact cop_011_110_0 hQ X fin _ hT g7 hg1 g11 hg2
  · refine wpOp_plain rfl rfl ?_
    have q : W.cell? ⟨h, 35, none⟩ = some (.slice s3 c.ps.length k3) := (hT.cell (p := ⟨h, 35, none⟩) X.lt).trans X.c3
    refine op_load 27 (.tmp 12) rfl rfl (ldI q) ?_
    refine ⟨X.s.trans (hT.mono (Nat.le_of_lt X.lt)), ?_⟩
    simp only [Act.put, List.setIfInBounds_toArray, List.set_cons_succ, List.set_cons_zero]
    exact cop_011_011_0 hQ X fin _ hT g7 hg1 g11 hg2
theorem cop_011_001_0 (hQ : ∀ (ch) (a : Act) (d : Nat) (v : Value) (w : World), Q (.panic ch) (a.put (some d) v) w → Q (.panic ch) a w) (X : Cop c w W1 h s1 s2 s3 k1 k2 k3) (fin : ∀ (u3 u7 u11 v1 v2 v3 : Value) (W : World), Below W1.heap.size W1 W → Fr 1 bcell W1.heap.size (bl c) v1 W → Fr 34 Ent.cells W1.heap.size c.es v2 W → Fr 32 (arr .u8 32) W1.heap.size c.ps v3 W → wpAnyH Try.prog .any copOps Q (fun w' => Below h w w') 5 #[true, true, true, true, true, true, true, true, true, true, true, true, true, false, false, false, false, false] ⟨#[.agg o.cells, .pointer (some ⟨h, 0, none⟩), .pointer (some ⟨h + 1, 0, none⟩), u3, .pointer (some ⟨h, 1, none⟩), .slice s1 c.nb k1, v1, u7, .pointer (some ⟨h, 2, none⟩), .slice s2 c.es.length k2, v2, u11, .pointer (some ⟨h, 35, none⟩), .slice s3 c.ps.length k3, v3, .pointer (some ⟨h, 1, none⟩), undef, undef, undef], []⟩ W) (W : World) (hT : Below W1.heap.size W1 W) (g7 : Nat) (hg1 : W1.heap.size ≤ g7) (g11 : Nat) (hg2 : W1.heap.size ≤ g11) : wpAnyH Try.prog .any copOps Q (fun w' => Below h w w') 12 #[false, true, false, false, true, true, false, false, true, true, true, false, false, false, false, false, false, false] ⟨#[.agg o.cells, .pointer (some ⟨h, 0, none⟩), .pointer (some ⟨h + 1, 0, none⟩), undef, .pointer (some ⟨h, 1, none⟩), undef, undef, .slice (some ⟨g7, 0, none⟩) 0 0, .pointer (some ⟨h, 2, none⟩), undef, undef, .slice (some ⟨g11, 0, none⟩) 0 0, .pointer (some ⟨h, 35, none⟩), .slice s3 c.ps.length k3, undef, undef, undef, undef, undef], []⟩ W := by
  refine wpAnyH_all (rs := [0, 2, 6]) (by kernel_rfl) (by simp) fun i hi => ?_
  simp only [List.mem_cons, List.not_mem_nil, or_false] at hi
  rcases hi with rfl | rfl | rfl
  · refine wpOp_plain rfl rfl ?_
    refine op_build 22 rfl (bldB W) ?_
    have hB : Below W.heap.size W (W.alloc (.cells #[] 5)) := (Below.refl _ _).alloc (Nat.le_refl _) _
    have hT2 := hT.trans (hB.mono hT.size)
    refine ⟨X.s.trans (hT2.mono (Nat.le_of_lt X.lt)), ?_⟩
    simp only [Act.put, List.setIfInBounds_toArray, List.set_cons_zero]
    exact cop_111_001_0 hQ X fin _ hT2 W.heap.size hT.size g7 hg1 g11 hg2
  · refine wpOp_plain rfl rfl ?_
    have q : W.cell? ⟨h, 1, none⟩ = some (.slice s1 c.nb k1) := (hT.cell (p := ⟨h, 1, none⟩) X.lt).trans X.c1
    refine op_load 22 (.tmp 4) rfl rfl (ldB q) ?_
    refine ⟨X.s.trans (hT.mono (Nat.le_of_lt X.lt)), ?_⟩
    simp only [Act.put, List.setIfInBounds_toArray, List.set_cons_succ, List.set_cons_zero]
    exact cop_011_101_0 hQ X fin _ hT g7 hg1 g11 hg2
  · refine wpOp_plain rfl rfl ?_
    have q : W.cell? ⟨h, 2, none⟩ = some (.slice s2 c.es.length k2) := (hT.cell (p := ⟨h, 2, none⟩) X.lt).trans X.c2
    refine op_load 24 (.tmp 8) rfl rfl (ldE q) ?_
    refine ⟨X.s.trans (hT.mono (Nat.le_of_lt X.lt)), ?_⟩
    simp only [Act.put, List.setIfInBounds_toArray, List.set_cons_succ, List.set_cons_zero]
    exact cop_011_011_0 hQ X fin _ hT g7 hg1 g11 hg2
theorem cop_010_110_0 (hQ : ∀ (ch) (a : Act) (d : Nat) (v : Value) (w : World), Q (.panic ch) (a.put (some d) v) w → Q (.panic ch) a w) (X : Cop c w W1 h s1 s2 s3 k1 k2 k3) (fin : ∀ (u3 u7 u11 v1 v2 v3 : Value) (W : World), Below W1.heap.size W1 W → Fr 1 bcell W1.heap.size (bl c) v1 W → Fr 34 Ent.cells W1.heap.size c.es v2 W → Fr 32 (arr .u8 32) W1.heap.size c.ps v3 W → wpAnyH Try.prog .any copOps Q (fun w' => Below h w w') 5 #[true, true, true, true, true, true, true, true, true, true, true, true, true, false, false, false, false, false] ⟨#[.agg o.cells, .pointer (some ⟨h, 0, none⟩), .pointer (some ⟨h + 1, 0, none⟩), u3, .pointer (some ⟨h, 1, none⟩), .slice s1 c.nb k1, v1, u7, .pointer (some ⟨h, 2, none⟩), .slice s2 c.es.length k2, v2, u11, .pointer (some ⟨h, 35, none⟩), .slice s3 c.ps.length k3, v3, .pointer (some ⟨h, 1, none⟩), undef, undef, undef], []⟩ W) (W : World) (hT : Below W1.heap.size W1 W) (g7 : Nat) (hg1 : W1.heap.size ≤ g7) : wpAnyH Try.prog .any copOps Q (fun w' => Below h w w') 12 #[false, true, true, false, true, true, true, false, false, true, false, false, false, false, false, false, false, false] ⟨#[.agg o.cells, .pointer (some ⟨h, 0, none⟩), .pointer (some ⟨h + 1, 0, none⟩), undef, .pointer (some ⟨h, 1, none⟩), .slice s1 c.nb k1, undef, .slice (some ⟨g7, 0, none⟩) 0 0, .pointer (some ⟨h, 2, none⟩), .slice s2 c.es.length k2, undef, undef, .pointer (some ⟨h, 35, none⟩), undef, undef, undef, undef, undef, undef], []⟩ W := by
  refine wpAnyH_all (rs := [0, 8, 10]) (by kernel_rfl) (by simp) fun i hi => ?_
  simp only [List.mem_cons, List.not_mem_nil, or_false] at hi
  rcases hi with rfl | rfl | rfl
  · refine wpOp_plain rfl rfl ?_
    refine op_build 22 rfl (bldB W) ?_
    have hB : Below W.heap.size W (W.alloc (.cells #[] 5)) := (Below.refl _ _).alloc (Nat.le_refl _) _
    have hT2 := hT.trans (hB.mono hT.size)
    refine ⟨X.s.trans (hT2.mono (Nat.le_of_lt X.lt)), ?_⟩
    simp only [Act.put, List.setIfInBounds_toArray, List.set_cons_zero]
    exact cop_110_110_0 hQ X fin _ hT2 W.heap.size hT.size g7 hg1
  · refine wpOp_plain rfl rfl ?_
    refine op_build 27 rfl (bldI W) ?_
    have hB : Below W.heap.size W (W.alloc (.cells #[] 26)) := (Below.refl _ _).alloc (Nat.le_refl _) _
    have hT2 := hT.trans (hB.mono hT.size)
    refine ⟨X.s.trans (hT2.mono (Nat.le_of_lt X.lt)), ?_⟩
    simp only [Act.put, List.setIfInBounds_toArray, List.set_cons_succ, List.set_cons_zero]
    exact cop_011_110_0 hQ X fin _ hT2 g7 hg1 W.heap.size hT.size
  · refine wpOp_plain rfl rfl ?_
    have q : W.cell? ⟨h, 35, none⟩ = some (.slice s3 c.ps.length k3) := (hT.cell (p := ⟨h, 35, none⟩) X.lt).trans X.c3
    refine op_load 27 (.tmp 12) rfl rfl (ldI q) ?_
    refine ⟨X.s.trans (hT.mono (Nat.le_of_lt X.lt)), ?_⟩
    simp only [Act.put, List.setIfInBounds_toArray, List.set_cons_succ, List.set_cons_zero]
    exact cop_010_111_0 hQ X fin _ hT g7 hg1
theorem cop_010_101_0 (hQ : ∀ (ch) (a : Act) (d : Nat) (v : Value) (w : World), Q (.panic ch) (a.put (some d) v) w → Q (.panic ch) a w) (X : Cop c w W1 h s1 s2 s3 k1 k2 k3) (fin : ∀ (u3 u7 u11 v1 v2 v3 : Value) (W : World), Below W1.heap.size W1 W → Fr 1 bcell W1.heap.size (bl c) v1 W → Fr 34 Ent.cells W1.heap.size c.es v2 W → Fr 32 (arr .u8 32) W1.heap.size c.ps v3 W → wpAnyH Try.prog .any copOps Q (fun w' => Below h w w') 5 #[true, true, true, true, true, true, true, true, true, true, true, true, true, false, false, false, false, false] ⟨#[.agg o.cells, .pointer (some ⟨h, 0, none⟩), .pointer (some ⟨h + 1, 0, none⟩), u3, .pointer (some ⟨h, 1, none⟩), .slice s1 c.nb k1, v1, u7, .pointer (some ⟨h, 2, none⟩), .slice s2 c.es.length k2, v2, u11, .pointer (some ⟨h, 35, none⟩), .slice s3 c.ps.length k3, v3, .pointer (some ⟨h, 1, none⟩), undef, undef, undef], []⟩ W) (W : World) (hT : Below W1.heap.size W1 W) (g7 : Nat) (hg1 : W1.heap.size ≤ g7) : wpAnyH Try.prog .any copOps Q (fun w' => Below h w w') 12 #[false, true, true, false, true, true, false, false, false, true, true, false, false, false, false, false, false, false] ⟨#[.agg o.cells, .pointer (some ⟨h, 0, none⟩), .pointer (some ⟨h + 1, 0, none⟩), undef, .pointer (some ⟨h, 1, none⟩), .slice s1 c.nb k1, undef, .slice (some ⟨g7, 0, none⟩) 0 0, .pointer (some ⟨h, 2, none⟩), undef, undef, undef, .pointer (some ⟨h, 35, none⟩), .slice s3 c.ps.length k3, undef, undef, undef, undef, undef], []⟩ W := by
  refine wpAnyH_all (rs := [0, 6, 8]) (by kernel_rfl) (by simp) fun i hi => ?_
  simp only [List.mem_cons, List.not_mem_nil, or_false] at hi
  rcases hi with rfl | rfl | rfl
  · refine wpOp_plain rfl rfl ?_
    refine op_build 22 rfl (bldB W) ?_
    have hB : Below W.heap.size W (W.alloc (.cells #[] 5)) := (Below.refl _ _).alloc (Nat.le_refl _) _
    have hT2 := hT.trans (hB.mono hT.size)
    refine ⟨X.s.trans (hT2.mono (Nat.le_of_lt X.lt)), ?_⟩
    simp only [Act.put, List.setIfInBounds_toArray, List.set_cons_zero]
    exact cop_110_101_0 hQ X fin _ hT2 W.heap.size hT.size g7 hg1
  · refine wpOp_plain rfl rfl ?_
    have q : W.cell? ⟨h, 2, none⟩ = some (.slice s2 c.es.length k2) := (hT.cell (p := ⟨h, 2, none⟩) X.lt).trans X.c2
    refine op_load 24 (.tmp 8) rfl rfl (ldE q) ?_
    refine ⟨X.s.trans (hT.mono (Nat.le_of_lt X.lt)), ?_⟩
    simp only [Act.put, List.setIfInBounds_toArray, List.set_cons_succ, List.set_cons_zero]
    exact cop_010_111_0 hQ X fin _ hT g7 hg1
  · refine wpOp_plain rfl rfl ?_
    refine op_build 27 rfl (bldI W) ?_
    have hB : Below W.heap.size W (W.alloc (.cells #[] 26)) := (Below.refl _ _).alloc (Nat.le_refl _) _
    have hT2 := hT.trans (hB.mono hT.size)
    refine ⟨X.s.trans (hT2.mono (Nat.le_of_lt X.lt)), ?_⟩
    simp only [Act.put, List.setIfInBounds_toArray, List.set_cons_succ, List.set_cons_zero]
    exact cop_011_101_0 hQ X fin _ hT2 g7 hg1 W.heap.size hT.size
theorem cop_010_011_0 (hQ : ∀ (ch) (a : Act) (d : Nat) (v : Value) (w : World), Q (.panic ch) (a.put (some d) v) w → Q (.panic ch) a w) (X : Cop c w W1 h s1 s2 s3 k1 k2 k3) (fin : ∀ (u3 u7 u11 v1 v2 v3 : Value) (W : World), Below W1.heap.size W1 W → Fr 1 bcell W1.heap.size (bl c) v1 W → Fr 34 Ent.cells W1.heap.size c.es v2 W → Fr 32 (arr .u8 32) W1.heap.size c.ps v3 W → wpAnyH Try.prog .any copOps Q (fun w' => Below h w w') 5 #[true, true, true, true, true, true, true, true, true, true, true, true, true, false, false, false, false, false] ⟨#[.agg o.cells, .pointer (some ⟨h, 0, none⟩), .pointer (some ⟨h + 1, 0, none⟩), u3, .pointer (some ⟨h, 1, none⟩), .slice s1 c.nb k1, v1, u7, .pointer (some ⟨h, 2, none⟩), .slice s2 c.es.length k2, v2, u11, .pointer (some ⟨h, 35, none⟩), .slice s3 c.ps.length k3, v3, .pointer (some ⟨h, 1, none⟩), undef, undef, undef], []⟩ W) (W : World) (hT : Below W1.heap.size W1 W) (g7 : Nat) (hg1 : W1.heap.size ≤ g7) : wpAnyH Try.prog .any copOps Q (fun w' => Below h w w') 12 #[false, true, false, false, true, true, true, false, false, true, true, false, false, false, false, false, false, false] ⟨#[.agg o.cells, .pointer (some ⟨h, 0, none⟩), .pointer (some ⟨h + 1, 0, none⟩), undef, .pointer (some ⟨h, 1, none⟩), undef, undef, .slice (some ⟨g7, 0, none⟩) 0 0, .pointer (some ⟨h, 2, none⟩), .slice s2 c.es.length k2, undef, undef, .pointer (some ⟨h, 35, none⟩), .slice s3 c.ps.length k3, undef, undef, undef, undef, undef], []⟩ W := by
  refine wpAnyH_all (rs := [0, 2, 8]) (by kernel_rfl) (by simp) fun i hi => ?_
  simp only [List.mem_cons, List.not_mem_nil, or_false] at hi
  rcases hi with rfl | rfl | rfl
  · refine wpOp_plain rfl rfl ?_
    refine op_build 22 rfl (bldB W) ?_
    have hB : Below W.heap.size W (W.alloc (.cells #[] 5)) := (Below.refl _ _).alloc (Nat.le_refl _) _
    have hT2 := hT.trans (hB.mono hT.size)
    refine ⟨X.s.trans (hT2.mono (Nat.le_of_lt X.lt)), ?_⟩
    simp only [Act.put, List.setIfInBounds_toArray, List.set_cons_zero]
    exact cop_110_011_0 hQ X fin _ hT2 W.heap.size hT.size g7 hg1
  · refine wpOp_plain rfl rfl ?_
    have q : W.cell? ⟨h, 1, none⟩ = some (.slice s1 c.nb k1) := (hT.cell (p := ⟨h, 1, none⟩) X.lt).trans X.c1
    refine op_load 22 (.tmp 4) rfl rfl (ldB q) ?_
    refine ⟨X.s.trans (hT.mono (Nat.le_of_lt X.lt)), ?_⟩
    simp only [Act.put, List.setIfInBounds_toArray, List.set_cons_succ, List.set_cons_zero]
    exact cop_010_111_0 hQ X fin _ hT g7 hg1
  · refine wpOp_plain rfl rfl ?_
    refine op_build 27 rfl (bldI W) ?_
    have hB : Below W.heap.size W (W.alloc (.cells #[] 26)) := (Below.refl _ _).alloc (Nat.le_refl _) _
    have hT2 := hT.trans (hB.mono hT.size)
    refine ⟨X.s.trans (hT2.mono (Nat.le_of_lt X.lt)), ?_⟩
    simp only [Act.put, List.setIfInBounds_toArray, List.set_cons_succ, List.set_cons_zero]
    exact cop_011_011_0 hQ X fin _ hT2 g7 hg1 W.heap.size hT.size
theorem cop_001_110_0 (hQ : ∀ (ch) (a : Act) (d : Nat) (v : Value) (w : World), Q (.panic ch) (a.put (some d) v) w → Q (.panic ch) a w) (X : Cop c w W1 h s1 s2 s3 k1 k2 k3) (fin : ∀ (u3 u7 u11 v1 v2 v3 : Value) (W : World), Below W1.heap.size W1 W → Fr 1 bcell W1.heap.size (bl c) v1 W → Fr 34 Ent.cells W1.heap.size c.es v2 W → Fr 32 (arr .u8 32) W1.heap.size c.ps v3 W → wpAnyH Try.prog .any copOps Q (fun w' => Below h w w') 5 #[true, true, true, true, true, true, true, true, true, true, true, true, true, false, false, false, false, false] ⟨#[.agg o.cells, .pointer (some ⟨h, 0, none⟩), .pointer (some ⟨h + 1, 0, none⟩), u3, .pointer (some ⟨h, 1, none⟩), .slice s1 c.nb k1, v1, u7, .pointer (some ⟨h, 2, none⟩), .slice s2 c.es.length k2, v2, u11, .pointer (some ⟨h, 35, none⟩), .slice s3 c.ps.length k3, v3, .pointer (some ⟨h, 1, none⟩), undef, undef, undef], []⟩ W) (W : World) (hT : Below W1.heap.size W1 W) (g11 : Nat) (hg2 : W1.heap.size ≤ g11) : wpAnyH Try.prog .any copOps Q (fun w' => Below h w w') 12 #[false, true, true, false, false, true, true, false, true, true, false, false, false, false, false, false, false, false] ⟨#[.agg o.cells, .pointer (some ⟨h, 0, none⟩), .pointer (some ⟨h + 1, 0, none⟩), undef, .pointer (some ⟨h, 1, none⟩), .slice s1 c.nb k1, undef, undef, .pointer (some ⟨h, 2, none⟩), .slice s2 c.es.length k2, undef, .slice (some ⟨g11, 0, none⟩) 0 0, .pointer (some ⟨h, 35, none⟩), undef, undef, undef, undef, undef, undef], []⟩ W := by
  refine wpAnyH_all (rs := [0, 4, 10]) (by kernel_rfl) (by simp) fun i hi => ?_
  simp only [List.mem_cons, List.not_mem_nil, or_false] at hi
  rcases hi with rfl | rfl | rfl
  · refine wpOp_plain rfl rfl ?_
    refine op_build 22 rfl (bldB W) ?_
    have hB : Below W.heap.size W (W.alloc (.cells #[] 5)) := (Below.refl _ _).alloc (Nat.le_refl _) _
    have hT2 := hT.trans (hB.mono hT.size)
    refine ⟨X.s.trans (hT2.mono (Nat.le_of_lt X.lt)), ?_⟩
    simp only [Act.put, List.setIfInBounds_toArray, List.set_cons_zero]
    exact cop_101_110_0 hQ X fin _ hT2 W.heap.size hT.size g11 hg2
  · refine wpOp_plain rfl rfl ?_
    refine op_build 24 rfl (bldE W) ?_
    have hB : Below W.heap.size W (W.alloc (.cells #[] 40)) := (Below.refl _ _).alloc (Nat.le_refl _) _
    have hT2 := hT.trans (hB.mono hT.size)
    refine ⟨X.s.trans (hT2.mono (Nat.le_of_lt X.lt)), ?_⟩
    simp only [Act.put, List.setIfInBounds_toArray, List.set_cons_succ, List.set_cons_zero]
    exact cop_011_110_0 hQ X fin _ hT2 W.heap.size hT.size g11 hg2
  · refine wpOp_plain rfl rfl ?_
    have q : W.cell? ⟨h, 35, none⟩ = some (.slice s3 c.ps.length k3) := (hT.cell (p := ⟨h, 35, none⟩) X.lt).trans X.c3
    refine op_load 27 (.tmp 12) rfl rfl (ldI q) ?_
    refine ⟨X.s.trans (hT.mono (Nat.le_of_lt X.lt)), ?_⟩
    simp only [Act.put, List.setIfInBounds_toArray, List.set_cons_succ, List.set_cons_zero]
    exact cop_001_111_0 hQ X fin _ hT g11 hg2
theorem cop_001_101_0 (hQ : ∀ (ch) (a : Act) (d : Nat) (v : Value) (w : World), Q (.panic ch) (a.put (some d) v) w → Q (.panic ch) a w) (X : Cop c w W1 h s1 s2 s3 k1 k2 k3) (fin : ∀ (u3 u7 u11 v1 v2 v3 : Value) (W : World), Below W1.heap.size W1 W → Fr 1 bcell W1.heap.size (bl c) v1 W → Fr 34 Ent.cells W1.heap.size c.es v2 W → Fr 32 (arr .u8 32) W1.heap.size c.ps v3 W → wpAnyH Try.prog .any copOps Q (fun w' => Below h w w') 5 #[true, true, true, true, true, true, true, true, true, true, true, true, true, false, false, false, false, false] ⟨#[.agg o.cells, .pointer (some ⟨h, 0, none⟩), .pointer (some ⟨h + 1, 0, none⟩), u3, .pointer (some ⟨h, 1, none⟩), .slice s1 c.nb k1, v1, u7, .pointer (some ⟨h, 2, none⟩), .slice s2 c.es.length k2, v2, u11, .pointer (some ⟨h, 35, none⟩), .slice s3 c.ps.length k3, v3, .pointer (some ⟨h, 1, none⟩), undef, undef, undef], []⟩ W) (W : World) (hT : Below W1.heap.size W1 W) (g11 : Nat) (hg2 : W1.heap.size ≤ g11) : wpAnyH Try.prog .any copOps Q (fun w' => Below h w w') 12 #[false, true, true, false, false, true, false, false, true, true, true, false, false, false, false, false, false, false] ⟨#[.agg o.cells, .pointer (some ⟨h, 0, none⟩), .pointer (some ⟨h + 1, 0, none⟩), undef, .pointer (some ⟨h, 1, none⟩), .slice s1 c.nb k1, undef, undef, .pointer (some ⟨h, 2, none⟩), undef, undef, .slice (some ⟨g11, 0, none⟩) 0 0, .pointer (some ⟨h, 35, none⟩), .slice s3 c.ps.length k3, undef, undef, undef, undef, undef], []⟩ W := by
  refine wpAnyH_all (rs := [0, 4, 6]) (by kernel_rfl) (by simp) fun i hi => ?_
  simp only [List.mem_cons, List.not_mem_nil, or_false] at hi
  rcases hi with rfl | rfl | rfl
  · refine wpOp_plain rfl rfl ?_
    refine op_build 22 rfl (bldB W) ?_
    have hB : Below W.heap.size W (W.alloc (.cells #[] 5)) := (Below.refl _ _).alloc (Nat.le_refl _) _
    have hT2 := hT.trans (hB.mono hT.size)
    refine ⟨X.s.trans (hT2.mono (Nat.le_of_lt X.lt)), ?_⟩
    simp only [Act.put, List.setIfInBounds_toArray, List.set_cons_zero]
    exact cop_101_101_0 hQ X fin _ hT2 W.heap.size hT.size g11 hg2
  · refine wpOp_plain rfl rfl ?_
    refine op_build 24 rfl (bldE W) ?_
    have hB : Below W.heap.size W (W.alloc (.cells #[] 40)) := (Below.refl _ _).alloc (Nat.le_refl _) _
    have hT2 := hT.trans (hB.mono hT.size)
    refine ⟨X.s.trans (hT2.mono (Nat.le_of_lt X.lt)), ?_⟩
    simp only [Act.put, List.setIfInBounds_toArray, List.set_cons_succ, List.set_cons_zero]
    exact cop_011_101_0 hQ X fin _ hT2 W.heap.size hT.size g11 hg2
  · refine wpOp_plain rfl rfl ?_
    have q : W.cell? ⟨h, 2, none⟩ = some (.slice s2 c.es.length k2) := (hT.cell (p := ⟨h, 2, none⟩) X.lt).trans X.c2
    refine op_load 24 (.tmp 8) rfl rfl (ldE q) ?_
    refine ⟨X.s.trans (hT.mono (Nat.le_of_lt X.lt)), ?_⟩
    simp only [Act.put, List.setIfInBounds_toArray, List.set_cons_succ, List.set_cons_zero]
    exact cop_001_111_0 hQ X fin _ hT g11 hg2
theorem cop_001_011_0 (hQ : ∀ (ch) (a : Act) (d : Nat) (v : Value) (w : World), Q (.panic ch) (a.put (some d) v) w → Q (.panic ch) a w) (X : Cop c w W1 h s1 s2 s3 k1 k2 k3) (fin : ∀ (u3 u7 u11 v1 v2 v3 : Value) (W : World), Below W1.heap.size W1 W → Fr 1 bcell W1.heap.size (bl c) v1 W → Fr 34 Ent.cells W1.heap.size c.es v2 W → Fr 32 (arr .u8 32) W1.heap.size c.ps v3 W → wpAnyH Try.prog .any copOps Q (fun w' => Below h w w') 5 #[true, true, true, true, true, true, true, true, true, true, true, true, true, false, false, false, false, false] ⟨#[.agg o.cells, .pointer (some ⟨h, 0, none⟩), .pointer (some ⟨h + 1, 0, none⟩), u3, .pointer (some ⟨h, 1, none⟩), .slice s1 c.nb k1, v1, u7, .pointer (some ⟨h, 2, none⟩), .slice s2 c.es.length k2, v2, u11, .pointer (some ⟨h, 35, none⟩), .slice s3 c.ps.length k3, v3, .pointer (some ⟨h, 1, none⟩), undef, undef, undef], []⟩ W) (W : World) (hT : Below W1.heap.size W1 W) (g11 : Nat) (hg2 : W1.heap.size ≤ g11) : wpAnyH Try.prog .any copOps Q (fun w' => Below h w w') 12 #[false, true, false, false, false, true, true, false, true, true, true, false, false, false, false, false, false, false] ⟨#[.agg o.cells, .pointer (some ⟨h, 0, none⟩), .pointer (some ⟨h + 1, 0, none⟩), undef, .pointer (some ⟨h, 1, none⟩), undef, undef, undef, .pointer (some ⟨h, 2, none⟩), .slice s2 c.es.length k2, undef, .slice (some ⟨g11, 0, none⟩) 0 0, .pointer (some ⟨h, 35, none⟩), .slice s3 c.ps.length k3, undef, undef, undef, undef, undef], []⟩ W := by
  refine wpAnyH_all (rs := [0, 2, 4]) (by kernel_rfl) (by simp) fun i hi => ?_
  simp only [List.mem_cons, List.not_mem_nil, or_false] at hi
  rcases hi with rfl | rfl | rfl
  · refine wpOp_plain rfl rfl ?_
    refine op_build 22 rfl (bldB W) ?_
    have hB : Below W.heap.size W (W.alloc (.cells #[] 5)) := (Below.refl _ _).alloc (Nat.le_refl _) _
    have hT2 := hT.trans (hB.mono hT.size)
    refine ⟨X.s.trans (hT2.mono (Nat.le_of_lt X.lt)), ?_⟩
    simp only [Act.put, List.setIfInBounds_toArray, List.set_cons_zero]
    exact cop_101_011_0 hQ X fin _ hT2 W.heap.size hT.size g11 hg2
  · refine wpOp_plain rfl rfl ?_
    have q : W.cell? ⟨h, 1, none⟩ = some (.slice s1 c.nb k1) := (hT.cell (p := ⟨h, 1, none⟩) X.lt).trans X.c1
    refine op_load 22 (.tmp 4) rfl rfl (ldB q) ?_
    refine ⟨X.s.trans (hT.mono (Nat.le_of_lt X.lt)), ?_⟩
    simp only [Act.put, List.setIfInBounds_toArray, List.set_cons_succ, List.set_cons_zero]
    exact cop_001_111_0 hQ X fin _ hT g11 hg2
  · refine wpOp_plain rfl rfl ?_
    refine op_build 24 rfl (bldE W) ?_
    have hB : Below W.heap.size W (W.alloc (.cells #[] 40)) := (Below.refl _ _).alloc (Nat.le_refl _) _
    have hT2 := hT.trans (hB.mono hT.size)
    refine ⟨X.s.trans (hT2.mono (Nat.le_of_lt X.lt)), ?_⟩
    simp only [Act.put, List.setIfInBounds_toArray, List.set_cons_succ, List.set_cons_zero]
    exact cop_011_011_0 hQ X fin _ hT2 W.heap.size hT.size g11 hg2
theorem cop_000_111_0 (hQ : ∀ (ch) (a : Act) (d : Nat) (v : Value) (w : World), Q (.panic ch) (a.put (some d) v) w → Q (.panic ch) a w) (X : Cop c w W1 h s1 s2 s3 k1 k2 k3) (fin : ∀ (u3 u7 u11 v1 v2 v3 : Value) (W : World), Below W1.heap.size W1 W → Fr 1 bcell W1.heap.size (bl c) v1 W → Fr 34 Ent.cells W1.heap.size c.es v2 W → Fr 32 (arr .u8 32) W1.heap.size c.ps v3 W → wpAnyH Try.prog .any copOps Q (fun w' => Below h w w') 5 #[true, true, true, true, true, true, true, true, true, true, true, true, true, false, false, false, false, false] ⟨#[.agg o.cells, .pointer (some ⟨h, 0, none⟩), .pointer (some ⟨h + 1, 0, none⟩), u3, .pointer (some ⟨h, 1, none⟩), .slice s1 c.nb k1, v1, u7, .pointer (some ⟨h, 2, none⟩), .slice s2 c.es.length k2, v2, u11, .pointer (some ⟨h, 35, none⟩), .slice s3 c.ps.length k3, v3, .pointer (some ⟨h, 1, none⟩), undef, undef, undef], []⟩ W) (W : World) (hT : Below W1.heap.size W1 W) : wpAnyH Try.prog .any copOps Q (fun w' => Below h w w') 12 #[false, true, true, false, false, true, true, false, false, true, true, false, false, false, false, false, false, false] ⟨#[.agg o.cells, .pointer (some ⟨h, 0, none⟩), .pointer (some ⟨h + 1, 0, none⟩), undef, .pointer (some ⟨h, 1, none⟩), .slice s1 c.nb k1, undef, undef, .pointer (some ⟨h, 2, none⟩), .slice s2 c.es.length k2, undef, undef, .pointer (some ⟨h, 35, none⟩), .slice s3 c.ps.length k3, undef, undef, undef, undef, undef], []⟩ W := by
  refine wpAnyH_all (rs := [0, 4, 8]) (by kernel_rfl) (by simp) fun i hi => ?_
  simp only [List.mem_cons, List.not_mem_nil, or_false] at hi
  rcases hi with rfl | rfl | rfl
  · refine wpOp_plain rfl rfl ?_
    refine op_build 22 rfl (bldB W) ?_
    have hB : Below W.heap.size W (W.alloc (.cells #[] 5)) := (Below.refl _ _).alloc (Nat.le_refl _) _
    have hT2 := hT.trans (hB.mono hT.size)
    refine ⟨X.s.trans (hT2.mono (Nat.le_of_lt X.lt)), ?_⟩
    simp only [Act.put, List.setIfInBounds_toArray, List.set_cons_zero]
    exact cop_100_111_0 hQ X fin _ hT2 W.heap.size hT.size
  · refine wpOp_plain rfl rfl ?_
    refine op_build 24 rfl (bldE W) ?_
    have hB : Below W.heap.size W (W.alloc (.cells #[] 40)) := (Below.refl _ _).alloc (Nat.le_refl _) _
    have hT2 := hT.trans (hB.mono hT.size)
    refine ⟨X.s.trans (hT2.mono (Nat.le_of_lt X.lt)), ?_⟩
    simp only [Act.put, List.setIfInBounds_toArray, List.set_cons_succ, List.set_cons_zero]
    exact cop_010_111_0 hQ X fin _ hT2 W.heap.size hT.size
  · refine wpOp_plain rfl rfl ?_
    refine op_build 27 rfl (bldI W) ?_
    have hB : Below W.heap.size W (W.alloc (.cells #[] 26)) := (Below.refl _ _).alloc (Nat.le_refl _) _
    have hT2 := hT.trans (hB.mono hT.size)
    refine ⟨X.s.trans (hT2.mono (Nat.le_of_lt X.lt)), ?_⟩
    simp only [Act.put, List.setIfInBounds_toArray, List.set_cons_succ, List.set_cons_zero]
    exact cop_001_111_0 hQ X fin _ hT2 W.heap.size hT.size
theorem cop_110_000_0 (hQ : ∀ (ch) (a : Act) (d : Nat) (v : Value) (w : World), Q (.panic ch) (a.put (some d) v) w → Q (.panic ch) a w) (X : Cop c w W1 h s1 s2 s3 k1 k2 k3) (fin : ∀ (u3 u7 u11 v1 v2 v3 : Value) (W : World), Below W1.heap.size W1 W → Fr 1 bcell W1.heap.size (bl c) v1 W → Fr 34 Ent.cells W1.heap.size c.es v2 W → Fr 32 (arr .u8 32) W1.heap.size c.ps v3 W → wpAnyH Try.prog .any copOps Q (fun w' => Below h w w') 5 #[true, true, true, true, true, true, true, true, true, true, true, true, true, false, false, false, false, false] ⟨#[.agg o.cells, .pointer (some ⟨h, 0, none⟩), .pointer (some ⟨h + 1, 0, none⟩), u3, .pointer (some ⟨h, 1, none⟩), .slice s1 c.nb k1, v1, u7, .pointer (some ⟨h, 2, none⟩), .slice s2 c.es.length k2, v2, u11, .pointer (some ⟨h, 35, none⟩), .slice s3 c.ps.length k3, v3, .pointer (some ⟨h, 1, none⟩), undef, undef, undef], []⟩ W) (W : World) (hT : Below W1.heap.size W1 W) (g3 : Nat) (hg0 : W1.heap.size ≤ g3) (g7 : Nat) (hg1 : W1.heap.size ≤ g7) : wpAnyH Try.prog .any copOps Q (fun w' => Below h w w') 13 #[true, true, false, false, true, true, false, false, false, true, false, false, false, false, false, false, false, false] ⟨#[.agg o.cells, .pointer (some ⟨h, 0, none⟩), .pointer (some ⟨h + 1, 0, none⟩), .slice (some ⟨g3, 0, none⟩) 0 0, .pointer (some ⟨h, 1, none⟩), undef, undef, .slice (some ⟨g7, 0, none⟩) 0 0, .pointer (some ⟨h, 2, none⟩), undef, undef, undef, .pointer (some ⟨h, 35, none⟩), undef, undef, undef, undef, undef, undef], []⟩ W := by
  refine wpAnyH_all (rs := [2, 6, 8, 10]) (by kernel_rfl) (by simp) fun i hi => ?_
  simp only [List.mem_cons, List.not_mem_nil, or_false] at hi
  rcases hi with rfl | rfl | rfl | rfl
  · refine wpOp_plain rfl rfl ?_
    have q : W.cell? ⟨h, 1, none⟩ = some (.slice s1 c.nb k1) := (hT.cell (p := ⟨h, 1, none⟩) X.lt).trans X.c1
    refine op_load 22 (.tmp 4) rfl rfl (ldB q) ?_
    refine ⟨X.s.trans (hT.mono (Nat.le_of_lt X.lt)), ?_⟩
    simp only [Act.put, List.setIfInBounds_toArray, List.set_cons_succ, List.set_cons_zero]
    exact cop_110_100_0 hQ X fin _ hT g3 hg0 g7 hg1
  · refine wpOp_plain rfl rfl ?_
    have q : W.cell? ⟨h, 2, none⟩ = some (.slice s2 c.es.length k2) := (hT.cell (p := ⟨h, 2, none⟩) X.lt).trans X.c2
    refine op_load 24 (.tmp 8) rfl rfl (ldE q) ?_
    refine ⟨X.s.trans (hT.mono (Nat.le_of_lt X.lt)), ?_⟩
    simp only [Act.put, List.setIfInBounds_toArray, List.set_cons_succ, List.set_cons_zero]
    exact cop_110_010_0 hQ X fin _ hT g3 hg0 g7 hg1
  · refine wpOp_plain rfl rfl ?_
    refine op_build 27 rfl (bldI W) ?_
    have hB : Below W.heap.size W (W.alloc (.cells #[] 26)) := (Below.refl _ _).alloc (Nat.le_refl _) _
    have hT2 := hT.trans (hB.mono hT.size)
    refine ⟨X.s.trans (hT2.mono (Nat.le_of_lt X.lt)), ?_⟩
    simp only [Act.put, List.setIfInBounds_toArray, List.set_cons_succ, List.set_cons_zero]
    exact cop_111_000_0 hQ X fin _ hT2 g3 hg0 g7 hg1 W.heap.size hT.size
  · refine wpOp_plain rfl rfl ?_
    have q : W.cell? ⟨h, 35, none⟩ = some (.slice s3 c.ps.length k3) := (hT.cell (p := ⟨h, 35, none⟩) X.lt).trans X.c3
    refine op_load 27 (.tmp 12) rfl rfl (ldI q) ?_
    refine ⟨X.s.trans (hT.mono (Nat.le_of_lt X.lt)), ?_⟩
    simp only [Act.put, List.setIfInBounds_toArray, List.set_cons_succ, List.set_cons_zero]
    exact cop_110_001_0 hQ X fin _ hT g3 hg0 g7 hg1
theorem cop_101_000_0 (hQ : ∀ (ch) (a : Act) (d : Nat) (v : Value) (w : World), Q (.panic ch) (a.put (some d) v) w → Q (.panic ch) a w) (X : Cop c w W1 h s1 s2 s3 k1 k2 k3) (fin : ∀ (u3 u7 u11 v1 v2 v3 : Value) (W : World), Below W1.heap.size W1 W → Fr 1 bcell W1.heap.size (bl c) v1 W → Fr 34 Ent.cells W1.heap.size c.es v2 W → Fr 32 (arr .u8 32) W1.heap.size c.ps v3 W → wpAnyH Try.prog .any copOps Q (fun w' => Below h w w') 5 #[true, true, true, true, true, true, true, true, true, true, true, true, true, false, false, false, false, false] ⟨#[.agg o.cells, .pointer (some ⟨h, 0, none⟩), .pointer (some ⟨h + 1, 0, none⟩), u3, .pointer (some ⟨h, 1, none⟩), .slice s1 c.nb k1, v1, u7, .pointer (some ⟨h, 2, none⟩), .slice s2 c.es.length k2, v2, u11, .pointer (some ⟨h, 35, none⟩), .slice s3 c.ps.length k3, v3, .pointer (some ⟨h, 1, none⟩), undef, undef, undef], []⟩ W) (W : World) (hT : Below W1.heap.size W1 W) (g3 : Nat) (hg0 : W1.heap.size ≤ g3) (g11 : Nat) (hg2 : W1.heap.size ≤ g11) : wpAnyH Try.prog .any copOps Q (fun w' => Below h w w') 13 #[true, true, false, false, false, true, false, false, true, true, false, false, false, false, false, false, false, false] ⟨#[.agg o.cells, .pointer (some ⟨h, 0, none⟩), .pointer (some ⟨h + 1, 0, none⟩), .slice (some ⟨g3, 0, none⟩) 0 0, .pointer (some ⟨h, 1, none⟩), undef, undef, undef, .pointer (some ⟨h, 2, none⟩), undef, undef, .slice (some ⟨g11, 0, none⟩) 0 0, .pointer (some ⟨h, 35, none⟩), undef, undef, undef, undef, undef, undef], []⟩ W := by
  refine wpAnyH_all (rs := [2, 4, 6, 10]) (by kernel_rfl) (by simp) fun i hi => ?_
  simp only [List.mem_cons, List.not_mem_nil, or_false] at hi
  rcases hi with rfl | rfl | rfl | rfl
  · refine wpOp_plain rfl rfl ?_
    have q : W.cell? ⟨h, 1, none⟩ = some (.slice s1 c.nb k1) := (hT.cell (p := ⟨h, 1, none⟩) X.lt).trans X.c1
    refine op_load 22 (.tmp 4) rfl rfl (ldB q) ?_
    refine ⟨X.s.trans (hT.mono (Nat.le_of_lt X.lt)), ?_⟩
    simp only [Act.put, List.setIfInBounds_toArray, List.set_cons_succ, List.set_cons_zero]
    exact cop_101_100_0 hQ X fin _ hT g3 hg0 g11 hg2
  · refine wpOp_plain rfl rfl ?_
    refine op_build 24 rfl (bldE W) ?_
    have hB : Below W.heap.size W (W.alloc (.cells #[] 40)) := (Below.refl _ _).alloc (Nat.le_refl _) _
    have hT2 := hT.trans (hB.mono hT.size)
    refine ⟨X.s.trans (hT2.mono (Nat.le_of_lt X.lt)), ?_⟩
    simp only [Act.put, List.setIfInBounds_toArray, List.set_cons_succ, List.set_cons_zero]
    exact cop_111_000_0 hQ X fin _ hT2 g3 hg0 W.heap.size hT.size g11 hg2
  · refine wpOp_plain rfl rfl ?_
    have q : W.cell? ⟨h, 2, none⟩ = some (.slice s2 c.es.length k2) := (hT.cell (p := ⟨h, 2, none⟩) X.lt).trans X.c2
    refine op_load 24 (.tmp 8) rfl rfl (ldE q) ?_
    refine ⟨X.s.trans (hT.mono (Nat.le_of_lt X.lt)), ?_⟩
    simp only [Act.put, List.setIfInBounds_toArray, List.set_cons_succ, List.set_cons_zero]
    exact cop_101_010_0 hQ X fin _ hT g3 hg0 g11 hg2
  · refine wpOp_plain rfl rfl ?_
    have q : W.cell? ⟨h, 35, none⟩ = some (.slice s3 c.ps.length k3) := (hT.cell (p := ⟨h, 35, none⟩) X.lt).trans X.c3
    refine op_load 27 (.tmp 12) rfl rfl (ldI q) ?_
    refine ⟨X.s.trans (hT.mono (Nat.le_of_lt X.lt)), ?_⟩
    simp only [Act.put, List.setIfInBounds_toArray, List.set_cons_succ, List.set_cons_zero]
    exact cop_101_001_0 hQ X fin _ hT g3 hg0 g11 hg2
theorem cop_100_100_0 (hQ : ∀ (ch) (a : Act) (d : Nat) (v : Value) (w : World), Q (.panic ch) (a.put (some d) v) w → Q (.panic ch) a w) (X : Cop c w W1 h s1 s2 s3 k1 k2 k3) (fin : ∀ (u3 u7 u11 v1 v2 v3 : Value) (W : World), Below W1.heap.size W1 W → Fr 1 bcell W1.heap.size (bl c) v1 W → Fr 34 Ent.cells W1.heap.size c.es v2 W → Fr 32 (arr .u8 32) W1.heap.size c.ps v3 W → wpAnyH Try.prog .any copOps Q (fun w' => Below h w w') 5 #[true, true, true, true, true, true, true, true, true, true, true, true, true, false, false, false, false, false] ⟨#[.agg o.cells, .pointer (some ⟨h, 0, none⟩), .pointer (some ⟨h + 1, 0, none⟩), u3, .pointer (some ⟨h, 1, none⟩), .slice s1 c.nb k1, v1, u7, .pointer (some ⟨h, 2, none⟩), .slice s2 c.es.length k2, v2, u11, .pointer (some ⟨h, 35, none⟩), .slice s3 c.ps.length k3, v3, .pointer (some ⟨h, 1, none⟩), undef, undef, undef], []⟩ W) (W : World) (hT : Below W1.heap.size W1 W) (g3 : Nat) (hg0 : W1.heap.size ≤ g3) : wpAnyH Try.prog .any copOps Q (fun w' => Below h w w') 13 #[true, true, true, false, false, true, false, false, false, true, false, false, false, false, false, false, false, false] ⟨#[.agg o.cells, .pointer (some ⟨h, 0, none⟩), .pointer (some ⟨h + 1, 0, none⟩), .slice (some ⟨g3, 0, none⟩) 0 0, .pointer (some ⟨h, 1, none⟩), .slice s1 c.nb k1, undef, undef, .pointer (some ⟨h, 2, none⟩), undef, undef, undef, .pointer (some ⟨h, 35, none⟩), undef, undef, undef, undef, undef, undef], []⟩ W := by
  refine wpAnyH_all (rs := [3, 4, 6, 8, 10]) (by kernel_rfl) (by simp) fun i hi => ?_
  simp only [List.mem_cons, List.not_mem_nil, or_false] at hi
  rcases hi with rfl | rfl | rfl | rfl | rfl
  · refine wpOp_plain rfl rfl ?_
    obtain ⟨v, W', hr, hB, hF⟩ := appB X hT hg0 22
    refine op_append (.tmp 3) (.tmp 5) 22 rfl rfl rfl hr ?_
    have hT2 := hT.trans (hB.mono hT.size)
    refine ⟨X.s.trans (hT2.mono (Nat.le_of_lt X.lt)), ?_⟩
    simp only [Act.put, List.setIfInBounds_toArray, List.set_cons_succ, List.set_cons_zero]
    exact cop_100_100_1 hQ X fin _ hT2 g3 hg0 v hF
  · refine wpOp_plain rfl rfl ?_
    refine op_build 24 rfl (bldE W) ?_
    have hB : Below W.heap.size W (W.alloc (.cells #[] 40)) := (Below.refl _ _).alloc (Nat.le_refl _) _
    have hT2 := hT.trans (hB.mono hT.size)
    refine ⟨X.s.trans (hT2.mono (Nat.le_of_lt X.lt)), ?_⟩
    simp only [Act.put, List.setIfInBounds_toArray, List.set_cons_succ, List.set_cons_zero]
    exact cop_110_100_0 hQ X fin _ hT2 g3 hg0 W.heap.size hT.size
  · refine wpOp_plain rfl rfl ?_
    have q : W.cell? ⟨h, 2, none⟩ = some (.slice s2 c.es.length k2) := (hT.cell (p := ⟨h, 2, none⟩) X.lt).trans X.c2
    refine op_load 24 (.tmp 8) rfl rfl (ldE q) ?_
    refine ⟨X.s.trans (hT.mono (Nat.le_of_lt X.lt)), ?_⟩
    simp only [Act.put, List.setIfInBounds_toArray, List.set_cons_succ, List.set_cons_zero]
    exact cop_100_110_0 hQ X fin _ hT g3 hg0
  · refine wpOp_plain rfl rfl ?_
    refine op_build 27 rfl (bldI W) ?_
    have hB : Below W.heap.size W (W.alloc (.cells #[] 26)) := (Below.refl _ _).alloc (Nat.le_refl _) _
    have hT2 := hT.trans (hB.mono hT.size)
    refine ⟨X.s.trans (hT2.mono (Nat.le_of_lt X.lt)), ?_⟩
    simp only [Act.put, List.setIfInBounds_toArray, List.set_cons_succ, List.set_cons_zero]
    exact cop_101_100_0 hQ X fin _ hT2 g3 hg0 W.heap.size hT.size
  · refine wpOp_plain rfl rfl ?_
    have q : W.cell? ⟨h, 35, none⟩ = some (.slice s3 c.ps.length k3) := (hT.cell (p := ⟨h, 35, none⟩) X.lt).trans X.c3
    refine op_load 27 (.tmp 12) rfl rfl (ldI q) ?_
    refine ⟨X.s.trans (hT.mono (Nat.le_of_lt X.lt)), ?_⟩
    simp only [Act.put, List.setIfInBounds_toArray, List.set_cons_succ, List.set_cons_zero]
    exact cop_100_101_0 hQ X fin _ hT g3 hg0
theorem cop_100_010_0 (hQ : ∀ (ch) (a : Act) (d : Nat) (v : Value) (w : World), Q (.panic ch) (a.put (some d) v) w → Q (.panic ch) a w) (X : Cop c w W1 h s1 s2 s3 k1 k2 k3) (fin : ∀ (u3 u7 u11 v1 v2 v3 : Value) (W : World), Below W1.heap.size W1 W → Fr 1 bcell W1.heap.size (bl c) v1 W → Fr 34 Ent.cells W1.heap.size c.es v2 W → Fr 32 (arr .u8 32) W1.heap.size c.ps v3 W → wpAnyH Try.prog .any copOps Q (fun w' => Below h w w') 5 #[true, true, true, true, true, true, true, true, true, true, true, true, true, false, false, false, false, false] ⟨#[.agg o.cells, .pointer (some ⟨h, 0, none⟩), .pointer (some ⟨h + 1, 0, none⟩), u3, .pointer (some ⟨h, 1, none⟩), .slice s1 c.nb k1, v1, u7, .pointer (some ⟨h, 2, none⟩), .slice s2 c.es.length k2, v2, u11, .pointer (some ⟨h, 35, none⟩), .slice s3 c.ps.length k3, v3, .pointer (some ⟨h, 1, none⟩), undef, undef, undef], []⟩ W) (W : World) (hT : Below W1.heap.size W1 W) (g3 : Nat) (hg0 : W1.heap.size ≤ g3) : wpAnyH Try.prog .any copOps Q (fun w' => Below h w w') 13 #[true, true, false, false, false, true, true, false, false, true, false, false, false, false, false, false, false, false] ⟨#[.agg o.cells, .pointer (some ⟨h, 0, none⟩), .pointer (some ⟨h + 1, 0, none⟩), .slice (some ⟨g3, 0, none⟩) 0 0, .pointer (some ⟨h, 1, none⟩), undef, undef, undef, .pointer (some ⟨h, 2, none⟩), .slice s2 c.es.length k2, undef, undef, .pointer (some ⟨h, 35, none⟩), undef, undef, undef, undef, undef, undef], []⟩ W := by
  refine wpAnyH_all (rs := [2, 4, 8, 10]) (by kernel_rfl) (by simp) fun i hi => ?_
  simp only [List.mem_cons, List.not_mem_nil, or_false] at hi
  rcases hi with rfl | rfl | rfl | rfl
  · refine wpOp_plain rfl rfl ?_
    have q : W.cell? ⟨h, 1, none⟩ = some (.slice s1 c.nb k1) := (hT.cell (p := ⟨h, 1, none⟩) X.lt).trans X.c1
    refine op_load 22 (.tmp 4) rfl rfl (ldB q) ?_
    refine ⟨X.s.trans (hT.mono (Nat.le_of_lt X.lt)), ?_⟩
    simp only [Act.put, List.setIfInBounds_toArray, List.set_cons_succ, List.set_cons_zero]
    exact cop_100_110_0 hQ X fin _ hT g3 hg0
  · refine wpOp_plain rfl rfl ?_
    refine op_build 24 rfl (bldE W) ?_
    have hB : Below W.heap.size W (W.alloc (.cells #[] 40)) := (Below.refl _ _).alloc (Nat.le_refl _) _
    have hT2 := hT.trans (hB.mono hT.size)
    refine ⟨X.s.trans (hT2.mono (Nat.le_of_lt X.lt)), ?_⟩
    simp only [Act.put, List.setIfInBounds_toArray, List.set_cons_succ, List.set_cons_zero]
    exact cop_110_010_0 hQ X fin _ hT2 g3 hg0 W.heap.size hT.size
  · refine wpOp_plain rfl rfl ?_
    refine op_build 27 rfl (bldI W) ?_
    have hB : Below W.heap.size W (W.alloc (.cells #[] 26)) := (Below.refl _ _).alloc (Nat.le_refl _) _
    have hT2 := hT.trans (hB.mono hT.size)
    refine ⟨X.s.trans (hT2.mono (Nat.le_of_lt X.lt)), ?_⟩
    simp only [Act.put, List.setIfInBounds_toArray, List.set_cons_succ, List.set_cons_zero]
    exact cop_101_010_0 hQ X fin _ hT2 g3 hg0 W.heap.size hT.size
  · refine wpOp_plain rfl rfl ?_
    have q : W.cell? ⟨h, 35, none⟩ = some (.slice s3 c.ps.length k3) := (hT.cell (p := ⟨h, 35, none⟩) X.lt).trans X.c3
    refine op_load 27 (.tmp 12) rfl rfl (ldI q) ?_
    refine ⟨X.s.trans (hT.mono (Nat.le_of_lt X.lt)), ?_⟩
    simp only [Act.put, List.setIfInBounds_toArray, List.set_cons_succ, List.set_cons_zero]
    exact cop_100_011_0 hQ X fin _ hT g3 hg0
theorem cop_100_001_0 (hQ : ∀ (ch) (a : Act) (d : Nat) (v : Value) (w : World), Q (.panic ch) (a.put (some d) v) w → Q (.panic ch) a w) (X : Cop c w W1 h s1 s2 s3 k1 k2 k3) (fin : ∀ (u3 u7 u11 v1 v2 v3 : Value) (W : World), Below W1.heap.size W1 W → Fr 1 bcell W1.heap.size (bl c) v1 W → Fr 34 Ent.cells W1.heap.size c.es v2 W → Fr 32 (arr .u8 32) W1.heap.size c.ps v3 W → wpAnyH Try.prog .any copOps Q (fun w' => Below h w w') 5 #[true, true, true, true, true, true, true, true, true, true, true, true, true, false, false, false, false, false] ⟨#[.agg o.cells, .pointer (some ⟨h, 0, none⟩), .pointer (some ⟨h + 1, 0, none⟩), u3, .pointer (some ⟨h, 1, none⟩), .slice s1 c.nb k1, v1, u7, .pointer (some ⟨h, 2, none⟩), .slice s2 c.es.length k2, v2, u11, .pointer (some ⟨h, 35, none⟩), .slice s3 c.ps.length k3, v3, .pointer (some ⟨h, 1, none⟩), undef, undef, undef], []⟩ W) (W : World) (hT : Below W1.heap.size W1 W) (g3 : Nat) (hg0 : W1.heap.size ≤ g3) : wpAnyH Try.prog .any copOps Q (fun w' => Below h w w') 13 #[true, true, false, false, false, true, false, false, false, true, true, false, false, false, false, false, false, false] ⟨#[.agg o.cells, .pointer (some ⟨h, 0, none⟩), .pointer (some ⟨h + 1, 0, none⟩), .slice (some ⟨g3, 0, none⟩) 0 0, .pointer (some ⟨h, 1, none⟩), undef, undef, undef, .pointer (some ⟨h, 2, none⟩), undef, undef, undef, .pointer (some ⟨h, 35, none⟩), .slice s3 c.ps.length k3, undef, undef, undef, undef, undef], []⟩ W := by
  refine wpAnyH_all (rs := [2, 4, 6, 8]) (by kernel_rfl) (by simp) fun i hi => ?_
  simp only [List.mem_cons, List.not_mem_nil, or_false] at hi
  rcases hi with rfl | rfl | rfl | rfl
  · refine wpOp_plain rfl rfl ?_
    have q : W.cell? ⟨h, 1, none⟩ = some (.slice s1 c.nb k1) := (hT.cell (p := ⟨h, 1, none⟩) X.lt).trans X.c1
    refine op_load 22 (.tmp 4) rfl rfl (ldB q) ?_
    refine ⟨X.s.trans (hT.mono (Nat.le_of_lt X.lt)), ?_⟩
    simp only [Act.put, List.setIfInBounds_toArray, List.set_cons_succ, List.set_cons_zero]
    exact cop_100_101_0 hQ X fin _ hT g3 hg0
  · refine wpOp_plain rfl rfl ?_
    refine op_build 24 rfl (bldE W) ?_
    have hB : Below W.heap.size W (W.alloc (.cells #[] 40)) := (Below.refl _ _).alloc (Nat.le_refl _) _
    have hT2 := hT.trans (hB.mono hT.size)
    refine ⟨X.s.trans (hT2.mono (Nat.le_of_lt X.lt)), ?_⟩
    simp only [Act.put, List.setIfInBounds_toArray, List.set_cons_succ, List.set_cons_zero]
    exact cop_110_001_0 hQ X fin _ hT2 g3 hg0 W.heap.size hT.size
  · refine wpOp_plain rfl rfl ?_
    have q : W.cell? ⟨h, 2, none⟩ = some (.slice s2 c.es.length k2) := (hT.cell (p := ⟨h, 2, none⟩) X.lt).trans X.c2
    refine op_load 24 (.tmp 8) rfl rfl (ldE q) ?_
    refine ⟨X.s.trans (hT.mono (Nat.le_of_lt X.lt)), ?_⟩
    simp only [Act.put, List.setIfInBounds_toArray, List.set_cons_succ, List.set_cons_zero]
    exact cop_100_011_0 hQ X fin _ hT g3 hg0
  · refine wpOp_plain rfl rfl ?_
    refine op_build 27 rfl (bldI W) ?_
    have hB : Below W.heap.size W (W.alloc (.cells #[] 26)) := (Below.refl _ _).alloc (Nat.le_refl _) _
    have hT2 := hT.trans (hB.mono hT.size)
    refine ⟨X.s.trans (hT2.mono (Nat.le_of_lt X.lt)), ?_⟩
    simp only [Act.put, List.setIfInBounds_toArray, List.set_cons_succ, List.set_cons_zero]
    exact cop_101_001_0 hQ X fin _ hT2 g3 hg0 W.heap.size hT.size
theorem cop_011_000_0 (hQ : ∀ (ch) (a : Act) (d : Nat) (v : Value) (w : World), Q (.panic ch) (a.put (some d) v) w → Q (.panic ch) a w) (X : Cop c w W1 h s1 s2 s3 k1 k2 k3) (fin : ∀ (u3 u7 u11 v1 v2 v3 : Value) (W : World), Below W1.heap.size W1 W → Fr 1 bcell W1.heap.size (bl c) v1 W → Fr 34 Ent.cells W1.heap.size c.es v2 W → Fr 32 (arr .u8 32) W1.heap.size c.ps v3 W → wpAnyH Try.prog .any copOps Q (fun w' => Below h w w') 5 #[true, true, true, true, true, true, true, true, true, true, true, true, true, false, false, false, false, false] ⟨#[.agg o.cells, .pointer (some ⟨h, 0, none⟩), .pointer (some ⟨h + 1, 0, none⟩), u3, .pointer (some ⟨h, 1, none⟩), .slice s1 c.nb k1, v1, u7, .pointer (some ⟨h, 2, none⟩), .slice s2 c.es.length k2, v2, u11, .pointer (some ⟨h, 35, none⟩), .slice s3 c.ps.length k3, v3, .pointer (some ⟨h, 1, none⟩), undef, undef, undef], []⟩ W) (W : World) (hT : Below W1.heap.size W1 W) (g7 : Nat) (hg1 : W1.heap.size ≤ g7) (g11 : Nat) (hg2 : W1.heap.size ≤ g11) : wpAnyH Try.prog .any copOps Q (fun w' => Below h w w') 13 #[false, true, false, false, true, true, false, false, true, true, false, false, false, false, false, false, false, false] ⟨#[.agg o.cells, .pointer (some ⟨h, 0, none⟩), .pointer (some ⟨h + 1, 0, none⟩), undef, .pointer (some ⟨h, 1, none⟩), undef, undef, .slice (some ⟨g7, 0, none⟩) 0 0, .pointer (some ⟨h, 2, none⟩), undef, undef, .slice (some ⟨g11, 0, none⟩) 0 0, .pointer (some ⟨h, 35, none⟩), undef, undef, undef, undef, undef, undef], []⟩ W := by
  refine wpAnyH_all (rs := [0, 2, 6, 10]) (by kernel_rfl) (by simp) fun i hi => ?_
  simp only [List.mem_cons, List.not_mem_nil, or_false] at hi
  rcases hi with rfl | rfl | rfl | rfl
  · refine wpOp_plain rfl rfl ?_
    refine op_build 22 rfl (bldB W) ?_
    have hB : Below W.heap.size W (W.alloc (.cells #[] 5)) := (Below.refl _ _).alloc (Nat.le_refl _) _
    have hT2 := hT.trans (hB.mono hT.size)
    refine ⟨X.s.trans (hT2.mono (Nat.le_of_lt X.lt)), ?_⟩
    simp only [Act.put, List.setIfInBounds_toArray, List.set_cons_zero]
    exact cop_111_000_0 hQ X fin _ hT2 W.heap.size hT.size g7 hg1 g11 hg2
  · refine wpOp_plain rfl rfl ?_
    have q : W.cell? ⟨h, 1, none⟩ = some (.slice s1 c.nb k1) := (hT.cell (p := ⟨h, 1, none⟩) X.lt).trans X.c1
    refine op_load 22 (.tmp 4) rfl rfl (ldB q) ?_
    refine ⟨X.s.trans (hT.mono (Nat.le_of_lt X.lt)), ?_⟩
    simp only [Act.put, List.setIfInBounds_toArray, List.set_cons_succ, List.set_cons_zero]
    exact cop_011_100_0 hQ X fin _ hT g7 hg1 g11 hg2
  · refine wpOp_plain rfl rfl ?_
    have q : W.cell? ⟨h, 2, none⟩ = some (.slice s2 c.es.length k2) := (hT.cell (p := ⟨h, 2, none⟩) X.lt).trans X.c2
    refine op_load 24 (.tmp 8) rfl rfl (ldE q) ?_
    refine ⟨X.s.trans (hT.mono (Nat.le_of_lt X.lt)), ?_⟩
    simp only [Act.put, List.setIfInBounds_toArray, List.set_cons_succ, List.set_cons_zero]
    exact cop_011_010_0 hQ X fin _ hT g7 hg1 g11 hg2
  · refine wpOp_plain rfl rfl ?_
    have q : W.cell? ⟨h, 35, none⟩ = some (.slice s3 c.ps.length k3) := (hT.cell (p := ⟨h, 35, none⟩) X.lt).trans X.c3
    refine op_load 27 (.tmp 12) rfl rfl (ldI q) ?_
    refine ⟨X.s.trans (hT.mono (Nat.le_of_lt X.lt)), ?_⟩
    simp only [Act.put, List.setIfInBounds_toArray, List.set_cons_succ, List.set_cons_zero]
    exact cop_011_001_0 hQ X fin _ hT g7 hg1 g11 hg2
theorem cop_010_100_0 (hQ : ∀ (ch) (a : Act) (d : Nat) (v : Value) (w : World), Q (.panic ch) (a.put (some d) v) w → Q (.panic ch) a w) (X : Cop c w W1 h s1 s2 s3 k1 k2 k3) (fin : ∀ (u3 u7 u11 v1 v2 v3 : Value) (W : World), Below W1.heap.size W1 W → Fr 1 bcell W1.heap.size (bl c) v1 W → Fr 34 Ent.cells W1.heap.size c.es v2 W → Fr 32 (arr .u8 32) W1.heap.size c.ps v3 W → wpAnyH Try.prog .any copOps Q (fun w' => Below h w w') 5 #[true, true, true, true, true, true, true, true, true, true, true, true, true, false, false, false, false, false] ⟨#[.agg o.cells, .pointer (some ⟨h, 0, none⟩), .pointer (some ⟨h + 1, 0, none⟩), u3, .pointer (some ⟨h, 1, none⟩), .slice s1 c.nb k1, v1, u7, .pointer (some ⟨h, 2, none⟩), .slice s2 c.es.length k2, v2, u11, .pointer (some ⟨h, 35, none⟩), .slice s3 c.ps.length k3, v3, .pointer (some ⟨h, 1, none⟩), undef, undef, undef], []⟩ W) (W : World) (hT : Below W1.heap.size W1 W) (g7 : Nat) (hg1 : W1.heap.size ≤ g7) : wpAnyH Try.prog .any copOps Q (fun w' => Below h w w') 13 #[false, true, true, false, true, true, false, false, false, true, false, false, false, false, false, false, false, false] ⟨#[.agg o.cells, .pointer (some ⟨h, 0, none⟩), .pointer (some ⟨h + 1, 0, none⟩), undef, .pointer (some ⟨h, 1, none⟩), .slice s1 c.nb k1, undef, .slice (some ⟨g7, 0, none⟩) 0 0, .pointer (some ⟨h, 2, none⟩), undef, undef, undef, .pointer (some ⟨h, 35, none⟩), undef, undef, undef, undef, undef, undef], []⟩ W := by
  refine wpAnyH_all (rs := [0, 6, 8, 10]) (by kernel_rfl) (by simp) fun i hi => ?_
  simp only [List.mem_cons, List.not_mem_nil, or_false] at hi
  rcases hi with rfl | rfl | rfl | rfl
  · refine wpOp_plain rfl rfl ?_
    refine op_build 22 rfl (bldB W) ?_
    have hB : Below W.heap.size W (W.alloc (.cells #[] 5)) := (Below.refl _ _).alloc (Nat.le_refl _) _
    have hT2 := hT.trans (hB.mono hT.size)
    refine ⟨X.s.trans (hT2.mono (Nat.le_of_lt X.lt)), ?_⟩
    simp only [Act.put, List.setIfInBounds_toArray, List.set_cons_zero]
    exact cop_110_100_0 hQ X fin _ hT2 W.heap.size hT.size g7 hg1
  · refine wpOp_plain rfl rfl ?_
    have q : W.cell? ⟨h, 2, none⟩ = some (.slice s2 c.es.length k2) := (hT.cell (p := ⟨h, 2, none⟩) X.lt).trans X.c2
    refine op_load 24 (.tmp 8) rfl rfl (ldE q) ?_
    refine ⟨X.s.trans (hT.mono (Nat.le_of_lt X.lt)), ?_⟩
    simp only [Act.put, List.setIfInBounds_toArray, List.set_cons_succ, List.set_cons_zero]
    exact cop_010_110_0 hQ X fin _ hT g7 hg1
  · refine wpOp_plain rfl rfl ?_
    refine op_build 27 rfl (bldI W) ?_
    have hB : Below W.heap.size W (W.alloc (.cells #[] 26)) := (Below.refl _ _).alloc (Nat.le_refl _) _
    have hT2 := hT.trans (hB.mono hT.size)
    refine ⟨X.s.trans (hT2.mono (Nat.le_of_lt X.lt)), ?_⟩
    simp only [Act.put, List.setIfInBounds_toArray, List.set_cons_succ, List.set_cons_zero]
    exact cop_011_100_0 hQ X fin _ hT2 g7 hg1 W.heap.size hT.size
  · refine wpOp_plain rfl rfl ?_
    have q : W.cell? ⟨h, 35, none⟩ = some (.slice s3 c.ps.length k3) := (hT.cell (p := ⟨h, 35, none⟩) X.lt).trans X.c3
    refine op_load 27 (.tmp 12) rfl rfl (ldI q) ?_
    refine ⟨X.s.trans (hT.mono (Nat.le_of_lt X.lt)), ?_⟩
    simp only [Act.put, List.setIfInBounds_toArray, List.set_cons_succ, List.set_cons_zero]
    exact cop_010_101_0 hQ X fin _ hT g7 hg1
theorem cop_010_010_0 (hQ : ∀ (ch) (a : Act) (d : Nat) (v : Value) (w : World), Q (.panic ch) (a.put (some d) v) w → Q (.panic ch) a w) (X : Cop c w W1 h s1 s2 s3 k1 k2 k3) (fin : ∀ (u3 u7 u11 v1 v2 v3 : Value) (W : World), Below W1.heap.size W1 W → Fr 1 bcell W1.heap.size (bl c) v1 W → Fr 34 Ent.cells W1.heap.size c.es v2 W → Fr 32 (arr .u8 32) W1.heap.size c.ps v3 W → wpAnyH Try.prog .any copOps Q (fun w' => Below h w w') 5 #[true, true, true, true, true, true, true, true, true, true, true, true, true, false, false, false, false, false] ⟨#[.agg o.cells, .pointer (some ⟨h, 0, none⟩), .pointer (some ⟨h + 1, 0, none⟩), u3, .pointer (some ⟨h, 1, none⟩), .slice s1 c.nb k1, v1, u7, .pointer (some ⟨h, 2, none⟩), .slice s2 c.es.length k2, v2, u11, .pointer (some ⟨h, 35, none⟩), .slice s3 c.ps.length k3, v3, .pointer (some ⟨h, 1, none⟩), undef, undef, undef], []⟩ W) (W : World) (hT : Below W1.heap.size W1 W) (g7 : Nat) (hg1 : W1.heap.size ≤ g7) : wpAnyH Try.prog .any copOps Q (fun w' => Below h w w') 13 #[false, true, false, false, true, true, true, false, false, true, false, false, false, false, false, false, false, false] ⟨#[.agg o.cells, .pointer (some ⟨h, 0, none⟩), .pointer (some ⟨h + 1, 0, none⟩), undef, .pointer (some ⟨h, 1, none⟩), undef, undef, .slice (some ⟨g7, 0, none⟩) 0 0, .pointer (some ⟨h, 2, none⟩), .slice s2 c.es.length k2, undef, undef, .pointer (some ⟨h, 35, none⟩), undef, undef, undef, undef, undef, undef], []⟩ W := by
  refine wpAnyH_all (rs := [0, 2, 8, 10]) (by kernel_rfl) (by simp) fun i hi => ?_
  simp only [List.mem_cons, List.not_mem_nil, or_false] at hi
  rcases hi with rfl | rfl | rfl | rfl
  · refine wpOp_plain rfl rfl ?_
    refine op_build 22 rfl (bldB W) ?_
    have hB : Below W.heap.size W (W.alloc (.cells #[] 5)) := (Below.refl _ _).alloc (Nat.le_refl _) _
    have hT2 := hT.trans (hB.mono hT.size)
    refine ⟨X.s.trans (hT2.mono (Nat.le_of_lt X.lt)), ?_⟩
    simp only [Act.put, List.setIfInBounds_toArray, List.set_cons_zero]
    exact cop_110_010_0 hQ X fin _ hT2 W.heap.size hT.size g7 hg1
  · refine wpOp_plain rfl rfl ?_
    have q : W.cell? ⟨h, 1, none⟩ = some (.slice s1 c.nb k1) := (hT.cell (p := ⟨h, 1, none⟩) X.lt).trans X.c1
    refine op_load 22 (.tmp 4) rfl rfl (ldB q) ?_
    refine ⟨X.s.trans (hT.mono (Nat.le_of_lt X.lt)), ?_⟩
    simp only [Act.put, List.setIfInBounds_toArray, List.set_cons_succ, List.set_cons_zero]
    exact cop_010_110_0 hQ X fin _ hT g7 hg1
  · refine wpOp_plain rfl rfl ?_
    refine op_build 27 rfl (bldI W) ?_
    have hB : Below W.heap.size W (W.alloc (.cells #[] 26)) := (Below.refl _ _).alloc (Nat.le_refl _) _
    have hT2 := hT.trans (hB.mono hT.size)
    refine ⟨X.s.trans (hT2.mono (Nat.le_of_lt X.lt)), ?_⟩
    simp only [Act.put, List.setIfInBounds_toArray, List.set_cons_succ, List.set_cons_zero]
    exact cop_011_010_0 hQ X fin _ hT2 g7 hg1 W.heap.size hT.size
  · refine wpOp_plain rfl rfl ?_
    have q : W.cell? ⟨h, 35, none⟩ = some (.slice s3 c.ps.length k3) := (hT.cell (p := ⟨h, 35, none⟩) X.lt).trans X.c3
    refine op_load 27 (.tmp 12) rfl rfl (ldI q) ?_
    refine ⟨X.s.trans (hT.mono (Nat.le_of_lt X.lt)), ?_⟩
    simp only [Act.put, List.setIfInBounds_toArray, List.set_cons_succ, List.set_cons_zero]
    exact cop_010_011_0 hQ X fin _ hT g7 hg1
theorem cop_010_001_0 (hQ : ∀ (ch) (a : Act) (d : Nat) (v : Value) (w : World), Q (.panic ch) (a.put (some d) v) w → Q (.panic ch) a w) (X : Cop c w W1 h s1 s2 s3 k1 k2 k3) (fin : ∀ (u3 u7 u11 v1 v2 v3 : Value) (W : World), Below W1.heap.size W1 W → Fr 1 bcell W1.heap.size (bl c) v1 W → Fr 34 Ent.cells W1.heap.size c.es v2 W → Fr 32 (arr .u8 32) W1.heap.size c.ps v3 W → wpAnyH Try.prog .any copOps Q (fun w' => Below h w w') 5 #[true, true, true, true, true, true, true, true, true, true, true, true, true, false, false, false, false, false] ⟨#[.agg o.cells, .pointer (some ⟨h, 0, none⟩), .pointer (some ⟨h + 1, 0, none⟩), u3, .pointer (some ⟨h, 1, none⟩), .slice s1 c.nb k1, v1, u7, .pointer (some ⟨h, 2, none⟩), .slice s2 c.es.length k2, v2, u11, .pointer (some ⟨h, 35, none⟩), .slice s3 c.ps.length k3, v3, .pointer (some ⟨h, 1, none⟩), undef, undef, undef], []⟩ W) (W : World) (hT : Below W1.heap.size W1 W) (g7 : Nat) (hg1 : W1.heap.size ≤ g7) : wpAnyH Try.prog .any copOps Q (fun w' => Below h w w') 13 #[false, true, false, false, true, true, false, false, false, true, true, false, false, false, false, false, false, false] ⟨#[.agg o.cells, .pointer (some ⟨h, 0, none⟩), .pointer (some ⟨h + 1, 0, none⟩), undef, .pointer (some ⟨h, 1, none⟩), undef, undef, .slice (some ⟨g7, 0, none⟩) 0 0, .pointer (some ⟨h, 2, none⟩), undef, undef, undef, .pointer (some ⟨h, 35, none⟩), .slice s3 c.ps.length k3, undef, undef, undef, undef, undef], []⟩ W := by
  refine wpAnyH_all (rs := [0, 2, 6, 8]) (by kernel_rfl) (by simp) fun i hi => ?_
  simp only [List.mem_cons, List.not_mem_nil, or_false] at hi
  rcases hi with rfl | rfl | rfl | rfl
  · refine wpOp_plain rfl rfl ?_
    refine op_build 22 rfl (bldB W) ?_
    have hB : Below W.heap.size W (W.alloc (.cells #[] 5)) := (Below.refl _ _).alloc (Nat.le_refl _) _
    have hT2 := hT.trans (hB.mono hT.size)
    refine ⟨X.s.trans (hT2.mono (Nat.le_of_lt X.lt)), ?_⟩
    simp only [Act.put, List.setIfInBounds_toArray, List.set_cons_zero]
    exact cop_110_001_0 hQ X fin _ hT2 W.heap.size hT.size g7 hg1
  · refine wpOp_plain rfl rfl ?_
    have q : W.cell? ⟨h, 1, none⟩ = some (.slice s1 c.nb k1) := (hT.cell (p := ⟨h, 1, none⟩) X.lt).trans X.c1
    refine op_load 22 (.tmp 4) rfl rfl (ldB q) ?_
    refine ⟨X.s.trans (hT.mono (Nat.le_of_lt X.lt)), ?_⟩
    simp only [Act.put, List.setIfInBounds_toArray, List.set_cons_succ, List.set_cons_zero]
    exact cop_010_101_0 hQ X fin _ hT g7 hg1
  · refine wpOp_plain rfl rfl ?_
    have q : W.cell? ⟨h, 2, none⟩ = some (.slice s2 c.es.length k2) := (hT.cell (p := ⟨h, 2, none⟩) X.lt).trans X.c2
    refine op_load 24 (.tmp 8) rfl rfl (ldE q) ?_
    refine ⟨X.s.trans (hT.mono (Nat.le_of_lt X.lt)), ?_⟩
    simp only [Act.put, List.setIfInBounds_toArray, List.set_cons_succ, List.set_cons_zero]
    exact cop_010_011_0 hQ X fin _ hT g7 hg1
  · refine wpOp_plain rfl rfl ?_
    refine op_build 27 rfl (bldI W) ?_
    have hB : Below W.heap.size W (W.alloc (.cells #[] 26)) := (Below.refl _ _).alloc (Nat.le_refl _) _
    have hT2 := hT.trans (hB.mono hT.size)
    refine ⟨X.s.trans (hT2.mono (Nat.le_of_lt X.lt)), ?_⟩
    simp only [Act.put, List.setIfInBounds_toArray, List.set_cons_succ, List.set_cons_zero]
    exact cop_011_001_0 hQ X fin _ hT2 g7 hg1 W.heap.size hT.size
theorem cop_001_100_0 (hQ : ∀ (ch) (a : Act) (d : Nat) (v : Value) (w : World), Q (.panic ch) (a.put (some d) v) w → Q (.panic ch) a w) (X : Cop c w W1 h s1 s2 s3 k1 k2 k3) (fin : ∀ (u3 u7 u11 v1 v2 v3 : Value) (W : World), Below W1.heap.size W1 W → Fr 1 bcell W1.heap.size (bl c) v1 W → Fr 34 Ent.cells W1.heap.size c.es v2 W → Fr 32 (arr .u8 32) W1.heap.size c.ps v3 W → wpAnyH Try.prog .any copOps Q (fun w' => Below h w w') 5 #[true, true, true, true, true, true, true, true, true, true, true, true, true, false, false, false, false, false] ⟨#[.agg o.cells, .pointer (some ⟨h, 0, none⟩), .pointer (some ⟨h + 1, 0, none⟩), u3, .pointer (some ⟨h, 1, none⟩), .slice s1 c.nb k1, v1, u7, .pointer (some ⟨h, 2, none⟩), .slice s2 c.es.length k2, v2, u11, .pointer (some ⟨h, 35, none⟩), .slice s3 c.ps.length k3, v3, .pointer (some ⟨h, 1, none⟩), undef, undef, undef], []⟩ W) (W : World) (hT : Below W1.heap.size W1 W) (g11 : Nat) (hg2 : W1.heap.size ≤ g11) : wpAnyH Try.prog .any copOps Q (fun w' => Below h w w') 13 #[false, true, true, false, false, true, false, false, true, true, false, false, false, false, false, false, false, false] ⟨#[.agg o.cells, .pointer (some ⟨h, 0, none⟩), .pointer (some ⟨h + 1, 0, none⟩), undef, .pointer (some ⟨h, 1, none⟩), .slice s1 c.nb k1, undef, undef, .pointer (some ⟨h, 2, none⟩), undef, undef, .slice (some ⟨g11, 0, none⟩) 0 0, .pointer (some ⟨h, 35, none⟩), undef, undef, undef, undef, undef, undef], []⟩ W := by
  refine wpAnyH_all (rs := [0, 4, 6, 10]) (by kernel_rfl) (by simp) fun i hi => ?_
  simp only [List.mem_cons, List.not_mem_nil, or_false] at hi
  rcases hi with rfl | rfl | rfl | rfl
  · refine wpOp_plain rfl rfl ?_
    refine op_build 22 rfl (bldB W) ?_
    have hB : Below W.heap.size W (W.alloc (.cells #[] 5)) := (Below.refl _ _).alloc (Nat.le_refl _) _
    have hT2 := hT.trans (hB.mono hT.size)
    refine ⟨X.s.trans (hT2.mono (Nat.le_of_lt X.lt)), ?_⟩
    simp only [Act.put, List.setIfInBounds_toArray, List.set_cons_zero]
    exact cop_101_100_0 hQ X fin _ hT2 W.heap.size hT.size g11 hg2
  · refine wpOp_plain rfl rfl ?_
    refine op_build 24 rfl (bldE W) ?_
    have hB : Below W.heap.size W (W.alloc (.cells #[] 40)) := (Below.refl _ _).alloc (Nat.le_refl _) _
    have hT2 := hT.trans (hB.mono hT.size)
    refine ⟨X.s.trans (hT2.mono (Nat.le_of_lt X.lt)), ?_⟩
    simp only [Act.put, List.setIfInBounds_toArray, List.set_cons_succ, List.set_cons_zero]
    exact cop_011_100_0 hQ X fin _ hT2 W.heap.size hT.size g11 hg2
  · refine wpOp_plain rfl rfl ?_
    have q : W.cell? ⟨h, 2, none⟩ = some (.slice s2 c.es.length k2) := (hT.cell (p := ⟨h, 2, none⟩) X.lt).trans X.c2
    refine op_load 24 (.tmp 8) rfl rfl (ldE q) ?_
    refine ⟨X.s.trans (hT.mono (Nat.le_of_lt X.lt)), ?_⟩
    simp only [Act.put, List.setIfInBounds_toArray, List.set_cons_succ, List.set_cons_zero]
    exact cop_001_110_0 hQ X fin _ hT g11 hg2
  · refine wpOp_plain rfl rfl ?_
    have q : W.cell? ⟨h, 35, none⟩ = some (.slice s3 c.ps.length k3) := (hT.cell (p := ⟨h, 35, none⟩) X.lt).trans X.c3
    refine op_load 27 (.tmp 12) rfl rfl (ldI q) ?_
    refine ⟨X.s.trans (hT.mono (Nat.le_of_lt X.lt)), ?_⟩
    simp only [Act.put, List.setIfInBounds_toArray, List.set_cons_succ, List.set_cons_zero]
    exact cop_001_101_0 hQ X fin _ hT g11 hg2
theorem cop_001_010_0 (hQ : ∀ (ch) (a : Act) (d : Nat) (v : Value) (w : World), Q (.panic ch) (a.put (some d) v) w → Q (.panic ch) a w) (X : Cop c w W1 h s1 s2 s3 k1 k2 k3) (fin : ∀ (u3 u7 u11 v1 v2 v3 : Value) (W : World), Below W1.heap.size W1 W → Fr 1 bcell W1.heap.size (bl c) v1 W → Fr 34 Ent.cells W1.heap.size c.es v2 W → Fr 32 (arr .u8 32) W1.heap.size c.ps v3 W → wpAnyH Try.prog .any copOps Q (fun w' => Below h w w') 5 #[true, true, true, true, true, true, true, true, true, true, true, true, true, false, false, false, false, false] ⟨#[.agg o.cells, .pointer (some ⟨h, 0, none⟩), .pointer (some ⟨h + 1, 0, none⟩), u3, .pointer (some ⟨h, 1, none⟩), .slice s1 c.nb k1, v1, u7, .pointer (some ⟨h, 2, none⟩), .slice s2 c.es.length k2, v2, u11, .pointer (some ⟨h, 35, none⟩), .slice s3 c.ps.length k3, v3, .pointer (some ⟨h, 1, none⟩), undef, undef, undef], []⟩ W) (W : World) (hT : Below W1.heap.size W1 W) (g11 : Nat) (hg2 : W1.heap.size ≤ g11) : wpAnyH Try.prog .any copOps Q (fun w' => Below h w w') 13 #[false, true, false, false, false, true, true, false, true, true, false, false, false, false, false, false, false, false] ⟨#[.agg o.cells, .pointer (some ⟨h, 0, none⟩), .pointer (some ⟨h + 1, 0, none⟩), undef, .pointer (some ⟨h, 1, none⟩), undef, undef, undef, .pointer (some ⟨h, 2, none⟩), .slice s2 c.es.length k2, undef, .slice (some ⟨g11, 0, none⟩) 0 0, .pointer (some ⟨h, 35, none⟩), undef, undef, undef, undef, undef, undef], []⟩ W := by
  refine wpAnyH_all (rs := [0, 2, 4, 10]) (by kernel_rfl) (by simp) fun i hi => ?_
  simp only [List.mem_cons, List.not_mem_nil, or_false] at hi
  rcases hi with rfl | rfl | rfl | rfl
  · refine wpOp_plain rfl rfl ?_
    refine op_build 22 rfl (bldB W) ?_
    have hB : Below W.heap.size W (W.alloc (.cells #[] 5)) := (Below.refl _ _).alloc (Nat.le_refl _) _
    have hT2 := hT.trans (hB.mono hT.size)
    refine ⟨X.s.trans (hT2.mono (Nat.le_of_lt X.lt)), ?_⟩
    simp only [Act.put, List.setIfInBounds_toArray, List.set_cons_zero]
    exact cop_101_010_0 hQ X fin _ hT2 W.heap.size hT.size g11 hg2
  · refine wpOp_plain rfl rfl ?_
    have q : W.cell? ⟨h, 1, none⟩ = some (.slice s1 c.nb k1) := (hT.cell (p := ⟨h, 1, none⟩) X.lt).trans X.c1
    refine op_load 22 (.tmp 4) rfl rfl (ldB q) ?_
    refine ⟨X.s.trans (hT.mono (Nat.le_of_lt X.lt)), ?_⟩
    simp only [Act.put, List.setIfInBounds_toArray, List.set_cons_succ, List.set_cons_zero]
    exact cop_001_110_0 hQ X fin _ hT g11 hg2
  · refine wpOp_plain rfl rfl ?_
    refine op_build 24 rfl (bldE W) ?_
    have hB : Below W.heap.size W (W.alloc (.cells #[] 40)) := (Below.refl _ _).alloc (Nat.le_refl _) _
    have hT2 := hT.trans (hB.mono hT.size)
    refine ⟨X.s.trans (hT2.mono (Nat.le_of_lt X.lt)), ?_⟩
    simp only [Act.put, List.setIfInBounds_toArray, List.set_cons_succ, List.set_cons_zero]
    exact cop_011_010_0 hQ X fin _ hT2 W.heap.size hT.size g11 hg2
  · refine wpOp_plain rfl rfl ?_
    have q : W.cell? ⟨h, 35, none⟩ = some (.slice s3 c.ps.length k3) := (hT.cell (p := ⟨h, 35, none⟩) X.lt).trans X.c3
    refine op_load 27 (.tmp 12) rfl rfl (ldI q) ?_
    refine ⟨X.s.trans (hT.mono (Nat.le_of_lt X.lt)), ?_⟩
    simp only [Act.put, List.setIfInBounds_toArray, List.set_cons_succ, List.set_cons_zero]
    exact cop_001_011_0 hQ X fin _ hT g11 hg2
theorem cop_001_001_0 (hQ : ∀ (ch) (a : Act) (d : Nat) (v : Value) (w : World), Q (.panic ch) (a.put (some d) v) w → Q (.panic ch) a w) (X : Cop c w W1 h s1 s2 s3 k1 k2 k3) (fin : ∀ (u3 u7 u11 v1 v2 v3 : Value) (W : World), Below W1.heap.size W1 W → Fr 1 bcell W1.heap.size (bl c) v1 W → Fr 34 Ent.cells W1.heap.size c.es v2 W → Fr 32 (arr .u8 32) W1.heap.size c.ps v3 W → wpAnyH Try.prog .any copOps Q (fun w' => Below h w w') 5 #[true, true, true, true, true, true, true, true, true, true, true, true, true, false, false, false, false, false] ⟨#[.agg o.cells, .pointer (some ⟨h, 0, none⟩), .pointer (some ⟨h + 1, 0, none⟩), u3, .pointer (some ⟨h, 1, none⟩), .slice s1 c.nb k1, v1, u7, .pointer (some ⟨h, 2, none⟩), .slice s2 c.es.length k2, v2, u11, .pointer (some ⟨h, 35, none⟩), .slice s3 c.ps.length k3, v3, .pointer (some ⟨h, 1, none⟩), undef, undef, undef], []⟩ W) (W : World) (hT : Below W1.heap.size W1 W) (g11 : Nat) (hg2 : W1.heap.size ≤ g11) : wpAnyH Try.prog .any copOps Q (fun w' => Below h w w') 13 #[false, true, false, false, false, true, false, false, true, true, true, false, false, false, false, false, false, false] ⟨#[.agg o.cells, .pointer (some ⟨h, 0, none⟩), .pointer (some ⟨h + 1, 0, none⟩), undef, .pointer (some ⟨h, 1, none⟩), undef, undef, undef, .pointer (some ⟨h, 2, none⟩), undef, undef, .slice (some ⟨g11, 0, none⟩) 0 0, .pointer (some ⟨h, 35, none⟩), .slice s3 c.ps.length k3, undef, undef, undef, undef, undef], []⟩ W := by
  refine wpAnyH_all (rs := [0, 2, 4, 6]) (by kernel_rfl) (by simp) fun i hi => ?_
  simp only [List.mem_cons, List.not_mem_nil, or_false] at hi
  rcases hi with rfl | rfl | rfl | rfl
  · refine wpOp_plain rfl rfl ?_
    refine op_build 22 rfl (bldB W) ?_
    have hB : Below W.heap.size W (W.alloc (.cells #[] 5)) := (Below.refl _ _).alloc (Nat.le_refl _) _
    have hT2 := hT.trans (hB.mono hT.size)
    refine ⟨X.s.trans (hT2.mono (Nat.le_of_lt X.lt)), ?_⟩
    simp only [Act.put, List.setIfInBounds_toArray, List.set_cons_zero]
    exact cop_101_001_0 hQ X fin _ hT2 W.heap.size hT.size g11 hg2
  · refine wpOp_plain rfl rfl ?_
    have q : W.cell? ⟨h, 1, none⟩ = some (.slice s1 c.nb k1) := (hT.cell (p := ⟨h, 1, none⟩) X.lt).trans X.c1
    refine op_load 22 (.tmp 4) rfl rfl (ldB q) ?_
    refine ⟨X.s.trans (hT.mono (Nat.le_of_lt X.lt)), ?_⟩
    simp only [Act.put, List.setIfInBounds_toArray, List.set_cons_succ, List.set_cons_zero]
    exact cop_001_101_0 hQ X fin _ hT g11 hg2
  · refine wpOp_plain rfl rfl ?_
    refine op_build 24 rfl (bldE W) ?_
    have hB : Below W.heap.size W (W.alloc (.cells #[] 40)) := (Below.refl _ _).alloc (Nat.le_refl _) _
    have hT2 := hT.trans (hB.mono hT.size)
    refine ⟨X.s.trans (hT2.mono (Nat.le_of_lt X.lt)), ?_⟩
    simp only [Act.put, List.setIfInBounds_toArray, List.set_cons_succ, List.set_cons_zero]
    exact cop_011_001_0 hQ X fin _ hT2 W.heap.size hT.size g11 hg2
  · refine wpOp_plain rfl rfl ?_
    have q : W.cell? ⟨h, 2, none⟩ = some (.slice s2 c.es.length k2) := (hT.cell (p := ⟨h, 2, none⟩) X.lt).trans X.c2
    refine op_load 24 (.tmp 8) rfl rfl (ldE q) ?_
    refine ⟨X.s.trans (hT.mono (Nat.le_of_lt X.lt)), ?_⟩
    simp only [Act.put, List.setIfInBounds_toArray, List.set_cons_succ, List.set_cons_zero]
    exact cop_001_011_0 hQ X fin _ hT g11 hg2
theorem cop_000_110_0 (hQ : ∀ (ch) (a : Act) (d : Nat) (v : Value) (w : World), Q (.panic ch) (a.put (some d) v) w → Q (.panic ch) a w) (X : Cop c w W1 h s1 s2 s3 k1 k2 k3) (fin : ∀ (u3 u7 u11 v1 v2 v3 : Value) (W : World), Below W1.heap.size W1 W → Fr 1 bcell W1.heap.size (bl c) v1 W → Fr 34 Ent.cells W1.heap.size c.es v2 W → Fr 32 (arr .u8 32) W1.heap.size c.ps v3 W → wpAnyH Try.prog .any copOps Q (fun w' => Below h w w') 5 #[true, true, true, true, true, true, true, true, true, true, true, true, true, false, false, false, false, false] ⟨#[.agg o.cells, .pointer (some ⟨h, 0, none⟩), .pointer (some ⟨h + 1, 0, none⟩), u3, .pointer (some ⟨h, 1, none⟩), .slice s1 c.nb k1, v1, u7, .pointer (some ⟨h, 2, none⟩), .slice s2 c.es.length k2, v2, u11, .pointer (some ⟨h, 35, none⟩), .slice s3 c.ps.length k3, v3, .pointer (some ⟨h, 1, none⟩), undef, undef, undef], []⟩ W) (W : World) (hT : Below W1.heap.size W1 W) : wpAnyH Try.prog .any copOps Q (fun w' => Below h w w') 13 #[false, true, true, false, false, true, true, false, false, true, false, false, false, false, false, false, false, false] ⟨#[.agg o.cells, .pointer (some ⟨h, 0, none⟩), .pointer (some ⟨h + 1, 0, none⟩), undef, .pointer (some ⟨h, 1, none⟩), .slice s1 c.nb k1, undef, undef, .pointer (some ⟨h, 2, none⟩), .slice s2 c.es.length k2, undef, undef, .pointer (some ⟨h, 35, none⟩), undef, undef, undef, undef, undef, undef], []⟩ W := by
  refine wpAnyH_all (rs := [0, 4, 8, 10]) (by kernel_rfl) (by simp) fun i hi => ?_
  simp only [List.mem_cons, List.not_mem_nil, or_false] at hi
  rcases hi with rfl | rfl | rfl | rfl
  · refine wpOp_plain rfl rfl ?_
    refine op_build 22 rfl (bldB W) ?_
    have hB : Below W.heap.size W (W.alloc (.cells #[] 5)) := (Below.refl _ _).alloc (Nat.le_refl _) _
    have hT2 := hT.trans (hB.mono hT.size)
    refine ⟨X.s.trans (hT2.mono (Nat.le_of_lt X.lt)), ?_⟩
    simp only [Act.put, List.setIfInBounds_toArray, List.set_cons_zero]
    exact cop_100_110_0 hQ X fin _ hT2 W.heap.size hT.size
  · refine wpOp_plain rfl rfl ?_
    refine op_build 24 rfl (bldE W) ?_
    have hB : Below W.heap.size W (W.alloc (.cells #[] 40)) := (Below.refl _ _).alloc (Nat.le_refl _) _
    have hT2 := hT.trans (hB.mono hT.size)
    refine ⟨X.s.trans (hT2.mono (Nat.le_of_lt X.lt)), ?_⟩
    simp only [Act.put, List.setIfInBounds_toArray, List.set_cons_succ, List.set_cons_zero]
    exact cop_010_110_0 hQ X fin _ hT2 W.heap.size hT.size
  · refine wpOp_plain rfl rfl ?_
    refine op_build 27 rfl (bldI W) ?_
    have hB : Below W.heap.size W (W.alloc (.cells #[] 26)) := (Below.refl _ _).alloc (Nat.le_refl _) _
    have hT2 := hT.trans (hB.mono hT.size)
    refine ⟨X.s.trans (hT2.mono (Nat.le_of_lt X.lt)), ?_⟩
    simp only [Act.put, List.setIfInBounds_toArray, List.set_cons_succ, List.set_cons_zero]
    exact cop_001_110_0 hQ X fin _ hT2 W.heap.size hT.size
  · refine wpOp_plain rfl rfl ?_
    have q : W.cell? ⟨h, 35, none⟩ = some (.slice s3 c.ps.length k3) := (hT.cell (p := ⟨h, 35, none⟩) X.lt).trans X.c3
    refine op_load 27 (.tmp 12) rfl rfl (ldI q) ?_
    refine ⟨X.s.trans (hT.mono (Nat.le_of_lt X.lt)), ?_⟩
    simp only [Act.put, List.setIfInBounds_toArray, List.set_cons_succ, List.set_cons_zero]
    exact cop_000_111_0 hQ X fin _ hT
theorem cop_000_101_0 (hQ : ∀ (ch) (a : Act) (d : Nat) (v : Value) (w : World), Q (.panic ch) (a.put (some d) v) w → Q (.panic ch) a w) (X : Cop c w W1 h s1 s2 s3 k1 k2 k3) (fin : ∀ (u3 u7 u11 v1 v2 v3 : Value) (W : World), Below W1.heap.size W1 W → Fr 1 bcell W1.heap.size (bl c) v1 W → Fr 34 Ent.cells W1.heap.size c.es v2 W → Fr 32 (arr .u8 32) W1.heap.size c.ps v3 W → wpAnyH Try.prog .any copOps Q (fun w' => Below h w w') 5 #[true, true, true, true, true, true, true, true, true, true, true, true, true, false, false, false, false, false] ⟨#[.agg o.cells, .pointer (some ⟨h, 0, none⟩), .pointer (some ⟨h + 1, 0, none⟩), u3, .pointer (some ⟨h, 1, none⟩), .slice s1 c.nb k1, v1, u7, .pointer (some ⟨h, 2, none⟩), .slice s2 c.es.length k2, v2, u11, .pointer (some ⟨h, 35, none⟩), .slice s3 c.ps.length k3, v3, .pointer (some ⟨h, 1, none⟩), undef, undef, undef], []⟩ W) (W : World) (hT : Below W1.heap.size W1 W) : wpAnyH Try.prog .any copOps Q (fun w' => Below h w w') 13 #[false, true, true, false, false, true, false, false, false, true, true, false, false, false, false, false, false, false] ⟨#[.agg o.cells, .pointer (some ⟨h, 0, none⟩), .pointer (some ⟨h + 1, 0, none⟩), undef, .pointer (some ⟨h, 1, none⟩), .slice s1 c.nb k1, undef, undef, .pointer (some ⟨h, 2, none⟩), undef, undef, undef, .pointer (some ⟨h, 35, none⟩), .slice s3 c.ps.length k3, undef, undef, undef, undef, undef], []⟩ W := by
  refine wpAnyH_all (rs := [0, 4, 6, 8]) (by kernel_rfl) (by simp) fun i hi => ?_
  simp only [List.mem_cons, List.not_mem_nil, or_false] at hi
  rcases hi with rfl | rfl | rfl | rfl
  · refine wpOp_plain rfl rfl ?_
    refine op_build 22 rfl (bldB W) ?_
    have hB : Below W.heap.size W (W.alloc (.cells #[] 5)) := (Below.refl _ _).alloc (Nat.le_refl _) _
    have hT2 := hT.trans (hB.mono hT.size)
    refine ⟨X.s.trans (hT2.mono (Nat.le_of_lt X.lt)), ?_⟩
    simp only [Act.put, List.setIfInBounds_toArray, List.set_cons_zero]
    exact cop_100_101_0 hQ X fin _ hT2 W.heap.size hT.size
  · refine wpOp_plain rfl rfl ?_
    refine op_build 24 rfl (bldE W) ?_
    have hB : Below W.heap.size W (W.alloc (.cells #[] 40)) := (Below.refl _ _).alloc (Nat.le_refl _) _
    have hT2 := hT.trans (hB.mono hT.size)
    refine ⟨X.s.trans (hT2.mono (Nat.le_of_lt X.lt)), ?_⟩
    simp only [Act.put, List.setIfInBounds_toArray, List.set_cons_succ, List.set_cons_zero]
    exact cop_010_101_0 hQ X fin _ hT2 W.heap.size hT.size
  · refine wpOp_plain rfl rfl ?_
    have q : W.cell? ⟨h, 2, none⟩ = some (.slice s2 c.es.length k2) := (hT.cell (p := ⟨h, 2, none⟩) X.lt).trans X.c2
    refine op_load 24 (.tmp 8) rfl rfl (ldE q) ?_
    refine ⟨X.s.trans (hT.mono (Nat.le_of_lt X.lt)), ?_⟩
    simp only [Act.put, List.setIfInBounds_toArray, List.set_cons_succ, List.set_cons_zero]
    exact cop_000_111_0 hQ X fin _ hT
  · refine wpOp_plain rfl rfl ?_
    refine op_build 27 rfl (bldI W) ?_
    have hB : Below W.heap.size W (W.alloc (.cells #[] 26)) := (Below.refl _ _).alloc (Nat.le_refl _) _
    have hT2 := hT.trans (hB.mono hT.size)
    refine ⟨X.s.trans (hT2.mono (Nat.le_of_lt X.lt)), ?_⟩
    simp only [Act.put, List.setIfInBounds_toArray, List.set_cons_succ, List.set_cons_zero]
    exact cop_001_101_0 hQ X fin _ hT2 W.heap.size hT.size
theorem cop_000_011_0 (hQ : ∀ (ch) (a : Act) (d : Nat) (v : Value) (w : World), Q (.panic ch) (a.put (some d) v) w → Q (.panic ch) a w) (X : Cop c w W1 h s1 s2 s3 k1 k2 k3) (fin : ∀ (u3 u7 u11 v1 v2 v3 : Value) (W : World), Below W1.heap.size W1 W → Fr 1 bcell W1.heap.size (bl c) v1 W → Fr 34 Ent.cells W1.heap.size c.es v2 W → Fr 32 (arr .u8 32) W1.heap.size c.ps v3 W → wpAnyH Try.prog .any copOps Q (fun w' => Below h w w') 5 #[true, true, true, true, true, true, true, true, true, true, true, true, true, false, false, false, false, false] ⟨#[.agg o.cells, .pointer (some ⟨h, 0, none⟩), .pointer (some ⟨h + 1, 0, none⟩), u3, .pointer (some ⟨h, 1, none⟩), .slice s1 c.nb k1, v1, u7, .pointer (some ⟨h, 2, none⟩), .slice s2 c.es.length k2, v2, u11, .pointer (some ⟨h, 35, none⟩), .slice s3 c.ps.length k3, v3, .pointer (some ⟨h, 1, none⟩), undef, undef, undef], []⟩ W) (W : World) (hT : Below W1.heap.size W1 W) : wpAnyH Try.prog .any copOps Q (fun w' => Below h w w') 13 #[false, true, false, false, false, true, true, false, false, true, true, false, false, false, false, false, false, false] ⟨#[.agg o.cells, .pointer (some ⟨h, 0, none⟩), .pointer (some ⟨h + 1, 0, none⟩), undef, .pointer (some ⟨h, 1, none⟩), undef, undef, undef, .pointer (some ⟨h, 2, none⟩), .slice s2 c.es.length k2, undef, undef, .pointer (some ⟨h, 35, none⟩), .slice s3 c.ps.length k3, undef, undef, undef, undef, undef], []⟩ W := by
  refine wpAnyH_all (rs := [0, 2, 4, 8]) (by kernel_rfl) (by simp) fun i hi => ?_
  simp only [List.mem_cons, List.not_mem_nil, or_false] at hi
  rcases hi with rfl | rfl | rfl | rfl
  · refine wpOp_plain rfl rfl ?_
    refine op_build 22 rfl (bldB W) ?_
    have hB : Below W.heap.size W (W.alloc (.cells #[] 5)) := (Below.refl _ _).alloc (Nat.le_refl _) _
    have hT2 := hT.trans (hB.mono hT.size)
    refine ⟨X.s.trans (hT2.mono (Nat.le_of_lt X.lt)), ?_⟩
    simp only [Act.put, List.setIfInBounds_toArray, List.set_cons_zero]
    exact cop_100_011_0 hQ X fin _ hT2 W.heap.size hT.size
  · refine wpOp_plain rfl rfl ?_
    have q : W.cell? ⟨h, 1, none⟩ = some (.slice s1 c.nb k1) := (hT.cell (p := ⟨h, 1, none⟩) X.lt).trans X.c1
    refine op_load 22 (.tmp 4) rfl rfl (ldB q) ?_
    refine ⟨X.s.trans (hT.mono (Nat.le_of_lt X.lt)), ?_⟩
    simp only [Act.put, List.setIfInBounds_toArray, List.set_cons_succ, List.set_cons_zero]
    exact cop_000_111_0 hQ X fin _ hT
  · refine wpOp_plain rfl rfl ?_
    refine op_build 24 rfl (bldE W) ?_
    have hB : Below W.heap.size W (W.alloc (.cells #[] 40)) := (Below.refl _ _).alloc (Nat.le_refl _) _
    have hT2 := hT.trans (hB.mono hT.size)
    refine ⟨X.s.trans (hT2.mono (Nat.le_of_lt X.lt)), ?_⟩
    simp only [Act.put, List.setIfInBounds_toArray, List.set_cons_succ, List.set_cons_zero]
    exact cop_010_011_0 hQ X fin _ hT2 W.heap.size hT.size
  · refine wpOp_plain rfl rfl ?_
    refine op_build 27 rfl (bldI W) ?_
    have hB : Below W.heap.size W (W.alloc (.cells #[] 26)) := (Below.refl _ _).alloc (Nat.le_refl _) _
    have hT2 := hT.trans (hB.mono hT.size)
    refine ⟨X.s.trans (hT2.mono (Nat.le_of_lt X.lt)), ?_⟩
    simp only [Act.put, List.setIfInBounds_toArray, List.set_cons_succ, List.set_cons_zero]
    exact cop_001_011_0 hQ X fin _ hT2 W.heap.size hT.size
theorem cop_100_000_0 (hQ : ∀ (ch) (a : Act) (d : Nat) (v : Value) (w : World), Q (.panic ch) (a.put (some d) v) w → Q (.panic ch) a w) (X : Cop c w W1 h s1 s2 s3 k1 k2 k3) (fin : ∀ (u3 u7 u11 v1 v2 v3 : Value) (W : World), Below W1.heap.size W1 W → Fr 1 bcell W1.heap.size (bl c) v1 W → Fr 34 Ent.cells W1.heap.size c.es v2 W → Fr 32 (arr .u8 32) W1.heap.size c.ps v3 W → wpAnyH Try.prog .any copOps Q (fun w' => Below h w w') 5 #[true, true, true, true, true, true, true, true, true, true, true, true, true, false, false, false, false, false] ⟨#[.agg o.cells, .pointer (some ⟨h, 0, none⟩), .pointer (some ⟨h + 1, 0, none⟩), u3, .pointer (some ⟨h, 1, none⟩), .slice s1 c.nb k1, v1, u7, .pointer (some ⟨h, 2, none⟩), .slice s2 c.es.length k2, v2, u11, .pointer (some ⟨h, 35, none⟩), .slice s3 c.ps.length k3, v3, .pointer (some ⟨h, 1, none⟩), undef, undef, undef], []⟩ W) (W : World) (hT : Below W1.heap.size W1 W) (g3 : Nat) (hg0 : W1.heap.size ≤ g3) : wpAnyH Try.prog .any copOps Q (fun w' => Below h w w') 14 #[true, true, false, false, false, true, false, false, false, true, false, false, false, false, false, false, false, false] ⟨#[.agg o.cells, .pointer (some ⟨h, 0, none⟩), .pointer (some ⟨h + 1, 0, none⟩), .slice (some ⟨g3, 0, none⟩) 0 0, .pointer (some ⟨h, 1, none⟩), undef, undef, undef, .pointer (some ⟨h, 2, none⟩), undef, undef, undef, .pointer (some ⟨h, 35, none⟩), undef, undef, undef, undef, undef, undef], []⟩ W := by
  refine wpAnyH_all (rs := [2, 4, 6, 8, 10]) (by kernel_rfl) (by simp) fun i hi => ?_
  simp only [List.mem_cons, List.not_mem_nil, or_false] at hi
  rcases hi with rfl | rfl | rfl | rfl | rfl
  · refine wpOp_plain rfl rfl ?_
    have q : W.cell? ⟨h, 1, none⟩ = some (.slice s1 c.nb k1) := (hT.cell (p := ⟨h, 1, none⟩) X.lt).trans X.c1
    refine op_load 22 (.tmp 4) rfl rfl (ldB q) ?_
    refine ⟨X.s.trans (hT.mono (Nat.le_of_lt X.lt)), ?_⟩
    simp only [Act.put, List.setIfInBounds_toArray, List.set_cons_succ, List.set_cons_zero]
    exact cop_100_100_0 hQ X fin _ hT g3 hg0
  · refine wpOp_plain rfl rfl ?_
    refine op_build 24 rfl (bldE W) ?_
    have hB : Below W.heap.size W (W.alloc (.cells #[] 40)) := (Below.refl _ _).alloc (Nat.le_refl _) _
    have hT2 := hT.trans (hB.mono hT.size)
    refine ⟨X.s.trans (hT2.mono (Nat.le_of_lt X.lt)), ?_⟩
    simp only [Act.put, List.setIfInBounds_toArray, List.set_cons_succ, List.set_cons_zero]
    exact cop_110_000_0 hQ X fin _ hT2 g3 hg0 W.heap.size hT.size
  · refine wpOp_plain rfl rfl ?_
    have q : W.cell? ⟨h, 2, none⟩ = some (.slice s2 c.es.length k2) := (hT.cell (p := ⟨h, 2, none⟩) X.lt).trans X.c2
    refine op_load 24 (.tmp 8) rfl rfl (ldE q) ?_
    refine ⟨X.s.trans (hT.mono (Nat.le_of_lt X.lt)), ?_⟩
    simp only [Act.put, List.setIfInBounds_toArray, List.set_cons_succ, List.set_cons_zero]
    exact cop_100_010_0 hQ X fin _ hT g3 hg0
  · refine wpOp_plain rfl rfl ?_
    refine op_build 27 rfl (bldI W) ?_
    have hB : Below W.heap.size W (W.alloc (.cells #[] 26)) := (Below.refl _ _).alloc (Nat.le_refl _) _
    have hT2 := hT.trans (hB.mono hT.size)
    refine ⟨X.s.trans (hT2.mono (Nat.le_of_lt X.lt)), ?_⟩
    simp only [Act.put, List.setIfInBounds_toArray, List.set_cons_succ, List.set_cons_zero]
    exact cop_101_000_0 hQ X fin _ hT2 g3 hg0 W.heap.size hT.size
  · refine wpOp_plain rfl rfl ?_
    have q : W.cell? ⟨h, 35, none⟩ = some (.slice s3 c.ps.length k3) := (hT.cell (p := ⟨h, 35, none⟩) X.lt).trans X.c3
    refine op_load 27 (.tmp 12) rfl rfl (ldI q) ?_
    refine ⟨X.s.trans (hT.mono (Nat.le_of_lt X.lt)), ?_⟩
    simp only [Act.put, List.setIfInBounds_toArray, List.set_cons_succ, List.set_cons_zero]
    exact cop_100_001_0 hQ X fin _ hT g3 hg0
theorem cop_010_000_0 (hQ : ∀ (ch) (a : Act) (d : Nat) (v : Value) (w : World), Q (.panic ch) (a.put (some d) v) w → Q (.panic ch) a w) (X : Cop c w W1 h s1 s2 s3 k1 k2 k3) (fin : ∀ (u3 u7 u11 v1 v2 v3 : Value) (W : World), Below W1.heap.size W1 W → Fr 1 bcell W1.heap.size (bl c) v1 W → Fr 34 Ent.cells W1.heap.size c.es v2 W → Fr 32 (arr .u8 32) W1.heap.size c.ps v3 W → wpAnyH Try.prog .any copOps Q (fun w' => Below h w w') 5 #[true, true, true, true, true, true, true, true, true, true, true, true, true, false, false, false, false, false] ⟨#[.agg o.cells, .pointer (some ⟨h, 0, none⟩), .pointer (some ⟨h + 1, 0, none⟩), u3, .pointer (some ⟨h, 1, none⟩), .slice s1 c.nb k1, v1, u7, .pointer (some ⟨h, 2, none⟩), .slice s2 c.es.length k2, v2, u11, .pointer (some ⟨h, 35, none⟩), .slice s3 c.ps.length k3, v3, .pointer (some ⟨h, 1, none⟩), undef, undef, undef], []⟩ W) (W : World) (hT : Below W1.heap.size W1 W) (g7 : Nat) (hg1 : W1.heap.size ≤ g7) : wpAnyH Try.prog .any copOps Q (fun w' => Below h w w') 14 #[false, true, false, false, true, true, false, false, false, true, false, false, false, false, false, false, false, false] ⟨#[.agg o.cells, .pointer (some ⟨h, 0, none⟩), .pointer (some ⟨h + 1, 0, none⟩), undef, .pointer (some ⟨h, 1, none⟩), undef, undef, .slice (some ⟨g7, 0, none⟩) 0 0, .pointer (some ⟨h, 2, none⟩), undef, undef, undef, .pointer (some ⟨h, 35, none⟩), undef, undef, undef, undef, undef, undef], []⟩ W := by
  refine wpAnyH_all (rs := [0, 2, 6, 8, 10]) (by kernel_rfl) (by simp) fun i hi => ?_
  simp only [List.mem_cons, List.not_mem_nil, or_false] at hi
  rcases hi with rfl | rfl | rfl | rfl | rfl
  · refine wpOp_plain rfl rfl ?_
    refine op_build 22 rfl (bldB W) ?_
    have hB : Below W.heap.size W (W.alloc (.cells #[] 5)) := (Below.refl _ _).alloc (Nat.le_refl _) _
    have hT2 := hT.trans (hB.mono hT.size)
    refine ⟨X.s.trans (hT2.mono (Nat.le_of_lt X.lt)), ?_⟩
    simp only [Act.put, List.setIfInBounds_toArray, List.set_cons_zero]
    exact cop_110_000_0 hQ X fin _ hT2 W.heap.size hT.size g7 hg1
  · refine wpOp_plain rfl rfl ?_
    have q : W.cell? ⟨h, 1, none⟩ = some (.slice s1 c.nb k1) := (hT.cell (p := ⟨h, 1, none⟩) X.lt).trans X.c1
    refine op_load 22 (.tmp 4) rfl rfl (ldB q) ?_
    refine ⟨X.s.trans (hT.mono (Nat.le_of_lt X.lt)), ?_⟩
    simp only [Act.put, List.setIfInBounds_toArray, List.set_cons_succ, List.set_cons_zero]
    exact cop_010_100_0 hQ X fin _ hT g7 hg1
  · refine wpOp_plain rfl rfl ?_
    have q : W.cell? ⟨h, 2, none⟩ = some (.slice s2 c.es.length k2) := (hT.cell (p := ⟨h, 2, none⟩) X.lt).trans X.c2
    refine op_load 24 (.tmp 8) rfl rfl (ldE q) ?_
    refine ⟨X.s.trans (hT.mono (Nat.le_of_lt X.lt)), ?_⟩
    simp only [Act.put, List.setIfInBounds_toArray, List.set_cons_succ, List.set_cons_zero]
    exact cop_010_010_0 hQ X fin _ hT g7 hg1
  · refine wpOp_plain rfl rfl ?_
    refine op_build 27 rfl (bldI W) ?_
    have hB : Below W.heap.size W (W.alloc (.cells #[] 26)) := (Below.refl _ _).alloc (Nat.le_refl _) _
    have hT2 := hT.trans (hB.mono hT.size)
    refine ⟨X.s.trans (hT2.mono (Nat.le_of_lt X.lt)), ?_⟩
    simp only [Act.put, List.setIfInBounds_toArray, List.set_cons_succ, List.set_cons_zero]
    exact cop_011_000_0 hQ X fin _ hT2 g7 hg1 W.heap.size hT.size
  · refine wpOp_plain rfl rfl ?_
    have q : W.cell? ⟨h, 35, none⟩ = some (.slice s3 c.ps.length k3) := (hT.cell (p := ⟨h, 35, none⟩) X.lt).trans X.c3
    refine op_load 27 (.tmp 12) rfl rfl (ldI q) ?_
    refine ⟨X.s.trans (hT.mono (Nat.le_of_lt X.lt)), ?_⟩
    simp only [Act.put, List.setIfInBounds_toArray, List.set_cons_succ, List.set_cons_zero]
    exact cop_010_001_0 hQ X fin _ hT g7 hg1
theorem cop_001_000_0 (hQ : ∀ (ch) (a : Act) (d : Nat) (v : Value) (w : World), Q (.panic ch) (a.put (some d) v) w → Q (.panic ch) a w) (X : Cop c w W1 h s1 s2 s3 k1 k2 k3) (fin : ∀ (u3 u7 u11 v1 v2 v3 : Value) (W : World), Below W1.heap.size W1 W → Fr 1 bcell W1.heap.size (bl c) v1 W → Fr 34 Ent.cells W1.heap.size c.es v2 W → Fr 32 (arr .u8 32) W1.heap.size c.ps v3 W → wpAnyH Try.prog .any copOps Q (fun w' => Below h w w') 5 #[true, true, true, true, true, true, true, true, true, true, true, true, true, false, false, false, false, false] ⟨#[.agg o.cells, .pointer (some ⟨h, 0, none⟩), .pointer (some ⟨h + 1, 0, none⟩), u3, .pointer (some ⟨h, 1, none⟩), .slice s1 c.nb k1, v1, u7, .pointer (some ⟨h, 2, none⟩), .slice s2 c.es.length k2, v2, u11, .pointer (some ⟨h, 35, none⟩), .slice s3 c.ps.length k3, v3, .pointer (some ⟨h, 1, none⟩), undef, undef, undef], []⟩ W) (W : World) (hT : Below W1.heap.size W1 W) (g11 : Nat) (hg2 : W1.heap.size ≤ g11) : wpAnyH Try.prog .any copOps Q (fun w' => Below h w w') 14 #[false, true, false, false, false, true, false, false, true, true, false, false, false, false, false, false, false, false] ⟨#[.agg o.cells, .pointer (some ⟨h, 0, none⟩), .pointer (some ⟨h + 1, 0, none⟩), undef, .pointer (some ⟨h, 1, none⟩), undef, undef, undef, .pointer (some ⟨h, 2, none⟩), undef, undef, .slice (some ⟨g11, 0, none⟩) 0 0, .pointer (some ⟨h, 35, none⟩), undef, undef, undef, undef, undef, undef], []⟩ W := by
  refine wpAnyH_all (rs := [0, 2, 4, 6, 10]) (by kernel_rfl) (by simp) fun i hi => ?_
  simp only [List.mem_cons, List.not_mem_nil, or_false] at hi
  rcases hi with rfl | rfl | rfl | rfl | rfl
  · refine wpOp_plain rfl rfl ?_
    refine op_build 22 rfl (bldB W) ?_
    have hB : Below W.heap.size W (W.alloc (.cells #[] 5)) := (Below.refl _ _).alloc (Nat.le_refl _) _
    have hT2 := hT.trans (hB.mono hT.size)
    refine ⟨X.s.trans (hT2.mono (Nat.le_of_lt X.lt)), ?_⟩
    simp only [Act.put, List.setIfInBounds_toArray, List.set_cons_zero]
    exact cop_101_000_0 hQ X fin _ hT2 W.heap.size hT.size g11 hg2
  · refine wpOp_plain rfl rfl ?_
    have q : W.cell? ⟨h, 1, none⟩ = some (.slice s1 c.nb k1) := (hT.cell (p := ⟨h, 1, none⟩) X.lt).trans X.c1
    refine op_load 22 (.tmp 4) rfl rfl (ldB q) ?_
    refine ⟨X.s.trans (hT.mono (Nat.le_of_lt X.lt)), ?_⟩
    simp only [Act.put, List.setIfInBounds_toArray, List.set_cons_succ, List.set_cons_zero]
    exact cop_001_100_0 hQ X fin _ hT g11 hg2
  · refine wpOp_plain rfl rfl ?_
    refine op_build 24 rfl (bldE W) ?_
    have hB : Below W.heap.size W (W.alloc (.cells #[] 40)) := (Below.refl _ _).alloc (Nat.le_refl _) _
    have hT2 := hT.trans (hB.mono hT.size)
    refine ⟨X.s.trans (hT2.mono (Nat.le_of_lt X.lt)), ?_⟩
    simp only [Act.put, List.setIfInBounds_toArray, List.set_cons_succ, List.set_cons_zero]
    exact cop_011_000_0 hQ X fin _ hT2 W.heap.size hT.size g11 hg2
  · refine wpOp_plain rfl rfl ?_
    have q : W.cell? ⟨h, 2, none⟩ = some (.slice s2 c.es.length k2) := (hT.cell (p := ⟨h, 2, none⟩) X.lt).trans X.c2
    refine op_load 24 (.tmp 8) rfl rfl (ldE q) ?_
    refine ⟨X.s.trans (hT.mono (Nat.le_of_lt X.lt)), ?_⟩
    simp only [Act.put, List.setIfInBounds_toArray, List.set_cons_succ, List.set_cons_zero]
    exact cop_001_010_0 hQ X fin _ hT g11 hg2
  · refine wpOp_plain rfl rfl ?_
    have q : W.cell? ⟨h, 35, none⟩ = some (.slice s3 c.ps.length k3) := (hT.cell (p := ⟨h, 35, none⟩) X.lt).trans X.c3
    refine op_load 27 (.tmp 12) rfl rfl (ldI q) ?_
    refine ⟨X.s.trans (hT.mono (Nat.le_of_lt X.lt)), ?_⟩
    simp only [Act.put, List.setIfInBounds_toArray, List.set_cons_succ, List.set_cons_zero]
    exact cop_001_001_0 hQ X fin _ hT g11 hg2
theorem cop_000_100_0 (hQ : ∀ (ch) (a : Act) (d : Nat) (v : Value) (w : World), Q (.panic ch) (a.put (some d) v) w → Q (.panic ch) a w) (X : Cop c w W1 h s1 s2 s3 k1 k2 k3) (fin : ∀ (u3 u7 u11 v1 v2 v3 : Value) (W : World), Below W1.heap.size W1 W → Fr 1 bcell W1.heap.size (bl c) v1 W → Fr 34 Ent.cells W1.heap.size c.es v2 W → Fr 32 (arr .u8 32) W1.heap.size c.ps v3 W → wpAnyH Try.prog .any copOps Q (fun w' => Below h w w') 5 #[true, true, true, true, true, true, true, true, true, true, true, true, true, false, false, false, false, false] ⟨#[.agg o.cells, .pointer (some ⟨h, 0, none⟩), .pointer (some ⟨h + 1, 0, none⟩), u3, .pointer (some ⟨h, 1, none⟩), .slice s1 c.nb k1, v1, u7, .pointer (some ⟨h, 2, none⟩), .slice s2 c.es.length k2, v2, u11, .pointer (some ⟨h, 35, none⟩), .slice s3 c.ps.length k3, v3, .pointer (some ⟨h, 1, none⟩), undef, undef, undef], []⟩ W) (W : World) (hT : Below W1.heap.size W1 W) : wpAnyH Try.prog .any copOps Q (fun w' => Below h w w') 14 #[false, true, true, false, false, true, false, false, false, true, false, false, false, false, false, false, false, false] ⟨#[.agg o.cells, .pointer (some ⟨h, 0, none⟩), .pointer (some ⟨h + 1, 0, none⟩), undef, .pointer (some ⟨h, 1, none⟩), .slice s1 c.nb k1, undef, undef, .pointer (some ⟨h, 2, none⟩), undef, undef, undef, .pointer (some ⟨h, 35, none⟩), undef, undef, undef, undef, undef, undef], []⟩ W := by
  refine wpAnyH_all (rs := [0, 4, 6, 8, 10]) (by kernel_rfl) (by simp) fun i hi => ?_
  simp only [List.mem_cons, List.not_mem_nil, or_false] at hi
  rcases hi with rfl | rfl | rfl | rfl | rfl
  · refine wpOp_plain rfl rfl ?_
    refine op_build 22 rfl (bldB W) ?_
    have hB : Below W.heap.size W (W.alloc (.cells #[] 5)) := (Below.refl _ _).alloc (Nat.le_refl _) _
    have hT2 := hT.trans (hB.mono hT.size)
    refine ⟨X.s.trans (hT2.mono (Nat.le_of_lt X.lt)), ?_⟩
    simp only [Act.put, List.setIfInBounds_toArray, List.set_cons_zero]
    exact cop_100_100_0 hQ X fin _ hT2 W.heap.size hT.size
  · refine wpOp_plain rfl rfl ?_
    refine op_build 24 rfl (bldE W) ?_
    have hB : Below W.heap.size W (W.alloc (.cells #[] 40)) := (Below.refl _ _).alloc (Nat.le_refl _) _
    have hT2 := hT.trans (hB.mono hT.size)
    refine ⟨X.s.trans (hT2.mono (Nat.le_of_lt X.lt)), ?_⟩
    simp only [Act.put, List.setIfInBounds_toArray, List.set_cons_succ, List.set_cons_zero]
    exact cop_010_100_0 hQ X fin _ hT2 W.heap.size hT.size
  · refine wpOp_plain rfl rfl ?_
    have q : W.cell? ⟨h, 2, none⟩ = some (.slice s2 c.es.length k2) := (hT.cell (p := ⟨h, 2, none⟩) X.lt).trans X.c2
    refine op_load 24 (.tmp 8) rfl rfl (ldE q) ?_
    refine ⟨X.s.trans (hT.mono (Nat.le_of_lt X.lt)), ?_⟩
    simp only [Act.put, List.setIfInBounds_toArray, List.set_cons_succ, List.set_cons_zero]
    exact cop_000_110_0 hQ X fin _ hT
  · refine wpOp_plain rfl rfl ?_
    refine op_build 27 rfl (bldI W) ?_
    have hB : Below W.heap.size W (W.alloc (.cells #[] 26)) := (Below.refl _ _).alloc (Nat.le_refl _) _
    have hT2 := hT.trans (hB.mono hT.size)
    refine ⟨X.s.trans (hT2.mono (Nat.le_of_lt X.lt)), ?_⟩
    simp only [Act.put, List.setIfInBounds_toArray, List.set_cons_succ, List.set_cons_zero]
    exact cop_001_100_0 hQ X fin _ hT2 W.heap.size hT.size
  · refine wpOp_plain rfl rfl ?_
    have q : W.cell? ⟨h, 35, none⟩ = some (.slice s3 c.ps.length k3) := (hT.cell (p := ⟨h, 35, none⟩) X.lt).trans X.c3
    refine op_load 27 (.tmp 12) rfl rfl (ldI q) ?_
    refine ⟨X.s.trans (hT.mono (Nat.le_of_lt X.lt)), ?_⟩
    simp only [Act.put, List.setIfInBounds_toArray, List.set_cons_succ, List.set_cons_zero]
    exact cop_000_101_0 hQ X fin _ hT
theorem cop_000_010_0 (hQ : ∀ (ch) (a : Act) (d : Nat) (v : Value) (w : World), Q (.panic ch) (a.put (some d) v) w → Q (.panic ch) a w) (X : Cop c w W1 h s1 s2 s3 k1 k2 k3) (fin : ∀ (u3 u7 u11 v1 v2 v3 : Value) (W : World), Below W1.heap.size W1 W → Fr 1 bcell W1.heap.size (bl c) v1 W → Fr 34 Ent.cells W1.heap.size c.es v2 W → Fr 32 (arr .u8 32) W1.heap.size c.ps v3 W → wpAnyH Try.prog .any copOps Q (fun w' => Below h w w') 5 #[true, true, true, true, true, true, true, true, true, true, true, true, true, false, false, false, false, false] ⟨#[.agg o.cells, .pointer (some ⟨h, 0, none⟩), .pointer (some ⟨h + 1, 0, none⟩), u3, .pointer (some ⟨h, 1, none⟩), .slice s1 c.nb k1, v1, u7, .pointer (some ⟨h, 2, none⟩), .slice s2 c.es.length k2, v2, u11, .pointer (some ⟨h, 35, none⟩), .slice s3 c.ps.length k3, v3, .pointer (some ⟨h, 1, none⟩), undef, undef, undef], []⟩ W) (W : World) (hT : Below W1.heap.size W1 W) : wpAnyH Try.prog .any copOps Q (fun w' => Below h w w') 14 #[false, true, false, false, false, true, true, false, false, true, false, false, false, false, false, false, false, false] ⟨#[.agg o.cells, .pointer (some ⟨h, 0, none⟩), .pointer (some ⟨h + 1, 0, none⟩), undef, .pointer (some ⟨h, 1, none⟩), undef, undef, undef, .pointer (some ⟨h, 2, none⟩), .slice s2 c.es.length k2, undef, undef, .pointer (some ⟨h, 35, none⟩), undef, undef, undef, undef, undef, undef], []⟩ W := by
  refine wpAnyH_all (rs := [0, 2, 4, 8, 10]) (by kernel_rfl) (by simp) fun i hi => ?_
  simp only [List.mem_cons, List.not_mem_nil, or_false] at hi
  rcases hi with rfl | rfl | rfl | rfl | rfl
  · refine wpOp_plain rfl rfl ?_
    refine op_build 22 rfl (bldB W) ?_
    have hB : Below W.heap.size W (W.alloc (.cells #[] 5)) := (Below.refl _ _).alloc (Nat.le_refl _) _
    have hT2 := hT.trans (hB.mono hT.size)
    refine ⟨X.s.trans (hT2.mono (Nat.le_of_lt X.lt)), ?_⟩
    simp only [Act.put, List.setIfInBounds_toArray, List.set_cons_zero]
    exact cop_100_010_0 hQ X fin _ hT2 W.heap.size hT.size
  · refine wpOp_plain rfl rfl ?_
    have q : W.cell? ⟨h, 1, none⟩ = some (.slice s1 c.nb k1) := (hT.cell (p := ⟨h, 1, none⟩) X.lt).trans X.c1
    refine op_load 22 (.tmp 4) rfl rfl (ldB q) ?_
    refine ⟨X.s.trans (hT.mono (Nat.le_of_lt X.lt)), ?_⟩
    simp only [Act.put, List.setIfInBounds_toArray, List.set_cons_succ, List.set_cons_zero]
    exact cop_000_110_0 hQ X fin _ hT
  · refine wpOp_plain rfl rfl ?_
    refine op_build 24 rfl (bldE W) ?_
    have hB : Below W.heap.size W (W.alloc (.cells #[] 40)) := (Below.refl _ _).alloc (Nat.le_refl _) _
    have hT2 := hT.trans (hB.mono hT.size)
    refine ⟨X.s.trans (hT2.mono (Nat.le_of_lt X.lt)), ?_⟩
    simp only [Act.put, List.setIfInBounds_toArray, List.set_cons_succ, List.set_cons_zero]
    exact cop_010_010_0 hQ X fin _ hT2 W.heap.size hT.size
  · refine wpOp_plain rfl rfl ?_
    refine op_build 27 rfl (bldI W) ?_
    have hB : Below W.heap.size W (W.alloc (.cells #[] 26)) := (Below.refl _ _).alloc (Nat.le_refl _) _
    have hT2 := hT.trans (hB.mono hT.size)
    refine ⟨X.s.trans (hT2.mono (Nat.le_of_lt X.lt)), ?_⟩
    simp only [Act.put, List.setIfInBounds_toArray, List.set_cons_succ, List.set_cons_zero]
    exact cop_001_010_0 hQ X fin _ hT2 W.heap.size hT.size
  · refine wpOp_plain rfl rfl ?_
    have q : W.cell? ⟨h, 35, none⟩ = some (.slice s3 c.ps.length k3) := (hT.cell (p := ⟨h, 35, none⟩) X.lt).trans X.c3
    refine op_load 27 (.tmp 12) rfl rfl (ldI q) ?_
    refine ⟨X.s.trans (hT.mono (Nat.le_of_lt X.lt)), ?_⟩
    simp only [Act.put, List.setIfInBounds_toArray, List.set_cons_succ, List.set_cons_zero]
    exact cop_000_011_0 hQ X fin _ hT
theorem cop_000_001_0 (hQ : ∀ (ch) (a : Act) (d : Nat) (v : Value) (w : World), Q (.panic ch) (a.put (some d) v) w → Q (.panic ch) a w) (X : Cop c w W1 h s1 s2 s3 k1 k2 k3) (fin : ∀ (u3 u7 u11 v1 v2 v3 : Value) (W : World), Below W1.heap.size W1 W → Fr 1 bcell W1.heap.size (bl c) v1 W → Fr 34 Ent.cells W1.heap.size c.es v2 W → Fr 32 (arr .u8 32) W1.heap.size c.ps v3 W → wpAnyH Try.prog .any copOps Q (fun w' => Below h w w') 5 #[true, true, true, true, true, true, true, true, true, true, true, true, true, false, false, false, false, false] ⟨#[.agg o.cells, .pointer (some ⟨h, 0, none⟩), .pointer (some ⟨h + 1, 0, none⟩), u3, .pointer (some ⟨h, 1, none⟩), .slice s1 c.nb k1, v1, u7, .pointer (some ⟨h, 2, none⟩), .slice s2 c.es.length k2, v2, u11, .pointer (some ⟨h, 35, none⟩), .slice s3 c.ps.length k3, v3, .pointer (some ⟨h, 1, none⟩), undef, undef, undef], []⟩ W) (W : World) (hT : Below W1.heap.size W1 W) : wpAnyH Try.prog .any copOps Q (fun w' => Below h w w') 14 #[false, true, false, false, false, true, false, false, false, true, true, false, false, false, false, false, false, false] ⟨#[.agg o.cells, .pointer (some ⟨h, 0, none⟩), .pointer (some ⟨h + 1, 0, none⟩), undef, .pointer (some ⟨h, 1, none⟩), undef, undef, undef, .pointer (some ⟨h, 2, none⟩), undef, undef, undef, .pointer (some ⟨h, 35, none⟩), .slice s3 c.ps.length k3, undef, undef, undef, undef, undef], []⟩ W := by
  refine wpAnyH_all (rs := [0, 2, 4, 6, 8]) (by kernel_rfl) (by simp) fun i hi => ?_
  simp only [List.mem_cons, List.not_mem_nil, or_false] at hi
  rcases hi with rfl | rfl | rfl | rfl | rfl
  · refine wpOp_plain rfl rfl ?_
    refine op_build 22 rfl (bldB W) ?_
    have hB : Below W.heap.size W (W.alloc (.cells #[] 5)) := (Below.refl _ _).alloc (Nat.le_refl _) _
    have hT2 := hT.trans (hB.mono hT.size)
    refine ⟨X.s.trans (hT2.mono (Nat.le_of_lt X.lt)), ?_⟩
    simp only [Act.put, List.setIfInBounds_toArray, List.set_cons_zero]
    exact cop_100_001_0 hQ X fin _ hT2 W.heap.size hT.size
  · refine wpOp_plain rfl rfl ?_
    have q : W.cell? ⟨h, 1, none⟩ = some (.slice s1 c.nb k1) := (hT.cell (p := ⟨h, 1, none⟩) X.lt).trans X.c1
    refine op_load 22 (.tmp 4) rfl rfl (ldB q) ?_
    refine ⟨X.s.trans (hT.mono (Nat.le_of_lt X.lt)), ?_⟩
    simp only [Act.put, List.setIfInBounds_toArray, List.set_cons_succ, List.set_cons_zero]
    exact cop_000_101_0 hQ X fin _ hT
  · refine wpOp_plain rfl rfl ?_
    refine op_build 24 rfl (bldE W) ?_
    have hB : Below W.heap.size W (W.alloc (.cells #[] 40)) := (Below.refl _ _).alloc (Nat.le_refl _) _
    have hT2 := hT.trans (hB.mono hT.size)
    refine ⟨X.s.trans (hT2.mono (Nat.le_of_lt X.lt)), ?_⟩
    simp only [Act.put, List.setIfInBounds_toArray, List.set_cons_succ, List.set_cons_zero]
    exact cop_010_001_0 hQ X fin _ hT2 W.heap.size hT.size
  · refine wpOp_plain rfl rfl ?_
    have q : W.cell? ⟨h, 2, none⟩ = some (.slice s2 c.es.length k2) := (hT.cell (p := ⟨h, 2, none⟩) X.lt).trans X.c2
    refine op_load 24 (.tmp 8) rfl rfl (ldE q) ?_
    refine ⟨X.s.trans (hT.mono (Nat.le_of_lt X.lt)), ?_⟩
    simp only [Act.put, List.setIfInBounds_toArray, List.set_cons_succ, List.set_cons_zero]
    exact cop_000_011_0 hQ X fin _ hT
  · refine wpOp_plain rfl rfl ?_
    refine op_build 27 rfl (bldI W) ?_
    have hB : Below W.heap.size W (W.alloc (.cells #[] 26)) := (Below.refl _ _).alloc (Nat.le_refl _) _
    have hT2 := hT.trans (hB.mono hT.size)
    refine ⟨X.s.trans (hT2.mono (Nat.le_of_lt X.lt)), ?_⟩
    simp only [Act.put, List.setIfInBounds_toArray, List.set_cons_succ, List.set_cons_zero]
    exact cop_001_001_0 hQ X fin _ hT2 W.heap.size hT.size
theorem cop_000_000_0 (hQ : ∀ (ch) (a : Act) (d : Nat) (v : Value) (w : World), Q (.panic ch) (a.put (some d) v) w → Q (.panic ch) a w) (X : Cop c w W1 h s1 s2 s3 k1 k2 k3) (fin : ∀ (u3 u7 u11 v1 v2 v3 : Value) (W : World), Below W1.heap.size W1 W → Fr 1 bcell W1.heap.size (bl c) v1 W → Fr 34 Ent.cells W1.heap.size c.es v2 W → Fr 32 (arr .u8 32) W1.heap.size c.ps v3 W → wpAnyH Try.prog .any copOps Q (fun w' => Below h w w') 5 #[true, true, true, true, true, true, true, true, true, true, true, true, true, false, false, false, false, false] ⟨#[.agg o.cells, .pointer (some ⟨h, 0, none⟩), .pointer (some ⟨h + 1, 0, none⟩), u3, .pointer (some ⟨h, 1, none⟩), .slice s1 c.nb k1, v1, u7, .pointer (some ⟨h, 2, none⟩), .slice s2 c.es.length k2, v2, u11, .pointer (some ⟨h, 35, none⟩), .slice s3 c.ps.length k3, v3, .pointer (some ⟨h, 1, none⟩), undef, undef, undef], []⟩ W) (W : World) (hT : Below W1.heap.size W1 W) : wpAnyH Try.prog .any copOps Q (fun w' => Below h w w') 15 #[false, true, false, false, false, true, false, false, false, true, false, false, false, false, false, false, false, false] ⟨#[.agg o.cells, .pointer (some ⟨h, 0, none⟩), .pointer (some ⟨h + 1, 0, none⟩), undef, .pointer (some ⟨h, 1, none⟩), undef, undef, undef, .pointer (some ⟨h, 2, none⟩), undef, undef, undef, .pointer (some ⟨h, 35, none⟩), undef, undef, undef, undef, undef, undef], []⟩ W := by
  refine wpAnyH_all (rs := [0, 2, 4, 6, 8, 10]) (by kernel_rfl) (by simp) fun i hi => ?_
  simp only [List.mem_cons, List.not_mem_nil, or_false] at hi
  rcases hi with rfl | rfl | rfl | rfl | rfl | rfl
  · refine wpOp_plain rfl rfl ?_
    refine op_build 22 rfl (bldB W) ?_
    have hB : Below W.heap.size W (W.alloc (.cells #[] 5)) := (Below.refl _ _).alloc (Nat.le_refl _) _
    have hT2 := hT.trans (hB.mono hT.size)
    refine ⟨X.s.trans (hT2.mono (Nat.le_of_lt X.lt)), ?_⟩
    simp only [Act.put, List.setIfInBounds_toArray, List.set_cons_zero]
    exact cop_100_000_0 hQ X fin _ hT2 W.heap.size hT.size
  · refine wpOp_plain rfl rfl ?_
    have q : W.cell? ⟨h, 1, none⟩ = some (.slice s1 c.nb k1) := (hT.cell (p := ⟨h, 1, none⟩) X.lt).trans X.c1
    refine op_load 22 (.tmp 4) rfl rfl (ldB q) ?_
    refine ⟨X.s.trans (hT.mono (Nat.le_of_lt X.lt)), ?_⟩
    simp only [Act.put, List.setIfInBounds_toArray, List.set_cons_succ, List.set_cons_zero]
    exact cop_000_100_0 hQ X fin _ hT
  · refine wpOp_plain rfl rfl ?_
    refine op_build 24 rfl (bldE W) ?_
    have hB : Below W.heap.size W (W.alloc (.cells #[] 40)) := (Below.refl _ _).alloc (Nat.le_refl _) _
    have hT2 := hT.trans (hB.mono hT.size)
    refine ⟨X.s.trans (hT2.mono (Nat.le_of_lt X.lt)), ?_⟩
    simp only [Act.put, List.setIfInBounds_toArray, List.set_cons_succ, List.set_cons_zero]
    exact cop_010_000_0 hQ X fin _ hT2 W.heap.size hT.size
  · refine wpOp_plain rfl rfl ?_
    have q : W.cell? ⟨h, 2, none⟩ = some (.slice s2 c.es.length k2) := (hT.cell (p := ⟨h, 2, none⟩) X.lt).trans X.c2
    refine op_load 24 (.tmp 8) rfl rfl (ldE q) ?_
    refine ⟨X.s.trans (hT.mono (Nat.le_of_lt X.lt)), ?_⟩
    simp only [Act.put, List.setIfInBounds_toArray, List.set_cons_succ, List.set_cons_zero]
    exact cop_000_010_0 hQ X fin _ hT
  · refine wpOp_plain rfl rfl ?_
    refine op_build 27 rfl (bldI W) ?_
    have hB : Below W.heap.size W (W.alloc (.cells #[] 26)) := (Below.refl _ _).alloc (Nat.le_refl _) _
    have hT2 := hT.trans (hB.mono hT.size)
    refine ⟨X.s.trans (hT2.mono (Nat.le_of_lt X.lt)), ?_⟩
    simp only [Act.put, List.setIfInBounds_toArray, List.set_cons_succ, List.set_cons_zero]
    exact cop_001_000_0 hQ X fin _ hT2 W.heap.size hT.size
  · refine wpOp_plain rfl rfl ?_
    have q : W.cell? ⟨h, 35, none⟩ = some (.slice s3 c.ps.length k3) := (hT.cell (p := ⟨h, 35, none⟩) X.lt).trans X.c3
    refine op_load 27 (.tmp 12) rfl rfl (ldI q) ?_
    refine ⟨X.s.trans (hT.mono (Nat.le_of_lt X.lt)), ?_⟩
    simp only [Act.put, List.setIfInBounds_toArray, List.set_cons_succ, List.set_cons_zero]
    exact cop_000_001_0 hQ X fin _ hT
end
end Go.Proofs.Ytnaoaeapffgojaa
