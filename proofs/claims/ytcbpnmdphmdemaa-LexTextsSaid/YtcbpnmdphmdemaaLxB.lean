/- The contracts of strings.Builder's writers, as far as they serve here. -/
import Derived.Test.YtcbpnmdphmdemaaLxS
import Derived.Lib.Builder
import Derived.Lib.OthersKept
import Derived.Lib.AppendStr
import Derived.Laws.Externs
namespace Go.Proofs.Ytcbpnmdphmdemaa
open Go.RowKit

theorem flat_byC (l : List UInt8) : flatG byC l = Lib.byteCells l := by
  induction l with
  | nil => rfl
  | cons a r ih => rw [flatG, List.flatMap_cons, ← flatG, ih]; rfl
/-- A builder that holds bytes. -/
def Bld (B b : Nat) (l : List UInt8) (w : World) : Prop := Lib.IsBuilder 66 5 B b (Lib.byteCells l) w
theorem Bld.row {B b : Nat} {l : List UInt8} {w : World} (h : Bld B b l w) : B ≤ b ∧ ∃ p v, (p = .pointer none ∨ p = .pointer (some ⟨b, 0, none⟩)) ∧ w.heap[b]? = some (.cells #[p, v] 66 (0, 0)) ∧ OwnB B w v l := by
  have key : ∀ p, (p = .pointer none ∨ p = .pointer (some ⟨b, 0, none⟩)) → Lib.BuilderAt 66 5 B b p (Lib.byteCells l) w → B ≤ b ∧ ∃ p v, (p = .pointer none ∨ p = .pointer (some ⟨b, 0, none⟩)) ∧ w.heap[b]? = some (.cells #[p, v] 66 (0, 0)) ∧ OwnB B w v l := fun p hp h => by
    obtain ⟨hB, v, hb, ho, -⟩ := h
    refine ⟨hB, p, v, hp, hb, ?_⟩
    show w.ownsRow B 5 1 v l.length (flatG byC l)
    rw [flat_byC]
    rw [Lib.byteCells_length] at ho
    exact ho
  rcases h with h | h
  · exact key _ (.inl rfl) h
  · exact key _ (.inr rfl) h
theorem OwnG.nb {α : Type} {e : TypeId} {m : Nat} {f : α → Array Value} {B : Nat} {w : World} {v : Value} {xs : List α} (h : OwnG e m f B w v xs) {g : Nat} {cs : Array Value} {e' : TypeId} {fr : Nat × Nat} (hg : w.heap[g]? = some (.cells cs e' fr)) (hne : e ≠ e') : v.ownBlock ≠ some g := by
  rcases h.2 with ⟨rfl, h0⟩ | ⟨g', cap, cur, rfl, h1, h2, h3⟩
  · exact fun h => by cases h
  · intro hh
    have e1 : g' = g := by simpa [Value.ownBlock] using hh
    subst e1
    rw [hg] at h2
    injection h2 with h2
    injection h2 with h2 h4
    exact hne h4.symm
theorem Bld.of {B b : Nat} {l : List UInt8} {w : World} {p v : Value} (hB : B ≤ b) (hp : p = .pointer none ∨ p = .pointer (some ⟨b, 0, none⟩)) (hb : w.heap[b]? = some (.cells #[p, v] 66 (0, 0))) (ho : OwnB B w v l) : Bld B b l w := by
  have h : Lib.BuilderAt 66 5 B b p (Lib.byteCells l) w := by
    refine ⟨hB, v, hb, ?_, OwnG.nb ho hb (by decide)⟩
    rw [Lib.byteCells_length, ← flat_byC]
    exact ho
  rcases hp with rfl | rfl
  · exact .inl h
  · exact .inr h
theorem bld_info : ∃ j, Try.prog.info? 66 = some j ∧ j.size = 2 := by
  have h : (Try.prog.info? 66).map (·.size) = some 2 := by kernel_rfl
  cases hq : Try.prog.info? 66 with
  | none => rw [hq] at h; cases h
  | some j => rw [hq] at h; exact ⟨j, rfl, by simpa using h⟩
set_option maxRecDepth 100000 in
set_option maxHeartbeats 1000000 in
theorem copyCheck_any (B b : Nat) (l : List UInt8) (w : World) (h : Bld B b l w) :
    Calls Try.prog 60 #[.pointer (some ⟨b, 0, none⟩)] w fun e w' => e = .returned (.tuple #[]) ∧ Bld B b l w' ∧ Below B w w' ∧ Lib.OthersKept 5 (some b) w w' ∧ w'.heap.size = w.heap.size := by
  obtain ⟨hB, p, v, hp, hb, ho⟩ := h.row
  obtain ⟨j, hj, hjs⟩ := bld_info
  have hsh : w.shape? b = some (66, 2) := by simp [World.shape?, hb]
  have c0 : w.cell? ⟨b, 0, none⟩ = some p := (cell_of_row _ _ 0 _ _ _ hb).trans rfl
  have z0 : w.frozen? ⟨b, 0, none⟩ = false := frozen_of_row _ _ _ _ _ hb
  have HB : Hid (Bld B b l w) := h
  have HR : Hid (w.heap[b]? = some (.cells #[p, v] 66 (0, 0))) := hb
  have HO : Hid (OwnB B w v l) := ho
  clear h hb ho
  rcases hp with rfl | rfl
  · go_enter Try.func60, Try.ntmps60
    go_wp2
    rw [Lib.run_to_unsafe w ⟨b, 0, none⟩ Try.underlying64 Try.underlying96 hj (by rw [hjs]; decide) hsh (Nat.zero_lt_succ 1)]
    simp only [Result.andThen]
    rw [Oper.upon_value]
    go_wp2
    rw [run_callFunc_extern Try.func67 (by kernel_rfl) (by kernel_rfl) (by kernel_rfl) (e := Extern.AbiNoEscape.same) (by kernel_rfl)]
    rw [Lib.run_noEscape]
    simp only [Result.andThen]
    rw [Oper.upon_value]
    go_wp2
    rw [Lib.run_from_unsafe w ⟨b, 0, none⟩ Try.underlying96 Try.underlying64 hj hsh (by kernel_rfl)]
    simp only [Result.andThen]
    rw [Oper.upon_value]
    go_wp2
    go_end0
    have r1 : (w.setCell ⟨b, 0, none⟩ (.pointer (some ⟨b, 0, none⟩))).heap[b]? = some (.cells #[.pointer (some ⟨b, 0, none⟩), v] 66 (0, 0)) := heap_setCell_same _ _ _ _ _ _ HR.out
    refine ⟨rfl, Bld.of hB (.inr rfl) r1 (OwnG.keep HO.out fun k hk => heap_setCell_other _ _ _ _ (fun (e : k = b) => OwnG.nb HO.out HR.out (by decide) (e ▸ hk))), (Below.refl B w).setCell (p := ⟨b, 0, none⟩) hB _, Lib.OthersKept.setCell (b := b) (Lib.OthersKept.refl _ _ _) ⟨b, 0, none⟩ rfl _, by simp⟩
  · go_enter Try.func60, Try.ntmps60
    go_wp2
    rw [Lib.run_neq_ptr_same w _ Try.underlying64 hj]
    go_wp2
    go_end0
    exact ⟨rfl, HB.out, Below.refl _ _, Lib.OthersKept.refl _ _ _, rfl⟩
/-- What a writer leaves. -/
def WrP (B b : Nat) (l : List UInt8) (w w' : World) : Prop := Bld B b l w' ∧ Below B w w' ∧ Lib.OthersKept 5 (some b) w w'
theorem own_kind {B : Nat} {w : World} {v : Value} {l : List UInt8} (h : OwnB B w v l) : ∀ g, v.ownBlock = some g → ∃ c fz, w.heap[g]? = some (.cells c 5 fz) := fun g hg => by
  rcases h.2 with ⟨rfl, _⟩ | ⟨g', cap, cur, rfl, _, hgg, _⟩
  · simp [Value.ownBlock] at hg
  · simp [Value.ownBlock] at hg
    subst hg
    exact ⟨cur, _, hgg⟩
/-- An append to a builder's bytes, and the store behind it. -/
theorem wr_put {B b : Nat} {w w1 w2 : World} {p v v' : Value} {l l' : List UInt8} (hB : B ≤ b) (hp : p = .pointer none ∨ p = .pointer (some ⟨b, 0, none⟩)) (hr : w1.heap[b]? = some (.cells #[p, v] 66 (0, 0))) (ho : OwnB B w1 v l) (hb : Below B w w1) (hk : Lib.OthersKept 5 (some b) w w1)
    (hw : B ≤ w1.heap.size) (hg : w1.grownBy w2 v.ownBlock) (ho' : OwnB B w2 v' l') : WrP B b l' w (w2.setCell ⟨b, 1, none⟩ v') := by
  have hr2 : w2.heap[b]? = some (.cells #[p, v] 66 (0, 0)) := (hg.block b (lt_of_row hr) (fun e => OwnG.nb ho hr (by decide) e.symm)).trans hr
  have hr3 : (w2.setCell ⟨b, 1, none⟩ v').heap[b]? = some (.cells #[p, v'] 66 (0, 0)) := heap_setCell_same _ _ _ _ _ _ hr2
  refine ⟨Bld.of hB hp hr3 (OwnG.keep ho' fun k hk => heap_setCell_other _ _ _ _ (fun (e : k = b) => OwnG.nb ho' hr2 (by decide) (e ▸ hk))), ?_, Lib.OthersKept.setCell (b := b) (hk.grown hg (own_kind ho)) ⟨b, 1, none⟩ rfl _⟩
  exact (OwnG.grown ho (Nat.le_refl _) hw hb hg).setCell (p := ⟨b, 1, none⟩) hB _
set_option maxRecDepth 100000 in
set_option maxHeartbeats 1000000 in
theorem writeByte_any (B b : Nat) (l : List UInt8) (c : UInt8) (w : World) (h : Bld B b l w) (hl : l.length ≤ 900000) (hw : B ≤ w.heap.size) :
    Calls Try.prog 35 #[.pointer (some ⟨b, 0, none⟩), .int .u8 c.toNat] w fun e w' => e = .returned .nilIface ∧ WrP B b (l ++ [c]) w w' := by
  go_enter Try.func35, Try.ntmps35
  go_wp2_with fail
  refine (copyCheck_any B b l w h).mono ?_
  rintro e W1 ⟨rfl, h1, b1, k1, s1⟩
  clear h
  obtain ⟨hB, p, v, hp, hr, ho⟩ := h1.row
  obtain ⟨sp, cap, rfl⟩ := OwnG.shape ho
  have hw1 : B ≤ W1.heap.size := by rw [s1]; exact hw
  have ba : Below W1.heap.size W1 (W1.alloc (.cells #[.int .u8 c.toNat] 5)) := (Below.refl _ _).alloc (Nat.le_refl _) _
  obtain ⟨v', W2, hra, q1, q2, -⟩ := own_run elB (ys := [c]) (sp := some ⟨W1.heap.size, 0, none⟩) (cap := 1) 58 (OwnG.below ho ba) (fun h => by cases h) (oneG_rows (x := c) (heap_alloc_new W1 _)) (by simp; omega) (by simp; omega)
  obtain ⟨sp', cap', rfl⟩ := OwnG.shape q1
  have hrA : (W1.alloc (.cells #[.int .u8 c.toNat] 5)).heap[b]? = some (.cells #[p, .slice sp l.length cap] 66 (0, 0)) := (ba.block b (lt_of_row hr)).trans hr
  have PUT : Hid (WrP B b (l ++ [c]) w (W2.setCell ⟨b, 1, none⟩ (.slice sp' (l ++ [c]).length cap'))) := wr_put hB hp hrA (OwnG.below ho ba) (b1.alloc hw1 _) (k1.alloc _) (by simp; omega) q2 q1
  have hr2 : W2.heap[b]? = some (.cells #[p, .slice sp l.length cap] 66 (0, 0)) := (q2.block b (lt_of_row hrA) (fun e => OwnG.nb (OwnG.below ho ba) hrA (by decide) e.symm)).trans hrA
  have c1 : W1.cell? ⟨b, 1, none⟩ = some (.slice sp l.length cap) := (cell_of_row _ _ 1 _ _ _ hr).trans rfl
  have d1 : W2.cell? ⟨b, 1, none⟩ = some (.slice sp l.length cap) := (cell_of_row _ _ 1 _ _ _ hr2).trans rfl
  have z1 : W2.frozen? ⟨b, 1, none⟩ = false := frozen_of_row _ _ _ _ _ hr2
  have hlen : (l ++ [c]).length = l.length + 1 := by simp
  rw [hlen] at hra PUT
  clear q1 q2 hr2 hrA ba ho hr h1 b1 k1 s1
  go_wp2_with (at_builtin; refine list_appendg (.tmp 11) (.tmp 13) 58 (by rfl) (by rfl) (by rfl) (by rfl) hra ?_)
  go_ret
  exact ⟨rfl, PUT.out⟩
theorem strCells_flat (s : ByteArray) : Lib.strCells s = flatG byC s.data.toList := by
  rw [flat_byC]
  simp [Lib.strCells, Lib.byteCells]
theorem list_append2 {P : Program} {ops : Array Oper} {rest : List Oper} {Q : Exit → Act → World → Prop} {a : Act} {w w' : World} {o : Oper} {v' vs vx : Value} (s x : Operand) (t u : TypeId)
    (ho : o.op = .call { callee := .builtin .append, args := #[s, x], argTypes := #[t, u] }) (hw : Region.wanted o (yielded ops a.tmps) = true) (hs : a.eval s = vs) (hx : a.eval x = vx) (hr : (Builtin.append_ #[t, u] o.type #[vs, vx]).run P w = .ok v' w') (h : wpList P ops Q rest (a.put o.dst v') w') : wpList P ops Q (o :: rest) a w :=
  wpList_step fun _ hK => by
    rw [if_pos hw]
    unfold Oper.wp execOp
    simp only [ho, resolve, invoke, builtin, Sem.run_bind, Sem.run_pure, Result.andThen_ok, List.map_toArray, List.map_cons, List.map_nil, hs, hx, hr]
    exact hK _ _ h
set_option maxRecDepth 100000 in
set_option maxHeartbeats 1000000 in
theorem writeString_any (B b : Nat) (l : List UInt8) (s : ByteArray) (w : World) (h : Bld B b l w) (hl : l.length + s.size ≤ 140737488355328) (hw : B ≤ w.heap.size) :
    Calls Try.prog 36 #[.pointer (some ⟨b, 0, none⟩), .string s] w fun e w' => e = .returned (.tuple #[.int .i64 s.size, .nilIface]) ∧ WrP B b (l ++ s.data.toList) w w' := by
  go_enter Try.func36, Try.ntmps36
  go_wp2_with fail
  refine (copyCheck_any B b l w h).mono ?_
  rintro e W1 ⟨rfl, h1, b1, k1, s1⟩
  clear h
  obtain ⟨hB, p, v, hp, hr, ho⟩ := h1.row
  obtain ⟨sp, cap, rfl⟩ := OwnG.shape ho
  have hw1 : B ≤ W1.heap.size := by rw [s1]; exact hw
  obtain ⟨i, z, hi, hz0, hz1, hz2, -⟩ := elB.hi
  have hinf : (Try.prog.info? 5).map (fun i => (i.zero, i.size, i.bytes)) = some (some (.int .u8 0), 1, 1) := by kernel_rfl
  rw [hi] at hinf
  simp only [Option.map_some, Option.some.injEq, Prod.mk.injEq] at hinf
  obtain ⟨v', W2, hra, q1, q2, -⟩ := Lib.run_append_own_string (P := Try.prog) W1 B 58 9 58 5 i Try.underlying58 Try.underlying9 hi hinf.1 hinf.2.1 hinf.2.2 _ l.length (flatG byC l) ho s (by unfold maxLen; omega) hl hw1
  have q1' : OwnB B W2 v' (l ++ s.data.toList) := by
    show W2.ownsRow B 5 1 v' (l ++ s.data.toList).length (flatG byC (l ++ s.data.toList))
    rw [strCells_flat] at q1
    rw [List.length_append, show s.data.toList.length = s.size by simp, flatG, List.flatMap_append]
    exact q1
  obtain ⟨sp', cap', rfl⟩ := OwnG.shape q1'
  have PUT : Hid (WrP B b (l ++ s.data.toList) w (W2.setCell ⟨b, 1, none⟩ (.slice sp' (l ++ s.data.toList).length cap'))) := wr_put hB hp hr ho b1 k1 hw1 q2 q1'
  have hr2 : W2.heap[b]? = some (.cells #[p, .slice sp l.length cap] 66 (0, 0)) := (q2.block b (lt_of_row hr) (fun e => OwnG.nb ho hr (by decide) e.symm)).trans hr
  have c1 : W1.cell? ⟨b, 1, none⟩ = some (.slice sp l.length cap) := (cell_of_row _ _ 1 _ _ _ hr).trans rfl
  have d1 : W2.cell? ⟨b, 1, none⟩ = some (.slice sp l.length cap) := (cell_of_row _ _ 1 _ _ _ hr2).trans rfl
  have z1 : W2.frozen? ⟨b, 1, none⟩ = false := frozen_of_row _ _ _ _ _ hr2
  generalize (l ++ s.data.toList).length = n at hra PUT
  clear q1 q1' q2 hr2 ho hr h1 b1 k1 hinf hi hz0 hz1 hz2
  go_wp2_with (at_builtin; refine list_append2 (.tmp 12) (.tmp 13) 58 9 (by rfl) (by rfl) (by rfl) (by rfl) hra ?_)
  go_ret2
  exact ⟨rfl, PUT.out⟩
set_option maxRecDepth 100000 in
set_option maxHeartbeats 1000000 in
theorem appendRune_any (B : Nat) (v : Value) (l : List UInt8) (c : UInt8) (hc : c.toNat < 128) (w : World) (ho : OwnB B w v l) (hl : l.length ≤ 900000) (hw : B ≤ w.heap.size) :
    Calls Try.prog 62 #[v, .int .i32 c.toNat] w fun e w' => ∃ v', e = .returned v' ∧ OwnB B w' v' (l ++ [c]) ∧ (w.alloc (.cells #[.int .u8 c.toNat] 5)).grownBy w' v.ownBlock := by
  have ba : Below w.heap.size w (w.alloc (.cells #[.int .u8 c.toNat] 5)) := (Below.refl _ _).alloc (Nat.le_refl _) _
  obtain ⟨v', W2, hra, q1, q2, -⟩ := own_run elB (ys := [c]) (sp := some ⟨w.heap.size, 0, none⟩) (cap := 1) 58 (OwnG.below ho ba) (fun h => by cases h) (oneG_rows (x := c) (heap_alloc_new w _)) (by simp; omega) (by simp; omega)
  have hw1 : IntKind.u32.wrap (c.toNat : Int) = c.toNat := by
    rw [show IntKind.u32.wrap (c.toNat : Int) = (c.toNat : Int) % 4294967296 by simp [IntKind.wrap, IntKind.bits, IntKind.signed]]
    omega
  have hw2 : IntKind.u8.wrap (c.toNat : Int) = c.toNat := by
    rw [show IntKind.u8.wrap (c.toNat : Int) = (c.toNat : Int) % 256 by simp [IntKind.wrap, IntKind.bits, IntKind.signed]]
    omega
  have hle : (c.toNat : Int) ≤ 127 := by omega
  have HQ : Hid (OwnB B W2 v' (l ++ [c])) := q1
  have HG : Hid ((w.alloc (.cells #[.int .u8 c.toNat] 5)).grownBy W2 v.ownBlock) := q2
  clear q1 q2 ba ho
  go_enter Try.func62, Try.ntmps62
  go_wp2_with (at_builtin; refine list_appendg (.tmp 8) (.tmp 11) 58 (by rfl) (by rfl) (by rfl) (by rfl) hra ?_)
  go_ret
  exact ⟨_, rfl, HQ.out, HG.out⟩
set_option maxRecDepth 100000 in
set_option maxHeartbeats 1000000 in
theorem writeRune_any (B b : Nat) (l : List UInt8) (c : UInt8) (hc : c.toNat < 128) (w : World) (h : Bld B b l w) (hl : l.length ≤ 900000) (hw : B ≤ w.heap.size) :
    Calls Try.prog 45 #[.pointer (some ⟨b, 0, none⟩), .int .i32 c.toNat] w fun e w' => (∃ n, e = .returned (.tuple #[.int .i64 n, .nilIface])) ∧ WrP B b (l ++ [c]) w w' := by
  go_enter Try.func45, Try.ntmps45
  go_wp2_with fail
  refine (copyCheck_any B b l w h).mono ?_
  rintro e W1 ⟨rfl, h1, b1, k1, s1⟩
  clear h
  obtain ⟨hB, p, v, hp, hr, ho⟩ := h1.row
  obtain ⟨sp, cap, rfl⟩ := OwnG.shape ho
  have hw1 : B ≤ W1.heap.size := by rw [s1]; exact hw
  have c1 : W1.cell? ⟨b, 1, none⟩ = some (.slice sp l.length cap) := (cell_of_row _ _ 1 _ _ _ hr).trans rfl
  clear s1
  go_wp2_with fail
  refine (appendRune_any B _ l c hc W1 ho hl hw1).mono ?_
  rintro e W2 ⟨v', rfl, q1, q2⟩
  have ba : Below W1.heap.size W1 (W1.alloc (.cells #[.int .u8 c.toNat] 5)) := (Below.refl _ _).alloc (Nat.le_refl _) _
  obtain ⟨sp', cap', rfl⟩ := OwnG.shape q1
  have hrA : (W1.alloc (.cells #[.int .u8 c.toNat] 5)).heap[b]? = some (.cells #[p, .slice sp l.length cap] 66 (0, 0)) := (ba.block b (lt_of_row hr)).trans hr
  have PUT : Hid (WrP B b (l ++ [c]) w (W2.setCell ⟨b, 1, none⟩ (.slice sp' (l ++ [c]).length cap'))) := wr_put hB hp hrA (OwnG.below ho ba) (b1.alloc hw1 _) (k1.alloc _) (by simp; omega) q2 q1
  have hr2 : W2.heap[b]? = some (.cells #[p, .slice sp l.length cap] 66 (0, 0)) := (q2.block b (lt_of_row hrA) (fun e => OwnG.nb (OwnG.below ho ba) hrA (by decide) e.symm)).trans hrA
  have hr3 : (W2.setCell ⟨b, 1, none⟩ (.slice sp' (l ++ [c]).length cap')).heap[b]? = some (.cells #[p, .slice sp' (l ++ [c]).length cap'] 66 (0, 0)) := heap_setCell_same _ _ _ _ _ _ hr2
  have d1 : W2.cell? ⟨b, 1, none⟩ = some (.slice sp l.length cap) := (cell_of_row _ _ 1 _ _ _ hr2).trans rfl
  have z1 : W2.frozen? ⟨b, 1, none⟩ = false := frozen_of_row _ _ _ _ _ hr2
  have hlen : (l ++ [c]).length = l.length + 1 := by simp
  rw [hlen] at PUT hr3 ⊢
  have e1 : (W2.setCell ⟨b, 1, none⟩ (.slice sp' (l.length + 1) cap')).cell? ⟨b, 1, none⟩ = some (.slice sp' (l.length + 1) cap') := (cell_of_row _ _ 1 _ _ _ hr3).trans rfl
  clear q1 q2 hr2 hr3 hrA ba ho hr h1 b1 k1
  go_wp2
  go_ret2
  exact ⟨⟨_, rfl⟩, PUT.out⟩
end Go.Proofs.Ytcbpnmdphmdemaa
