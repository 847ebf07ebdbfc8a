import Derived.Test.YtbadafkfjfbnlaaGreatDoorTwB
import Derived.Lib.Builder
import Derived.Lib.OthersKept
import Derived.Lib.AppendStr
import Derived.Laws.Externs
import Derived.Test.YtbadafkfjfbnlaaGreatDoorTwShelf
import Derived.Test.YtbadafkfjfbnlaaGreatDoorTwD
namespace Go.Proofs.YtbadafkfjfbnlaaGreatDoor
set_option maxRecDepth 100000
set_option maxHeartbeats 4000000
open Go.RowKit
theorem flat_byC (l : List UInt8) : flatG byC l = Lib.byteCells l := by
 induction l with
 | nil => rfl
 | cons a r ih => rw [flatG, List.flatMap_cons, <- flatG, ih]; rfl
def Bld (B b : Nat) (l : List UInt8) (w : World) : Prop := Lib.IsBuilder 58 5 B b (Lib.byteCells l) w
theorem Bld.row {B b : Nat} {l : List UInt8} {w : World} (h : Bld B b l w) : B <= b ∧ ∃ p v, (p = .pointer none ∨ p = .pointer (some ⟨b, 0, none⟩)) ∧ w.heap[b]? = some (.cells #[p, v] 58 (0, 0)) ∧ OwnB B w v l := by
 have key : ∀ p, (p = .pointer none ∨ p = .pointer (some ⟨b, 0, none⟩)) -> Lib.BuilderAt 58 5 B b p (Lib.byteCells l) w -> B <= b ∧ ∃ p v, (p = .pointer none ∨ p = .pointer (some ⟨b, 0, none⟩)) ∧ w.heap[b]? = some (.cells #[p, v] 58 (0, 0)) ∧ OwnB B w v l := fun p hp h => by
  obtain ⟨hB, v, hb, ho, -⟩ := h
  refine ⟨hB, p, v, hp, hb, ?_⟩
  show w.ownsRow B 5 1 v l.length (flatG byC l)
  rw [flat_byC]
  rw [Lib.byteCells_length] at ho
  exact ho
 rcases h with h | h
 ·exact key _ (.inl rfl) h
 ·exact key _ (.inr rfl) h
theorem OwnG.nb {α : Type} {e : TypeId} {m : Nat} {f : α -> Array Value} {B : Nat} {w : World} {v : Value} {xs : List α} (h : OwnG e m f B w v xs) {g : Nat} {cs : Array Value} {e' : TypeId} {fr : Nat × Nat} (hg : w.heap[g]? = some (.cells cs e' fr)) (hne : e ≠ e') : v.ownBlock ≠ some g := by
 rcases h.2 with ⟨rfl, h0⟩ | ⟨g', cap, cur, rfl, h1, h2, h3⟩
 ·exact fun h => by cases h
 ·intro hh
  have e1 : g' = g := by simpa [Value.ownBlock] using hh
  subst e1
  rw [hg] at h2
  injection h2 with h2
  injection h2 with h2 h4
  exact hne h4.symm
theorem Bld.of {B b : Nat} {l : List UInt8} {w : World} {p v : Value} (hB : B <= b) (hp : p = .pointer none ∨ p = .pointer (some ⟨b, 0, none⟩)) (hb : w.heap[b]? = some (.cells #[p, v] 58 (0, 0))) (ho : OwnB B w v l) : Bld B b l w := by
 have h : Lib.BuilderAt 58 5 B b p (Lib.byteCells l) w := by
  refine ⟨hB, v, hb, ?_, OwnG.nb ho hb (by decide)⟩
  rw [Lib.byteCells_length, <- flat_byC]
  exact ho
 rcases hp with rfl | rfl
 ·exact .inl h
 ·exact .inr h
theorem bld_info : ∃ j, Tryz.prog.info? 58 = some j ∧ j.size = 2 := by
 have h : (Tryz.prog.info? 58).map (·.size) = some 2 := by kernel_rfl
 cases hq : Tryz.prog.info? 58 with
 | none => rw [hq] at h; cases h
 | some j => rw [hq] at h; exact ⟨j, rfl, by simpa using h⟩
theorem copyCheck_any (B b : Nat) (l : List UInt8) (w : World) (h : Bld B b l w) :
  Calls Tryz.prog 46 #[.pointer (some ⟨b, 0, none⟩)] w fun e w' => e = .returned (.tuple #[]) ∧ Bld B b l w' ∧ Below B w w' ∧ Lib.OthersKept 5 (some b) w w' ∧ w'.heap.size = w.heap.size := by
 obtain ⟨hB, p, v, hp, hb, ho⟩ := h.row
 obtain ⟨j, hj, hjs⟩ := bld_info
 have hsh : w.shape? b = some (58, 2) := by simp [World.shape?, hb]
 have c0 : w.cell? ⟨b, 0, none⟩ = some p := (cell_of_row _ _ 0 _ _ _ hb).trans rfl
 have z0 : w.frozen? ⟨b, 0, none⟩ = false := frozen_of_row _ _ _ _ _ hb
 have HB : Hid (Bld B b l w) := h
 have HR : Hid (w.heap[b]? = some (.cells #[p, v] 58 (0, 0))) := hb
 have HO : Hid (OwnB B w v l) := ho
 clear h hb ho
 rcases hp with rfl | rfl
 ·go_enter Tryz.func46, Tryz.ntmps46
  go_wp2
  rw [Lib.run_to_unsafe w ⟨b, 0, none⟩ Tryz.underlying55 Tryz.underlying108 hj (by rw [hjs]; decide) hsh (Nat.zero_lt_succ 1)]
  simp only [Result.andThen]
  rw [Oper.upon_value]
  go_wp2
  rw [run_callFunc_extern Tryz.func62 (by kernel_rfl) (by kernel_rfl) (by kernel_rfl) (e := Extern.AbiNoEscape.same) (by kernel_rfl)]
  rw [Lib.run_noEscape]
  simp only [Result.andThen]
  rw [Oper.upon_value]
  go_wp2
  rw [Lib.run_from_unsafe w ⟨b, 0, none⟩ Tryz.underlying108 Tryz.underlying55 hj hsh (by kernel_rfl)]
  simp only [Result.andThen]
  rw [Oper.upon_value]
  go_wp2
  go_end0
  have r1 : (w.setCell ⟨b, 0, none⟩ (.pointer (some ⟨b, 0, none⟩))).heap[b]? = some (.cells #[.pointer (some ⟨b, 0, none⟩), v] 58 (0, 0)) := heap_setCell_same _ _ _ _ _ _ HR.out
  refine ⟨rfl, Bld.of hB (.inr rfl) r1 (OwnG.keep HO.out fun k hk => heap_setCell_other _ _ _ _ (fun (e : k = b) => OwnG.nb HO.out HR.out (by decide) (e ▸ hk))), (Below.refl B w).setCell (p := ⟨b, 0, none⟩) hB _, Lib.OthersKept.setCell (b := b) (Lib.OthersKept.refl _ _ _) ⟨b, 0, none⟩ rfl _, by simp⟩
 ·go_enter Tryz.func46, Tryz.ntmps46
  go_wp2
  rw [Lib.run_neq_ptr_same w _ Tryz.underlying55 hj]
  go_wp2
  go_end0
  exact ⟨rfl, HB.out, Below.refl _ _, Lib.OthersKept.refl _ _ _, rfl⟩
def WrP (B b : Nat) (l : List UInt8) (w w' : World) : Prop := Bld B b l w' ∧ Below B w w' ∧ Lib.OthersKept 5 (some b) w w'
theorem own_kind {B : Nat} {w : World} {v : Value} {l : List UInt8} (h : OwnB B w v l) : ∀ g, v.ownBlock = some g -> ∃ c fz, w.heap[g]? = some (.cells c 5 fz) := fun g hg => by
 rcases h.2 with ⟨rfl, _⟩ | ⟨g', cap, cur, rfl, _, hgg, _⟩
 ·simp [Value.ownBlock] at hg
 ·simp [Value.ownBlock] at hg
  subst hg
  exact ⟨cur, _, hgg⟩
theorem wr_put {B b : Nat} {w w1 w2 : World} {p v v' : Value} {l l' : List UInt8} (hB : B <= b) (hp : p = .pointer none ∨ p = .pointer (some ⟨b, 0, none⟩)) (hr : w1.heap[b]? = some (.cells #[p, v] 58 (0, 0))) (ho : OwnB B w1 v l) (hb : Below B w w1) (hk : Lib.OthersKept 5 (some b) w w1)
  (hw : B <= w1.heap.size) (hg : w1.grownBy w2 v.ownBlock) (ho' : OwnB B w2 v' l') : WrP B b l' w (w2.setCell ⟨b, 1, none⟩ v') := by
 have hr2 : w2.heap[b]? = some (.cells #[p, v] 58 (0, 0)) := (hg.block b (lt_of_row hr) (fun e => OwnG.nb ho hr (by decide) e.symm)).trans hr
 have hr3 : (w2.setCell ⟨b, 1, none⟩ v').heap[b]? = some (.cells #[p, v'] 58 (0, 0)) := heap_setCell_same _ _ _ _ _ _ hr2
 refine ⟨Bld.of hB hp hr3 (OwnG.keep ho' fun k hk => heap_setCell_other _ _ _ _ (fun (e : k = b) => OwnG.nb ho' hr2 (by decide) (e ▸ hk))), ?_, Lib.OthersKept.setCell (b := b) (hk.grown hg (own_kind ho)) ⟨b, 1, none⟩ rfl _⟩
 exact (OwnG.grown ho (Nat.le_refl _) hw hb hg).setCell (p := ⟨b, 1, none⟩) hB _
theorem writeByte_any (B b : Nat) (l : List UInt8) (c : UInt8) (w : World) (h : Bld B b l w) (hl : l.length <= 900000) (hw : B <= w.heap.size) :
  Calls Tryz.prog 26 #[.pointer (some ⟨b, 0, none⟩), .int .u8 c.toNat] w fun e w' => e = .returned .nilIface ∧ WrP B b (l ++ [c]) w w' := by
 go_enter Tryz.func26, Tryz.ntmps26
 go_wp2_with fail
 refine (copyCheck_any B b l w h).mono ?_
 rintro e W1 ⟨rfl, h1, b1, k1, s1⟩
 clear h
 obtain ⟨hB, p, v, hp, hr, ho⟩ := h1.row
 obtain ⟨sp, cap, rfl⟩ := OwnG.shape ho
 have hw1 : B <= W1.heap.size := by rw [s1]; exact hw
 have ba : Below W1.heap.size W1 (W1.alloc (.cells #[.int .u8 c.toNat] 5)) := (Below.refl _ _).alloc (Nat.le_refl _) _
 obtain ⟨v', W2, hra, q1, q2, -⟩ := own_run elB (ys := [c]) (sp := some ⟨W1.heap.size, 0, none⟩) (cap := 1) 56 (OwnG.below ho ba) (fun h => by cases h) (oneG_rows (x := c) (heap_alloc_new W1 _)) (by simp; omega) (by simp; omega)
 obtain ⟨sp', cap', rfl⟩ := OwnG.shape q1
 have hrA : (W1.alloc (.cells #[.int .u8 c.toNat] 5)).heap[b]? = some (.cells #[p, .slice sp l.length cap] 58 (0, 0)) := (ba.block b (lt_of_row hr)).trans hr
 have PUT : Hid (WrP B b (l ++ [c]) w (W2.setCell ⟨b, 1, none⟩ (.slice sp' (l ++ [c]).length cap'))) := wr_put hB hp hrA (OwnG.below ho ba) (b1.alloc hw1 _) (k1.alloc _) (by simp; omega) q2 q1
 have hr2 : W2.heap[b]? = some (.cells #[p, .slice sp l.length cap] 58 (0, 0)) := (q2.block b (lt_of_row hrA) (fun e => OwnG.nb (OwnG.below ho ba) hrA (by decide) e.symm)).trans hrA
 have c1 : W1.cell? ⟨b, 1, none⟩ = some (.slice sp l.length cap) := (cell_of_row _ _ 1 _ _ _ hr).trans rfl
 have d1 : W2.cell? ⟨b, 1, none⟩ = some (.slice sp l.length cap) := (cell_of_row _ _ 1 _ _ _ hr2).trans rfl
 have z1 : W2.frozen? ⟨b, 1, none⟩ = false := frozen_of_row _ _ _ _ _ hr2
 have hlen : (l ++ [c]).length = l.length + 1 := by simp
 rw [hlen] at hra PUT
 clear q1 q2 hr2 hrA ba ho hr h1 b1 k1 s1
 go_wp2_with (at_builtin; refine list_appendg (.tmp 11) (.tmp 13) 56 (by rfl) (by rfl) (by rfl) (by rfl) hra ?_)
 go_ret
 exact ⟨rfl, PUT.out⟩
theorem strCells_flat (s : ByteArray) : Lib.strCells s = flatG byC s.data.toList := by
 rw [flat_byC]
 simp [Lib.strCells, Lib.byteCells]
theorem list_append2 {P : Program} {ops : Array Oper} {rest : List Oper} {Q : Exit -> Act -> World -> Prop} {a : Act} {w w' : World} {o : Oper} {v' vs vx : Value} (s x : Operand) (t u : TypeId)
  (ho : o.op = .call { callee := .builtin .append, args := #[s, x], argTypes := #[t, u] }) (hw : Region.wanted o (yielded ops a.tmps) = true) (hs : a.eval s = vs) (hx : a.eval x = vx) (hr : (Builtin.append_ #[t, u] o.type #[vs, vx]).run P w = .ok v' w') (h : wpList P ops Q rest (a.put o.dst v') w') : wpList P ops Q (o :: rest) a w :=
 wpList_step fun _ hK => by
  rw [if_pos hw]
  unfold Oper.wp execOp
  simp only [ho, resolve, invoke, builtin, Sem.run_bind, Sem.run_pure, Result.andThen_ok, List.map_toArray, List.map_cons, List.map_nil, hs, hx, hr]
  exact hK _ _ h
theorem writeString_any (B b : Nat) (l : List UInt8) (s : ByteArray) (w : World) (h : Bld B b l w) (hl : l.length + s.size <= 140737488355328) (hw : B <= w.heap.size) :
  Calls Tryz.prog 27 #[.pointer (some ⟨b, 0, none⟩), .string s] w fun e w' => e = .returned (.tuple #[.int .i64 s.size, .nilIface]) ∧ WrP B b (l ++ s.data.toList) w w' := by
 go_enter Tryz.func27, Tryz.ntmps27
 go_wp2_with fail
 refine (copyCheck_any B b l w h).mono ?_
 rintro e W1 ⟨rfl, h1, b1, k1, s1⟩
 clear h
 obtain ⟨hB, p, v, hp, hr, ho⟩ := h1.row
 obtain ⟨sp, cap, rfl⟩ := OwnG.shape ho
 have hw1 : B <= W1.heap.size := by rw [s1]; exact hw
 obtain ⟨i, z, hi, hz0, hz1, hz2, -⟩ := elB.hi
 have hinf : (Tryz.prog.info? 5).map (fun i => (i.zero, i.size, i.bytes)) = some (some (.int .u8 0), 1, 1) := by kernel_rfl
 rw [hi] at hinf
 simp only [Option.map_some, Option.some.injEq, Prod.mk.injEq] at hinf
 obtain ⟨v', W2, hra, q1, q2, -⟩ := Lib.run_append_own_string (P := Tryz.prog) W1 B 56 9 56 5 i Tryz.underlying56 Tryz.underlying9 hi hinf.1 hinf.2.1 hinf.2.2 _ l.length (flatG byC l) ho s (by unfold maxLen; omega) hl hw1
 have q1' : OwnB B W2 v' (l ++ s.data.toList) := by
  show W2.ownsRow B 5 1 v' (l ++ s.data.toList).length (flatG byC (l ++ s.data.toList))
  rw [strCells_flat] at q1
  rw [List.length_append, show s.data.toList.length = s.size by simp, flatG, List.flatMap_append]
  exact q1
 obtain ⟨sp', cap', rfl⟩ := OwnG.shape q1'
 have PUT : Hid (WrP B b (l ++ s.data.toList) w (W2.setCell ⟨b, 1, none⟩ (.slice sp' (l ++ s.data.toList).length cap'))) := wr_put hB hp hr ho b1 k1 hw1 q2 q1'
 have hr2 : W2.heap[b]? = some (.cells #[p, .slice sp l.length cap] 58 (0, 0)) := (q2.block b (lt_of_row hr) (fun e => OwnG.nb ho hr (by decide) e.symm)).trans hr
 have c1 : W1.cell? ⟨b, 1, none⟩ = some (.slice sp l.length cap) := (cell_of_row _ _ 1 _ _ _ hr).trans rfl
 have d1 : W2.cell? ⟨b, 1, none⟩ = some (.slice sp l.length cap) := (cell_of_row _ _ 1 _ _ _ hr2).trans rfl
 have z1 : W2.frozen? ⟨b, 1, none⟩ = false := frozen_of_row _ _ _ _ _ hr2
 generalize (l ++ s.data.toList).length = n at hra PUT
 clear q1 q1' q2 hr2 ho hr h1 b1 k1 hinf hi hz0 hz1 hz2
 go_wp2_with (at_builtin; refine list_append2 (.tmp 12) (.tmp 13) 56 9 (by rfl) (by rfl) (by rfl) (by rfl) hra ?_)
 go_ret2
 exact ⟨rfl, PUT.out⟩
theorem appendRune_any (B : Nat) (v : Value) (l : List UInt8) (c : UInt8) (hc : c.toNat < 128) (w : World) (ho : OwnB B w v l) (hl : l.length <= 900000) (hw : B <= w.heap.size) :
  Calls Tryz.prog 144 #[v, .int .i32 c.toNat] w fun e w' => ∃ v', e = .returned v' ∧ OwnB B w' v' (l ++ [c]) ∧ (w.alloc (.cells #[.int .u8 c.toNat] 5)).grownBy w' v.ownBlock := by
 have ba : Below w.heap.size w (w.alloc (.cells #[.int .u8 c.toNat] 5)) := (Below.refl _ _).alloc (Nat.le_refl _) _
 obtain ⟨v', W2, hra, q1, q2, -⟩ := own_run elB (ys := [c]) (sp := some ⟨w.heap.size, 0, none⟩) (cap := 1) 56 (OwnG.below ho ba) (fun h => by cases h) (oneG_rows (x := c) (heap_alloc_new w _)) (by simp; omega) (by simp; omega)
 have hw1 : IntKind.u32.wrap (c.toNat : Int) = c.toNat := by
  rw [show IntKind.u32.wrap (c.toNat : Int) = (c.toNat : Int) % 4294967296 by simp [IntKind.wrap, IntKind.bits, IntKind.signed]]
  omega
 have hw2 : IntKind.u8.wrap (c.toNat : Int) = c.toNat := by
  rw [show IntKind.u8.wrap (c.toNat : Int) = (c.toNat : Int) % 256 by simp [IntKind.wrap, IntKind.bits, IntKind.signed]]
  omega
 have hle : (c.toNat : Int) <= 127 := by omega
 have HQ : Hid (OwnB B W2 v' (l ++ [c])) := q1
 have HG : Hid ((w.alloc (.cells #[.int .u8 c.toNat] 5)).grownBy W2 v.ownBlock) := q2
 clear q1 q2 ba ho
 go_enter Tryz.func144, Tryz.ntmps144
 go_wp2_with (at_builtin; refine list_appendg (.tmp 8) (.tmp 11) 56 (by rfl) (by rfl) (by rfl) (by rfl) hra ?_)
 go_ret
 exact ⟨_, rfl, HQ.out, HG.out⟩
theorem writeRune_any (B b : Nat) (l : List UInt8) (c : UInt8) (hc : c.toNat < 128) (w : World) (h : Bld B b l w) (hl : l.length <= 900000) (hw : B <= w.heap.size) :
  Calls Tryz.prog 126 #[.pointer (some ⟨b, 0, none⟩), .int .i32 c.toNat] w fun e w' => (∃ n, e = .returned (.tuple #[.int .i64 n, .nilIface])) ∧ WrP B b (l ++ [c]) w w' := by
 go_enter Tryz.func126, Tryz.ntmps126
 go_wp2_with fail
 refine (copyCheck_any B b l w h).mono ?_
 rintro e W1 ⟨rfl, h1, b1, k1, s1⟩
 clear h
 obtain ⟨hB, p, v, hp, hr, ho⟩ := h1.row
 obtain ⟨sp, cap, rfl⟩ := OwnG.shape ho
 have hw1 : B <= W1.heap.size := by rw [s1]; exact hw
 have c1 : W1.cell? ⟨b, 1, none⟩ = some (.slice sp l.length cap) := (cell_of_row _ _ 1 _ _ _ hr).trans rfl
 clear s1
 go_wp2_with fail
 refine (appendRune_any B _ l c hc W1 ho hl hw1).mono ?_
 rintro e W2 ⟨v', rfl, q1, q2⟩
 have ba : Below W1.heap.size W1 (W1.alloc (.cells #[.int .u8 c.toNat] 5)) := (Below.refl _ _).alloc (Nat.le_refl _) _
 obtain ⟨sp', cap', rfl⟩ := OwnG.shape q1
 have hrA : (W1.alloc (.cells #[.int .u8 c.toNat] 5)).heap[b]? = some (.cells #[p, .slice sp l.length cap] 58 (0, 0)) := (ba.block b (lt_of_row hr)).trans hr
 have PUT : Hid (WrP B b (l ++ [c]) w (W2.setCell ⟨b, 1, none⟩ (.slice sp' (l ++ [c]).length cap'))) := wr_put hB hp hrA (OwnG.below ho ba) (b1.alloc hw1 _) (k1.alloc _) (by simp; omega) q2 q1
 have hr2 : W2.heap[b]? = some (.cells #[p, .slice sp l.length cap] 58 (0, 0)) := (q2.block b (lt_of_row hrA) (fun e => OwnG.nb (OwnG.below ho ba) hrA (by decide) e.symm)).trans hrA
 have hr3 : (W2.setCell ⟨b, 1, none⟩ (.slice sp' (l ++ [c]).length cap')).heap[b]? = some (.cells #[p, .slice sp' (l ++ [c]).length cap'] 58 (0, 0)) := heap_setCell_same _ _ _ _ _ _ hr2
 have d1 : W2.cell? ⟨b, 1, none⟩ = some (.slice sp l.length cap) := (cell_of_row _ _ 1 _ _ _ hr2).trans rfl
 have z1 : W2.frozen? ⟨b, 1, none⟩ = false := frozen_of_row _ _ _ _ _ hr2
 have hlen : (l ++ [c]).length = l.length + 1 := by simp
 rw [hlen] at PUT hr3 ⊢
 have e1 : (W2.setCell ⟨b, 1, none⟩ (.slice sp' (l.length + 1) cap')).cell? ⟨b, 1, none⟩ = some (.slice sp' (l.length + 1) cap') := (cell_of_row _ _ 1 _ _ _ hr3).trans rfl
 clear q1 q2 hr2 hr3 hrA ba ho hr h1 b1 k1
 go_wp2
 go_ret2
 exact ⟨⟨_, rfl⟩, PUT.out⟩
def quoB (c : UInt8) : Option (List UInt8) := if c.toNat = 34 ∨ c.toNat = 92 then some [92, c] else if c.toNat = 10 then some [92, 110] else if plnB c.toNat then some [c] else none
def quoG (acc : List UInt8) : List UInt8 -> Option (List UInt8)
 | [] => some (acc ++ [34])
 | c :: r => match quoB c with | none => none | some x => quoG (acc ++ x) r
def quoO (L : List UInt8) : Option (List UInt8) := quoG [34] L
theorem quoG_step {acc : List UInt8} {L : List UInt8} {i : Nat} {c : UInt8} (h : L[i]? = some c) : quoG acc (L.drop i) = match quoB c with | none => none | some x => quoG (acc ++ x) (L.drop (i + 1)) := by
 rw [drop_at h, quoG]
theorem quo_no {acc : List UInt8} {L : List UInt8} {i : Nat} {c : UInt8} {o : Option (List UInt8)} (h : L[i]? = some c) (hg : quoG acc (L.drop i) = o) (hq : quoB c = none) : o = none := by
 rw [<- hg, quoG_step h, hq]
theorem quo_go {acc x : List UInt8} {L : List UInt8} {i : Nat} {c : UInt8} {o : Option (List UInt8)} (h : L[i]? = some c) (hg : quoG acc (L.drop i) = o) (hq : quoB c = some x) : quoG (acc ++ x) (L.drop (i + 1)) = o := by
 rw [<- hg, quoG_step h, hq]
theorem Bld.iterAt {B b : Nat} {l : List UInt8} {w : World} (h : Bld B b l w) {k : Nat} {s : ByteArray} {pos : Nat} (hk : w.heap[k]? = some (.stringIter s pos)) (pos' : Nat) : Bld B b l (w.iterAt k s pos') := by
 obtain ⟨hB, p, v, hp, hr, ho⟩ := h.row
 have hkb : b ≠ k := fun e => by rw [e, hk] at hr; cases hr
 refine Bld.of hB hp ((Lib.iterAt_other w k b s pos' hkb).trans hr) (OwnG.keep ho fun j hj => Lib.iterAt_other w k j s pos' fun e => ?_)
 obtain ⟨c, fz, hc⟩ := own_kind ho j hj
 rw [e, hk] at hc
 cases hc
theorem Bld.below {B b : Nat} {l : List UInt8} {w w' : World} (h : Bld B b l w) (hb : Below w.heap.size w w') : Bld B b l w' := by
 obtain ⟨hB, p, v, hp, hr, ho⟩ := h.row
 exact Bld.of hB hp ((hb.block b (lt_of_row hr)).trans hr) (OwnG.below ho hb)
def strV (o : Option (List UInt8)) (e : Int) : Value := match o with | none => .tuple #[.string ⟨#[]⟩, .int .i64 e] | some x => .tuple #[.string (strU x), .int .i64 0]
theorem iterPos_at {w : World} {k : Nat} {s : ByteArray} {pos : Nat} (h : w.heap[k]? = some (.stringIter s pos)) : w.iterPos k = pos := by unfold World.iterPos; rw [h]
theorem quote_any (s : ByteArray) (w : World) (hs : s.size <= 100000) : Calls Tryz.prog 99 #[.string s] w fun e w' => e = .returned (strV (quoO s.data.toList) 2) ∧ Below w.heap.size w w' := by
 have HS : Hid (s.size = s.data.toList.length) := by show s.size = s.data.toList.length; simp
 go_enter Tryz.func99, Tryz.ntmps99
 go_wp2
 refine wp_scope_jumps 0 (fun a' w' => quoO s.data.toList = none ∧ Below w.heap.size w w' ∧ ∃ u0 u1 u2 u3 u4 u5 u6 u7 u8 u9 u10 u11 u12 u13 u14 u15 u16 u17 u18 u19 u20 u21 u22 u23 u24 u25 u26 u27 u28 u29 u30 u31 u32 u33 : Value, a' = { tmps := #[u0, u1, u2, u3, u4, u5, u6, u7, u8, u9, u10, u11, u12, u13, u14, u15, u16, u17, u18, u19, u20, u21, u22, u23, u24, u25, u26, u27, u28, u29, u30, u31, u32, u33], defers := [] }) (fun _ _ => 0) rfl ?_ ?_
 rotate_left
 ·rintro a' w' ⟨hn, hb, u0, u1, u2, u3, u4, u5, u6, u7, u8, u9, u10, u11, u12, u13, u14, u15, u16, u17, u18, u19, u20, u21, u22, u23, u24, u25, u26, u27, u28, u29, u30, u31, u32, u33, rfl⟩
  have HN : Hid (quoO s.data.toList = none) := hn
  clear hn
  go_wp2
  simp only [Exit.jump]
  go_ret2
  refine ⟨?_, hb⟩
  rw [HN.out]
  exact rfl
 go_wp2_with fail
 have hB0 : Bld w.heap.size w.heap.size [] (w.alloc (.cells #[.pointer none, .slice none 0 0] 58)) := Bld.of (Nat.le_refl _) (.inl rfl) (heap_alloc_new _ _) (ownG_nil _ _)
 refine (writeByte_any w.heap.size w.heap.size [] 34 _ hB0 (by simp) (by simp)).mono ?_
 rintro e W1 ⟨rfl, h1, b1, -⟩
 have bw1 : Below w.heap.size w W1 := ((Below.refl _ _).alloc (Nat.le_refl _) _).trans b1
 clear hB0 b1
 have hkb : w.heap.size < W1.heap.size := by obtain ⟨-, p, v, -, hr, -⟩ := h1.row; exact lt_of_row hr
 go_wp2
 obtain ⟨K, HK⟩ : ∃ K, Hid (W1.heap.size = K) := ⟨_, rfl⟩
 have hbi : Below W1.heap.size W1 (W1.alloc (.stringIter s 0)) := (Below.refl _ _).alloc (Nat.le_refl _) _
 have H0 : Hid (Bld w.heap.size w.heap.size [34] (W1.iter s 0) ∧ (W1.iter s 0).heap[K]? = some (.stringIter s 0) ∧ Below w.heap.size w (W1.iter s 0)) := ⟨h1.below hbi, by rw [<- HK.out]; exact heap_alloc_new _ _, bw1.alloc bw1.size _⟩
 have hK : w.heap.size < K := by rw [<- HK.out]; exact hkb
 rw [HK.out]
 clear hbi HK hkb bw1 h1
 go_loopw [] (fun wr => ∃ (pos : Nat) (acc : List UInt8), pos <= s.size ∧ Bld w.heap.size w.heap.size acc wr ∧ wr.heap[K]? = some (.stringIter s pos) ∧ Below w.heap.size w wr ∧ acc.length <= 1 + 2 * pos ∧ quoG acc (s.data.toList.drop pos) = quoO s.data.toList) (fun wr => s.size - wr.iterPos K)
 case atStart => exact ⟨0, [34], Nat.zero_le _, H0.out.1, H0.out.2.1, H0.out.2.2, by simp, rfl⟩
 case round =>
  clear H0
  obtain ⟨pos, acc, hps, hbl, hit, hbe, hal, hqu⟩ := hrel
  have HBL : Hid (Bld w.heap.size w.heap.size acc wr) := hbl
  have HIT : Hid (wr.heap[K]? = some (.stringIter s pos)) := hit
  have HBE : Hid (Below w.heap.size w wr) := hbe
  have HQU : Hid (quoG acc (s.data.toList.drop pos) = quoO s.data.toList) := hqu
  clear hbl hbe hqu
  by_cases hp : pos < s.size
  ·have hnx : ∀ ty, (Instr.next (.pointer (some ⟨K, 0, none⟩)) true ty).run Tryz.prog wr = _ := fun ty => Lib.run_next_any_at wr K s pos ty hit hp
   have HB : Hid (s.data.toList[pos]? = some (s[pos]'hp)) := byte_at hp
   obtain ⟨c, HC⟩ : ∃ c, Hid (s[pos]'hp = c) := ⟨_, rfl⟩
   rw [HC.out] at HB
   by_cases ha : c.toNat < 128
   ·have hdc := decode_ascii s pos hp (by rw [HC.out]; exact ha)
    rw [hdc] at hnx
    simp only [HC.out] at hnx
    clear hdc hit
    have h4 : Bld w.heap.size w.heap.size acc (wr.iterAt K s (pos + 1)) := HBL.out.iterAt HIT.out _
    have i4 : (wr.iterAt K s (pos + 1)).heap[K]? = some (.stringIter s (pos + 1)) := Lib.iterAt_heap _ _ _ _ _ HIT.out
    have b4 : Below w.heap.size w (wr.iterAt K s (pos + 1)) := Lib.below_iterAt HBE.out (by omega) _ _
    have hw2 := conv_u8_i32 c
    have hsz : w.heap.size <= (wr.iterAt K s (pos + 1)).heap.size := b4.size
    by_cases hq : c.toNat = 34 ∨ c.toNat = 92
    ·have HNX : Hid (quoG (acc ++ [92, c]) (s.data.toList.drop (pos + 1)) = quoO s.data.toList) := quo_go HB.out HQU.out (by unfold quoB; rw [if_pos hq])
     have hqi : (c.toNat : Int) = 34 ∨ (c.toNat : Int) = 92 := by omega
     clear HBL HBE HQU
     generalize wr.iterAt K s (pos + 1) = WN at hnx h4 i4 b4 hsz
     have KEY : Hid (∀ (W5 : World), WrP w.heap.size w.heap.size (acc ++ [92]) WN W5 -> Calls Tryz.prog 126 #[.pointer (some ⟨w.heap.size, 0, none⟩), .int .i32 c.toNat] W5 fun e w' => (∃ n, e = .returned (.tuple #[.int .i64 n, .nilIface])) ∧ (∃ (pos : Nat) (acc : List UInt8), pos <= s.size ∧ Bld w.heap.size w.heap.size acc w' ∧ w'.heap[K]? = some (.stringIter s pos) ∧ Below w.heap.size w w' ∧ acc.length <= 1 + 2 * pos ∧ quoG acc (s.data.toList.drop pos) = quoO s.data.toList) ∧ s.size - w'.iterPos K < s.size - wr.iterPos K) := fun W5 h5 => by
      refine (writeRune_any w.heap.size w.heap.size (acc ++ [92]) c ha W5 h5.1 (by simp; omega) (Nat.le_trans hsz h5.2.1.size)).mono ?_
      rintro e W6 ⟨hn, h6, b6, k6⟩
      have i6 : W6.heap[K]? = some (.stringIter s (pos + 1)) := Lib.OthersKept.iter k6 (Lib.OthersKept.iter h5.2.2 i4 (by omega)) (by omega)
      refine ⟨hn, ⟨pos + 1, acc ++ [92, c], by omega, by simpa using h6, i6, b4.trans (h5.2.1.trans b6), by simp; omega, HNX.out⟩, ?_⟩
      rw [iterPos_at i6, iterPos_at HIT.out]
      omega
     rcases hqi with hq1 | hq1
     all_goals
      go_wp2_with fail
      refine (writeByte_any w.heap.size w.heap.size acc 92 WN h4 (by omega) hsz).mono ?_
      rintro e W5 ⟨rfl, h5⟩
      go_wp2_with fail
      try rw [hq1] at KEY
      refine (KEY.out W5 h5).mono ?_
      rintro e W6 ⟨⟨n6, rfl⟩, hR, hM⟩
      have HR : Hid (∃ (pos : Nat) (acc : List UInt8), pos <= s.size ∧ Bld w.heap.size w.heap.size acc W6 ∧ W6.heap[K]? = some (.stringIter s pos) ∧ Below w.heap.size w W6 ∧ acc.length <= 1 + 2 * pos ∧ quoG acc (s.data.toList.drop pos) = quoO s.data.toList) := hR
      have HM : Hid (s.size - W6.iterPos K < s.size - wr.iterPos K) := hM
      clear hR hM
      go_wp2
      exact ⟨HR.out, HM.out⟩
    ·by_cases h10 : c.toNat = 10
     ·have HNX : Hid (quoG (acc ++ [92, 110]) (s.data.toList.drop (pos + 1)) = quoO s.data.toList) := quo_go HB.out HQU.out (by unfold quoB; rw [if_neg hq, if_pos h10])
      have h10' : (c.toNat : Int) = 10 := by omega
      clear HBL HBE HQU
      generalize wr.iterAt K s (pos + 1) = WN at hnx h4 i4 b4 hsz
      go_wp2_with fail
      refine (writeString_any w.heap.size w.heap.size acc ⟨#[92, 110]⟩ WN h4 (by have : (⟨#[92, 110]⟩ : ByteArray).size = 2 := rfl; omega) hsz).mono ?_
      rintro e W6 ⟨rfl, h6, b6, k6⟩
      have i6 : W6.heap[K]? = some (.stringIter s (pos + 1)) := Lib.OthersKept.iter k6 i4 (by omega)
      have HR : Hid (∃ (pos : Nat) (acc : List UInt8), pos <= s.size ∧ Bld w.heap.size w.heap.size acc W6 ∧ W6.heap[K]? = some (.stringIter s pos) ∧ Below w.heap.size w W6 ∧ acc.length <= 1 + 2 * pos ∧ quoG acc (s.data.toList.drop pos) = quoO s.data.toList) := ⟨pos + 1, acc ++ [92, 110], by omega, h6, i6, b4.trans b6, by simp; omega, HNX.out⟩
      have HM : Hid (s.size - W6.iterPos K < s.size - wr.iterPos K) := by
       show s.size - W6.iterPos K < s.size - wr.iterPos K
       rw [iterPos_at i6, iterPos_at HIT.out]
       omega
      go_wp2
      exact ⟨HR.out, HM.out⟩
     ·have hq1 : ((c.toNat : Int) == 34) = false := by rw [beq_eq_false_iff_ne]; omega
      have hq2 : ((c.toNat : Int) == 92) = false := by rw [beq_eq_false_iff_ne]; omega
      have h10' : ((c.toNat : Int) == 10) = false := by rw [beq_eq_false_iff_ne]; omega
      cases hpl : plnB c.toNat
      ·have HNO : Hid (quoO s.data.toList = none) := quo_no HB.out HQU.out (by unfold quoB; rw [if_neg hq, if_neg h10, hpl]; rfl)
       go_wp2_with (go_at_call 107; refine (plain_any _ _).mono ?_; rintro e W1 ⟨rfl, hW1⟩; subst hW1; rw [hpl])
       go_step3
       exact ⟨rfl, HNO.out, b4, _, _, _, _, _, _, _, _, _, _, _, _, _, _, _, _, _, _, _, _, _, _, _, _, _, _, _, _, _, _, _, _, _, _, rfl⟩
      ·have HNX : Hid (quoG (acc ++ [c]) (s.data.toList.drop (pos + 1)) = quoO s.data.toList) := quo_go HB.out HQU.out (by unfold quoB; rw [if_neg hq, if_neg h10, hpl]; rfl)
       clear HBL HBE HQU
       generalize wr.iterAt K s (pos + 1) = WN at hnx h4 i4 b4 hsz
       go_wp2_with fail
       refine (plain_any _ _).mono ?_
       rintro e W5 ⟨rfl, hW5⟩
       rw [hW5, hpl]
       clear hW5
       go_wp2_with fail
       refine (writeRune_any w.heap.size w.heap.size acc c ha WN h4 (by omega) hsz).mono ?_
       rintro e W6 ⟨⟨n6, rfl⟩, h6, b6, k6⟩
       have i6 : W6.heap[K]? = some (.stringIter s (pos + 1)) := Lib.OthersKept.iter k6 i4 (by omega)
       have HR : Hid (∃ (pos : Nat) (acc : List UInt8), pos <= s.size ∧ Bld w.heap.size w.heap.size acc W6 ∧ W6.heap[K]? = some (.stringIter s pos) ∧ Below w.heap.size w W6 ∧ acc.length <= 1 + 2 * pos ∧ quoG acc (s.data.toList.drop pos) = quoO s.data.toList) := ⟨pos + 1, acc ++ [c], by omega, h6, i6, b4.trans b6, by simp; omega, HNX.out⟩
       have HM : Hid (s.size - W6.iterPos K < s.size - wr.iterPos K) := by
        show s.size - W6.iterPos K < s.size - wr.iterPos K
        rw [iterPos_at i6, iterPos_at HIT.out]
        omega
       go_wp2
       exact ⟨HR.out, HM.out⟩
   ·have hdh := (decode_high s pos hp (by rw [HC.out]; omega)).1
    obtain ⟨rn, hrn⟩ : ∃ rn : Nat, (Utf8.decode s pos).1 = rn := ⟨_, rfl⟩
    rw [hrn] at hdh hnx
    have hq1 : ((rn : Int) == 34) = false := by rw [beq_eq_false_iff_ne]; omega
    have hq2 : ((rn : Int) == 92) = false := by rw [beq_eq_false_iff_ne]; omega
    have h10' : ((rn : Int) == 10) = false := by rw [beq_eq_false_iff_ne]; omega
    have hpl : plnB (rn : Int) = false ∨ (rn : Int) <= 126 := by
     by_cases h : (rn : Int) <= 126
     ·exact .inr h
     ·exact .inl (by unfold plnB; rw [decide_eq_false h, Bool.and_false])
    have hpl' : plnB (rn : Int) = false := by
     rcases hpl with h | h
     ·exact h
     ·omega
    have HNO : Hid (quoO s.data.toList = none) := quo_no HB.out HQU.out (by
     unfold quoB
     rw [if_neg (by omega), if_neg (by omega)]
     have : plnB c.toNat = false := by unfold plnB; rw [decide_eq_false (show ¬ ((c.toNat : Int) <= 126) by omega), Bool.and_false]
     rw [this]
     rfl)
    have b4 : Below w.heap.size w (wr.iterAt K s (pos + (Utf8.decode s pos).2)) := Lib.below_iterAt HBE.out (by omega) _ _
    clear hdh hpl hit hrn
    go_wp2_with (go_at_call 107; refine (plain_any _ _).mono ?_; rintro e W1 ⟨rfl, hW1⟩; subst hW1; rw [hpl'])
    go_step3
    exact ⟨rfl, HNO.out, b4, _, _, _, _, _, _, _, _, _, _, _, _, _, _, _, _, _, _, _, _, _, _, _, _, _, _, _, _, _, _, _, _, _, _, rfl⟩
  ·have hnx : ∀ ty, (Instr.next (.pointer (some ⟨K, 0, none⟩)) true ty).run Tryz.prog wr = _ := fun ty => Lib.run_next_end_at wr K s pos ty hit hp
   have HY : Hid (quoO s.data.toList = some (acc ++ [34])) := by rw [<- HQU.out, List.drop_eq_nil_of_le (by have := HS.out; omega)]; exact rfl
   clear hit
   go_wp2_with fail
   refine (writeByte_any w.heap.size w.heap.size acc 34 wr HBL.out (by omega) HBE.out.size).mono ?_
   rintro e W5 ⟨rfl, h5, b5, k5⟩
   go_wp2_with fail
   have h5' : Lib.IsBuilder 58 5 w.heap.size w.heap.size (Lib.byteCells (acc ++ [34])) W5 := h5
   refine (Tryz.Builder_String_any w.heap.size w.heap.size (acc ++ [34]) W5 h5' (Nat.le_trans HBE.out.size b5.size)).mono ?_
   rintro e W6 ⟨rfl, b6⟩
   go_wp2
   simp only [Exit.jump]
   go_ret2
   refine ⟨?_, HBE.out.trans (b5.trans b6)⟩
   rw [HY.out]
   exact rfl
def chkF : Tok -> List Tok -> Bool
 | last, [] => !clo last
 | last, t :: r => if bareB t then (if clo last then chkF t r else false) else if alnB t then chkF t r else false
def chkO (ts : List Tok) : Int := if 1024 < ts.length then 2 else if chkF ⟨0, ⟨#[]⟩, 0⟩ ts then 0 else 2
structure ChF (w : World) (K : Nat) (last x : Tok) (W : World) : Prop where
 b : Below w.heap.size w W
 l : W.heap[w.heap.size]? = some (.cells last.cells 75 (0, 0))
 x : W.heap[K]? = some (.cells x.cells 60 (0, 0))
theorem ChF.below {w : World} {K : Nat} {last x : Tok} {W W' : World} (h : ChF w K last x W) (hb : Below W.heap.size W W') : ChF w K last x W' :=
 ⟨h.b.trans (hb.mono h.b.size), (hb.block _ (lt_of_row h.l)).trans h.l, (hb.block _ (lt_of_row h.x)).trans h.x⟩
theorem ChF.c {w : World} {K : Nat} {last x : Tok} {W : World} (h : ChF w K last x W) : W.cell? ⟨K, 0, none⟩ = some (.int .i64 x.kind) ∧ W.cell? ⟨K, 1, none⟩ = some (.string x.text) ∧ W.cell? ⟨K, 2, none⟩ = some (.int .i64 x.pos) :=
 ⟨(cell_of_row _ _ 0 _ _ _ h.x).trans rfl, (cell_of_row _ _ 1 _ _ _ h.x).trans rfl, (cell_of_row _ _ 2 _ _ _ h.x).trans rfl⟩
theorem ChF.d {w : World} {K : Nat} {last x : Tok} {W : World} (h : ChF w K last x W) : W.cell? ⟨w.heap.size, 0, none⟩ = some (.int .i64 last.kind) ∧ W.cell? ⟨w.heap.size, 1, none⟩ = some (.string last.text) ∧ W.cell? ⟨w.heap.size, 2, none⟩ = some (.int .i64 last.pos) :=
 ⟨(cell_of_row _ _ 0 _ _ _ h.l).trans rfl, (cell_of_row _ _ 1 _ _ _ h.l).trans rfl, (cell_of_row _ _ 2 _ _ _ h.l).trans rfl⟩
theorem ChF.z {w : World} {K : Nat} {last x : Tok} {W : World} (h : ChF w K last x W) (j : Nat) : W.frozen? ⟨w.heap.size, j, none⟩ = false := frozen_of_row _ _ _ _ _ h.l
theorem check_any (sp : Option Addr) (cap : Nat) (ts : List Tok) (w : World) (hr : RowsT w sp ts) (hm : ts.length <= 100000) :
  Calls Tryz.prog 24 #[.slice sp ts.length cap] w fun e w' => e = .returned (.int .i64 (chkO ts)) ∧ Below w.heap.size w w' := by
 have HR : Hid (RowsT w sp ts) := hr
 clear hr
 go_enter Tryz.func24, Tryz.ntmps24
 go_wp2
 refine wp_scope_jumps 0 (fun a' w' => chkO ts = 2 ∧ Below w.heap.size w w' ∧ ∃ u0 u1 u2 u3 u4 u5 u6 u7 u8 u9 u10 u11 u12 u13 u14 u15 u16 u17 u18 u19 u20 u21 u22 u23 u24 u25 u26 u27 u28 u29 u30 u31 u32 u33 u34 u35 u36 u37 u38 : Value, a' = { tmps := #[u0, u1, u2, u3, u4, u5, u6, u7, u8, u9, u10, u11, u12, u13, u14, u15, u16, u17, u18, u19, u20, u21, u22, u23, u24, u25, u26, u27, u28, u29, u30, u31, u32, u33, u34, u35, u36, u37, u38], defers := [] }) (fun _ _ => 0) rfl ?_ ?_
 rotate_left
 ·rintro a' w' ⟨hn, hb, u0, u1, u2, u3, u4, u5, u6, u7, u8, u9, u10, u11, u12, u13, u14, u15, u16, u17, u18, u19, u20, u21, u22, u23, u24, u25, u26, u27, u28, u29, u30, u31, u32, u33, u34, u35, u36, u37, u38, rfl⟩
  have HN : Hid (chkO ts = 2) := hn
  clear hn
  go_wp2
  simp only [Exit.jump]
  go_ret
  refine ⟨?_, hb⟩
  rw [HN.out]
  exact rfl
 by_cases h4 : 1024 < ts.length
 ·have HN : Hid (chkO ts = 2) := by unfold chkO; rw [if_pos h4]; exact rfl
  have h4' : (ts.length : Int) > 1024 := by omega
  clear h4
  go_wp2
  go_step3
  exact ⟨rfl, HN.out, (Below.refl _ _).alloc (Nat.le_refl _) _, _, _, _, _, _, _, _, _, _, _, _, _, _, _, _, _, _, _, _, _, _, _, _, _, _, _, _, _, _, _, _, _, _, _, _, _, _, _, _, rfl⟩
 have h4' : ¬ (ts.length : Int) > 1024 := by omega
 have HO : Hid (∀ b, chkF ⟨0, ⟨#[]⟩, 0⟩ ts = b -> chkO ts = if b then 0 else 2) := fun b hb => by unfold chkO; rw [if_neg h4, hb]
 clear h4
 go_wp2
 go_loopw [13] (fun i wr => ∃ (t : Nat) (last : Tok), t <= ts.length ∧ i = .int .i64 t ∧ wr.heap[w.heap.size]? = some (.cells last.cells 75 (0, 0)) ∧ Below w.heap.size w wr ∧ chkF last (ts.drop t) = chkF ⟨0, ⟨#[]⟩, 0⟩ ts) (fun i _ => ts.length - (intOf i).toNat)
 case atStart => exact ⟨0, ⟨0, ⟨#[]⟩, 0⟩, Nat.zero_le _, rfl, heap_alloc_new _ _, (Below.refl _ _).alloc (Nat.le_refl _) _, rfl⟩
 case round =>
  obtain ⟨t, last, ht, rfl, hrow, hB, hch⟩ := hrel
  have HROW : Hid (wr.heap[w.heap.size]? = some (.cells last.cells 75 (0, 0))) := hrow
  have HB : Hid (Below w.heap.size w wr) := hB
  have HCH : Hid (chkF last (ts.drop t) = chkF ⟨0, ⟨#[]⟩, 0⟩ ts) := hch
  clear hB hch hrow
  by_cases hlt : t < ts.length
  ·have hd : decide ((t : Int) < ts.length) = true := by simp; omega
   obtain ⟨b, o, rfl, -⟩ := HR.out (by omega)
   obtain ⟨x, hx⟩ : ∃ x, ts[t]? = some x := ⟨_, List.getElem?_eq_getElem (by omega)⟩
   obtain ⟨k0, k1, k2⟩ := tok_cell (RowsAt.below HR.out HB.out) hx
   have HD : Hid (ts.drop t = x :: ts.drop (t + 1)) := by
    have hg := List.getElem?_eq_some_iff.1 hx
    show ts.drop t = x :: ts.drop (t + 1)
    rw [<- List.getElem_cons_drop (h := hlt), hg.2]
   clear hx
   go_wp2_with fail
   obtain ⟨K, HK⟩ : ∃ K, Hid (wr.heap.size = K) := ⟨_, rfl⟩
   have HKw : Hid (w.heap.size ≠ K) := fun e => by have := lt_of_row HROW.out; have := HK.out; omega
   refine calls_gen (fun W => ChF w K last x W) ⟨HB.out.alloc HB.out.size _, ?_, by rw [<- HK.out]; exact heap_alloc_new _ _⟩ ?_
   ·exact (((Below.refl wr.heap.size wr).alloc (Nat.le_refl _) _).block _ (lt_of_row HROW.out)).trans HROW.out
   intro W1 f1
   clear k0 k1 k2 HB HROW
   rw [HK.out]
   refine (bare_any x W1).mono ?_
   rintro e W2 ⟨rfl, b2⟩
   have F2 : Hid (ChF w K last x W2) := f1.below b2
   clear f1 b2 HK
   have NO : Hid (chkF last (ts.drop t) = false -> chkO ts = 2) := fun h => by rw [HCH.out] at h; exact HO.out _ h
   have GO : Hid (chkF last (ts.drop t) = chkF x (ts.drop (t + 1)) -> ∀ W : World, ChF w K last x W -> (∃ (t' : Nat) (last' : Tok), t' <= ts.length ∧ Value.int .i64 ((t : Int) + 1) = .int .i64 t' ∧ (((W.setCell ⟨w.heap.size, 0, none⟩ (.int .i64 x.kind)).setCell ⟨w.heap.size, 1, none⟩ (.string x.text)).setCell ⟨w.heap.size, 2, none⟩ (.int .i64 x.pos)).heap[w.heap.size]? = some (.cells last'.cells 75 (0, 0)) ∧ Below w.heap.size w (((W.setCell ⟨w.heap.size, 0, none⟩ (.int .i64 x.kind)).setCell ⟨w.heap.size, 1, none⟩ (.string x.text)).setCell ⟨w.heap.size, 2, none⟩ (.int .i64 x.pos)) ∧ chkF last' (ts.drop t') = chkF ⟨0, ⟨#[]⟩, 0⟩ ts) ∧ ts.length - (intOf (.int .i64 ((t : Int) + 1))).toNat < ts.length - (intOf (.int .i64 (t : Int))).toNat) := fun h W f => by
    have r1 : (W.setCell ⟨w.heap.size, 0, none⟩ (.int .i64 x.kind)).heap[w.heap.size]? = _ := heap_setCell_same _ _ _ _ _ _ f.l
    have r2 : ((W.setCell ⟨w.heap.size, 0, none⟩ (.int .i64 x.kind)).setCell ⟨w.heap.size, 1, none⟩ (.string x.text)).heap[w.heap.size]? = _ := heap_setCell_same _ _ _ _ _ _ r1
    have r3 : (((W.setCell ⟨w.heap.size, 0, none⟩ (.int .i64 x.kind)).setCell ⟨w.heap.size, 1, none⟩ (.string x.text)).setCell ⟨w.heap.size, 2, none⟩ (.int .i64 x.pos)).heap[w.heap.size]? = _ := heap_setCell_same _ _ _ _ _ _ r2
    refine ⟨⟨t + 1, x, by omega, by congr 1, r3, ((f.b.setCell (p := ⟨w.heap.size, 0, none⟩) (Nat.le_refl _) _).setCell (p := ⟨w.heap.size, 1, none⟩) (Nat.le_refl _) _).setCell (p := ⟨w.heap.size, 2, none⟩) (Nat.le_refl _) _, by rw [<- h]; exact HCH.out⟩, ?_⟩
    show ts.length - ((t : Int) + 1).toNat < ts.length - (t : Int).toNat
    omega
   clear HO HCH
   cases hbx : bareB x
   ·have h := F2.out.c
    obtain ⟨k0, k1, k2⟩ := h
    go_wp2_with fail
    refine (bare_any x W2).mono ?_
    rintro e W3 ⟨rfl, b3⟩
    have F3 : Hid (ChF w K last x W3) := F2.out.below b3
    obtain ⟨k0, k1, k2⟩ := F3.out.c
    rw [hbx]
    clear b3 F2
    go_wp2_with fail
    refine (alone_any x W3).mono ?_
    rintro e W4 ⟨rfl, b4⟩
    have F4 : Hid (ChF w K last x W4) := F3.out.below b4
    obtain ⟨k0, k1, k2⟩ := F4.out.c
    obtain ⟨d0, d1, d2⟩ := F4.out.d
    have z := F4.out.z
    clear b4 F3
    cases hax : alnB x
    ·have HN : Hid (chkO ts = 2) := NO.out (by rw [HD.out, chkF, hbx, hax]; exact rfl)
     go_wp2
     go_step3
     exact ⟨rfl, HN.out, F4.out.b, _, _, _, _, _, _, _, _, _, _, _, _, _, _, _, _, _, _, _, _, _, _, _, _, _, _, _, _, _, _, _, _, _, _, _, _, _, _, _, rfl⟩
    ·have HG := GO.out (by rw [HD.out, chkF, hbx, hax]; exact rfl) W4 F4.out
     have HG' : Hid _ := HG
     clear HG GO
     go_wp2
     exact HG'.out
   ·obtain ⟨d0, d1, d2⟩ := F2.out.d
    go_wp2_with fail
    refine (ends_any w.heap.size last W2 d0 d1).mono ?_
    rintro e W3 ⟨rfl, rfl⟩
    obtain ⟨k0, k1, k2⟩ := F2.out.c
    cases hcl : clo last
    ·have HN : Hid (chkO ts = 2) := NO.out (by rw [HD.out, chkF, hbx, hcl]; exact rfl)
     go_wp2
     go_step3
     exact ⟨rfl, HN.out, F2.out.b, _, _, _, _, _, _, _, _, _, _, _, _, _, _, _, _, _, _, _, _, _, _, _, _, _, _, _, _, _, _, _, _, _, _, _, _, _, _, _, rfl⟩
    ·go_wp2_with fail
     refine (bare_any x W3).mono ?_
     rintro e W4 ⟨rfl, b4⟩
     have F4 : Hid (ChF w K last x W4) := F2.out.below b4
     obtain ⟨k0, k1, k2⟩ := F4.out.c
     obtain ⟨d0, d1, d2⟩ := F4.out.d
     have z := F4.out.z
     rw [hbx]
     clear b4 F2
     have HG := GO.out (by rw [HD.out, chkF, hbx, hcl]; exact rfl) W4 F4.out
     have HG' : Hid _ := HG
     clear HG GO
     go_wp2
     exact HG'.out
  ·have hd : decide ((t : Int) < ts.length) = false := by simp; omega
   have hdn : ts.drop t = [] := List.drop_eq_nil_iff.2 (by omega)
   have HE : Hid (chkO ts = if clo last then 2 else 0) := by
    have h := HCH.out
    rw [hdn, chkF] at h
    have := HO.out _ h.symm
    rw [this]
    cases clo last <;> exact rfl
   have c0 : wr.cell? ⟨w.heap.size, 0, none⟩ = some (.int .i64 last.kind) := (cell_of_row _ _ 0 _ _ _ HROW.out).trans rfl
   have c1 : wr.cell? ⟨w.heap.size, 1, none⟩ = some (.string last.text) := (cell_of_row _ _ 1 _ _ _ HROW.out).trans rfl
   clear hdn HCH HO
   go_wp2_with fail
   refine (ends_any w.heap.size last wr c0 c1).mono ?_
   rintro e W3 ⟨rfl, rfl⟩
   cases hcl : clo last
   ·have HN : Hid (chkO ts = 0) := by rw [HE.out, hcl]; exact rfl
    go_wp2
    simp only [Exit.jump]
    go_ret
    refine ⟨?_, HB.out⟩
    rw [HN.out]
    exact rfl
   ·have HN : Hid (chkO ts = 2) := by rw [HE.out, hcl]; exact rfl
    go_wp2
    go_step3
    exact ⟨rfl, HN.out, HB.out, _, _, _, _, _, _, _, _, _, _, _, _, _, _, _, _, _, _, _, _, _, _, _, _, _, _, _, _, _, _, _, _, _, _, _, _, _, _, _, rfl⟩
theorem aln_small {t : Tok} (h : alnB t = true) : t.text.size <= 4096 := by
 unfold alnB lexO at h
 have e : t.text.size = t.text.data.toList.length := by simp
 by_cases h4 : 4096 < t.text.data.toList.length
 ·rw [if_pos h4] at h
  cases h
 ·omega
theorem unqA_app (R : List UInt8) : ∀ (m : Nat) (L acc : List UInt8) (i : Nat) (v : List UInt8 × Nat), L.length <= m -> unqA acc i L = some v -> unqA acc i (L ++ R) = some v := by
 intro m
 induction m with
 | zero =>
  intro L acc i v hm h
  have : L = [] := List.eq_nil_of_length_eq_zero (by omega)
  subst this
  rw [unqA] at h
  cases h
 | succ m ih =>
  intro L acc i v hm h
  cases L with
  | nil => rw [unqA] at h; cases h
  | cons c r =>
   rw [List.length_cons] at hm
   rw [unqA_cons] at h
   rw [List.cons_append, unqA_cons]
   by_cases h1 : c.toNat = 34
   ·rw [if_pos h1] at h ⊢
    exact h
   ·rw [if_neg h1] at h ⊢
    by_cases h2 : c.toNat = 92
    ·rw [if_pos h2] at h ⊢
     cases r with
     | nil => cases h
     | cons d r' =>
      rw [List.length_cons] at hm
      simp only [List.cons_append]
      cases hp : pairU d with
      | none => simp only [hp] at h; cases h
      | some x =>
       simp only [hp] at h ⊢
       exact ih r' _ _ _ (by omega) h
    ·rw [if_neg h2] at h ⊢
     cases hp : plnB c.toNat with
     | false => rw [hp] at h; simp at h
     | true =>
      rw [hp] at h
      simp only [if_true] at h ⊢
      exact ih r _ _ _ (by omega) h
theorem lex_len {L : List UInt8} : ∀ (f p : Nat) (ts : List Tok), ∀ x ∈ (lexG L f p ts).1, x ∈ ts ∨ x.text.data.toList.length <= L.length - p := by
 intro f
 induction f with
 | zero => exact fun p ts x hx => .inl hx
 | succ f ih =>
  intro p ts x hx
  obtain ⟨k, n, e, hl⟩ : ∃ k n e, lookR (L.drop p) (clo (lastT ts)) = (k, n, e) := ⟨_, _, _, rfl⟩
  by_cases h1 : p < L.length ∨ clo (lastT ts) = true
  ·by_cases he : e = 0
   ·subst he
    by_cases hk : k = 0
    ·subst hk
     rw [lexG_gap h1 hl] at hx
     rcases ih _ _ x hx with h | h
     ·exact .inl h
     ·exact .inr (by omega)
    ·by_cases ht : ts.length = 1024
     ·rw [lexG_full h1 hl hk ht] at hx
      simp at hx
     ·rw [lexG_tok h1 hl hk ht] at hx
      rcases ih _ _ x hx with h | h
      ·rcases List.mem_append.1 h with h | h
       ·exact .inl h
       ·rw [List.mem_singleton] at h
        subst h
        refine .inr ?_
        show ((L.drop p).take n).length <= _
        rw [List.length_take, List.length_drop]
        omega
      ·exact .inr (by omega)
   ·rw [lexG_err h1 hl he] at hx
    simp at hx
  ·rw [lexG, if_neg h1] at hx
   exact .inl hx
theorem lex_pre {L : List UInt8} : ∀ (f p : Nat) (ts : List Tok), (lexG L f p ts).1 = [] ∨ ∃ z, (lexG L f p ts).1 = ts ++ z := by
 intro f
 induction f with
 | zero => exact fun p ts => .inr ⟨[], by rw [List.append_nil]; rfl⟩
 | succ f ih =>
  intro p ts
  obtain ⟨k, n, e, hl⟩ : ∃ k n e, lookR (L.drop p) (clo (lastT ts)) = (k, n, e) := ⟨_, _, _, rfl⟩
  by_cases h1 : p < L.length ∨ clo (lastT ts) = true
  ·by_cases he : e = 0
   ·subst he
    by_cases hk : k = 0
    ·subst hk
     rw [lexG_gap h1 hl]
     exact ih _ _
    ·by_cases ht : ts.length = 1024
     ·rw [lexG_full h1 hl hk ht]
      exact .inl rfl
     ·rw [lexG_tok h1 hl hk ht]
      rcases ih (p + n) (ts ++ [⟨k, strU ((L.drop p).take n), p⟩]) with h | ⟨z, h⟩
      ·exact .inl h
      ·exact .inr ⟨_, by rw [h, List.append_assoc]⟩
   ·rw [lexG_err h1 hl he]
    exact .inl rfl
  ·rw [lexG, if_neg h1]
   exact .inr ⟨[], by rw [List.append_nil]⟩
theorem aln_look {t : Tok} (h : alnB t = true) : lookR t.text.data.toList false = (t.kind, t.text.data.toList.length, 0) ∧ t.kind ≠ 0 ∧ t.text.data.toList ≠ [] := by
 have h4 := aln_small h
 have e4 : t.text.size = t.text.data.toList.length := by simp
 unfold alnB lexO at h
 generalize hLe : t.text.data.toList = L at h e4 ⊢
 rw [if_neg (by omega)] at h
 by_cases h0 : 0 < L.length
 ·obtain ⟨k, n, e, hl⟩ : ∃ k n e, lookR (L.drop 0) (clo (lastT [])) = (k, n, e) := ⟨_, _, _, rfl⟩
  have hl' : lookR L false = (k, n, e) := hl
  by_cases he : e = 0
  ·subst he
   have hs := look_size hl' (fun e => by rw [e] at h0; simp at h0)
   by_cases hk : k = 0
   ·subst hk
    rw [lexG_gap (.inl h0) hl] at h
    exfalso
    have hx := lex_len (L := L) (2 * L.length) (0 + n) []
    cases hr : (lexG L (2 * L.length) (0 + n) []).1 with
    | nil => rw [hr] at h; cases h
    | cons x xs =>
     rw [hr] at h hx
     have h5 := hx x (by simp)
     simp only [tkEq, Bool.and_eq_true, beq_iff_eq] at h
     rw [ByteArray.toList_eq, ByteArray.toList_eq, hLe] at h
     rw [h.2] at h5
     rcases h5 with h5 | h5
     ·simp at h5
     ·rcases hs.2 with h6 | h6
      ·omega
      ·exact absurd h6.1 (by decide)
   ·rw [lexG_tok (.inl h0) hl hk (by simp)] at h
    rcases lex_pre (L := L) (2 * L.length) (0 + n) ([] ++ [⟨k, strU ((L.drop 0).take n), ((0 : Nat) : Int)⟩]) with h5 | ⟨z, h5⟩
    ·rw [h5] at h; cases h
    ·rw [h5] at h
     simp only [List.nil_append, List.cons_append, tkEq, Bool.and_eq_true, beq_iff_eq] at h
     rw [strU_list, ByteArray.toList_eq, hLe, List.drop_zero] at h
     have h6 := congrArg List.length h.2
     rw [List.length_take] at h6
     have hn : n = L.length := by omega
     rw [hl', hn, h.1]
     refine ⟨rfl, ?_, fun e => by rw [e] at h0; simp at h0⟩
     rw [<- h.1]
     exact hk
  ·rw [lexG_err (.inl h0) hl he] at h
   cases h
 ·rw [lexG_end h0 rfl] at h
  cases h
theorem bare_clo {t : Tok} (h : bareB t = true) : clo t = false ∧ t.kind = 5 ∧ t.text.toList = [] := by
 unfold bareB at h
 rw [Bool.and_eq_true, beq_iff_eq, List.isEmpty_iff] at h
 refine ⟨?_, h.1, h.2⟩
 unfold clo
 rw [h.1]
 rfl
theorem clo_tk {a b : Tok} (h : tkEq a b = true) : clo a = clo b := by
 unfold tkEq at h
 rw [Bool.and_eq_true, beq_iff_eq, beq_iff_eq] at h
 unfold clo
 rw [h.1, h.2]
theorem drop_one {L S : List UInt8} {p : Nat} {c : UInt8} (h : L.drop p = c :: S) : L.drop (p + 1) = S ∧ p < L.length := by
 refine ⟨by rw [<- List.drop_drop, h]; rfl, ?_⟩
 by_cases hp : p < L.length
 ·exact hp
 ·rw [List.drop_eq_nil_of_le (by omega)] at h; cases h
def numO (t : Tok) : Option Nat := if t.kind = 2 then decO t.text.data.toList else none
def valO (t : Tok) : Option (List UInt8) := if t.kind = 3 then (match unqO t.text.data.toList with | some (v, n) => if n = t.text.size then some v else none | none => none) else none
def numV (o : Option Nat) (e : Int) : Value := match o with | none => .tuple #[.int .i64 0, .int .i64 e] | some n => .tuple #[.int .i64 n, .int .i64 0]
theorem number_is (t : Tok) (w : World) : Calls Tryz.prog 167 #[.agg t.cells] w fun e w' => e = .returned (numV (numO t) 201) ∧ Below w.heap.size w w' := by
 unfold Tok.cells
 go_enter Tryz.func167, Tryz.ntmps167
 go_wp2_with fail
 refine calls_gen (fun W => W.heap[w.heap.size]? = some (.cells #[.int .i64 t.kind, .string t.text, .int .i64 t.pos] 60 (0, 0)) ∧ Below w.heap.size w W) ⟨heap_alloc_new _ _, (Below.refl _ _).alloc (Nat.le_refl _) _⟩ ?_
 rintro W0 ⟨hr0, b0⟩
 refine (decimal_any t.text W0).mono ?_
 rintro e W1 ⟨rfl, b1⟩
 have hr1 : W1.heap[w.heap.size]? = some (.cells #[.int .i64 t.kind, .string t.text, .int .i64 t.pos] 60 (0, 0)) := (b1.block _ (lt_of_row hr0)).trans hr0
 have c0 : W1.cell? ⟨w.heap.size, 0, none⟩ = some (.int .i64 t.kind) := (cell_of_row _ _ 0 _ _ _ hr1).trans rfl
 have bw : Below w.heap.size w W1 := b0.trans (b1.mono b0.size)
 clear hr0 hr1 b0 b1
 cases hk : (t.kind == 2)
 ·have hk' : (t.kind != 2) = true := by rw [bne, hk]; rfl
  have HN : Hid (numO t = none) := by unfold numO; rw [if_neg (by simpa using hk)]; exact rfl
  clear hk
  unfold decV
  go_wp2
  go_ret2
  refine ⟨?_, bw⟩
  rw [HN.out]
  exact rfl
 ·have hk' : (t.kind != 2) = false := by rw [bne, hk]; rfl
  have HN : Hid (numO t = decO t.text.data.toList) := by unfold numO; rw [if_pos (by simpa using hk)]; exact rfl
  clear hk
  cases hd : decO t.text.data.toList with
  | none =>
   have HX : Hid (numO t = none) := by rw [HN.out, hd]; exact rfl
   unfold decV
   go_wp2
   go_ret2
   refine ⟨?_, bw⟩
   rw [HX.out]
   exact rfl
  | some n =>
   have HX : Hid (numO t = some n) := by rw [HN.out, hd]; exact rfl
   unfold decV
   go_wp2
   go_ret2
   refine ⟨?_, bw⟩
   rw [HX.out]
   exact rfl
theorem value_is (t : Tok) (w : World) (hs : t.text.size <= 100000) : Calls Tryz.prog 114 #[.agg t.cells] w fun e w' => e = .returned (strV (valO t) 200) ∧ Below w.heap.size w w' := by
 unfold Tok.cells
 obtain ⟨cap, WT, cs, fr, hcv, bT, hrT, hcs, hcap⟩ := text_row t.text (w.alloc (.cells #[.int .i64 t.kind, .string t.text, .int .i64 t.pos] 60))
 have hsz : (w.alloc (.cells #[.int .i64 t.kind, .string t.text, .int .i64 t.pos] 60)).heap.size = w.heap.size + 1 := by simp
 have HTL : Hid (t.text.size = t.text.data.toList.length) := by show t.text.size = t.text.data.toList.length; simp
 rw [hsz] at hcv bT hrT
 have HBA : Hid (BA WT (some ⟨w.heap.size + 1, 0, none⟩) t.text.data.toList) := BA.of_row hrT hcs
 have bw0 : Below w.heap.size w WT := ((Below.refl _ _).alloc (Nat.le_refl _) _).trans (bT.mono (by omega))
 have hr0 : WT.heap[w.heap.size]? = some (.cells #[.int .i64 t.kind, .string t.text, .int .i64 t.pos] 60 (0, 0)) := (bT.block _ (by omega)).trans (heap_alloc_new _ _)
 clear hrT hcs bT hsz
 go_enter Tryz.func114, Tryz.ntmps114
 go_wp2_with fail
 have HU : Hid (Calls Tryz.prog 72 #[.slice (some ⟨w.heap.size + 1, 0, none⟩) t.text.size cap] WT fun e w' => UnqP WT.heap.size w' (unqO t.text.data.toList) e ∧ Below WT.heap.size WT w') := by
  have := unquote_any (some ⟨w.heap.size + 1, 0, none⟩) cap t.text.data.toList WT HBA.out (by have := HTL.out; omega) (by have := HTL.out; omega)
  rw [<- HTL.out] at this
  exact this
 refine HU.out.mono ?_
 rintro e W1 ⟨hP, b1⟩
 have hr1 : W1.heap[w.heap.size]? = some (.cells #[.int .i64 t.kind, .string t.text, .int .i64 t.pos] 60 (0, 0)) := (b1.block _ (lt_of_row hr0)).trans hr0
 have c0 : W1.cell? ⟨w.heap.size, 0, none⟩ = some (.int .i64 t.kind) := (cell_of_row _ _ 0 _ _ _ hr1).trans rfl
 have c1 : W1.cell? ⟨w.heap.size, 1, none⟩ = some (.string t.text) := (cell_of_row _ _ 1 _ _ _ hr1).trans rfl
 have bw : Below w.heap.size w W1 := bw0.trans (b1.mono bw0.size)
 clear hr0 hr1 b1 bw0 HU HBA hcv
 have HNK : Hid (¬ t.kind = 3 -> valO t = none) := fun h => by unfold valO; rw [if_neg h]
 have HVK : Hid (t.kind = 3 -> valO t = match unqO t.text.data.toList with | some (v, n) => if n = t.text.size then some v else none | none => none) := fun h => by unfold valO; rw [if_pos h]
 cases hu : unqO t.text.data.toList with
 | none =>
  rw [hu] at hP
  unfold UnqP at hP
  subst hP
  have HX : Hid (valO t = none) := by
   by_cases hk : t.kind = 3
   ·exact (HVK.out hk).trans (by rw [hu])
   ·exact HNK.out hk
  clear HNK HVK hu
  cases hk : (t.kind == 3)
  ·have hk' : (t.kind != 3) = true := by rw [bne, hk]; rfl
   clear hk
   go_wp2
   go_ret2
   refine ⟨?_, bw⟩
   rw [HX.out]
   exact rfl
  ·have hk' : (t.kind != 3) = false := by rw [bne, hk]; rfl
   clear hk
   go_wp2
   go_ret2
   refine ⟨?_, bw⟩
   rw [HX.out]
   exact rfl
 | some p =>
  obtain ⟨v, n⟩ := p
  rw [hu] at hP
  obtain ⟨u, rfl, hO⟩ := hP
  have hn := unqO_size hu
  have hn0 : ((n : Int) == 0) = false := by rw [beq_eq_false_iff_ne]; omega
  obtain ⟨su, cu, rfl, hRu, -, -, -⟩ := OwnG.rows elB hO
  have hcv := conv_str (BA.of_rows hRu) cu
  cases hk : (t.kind == 3)
  ·have hk' : (t.kind != 3) = true := by rw [bne, hk]; rfl
   have HX : Hid (valO t = none) := HNK.out (by simpa using hk)
   clear hk HNK HVK hu
   go_wp2
   go_ret2
   refine ⟨?_, bw⟩
   rw [HX.out]
   exact rfl
  ·have hk' : (t.kind != 3) = false := by rw [bne, hk]; rfl
   have HV : Hid (valO t = if n = t.text.size then some v else none) := (HVK.out (by simpa using hk)).trans (by rw [hu])
   clear hk HNK HVK hu
   by_cases hlt : n < t.text.size
   ·have HX : Hid (valO t = none) := by rw [HV.out, if_neg (by omega)]; exact rfl
    have hd : (n : Int) < t.text.size := by omega
    clear HV
    go_wp2
    go_ret2
    refine ⟨?_, bw⟩
    rw [HX.out]
    exact rfl
   ·have HX : Hid (valO t = some v) := by rw [HV.out, if_pos (by have := HTL.out; omega)]; exact rfl
    have hd : ¬ (n : Int) < t.text.size := by omega
    clear HV
    go_wp2
    go_ret2
    refine ⟨?_, bw⟩
    rw [HX.out]
    exact rfl
end Go.Proofs.YtbadafkfjfbnlaaGreatDoor
