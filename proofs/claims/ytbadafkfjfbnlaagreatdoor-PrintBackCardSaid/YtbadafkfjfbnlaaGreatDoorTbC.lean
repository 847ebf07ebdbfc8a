import Derived.Test.YtbadafkfjfbnlaaGreatDoorTbB
import Derived.Lib.Builder
import Derived.Lib.OthersKept
import Derived.Lib.AppendStr
import Derived.Laws.Externs
import Derived.Test.YtbadafkfjfbnlaaGreatDoorTbShelf
import Derived.Lib.SlBytesConst
import Derived.Test.YtbadafkfjfbnlaaGreatDoorTbA
namespace Go.Proofs.YtbadafkfjfbnlaaGreatDoor
set_option maxRecDepth 100000
set_option maxHeartbeats 4000000
open Go.RowKit
theorem zgs (l : List UInt8) : flatG byC l = Lib.byteCells l := by
 induction l with
 | nil => rfl
 | cons a r ih => rw [flatG, List.flatMap_cons, <- flatG, ih]; rfl
def Bld (B b : Nat) (l : List UInt8) (w : World) : Prop := Lib.IsBuilder 58 5 B b (Lib.byteCells l) w
theorem Bld.row {B b : Nat} {l : List UInt8} {w : World} (h : Bld B b l w) : B <= b ∧ ∃ p v, (p = .pointer none ∨ p = .pointer (some ⟨b, 0, none⟩)) ∧ w.heap[b]? = some (.cells #[p, v] 58 (0, 0)) ∧ OwnB B w v l := by
 have key : ∀ p, (p = .pointer none ∨ p = .pointer (some ⟨b, 0, none⟩)) -> Lib.BuilderAt 58 5 B b p (Lib.byteCells l) w -> B <= b ∧ ∃ p v, (p = .pointer none ∨ p = .pointer (some ⟨b, 0, none⟩)) ∧ w.heap[b]? = some (.cells #[p, v] 58 (0, 0)) ∧ OwnB B w v l := fun p hp h => by
  obtain ⟨hB, v, hb, ho, -⟩ := h
  refine ⟨hB, p, v, hp, hb, ?_⟩
  show w.ownsRow B 5 1 v l.length (flatG byC l)
  rw [zgs]
  rw [Lib.byteCells_length] at ho
  exact ho
 rcases h with h | h
 ·exact key _ (.inl rfl) h
 ·exact key _ (.inr rfl) h
theorem OwnG.nb {α : Type} {e : TypeId} {m : Nat} {f : α -> Array Value} {B : Nat} {w : World} {v : Value} {xs : List α} (h : OwnG e m f B w v xs) {g : Nat} {cs : Array Value} {e' : TypeId} {fr : Nat × Nat} (hg : w.heap[g]? = some (.cells cs e' fr)) (hne : e ≠ e') : v.ownBlock ≠ some g := by
 rcases h.2 with ⟨rfl, h0⟩ | ⟨g', cap, cur, rfl, h1, h2, h3⟩
 ·exact fun h => by cases h
 ·intro hh
  have e1 : g' = g := by simpa [Value.ownBlock] using hh
  subst e1
  rw [hg] at h2
  injection h2 with h2
  injection h2 with h2 h4
  exact hne h4.symm
theorem Bld.of {B b : Nat} {l : List UInt8} {w : World} {p v : Value} (hB : B <= b) (hp : p = .pointer none ∨ p = .pointer (some ⟨b, 0, none⟩)) (hb : w.heap[b]? = some (.cells #[p, v] 58 (0, 0))) (ho : OwnB B w v l) : Bld B b l w := by
 have h : Lib.BuilderAt 58 5 B b p (Lib.byteCells l) w := by
  refine ⟨hB, v, hb, ?_, OwnG.nb ho hb (by decide)⟩
  rw [Lib.byteCells_length, <- zgs]
  exact ho
 rcases hp with rfl | rfl
 ·exact .inl h
 ·exact .inr h
theorem zmx : ∃ j, Tryz.prog.info? 58 = some j ∧ j.size = 2 := by
 have h : (Tryz.prog.info? 58).map (·.size) = some 2 := by kernel_rfl
 cases hq : Tryz.prog.info? 58 with
 | none => rw [hq] at h; cases h
 | some j => rw [hq] at h; exact ⟨j, rfl, by simpa using h⟩
theorem zel (B b : Nat) (l : List UInt8) (w : World) (h : Bld B b l w) :
  Calls Tryz.prog 46 #[.pointer (some ⟨b, 0, none⟩)] w fun e w' => e = .returned (.tuple #[]) ∧ Bld B b l w' ∧ Below B w w' ∧ Lib.OthersKept 5 (some b) w w' ∧ w'.heap.size = w.heap.size := by
 obtain ⟨hB, p, v, hp, hb, ho⟩ := h.row
 obtain ⟨j, hj, hjs⟩ := zmx
 have hsh : w.shape? b = some (58, 2) := by simp [World.shape?, hb]
 have c0 : w.cell? ⟨b, 0, none⟩ = some p := (cell_of_row _ _ 0 _ _ _ hb).trans rfl
 have z0 : w.frozen? ⟨b, 0, none⟩ = false := frozen_of_row _ _ _ _ _ hb
 have HB : Hid (Bld B b l w) := h
 have HR : Hid (w.heap[b]? = some (.cells #[p, v] 58 (0, 0))) := hb
 have HO : Hid (OwnB B w v l) := ho
 clear h hb ho
 rcases hp with rfl | rfl
 ·go_enter Tryz.func46, Tryz.ntmps46
  go_wp2
  rw [Lib.run_to_unsafe w ⟨b, 0, none⟩ Tryz.underlying55 Tryz.underlying108 hj (by rw [hjs]; decide) hsh (Nat.zero_lt_succ 1)]
  simp only [Result.andThen]
  rw [Oper.upon_value]
  go_wp2
  rw [run_callFunc_extern Tryz.func62 (by kernel_rfl) (by kernel_rfl) (by kernel_rfl) (e := Extern.AbiNoEscape.same) (by kernel_rfl)]
  rw [Lib.run_noEscape]
  simp only [Result.andThen]
  rw [Oper.upon_value]
  go_wp2
  rw [Lib.run_from_unsafe w ⟨b, 0, none⟩ Tryz.underlying108 Tryz.underlying55 hj hsh (by kernel_rfl)]
  simp only [Result.andThen]
  rw [Oper.upon_value]
  go_wp2
  go_end0
  have r1 : (w.setCell ⟨b, 0, none⟩ (.pointer (some ⟨b, 0, none⟩))).heap[b]? = some (.cells #[.pointer (some ⟨b, 0, none⟩), v] 58 (0, 0)) := heap_setCell_same _ _ _ _ _ _ HR.out
  refine ⟨rfl, Bld.of hB (.inr rfl) r1 (OwnG.keep HO.out fun k hk => heap_setCell_other _ _ _ _ (fun (e : k = b) => OwnG.nb HO.out HR.out (by decide) (e ▸ hk))), (Below.refl B w).setCell (p := ⟨b, 0, none⟩) hB _, Lib.OthersKept.setCell (b := b) (Lib.OthersKept.refl _ _ _) ⟨b, 0, none⟩ rfl _, by simp⟩
 ·go_enter Tryz.func46, Tryz.ntmps46
  go_wp2
  rw [Lib.run_neq_ptr_same w _ Tryz.underlying55 hj]
  go_wp2
  go_end0
  exact ⟨rfl, HB.out, Below.refl _ _, Lib.OthersKept.refl _ _ _, rfl⟩
def WrP (B b : Nat) (l : List UInt8) (w w' : World) : Prop := Bld B b l w' ∧ Below B w w' ∧ Lib.OthersKept 5 (some b) w w'
theorem zmy {B : Nat} {w : World} {v : Value} {l : List UInt8} (h : OwnB B w v l) : ∀ g, v.ownBlock = some g -> ∃ c fz, w.heap[g]? = some (.cells c 5 fz) := fun g hg => by
 rcases h.2 with ⟨rfl, _⟩ | ⟨g', cap, cur, rfl, _, hgg, _⟩
 ·simp [Value.ownBlock] at hg
 ·simp [Value.ownBlock] at hg
  subst hg
  exact ⟨cur, _, hgg⟩
theorem zpu {B b : Nat} {w w1 w2 : World} {p v v' : Value} {l l' : List UInt8} (hB : B <= b) (hp : p = .pointer none ∨ p = .pointer (some ⟨b, 0, none⟩)) (hr : w1.heap[b]? = some (.cells #[p, v] 58 (0, 0))) (ho : OwnB B w1 v l) (hb : Below B w w1) (hk : Lib.OthersKept 5 (some b) w w1)
  (hw : B <= w1.heap.size) (hg : w1.grownBy w2 v.ownBlock) (ho' : OwnB B w2 v' l') : WrP B b l' w (w2.setCell ⟨b, 1, none⟩ v') := by
 have hr2 : w2.heap[b]? = some (.cells #[p, v] 58 (0, 0)) := (hg.block b (zab hr) (fun e => OwnG.nb ho hr (by decide) e.symm)).trans hr
 have hr3 : (w2.setCell ⟨b, 1, none⟩ v').heap[b]? = some (.cells #[p, v'] 58 (0, 0)) := heap_setCell_same _ _ _ _ _ _ hr2
 refine ⟨Bld.of hB hp hr3 (OwnG.keep ho' fun k hk => heap_setCell_other _ _ _ _ (fun (e : k = b) => OwnG.nb ho' hr2 (by decide) (e ▸ hk))), ?_, Lib.OthersKept.setCell (b := b) (hk.grown hg (zmy ho)) ⟨b, 1, none⟩ rfl _⟩
 exact (OwnG.grown ho (Nat.le_refl _) hw hb hg).setCell (p := ⟨b, 1, none⟩) hB _
theorem zem (B b : Nat) (l : List UInt8) (c : UInt8) (w : World) (h : Bld B b l w) (hl : l.length <= 900000) (hw : B <= w.heap.size) :
  Calls Tryz.prog 26 #[.pointer (some ⟨b, 0, none⟩), .int .u8 c.toNat] w fun e w' => e = .returned .nilIface ∧ WrP B b (l ++ [c]) w w' := by
 go_enter Tryz.func26, Tryz.ntmps26
 go_wp2_with fail
 refine (zel B b l w h).mono ?_
 rintro e W1 ⟨rfl, h1, b1, k1, s1⟩
 clear h
 obtain ⟨hB, p, v, hp, hr, ho⟩ := h1.row
 obtain ⟨sp, cap, rfl⟩ := OwnG.shape ho
 have hw1 : B <= W1.heap.size := by rw [s1]; exact hw
 have ba : Below W1.heap.size W1 (W1.alloc (.cells #[.int .u8 c.toNat] 5)) := (Below.refl _ _).alloc (Nat.le_refl _) _
 obtain ⟨v', W2, hra, q1, q2, -⟩ := zdm elB (ys := [c]) (sp := some ⟨W1.heap.size, 0, none⟩) (cap := 1) 56 (OwnG.below ho ba) (fun h => by cases h) (zai (x := c) (heap_alloc_new W1 _)) (by simp; omega) (by simp; omega)
 obtain ⟨sp', cap', rfl⟩ := OwnG.shape q1
 have hrA : (W1.alloc (.cells #[.int .u8 c.toNat] 5)).heap[b]? = some (.cells #[p, .slice sp l.length cap] 58 (0, 0)) := (ba.block b (zab hr)).trans hr
 have PUT : Hid (WrP B b (l ++ [c]) w (W2.setCell ⟨b, 1, none⟩ (.slice sp' (l ++ [c]).length cap'))) := zpu hB hp hrA (OwnG.below ho ba) (b1.alloc hw1 _) (k1.alloc _) (by simp; omega) q2 q1
 have hr2 : W2.heap[b]? = some (.cells #[p, .slice sp l.length cap] 58 (0, 0)) := (q2.block b (zab hrA) (fun e => OwnG.nb (OwnG.below ho ba) hrA (by decide) e.symm)).trans hrA
 have c1 : W1.cell? ⟨b, 1, none⟩ = some (.slice sp l.length cap) := (cell_of_row _ _ 1 _ _ _ hr).trans rfl
 have d1 : W2.cell? ⟨b, 1, none⟩ = some (.slice sp l.length cap) := (cell_of_row _ _ 1 _ _ _ hr2).trans rfl
 have z1 : W2.frozen? ⟨b, 1, none⟩ = false := frozen_of_row _ _ _ _ _ hr2
 have hlen : (l ++ [c]).length = l.length + 1 := by simp
 rw [hlen] at hra PUT
 clear q1 q2 hr2 hrA ba ho hr h1 b1 k1 s1
 go_wp2_with (at_builtin; refine zbc (.tmp 11) (.tmp 13) 56 (by rfl) (by rfl) (by rfl) (by rfl) hra ?_)
 go_ret
 exact ⟨rfl, PUT.out⟩
theorem zfn (s : ByteArray) : Lib.strCells s = flatG byC s.data.toList := by
 rw [zgs]
 simp [Lib.strCells, Lib.byteCells]
theorem zgj {P : Program} {ops : Array Oper} {rest : List Oper} {Q : Exit -> Act -> World -> Prop} {a : Act} {w w' : World} {o : Oper} {v' vs vx : Value} (s x : Operand) (t u : TypeId)
  (ho : o.op = .call { callee := .builtin .append, args := #[s, x], argTypes := #[t, u] }) (hw : Region.wanted o (yielded ops a.tmps) = true) (hs : a.eval s = vs) (hx : a.eval x = vx) (hr : (Builtin.append_ #[t, u] o.type #[vs, vx]).run P w = .ok v' w') (h : wpList P ops Q rest (a.put o.dst v') w') : wpList P ops Q (o :: rest) a w :=
 wpList_step fun _ hK => by
  rw [if_pos hw]
  unfold Oper.wp execOp
  simp only [ho, resolve, invoke, builtin, Sem.run_bind, Sem.run_pure, Result.andThen_ok, List.map_toArray, List.map_cons, List.map_nil, hs, hx, hr]
  exact hK _ _ h
theorem zg4 (B b : Nat) (l : List UInt8) (s : ByteArray) (w : World) (h : Bld B b l w) (hl : l.length + s.size <= 140737488355328) (hw : B <= w.heap.size) :
  Calls Tryz.prog 27 #[.pointer (some ⟨b, 0, none⟩), .string s] w fun e w' => e = .returned (.tuple #[.int .i64 s.size, .nilIface]) ∧ WrP B b (l ++ s.data.toList) w w' := by
 go_enter Tryz.func27, Tryz.ntmps27
 go_wp2_with fail
 refine (zel B b l w h).mono ?_
 rintro e W1 ⟨rfl, h1, b1, k1, s1⟩
 clear h
 obtain ⟨hB, p, v, hp, hr, ho⟩ := h1.row
 obtain ⟨sp, cap, rfl⟩ := OwnG.shape ho
 have hw1 : B <= W1.heap.size := by rw [s1]; exact hw
 obtain ⟨i, z, hi, hz0, hz1, hz2, -⟩ := elB.hi
 have hinf : (Tryz.prog.info? 5).map (fun i => (i.zero, i.size, i.bytes)) = some (some (.int .u8 0), 1, 1) := by kernel_rfl
 rw [hi] at hinf
 simp only [Option.map_some, Option.some.injEq, Prod.mk.injEq] at hinf
 obtain ⟨v', W2, hra, q1, q2, -⟩ := Lib.run_append_own_string (P := Tryz.prog) W1 B 56 9 56 5 i Tryz.underlying56 Tryz.underlying9 hi hinf.1 hinf.2.1 hinf.2.2 _ l.length (flatG byC l) ho s (by unfold maxLen; omega) hl hw1
 have q1' : OwnB B W2 v' (l ++ s.data.toList) := by
  show W2.ownsRow B 5 1 v' (l ++ s.data.toList).length (flatG byC (l ++ s.data.toList))
  rw [zfn] at q1
  rw [List.length_append, show s.data.toList.length = s.size by simp, flatG, List.flatMap_append]
  exact q1
 obtain ⟨sp', cap', rfl⟩ := OwnG.shape q1'
 have PUT : Hid (WrP B b (l ++ s.data.toList) w (W2.setCell ⟨b, 1, none⟩ (.slice sp' (l ++ s.data.toList).length cap'))) := zpu hB hp hr ho b1 k1 hw1 q2 q1'
 have hr2 : W2.heap[b]? = some (.cells #[p, .slice sp l.length cap] 58 (0, 0)) := (q2.block b (zab hr) (fun e => OwnG.nb ho hr (by decide) e.symm)).trans hr
 have c1 : W1.cell? ⟨b, 1, none⟩ = some (.slice sp l.length cap) := (cell_of_row _ _ 1 _ _ _ hr).trans rfl
 have d1 : W2.cell? ⟨b, 1, none⟩ = some (.slice sp l.length cap) := (cell_of_row _ _ 1 _ _ _ hr2).trans rfl
 have z1 : W2.frozen? ⟨b, 1, none⟩ = false := frozen_of_row _ _ _ _ _ hr2
 generalize (l ++ s.data.toList).length = n at hra PUT
 clear q1 q1' q2 hr2 ho hr h1 b1 k1 hinf hi hz0 hz1 hz2
 go_wp2_with (at_builtin; refine zgj (.tmp 12) (.tmp 13) 56 9 (by rfl) (by rfl) (by rfl) (by rfl) hra ?_)
 go_ret2
 exact ⟨rfl, PUT.out⟩
theorem zh2 (B : Nat) (v : Value) (l : List UInt8) (c : UInt8) (hc : c.toNat < 128) (w : World) (ho : OwnB B w v l) (hl : l.length <= 900000) (hw : B <= w.heap.size) :
  Calls Tryz.prog 144 #[v, .int .i32 c.toNat] w fun e w' => ∃ v', e = .returned v' ∧ OwnB B w' v' (l ++ [c]) ∧ (w.alloc (.cells #[.int .u8 c.toNat] 5)).grownBy w' v.ownBlock := by
 have ba : Below w.heap.size w (w.alloc (.cells #[.int .u8 c.toNat] 5)) := (Below.refl _ _).alloc (Nat.le_refl _) _
 obtain ⟨v', W2, hra, q1, q2, -⟩ := zdm elB (ys := [c]) (sp := some ⟨w.heap.size, 0, none⟩) (cap := 1) 56 (OwnG.below ho ba) (fun h => by cases h) (zai (x := c) (heap_alloc_new w _)) (by simp; omega) (by simp; omega)
 have hw1 : IntKind.u32.wrap (c.toNat : Int) = c.toNat := by
  rw [show IntKind.u32.wrap (c.toNat : Int) = (c.toNat : Int) % 4294967296 by simp [IntKind.wrap, IntKind.bits, IntKind.signed]]
  omega
 have hw2 : IntKind.u8.wrap (c.toNat : Int) = c.toNat := by
  rw [show IntKind.u8.wrap (c.toNat : Int) = (c.toNat : Int) % 256 by simp [IntKind.wrap, IntKind.bits, IntKind.signed]]
  omega
 have hle : (c.toNat : Int) <= 127 := by omega
 have HQ : Hid (OwnB B W2 v' (l ++ [c])) := q1
 have HG : Hid ((w.alloc (.cells #[.int .u8 c.toNat] 5)).grownBy W2 v.ownBlock) := q2
 clear q1 q2 ba ho
 go_enter Tryz.func144, Tryz.ntmps144
 go_wp2_with (at_builtin; refine zbc (.tmp 8) (.tmp 11) 56 (by rfl) (by rfl) (by rfl) (by rfl) hra ?_)
 go_ret
 exact ⟨_, rfl, HQ.out, HG.out⟩
theorem zfo (B b : Nat) (l : List UInt8) (c : UInt8) (hc : c.toNat < 128) (w : World) (h : Bld B b l w) (hl : l.length <= 900000) (hw : B <= w.heap.size) :
  Calls Tryz.prog 126 #[.pointer (some ⟨b, 0, none⟩), .int .i32 c.toNat] w fun e w' => (∃ n, e = .returned (.tuple #[.int .i64 n, .nilIface])) ∧ WrP B b (l ++ [c]) w w' := by
 go_enter Tryz.func126, Tryz.ntmps126
 go_wp2_with fail
 refine (zel B b l w h).mono ?_
 rintro e W1 ⟨rfl, h1, b1, k1, s1⟩
 clear h
 obtain ⟨hB, p, v, hp, hr, ho⟩ := h1.row
 obtain ⟨sp, cap, rfl⟩ := OwnG.shape ho
 have hw1 : B <= W1.heap.size := by rw [s1]; exact hw
 have c1 : W1.cell? ⟨b, 1, none⟩ = some (.slice sp l.length cap) := (cell_of_row _ _ 1 _ _ _ hr).trans rfl
 clear s1
 go_wp2_with fail
 refine (zh2 B _ l c hc W1 ho hl hw1).mono ?_
 rintro e W2 ⟨v', rfl, q1, q2⟩
 have ba : Below W1.heap.size W1 (W1.alloc (.cells #[.int .u8 c.toNat] 5)) := (Below.refl _ _).alloc (Nat.le_refl _) _
 obtain ⟨sp', cap', rfl⟩ := OwnG.shape q1
 have hrA : (W1.alloc (.cells #[.int .u8 c.toNat] 5)).heap[b]? = some (.cells #[p, .slice sp l.length cap] 58 (0, 0)) := (ba.block b (zab hr)).trans hr
 have PUT : Hid (WrP B b (l ++ [c]) w (W2.setCell ⟨b, 1, none⟩ (.slice sp' (l ++ [c]).length cap'))) := zpu hB hp hrA (OwnG.below ho ba) (b1.alloc hw1 _) (k1.alloc _) (by simp; omega) q2 q1
 have hr2 : W2.heap[b]? = some (.cells #[p, .slice sp l.length cap] 58 (0, 0)) := (q2.block b (zab hrA) (fun e => OwnG.nb (OwnG.below ho ba) hrA (by decide) e.symm)).trans hrA
 have hr3 : (W2.setCell ⟨b, 1, none⟩ (.slice sp' (l ++ [c]).length cap')).heap[b]? = some (.cells #[p, .slice sp' (l ++ [c]).length cap'] 58 (0, 0)) := heap_setCell_same _ _ _ _ _ _ hr2
 have d1 : W2.cell? ⟨b, 1, none⟩ = some (.slice sp l.length cap) := (cell_of_row _ _ 1 _ _ _ hr2).trans rfl
 have z1 : W2.frozen? ⟨b, 1, none⟩ = false := frozen_of_row _ _ _ _ _ hr2
 have hlen : (l ++ [c]).length = l.length + 1 := by simp
 rw [hlen] at PUT hr3 ⊢
 have e1 : (W2.setCell ⟨b, 1, none⟩ (.slice sp' (l.length + 1) cap')).cell? ⟨b, 1, none⟩ = some (.slice sp' (l.length + 1) cap') := (cell_of_row _ _ 1 _ _ _ hr3).trans rfl
 clear q1 q2 hr2 hr3 hrA ba ho hr h1 b1 k1
 go_wp2
 go_ret2
 exact ⟨⟨_, rfl⟩, PUT.out⟩
def quoB (c : UInt8) : Option (List UInt8) := if c.toNat = 34 ∨ c.toNat = 92 then some [92, c] else if c.toNat = 10 then some [92, 110] else if plnB c.toNat then some [c] else none
def quoG (acc : List UInt8) : List UInt8 -> Option (List UInt8)
 | [] => some (acc ++ [34])
 | c :: r => match quoB c with | none => none | some x => quoG (acc ++ x) r
def quoO (L : List UInt8) : Option (List UInt8) := quoG [34] L
theorem zj2 {acc : List UInt8} {L : List UInt8} {i : Nat} {c : UInt8} (h : L[i]? = some c) : quoG acc (L.drop i) = match quoB c with | none => none | some x => quoG (acc ++ x) (L.drop (i + 1)) := by
 rw [zec h, quoG]
theorem zv0 {acc : List UInt8} {L : List UInt8} {i : Nat} {c : UInt8} {o : Option (List UInt8)} (h : L[i]? = some c) (hg : quoG acc (L.drop i) = o) (hq : quoB c = none) : o = none := by
 rw [<- hg, zj2 h, hq]
theorem zpv {acc x : List UInt8} {L : List UInt8} {i : Nat} {c : UInt8} {o : Option (List UInt8)} (h : L[i]? = some c) (hg : quoG acc (L.drop i) = o) (hq : quoB c = some x) : quoG (acc ++ x) (L.drop (i + 1)) = o := by
 rw [<- hg, zj2 h, hq]
theorem Bld.iterAt {B b : Nat} {l : List UInt8} {w : World} (h : Bld B b l w) {k : Nat} {s : ByteArray} {pos : Nat} (hk : w.heap[k]? = some (.stringIter s pos)) (pos' : Nat) : Bld B b l (w.iterAt k s pos') := by
 obtain ⟨hB, p, v, hp, hr, ho⟩ := h.row
 have hkb : b ≠ k := fun e => by rw [e, hk] at hr; cases hr
 refine Bld.of hB hp ((Lib.iterAt_other w k b s pos' hkb).trans hr) (OwnG.keep ho fun j hj => Lib.iterAt_other w k j s pos' fun e => ?_)
 obtain ⟨c, fz, hc⟩ := zmy ho j hj
 rw [e, hk] at hc
 cases hc
theorem Bld.below {B b : Nat} {l : List UInt8} {w w' : World} (h : Bld B b l w) (hb : Below w.heap.size w w') : Bld B b l w' := by
 obtain ⟨hB, p, v, hp, hr, ho⟩ := h.row
 exact Bld.of hB hp ((hb.block b (zab hr)).trans hr) (OwnG.below ho hb)
def strV (o : Option (List UInt8)) (e : Int) : Value := match o with | none => .tuple #[.string ⟨#[]⟩, .int .i64 e] | some x => .tuple #[.string (strU x), .int .i64 0]
theorem zdv {w : World} {k : Nat} {s : ByteArray} {pos : Nat} (h : w.heap[k]? = some (.stringIter s pos)) : w.iterPos k = pos := by unfold World.iterPos; rw [h]
theorem zj3 (s : ByteArray) (w : World) (hs : s.size <= 100000) : Calls Tryz.prog 99 #[.string s] w fun e w' => e = .returned (strV (quoO s.data.toList) 2) ∧ Below w.heap.size w w' := by
 have HS : Hid (s.size = s.data.toList.length) := by show s.size = s.data.toList.length; simp
 go_enter Tryz.func99, Tryz.ntmps99
 go_wp2
 refine wp_scope_jumps 0 (fun a' w' => quoO s.data.toList = none ∧ Below w.heap.size w w' ∧ ∃ u0 u1 u2 u3 u4 u5 u6 u7 u8 u9 u10 u11 u12 u13 u14 u15 u16 u17 u18 u19 u20 u21 u22 u23 u24 u25 u26 u27 u28 u29 u30 u31 u32 u33 : Value, a' = { tmps := #[u0, u1, u2, u3, u4, u5, u6, u7, u8, u9, u10, u11, u12, u13, u14, u15, u16, u17, u18, u19, u20, u21, u22, u23, u24, u25, u26, u27, u28, u29, u30, u31, u32, u33], defers := [] }) (fun _ _ => 0) rfl ?_ ?_
 rotate_left
 ·rintro a' w' ⟨hn, hb, u0, u1, u2, u3, u4, u5, u6, u7, u8, u9, u10, u11, u12, u13, u14, u15, u16, u17, u18, u19, u20, u21, u22, u23, u24, u25, u26, u27, u28, u29, u30, u31, u32, u33, rfl⟩
  have HN : Hid (quoO s.data.toList = none) := hn
  clear hn
  go_wp2
  simp only [Exit.jump]
  go_ret2
  refine ⟨?_, hb⟩
  rw [HN.out]
  exact rfl
 go_wp2_with fail
 have hB0 : Bld w.heap.size w.heap.size [] (w.alloc (.cells #[.pointer none, .slice none 0 0] 58)) := Bld.of (Nat.le_refl _) (.inl rfl) (heap_alloc_new _ _) (zcp _ _)
 refine (zem w.heap.size w.heap.size [] 34 _ hB0 (by simp) (by simp)).mono ?_
 rintro e W1 ⟨rfl, h1, b1, -⟩
 have bw1 : Below w.heap.size w W1 := ((Below.refl _ _).alloc (Nat.le_refl _) _).trans b1
 clear hB0 b1
 have hkb : w.heap.size < W1.heap.size := by obtain ⟨-, p, v, -, hr, -⟩ := h1.row; exact zab hr
 go_wp2
 obtain ⟨K, HK⟩ : ∃ K, Hid (W1.heap.size = K) := ⟨_, rfl⟩
 have hbi : Below W1.heap.size W1 (W1.alloc (.stringIter s 0)) := (Below.refl _ _).alloc (Nat.le_refl _) _
 have H0 : Hid (Bld w.heap.size w.heap.size [34] (W1.iter s 0) ∧ (W1.iter s 0).heap[K]? = some (.stringIter s 0) ∧ Below w.heap.size w (W1.iter s 0)) := ⟨h1.below hbi, by rw [<- HK.out]; exact heap_alloc_new _ _, bw1.alloc bw1.size _⟩
 have hK : w.heap.size < K := by rw [<- HK.out]; exact hkb
 rw [HK.out]
 clear hbi HK hkb bw1 h1
 go_loopw [] (fun wr => ∃ (pos : Nat) (acc : List UInt8), pos <= s.size ∧ Bld w.heap.size w.heap.size acc wr ∧ wr.heap[K]? = some (.stringIter s pos) ∧ Below w.heap.size w wr ∧ acc.length <= 1 + 2 * pos ∧ quoG acc (s.data.toList.drop pos) = quoO s.data.toList) (fun wr => s.size - wr.iterPos K)
 case atStart => exact ⟨0, [34], Nat.zero_le _, H0.out.1, H0.out.2.1, H0.out.2.2, by simp, rfl⟩
 case round =>
  clear H0
  obtain ⟨pos, acc, hps, hbl, hit, hbe, hal, hqu⟩ := hrel
  have HBL : Hid (Bld w.heap.size w.heap.size acc wr) := hbl
  have HIT : Hid (wr.heap[K]? = some (.stringIter s pos)) := hit
  have HBE : Hid (Below w.heap.size w wr) := hbe
  have HQU : Hid (quoG acc (s.data.toList.drop pos) = quoO s.data.toList) := hqu
  clear hbl hbe hqu
  by_cases hp : pos < s.size
  ·have hnx : ∀ ty, (Instr.next (.pointer (some ⟨K, 0, none⟩)) true ty).run Tryz.prog wr = _ := fun ty => Lib.run_next_any_at wr K s pos ty hit hp
   have HB : Hid (s.data.toList[pos]? = some (s[pos]'hp)) := ziw hp
   obtain ⟨c, HC⟩ : ∃ c, Hid (s[pos]'hp = c) := ⟨_, rfl⟩
   rw [HC.out] at HB
   by_cases ha : c.toNat < 128
   ·have hdc := decode_ascii s pos hp (by rw [HC.out]; exact ha)
    rw [hdc] at hnx
    simp only [HC.out] at hnx
    clear hdc hit
    have h4 : Bld w.heap.size w.heap.size acc (wr.iterAt K s (pos + 1)) := HBL.out.iterAt HIT.out _
    have i4 : (wr.iterAt K s (pos + 1)).heap[K]? = some (.stringIter s (pos + 1)) := Lib.iterAt_heap _ _ _ _ _ HIT.out
    have b4 : Below w.heap.size w (wr.iterAt K s (pos + 1)) := Lib.below_iterAt HBE.out (by omega) _ _
    have hw2 := zek c
    have hsz : w.heap.size <= (wr.iterAt K s (pos + 1)).heap.size := b4.size
    by_cases hq : c.toNat = 34 ∨ c.toNat = 92
    ·have HNX : Hid (quoG (acc ++ [92, c]) (s.data.toList.drop (pos + 1)) = quoO s.data.toList) := zpv HB.out HQU.out (by unfold quoB; rw [if_pos hq])
     have hqi : (c.toNat : Int) = 34 ∨ (c.toNat : Int) = 92 := by omega
     clear HBL HBE HQU
     generalize wr.iterAt K s (pos + 1) = WN at hnx h4 i4 b4 hsz
     have KEY : Hid (∀ (W5 : World), WrP w.heap.size w.heap.size (acc ++ [92]) WN W5 -> Calls Tryz.prog 126 #[.pointer (some ⟨w.heap.size, 0, none⟩), .int .i32 c.toNat] W5 fun e w' => (∃ n, e = .returned (.tuple #[.int .i64 n, .nilIface])) ∧ (∃ (pos : Nat) (acc : List UInt8), pos <= s.size ∧ Bld w.heap.size w.heap.size acc w' ∧ w'.heap[K]? = some (.stringIter s pos) ∧ Below w.heap.size w w' ∧ acc.length <= 1 + 2 * pos ∧ quoG acc (s.data.toList.drop pos) = quoO s.data.toList) ∧ s.size - w'.iterPos K < s.size - wr.iterPos K) := fun W5 h5 => by
      refine (zfo w.heap.size w.heap.size (acc ++ [92]) c ha W5 h5.1 (by simp; omega) (Nat.le_trans hsz h5.2.1.size)).mono ?_
      rintro e W6 ⟨hn, h6, b6, k6⟩
      have i6 : W6.heap[K]? = some (.stringIter s (pos + 1)) := Lib.OthersKept.iter k6 (Lib.OthersKept.iter h5.2.2 i4 (by omega)) (by omega)
      refine ⟨hn, ⟨pos + 1, acc ++ [92, c], by omega, by simpa using h6, i6, b4.trans (h5.2.1.trans b6), by simp; omega, HNX.out⟩, ?_⟩
      rw [zdv i6, zdv HIT.out]
      omega
     rcases hqi with hq1 | hq1
     all_goals
      go_wp2_with fail
      refine (zem w.heap.size w.heap.size acc 92 WN h4 (by omega) hsz).mono ?_
      rintro e W5 ⟨rfl, h5⟩
      go_wp2_with fail
      try rw [hq1] at KEY
      refine (KEY.out W5 h5).mono ?_
      rintro e W6 ⟨⟨n6, rfl⟩, hR, hM⟩
      have HR : Hid (∃ (pos : Nat) (acc : List UInt8), pos <= s.size ∧ Bld w.heap.size w.heap.size acc W6 ∧ W6.heap[K]? = some (.stringIter s pos) ∧ Below w.heap.size w W6 ∧ acc.length <= 1 + 2 * pos ∧ quoG acc (s.data.toList.drop pos) = quoO s.data.toList) := hR
      have HM : Hid (s.size - W6.iterPos K < s.size - wr.iterPos K) := hM
      clear hR hM
      go_wp2
      exact ⟨HR.out, HM.out⟩
    ·by_cases h10 : c.toNat = 10
     ·have HNX : Hid (quoG (acc ++ [92, 110]) (s.data.toList.drop (pos + 1)) = quoO s.data.toList) := zpv HB.out HQU.out (by unfold quoB; rw [if_neg hq, if_pos h10])
      have h10' : (c.toNat : Int) = 10 := by omega
      clear HBL HBE HQU
      generalize wr.iterAt K s (pos + 1) = WN at hnx h4 i4 b4 hsz
      go_wp2_with fail
      refine (zg4 w.heap.size w.heap.size acc ⟨#[92, 110]⟩ WN h4 (by have : (⟨#[92, 110]⟩ : ByteArray).size = 2 := rfl; omega) hsz).mono ?_
      rintro e W6 ⟨rfl, h6, b6, k6⟩
      have i6 : W6.heap[K]? = some (.stringIter s (pos + 1)) := Lib.OthersKept.iter k6 i4 (by omega)
      have HR : Hid (∃ (pos : Nat) (acc : List UInt8), pos <= s.size ∧ Bld w.heap.size w.heap.size acc W6 ∧ W6.heap[K]? = some (.stringIter s pos) ∧ Below w.heap.size w W6 ∧ acc.length <= 1 + 2 * pos ∧ quoG acc (s.data.toList.drop pos) = quoO s.data.toList) := ⟨pos + 1, acc ++ [92, 110], by omega, h6, i6, b4.trans b6, by simp; omega, HNX.out⟩
      have HM : Hid (s.size - W6.iterPos K < s.size - wr.iterPos K) := by
       show s.size - W6.iterPos K < s.size - wr.iterPos K
       rw [zdv i6, zdv HIT.out]
       omega
      go_wp2
      exact ⟨HR.out, HM.out⟩
     ·have hq1 : ((c.toNat : Int) == 34) = false := by rw [beq_eq_false_iff_ne]; omega
      have hq2 : ((c.toNat : Int) == 92) = false := by rw [beq_eq_false_iff_ne]; omega
      have h10' : ((c.toNat : Int) == 10) = false := by rw [beq_eq_false_iff_ne]; omega
      cases hpl : plnB c.toNat
      ·have HNO : Hid (quoO s.data.toList = none) := zv0 HB.out HQU.out (by unfold quoB; rw [if_neg hq, if_neg h10, hpl]; rfl)
       go_wp2_with (go_at_call 107; refine (zev _ _).mono ?_; rintro e W1 ⟨rfl, hW1⟩; subst hW1; rw [hpl])
       go_step3
       exact ⟨rfl, HNO.out, b4, _, _, _, _, _, _, _, _, _, _, _, _, _, _, _, _, _, _, _, _, _, _, _, _, _, _, _, _, _, _, _, _, _, _, rfl⟩
      ·have HNX : Hid (quoG (acc ++ [c]) (s.data.toList.drop (pos + 1)) = quoO s.data.toList) := zpv HB.out HQU.out (by unfold quoB; rw [if_neg hq, if_neg h10, hpl]; rfl)
       clear HBL HBE HQU
       generalize wr.iterAt K s (pos + 1) = WN at hnx h4 i4 b4 hsz
       go_wp2_with fail
       refine (zev _ _).mono ?_
       rintro e W5 ⟨rfl, hW5⟩
       rw [hW5, hpl]
       clear hW5
       go_wp2_with fail
       refine (zfo w.heap.size w.heap.size acc c ha WN h4 (by omega) hsz).mono ?_
       rintro e W6 ⟨⟨n6, rfl⟩, h6, b6, k6⟩
       have i6 : W6.heap[K]? = some (.stringIter s (pos + 1)) := Lib.OthersKept.iter k6 i4 (by omega)
       have HR : Hid (∃ (pos : Nat) (acc : List UInt8), pos <= s.size ∧ Bld w.heap.size w.heap.size acc W6 ∧ W6.heap[K]? = some (.stringIter s pos) ∧ Below w.heap.size w W6 ∧ acc.length <= 1 + 2 * pos ∧ quoG acc (s.data.toList.drop pos) = quoO s.data.toList) := ⟨pos + 1, acc ++ [c], by omega, h6, i6, b4.trans b6, by simp; omega, HNX.out⟩
       have HM : Hid (s.size - W6.iterPos K < s.size - wr.iterPos K) := by
        show s.size - W6.iterPos K < s.size - wr.iterPos K
        rw [zdv i6, zdv HIT.out]
        omega
       go_wp2
       exact ⟨HR.out, HM.out⟩
   ·have hdh := (decode_high s pos hp (by rw [HC.out]; omega)).1
    obtain ⟨rn, hrn⟩ : ∃ rn : Nat, (Utf8.decode s pos).1 = rn := ⟨_, rfl⟩
    rw [hrn] at hdh hnx
    have hq1 : ((rn : Int) == 34) = false := by rw [beq_eq_false_iff_ne]; omega
    have hq2 : ((rn : Int) == 92) = false := by rw [beq_eq_false_iff_ne]; omega
    have h10' : ((rn : Int) == 10) = false := by rw [beq_eq_false_iff_ne]; omega
    have hpl : plnB (rn : Int) = false ∨ (rn : Int) <= 126 := by
     by_cases h : (rn : Int) <= 126
     ·exact .inr h
     ·exact .inl (by unfold plnB; rw [decide_eq_false h, Bool.and_false])
    have hpl' : plnB (rn : Int) = false := by
     rcases hpl with h | h
     ·exact h
     ·omega
    have HNO : Hid (quoO s.data.toList = none) := zv0 HB.out HQU.out (by
     unfold quoB
     rw [if_neg (by omega), if_neg (by omega)]
     have : plnB c.toNat = false := by unfold plnB; rw [decide_eq_false (show ¬ ((c.toNat : Int) <= 126) by omega), Bool.and_false]
     rw [this]
     rfl)
    have b4 : Below w.heap.size w (wr.iterAt K s (pos + (Utf8.decode s pos).2)) := Lib.below_iterAt HBE.out (by omega) _ _
    clear hdh hpl hit hrn
    go_wp2_with (go_at_call 107; refine (zev _ _).mono ?_; rintro e W1 ⟨rfl, hW1⟩; subst hW1; rw [hpl'])
    go_step3
    exact ⟨rfl, HNO.out, b4, _, _, _, _, _, _, _, _, _, _, _, _, _, _, _, _, _, _, _, _, _, _, _, _, _, _, _, _, _, _, _, _, _, _, rfl⟩
  ·have hnx : ∀ ty, (Instr.next (.pointer (some ⟨K, 0, none⟩)) true ty).run Tryz.prog wr = _ := fun ty => Lib.run_next_end_at wr K s pos ty hit hp
   have HY : Hid (quoO s.data.toList = some (acc ++ [34])) := by rw [<- HQU.out, List.drop_eq_nil_of_le (by have := HS.out; omega)]; exact rfl
   clear hit
   go_wp2_with fail
   refine (zem w.heap.size w.heap.size acc 34 wr HBL.out (by omega) HBE.out.size).mono ?_
   rintro e W5 ⟨rfl, h5, b5, k5⟩
   go_wp2_with fail
   have h5' : Lib.IsBuilder 58 5 w.heap.size w.heap.size (Lib.byteCells (acc ++ [34])) W5 := h5
   refine (Tryz.Builder_String_any w.heap.size w.heap.size (acc ++ [34]) W5 h5' (Nat.le_trans HBE.out.size b5.size)).mono ?_
   rintro e W6 ⟨rfl, b6⟩
   go_wp2
   simp only [Exit.jump]
   go_ret2
   refine ⟨?_, HBE.out.trans (b5.trans b6)⟩
   rw [HY.out]
   exact rfl
def comN (L : List UInt8) : Nat := runN (fun c => c != 10) L
theorem zt9 (L : List UInt8) (c : UInt8) : Lib.indexByte L c = if runN (fun d => d != c) L < L.length then (runN (fun d => d != c) L : Int) else -1 := by
 induction L with
 | nil => rfl
 | cons a r ih =>
  rw [Lib.indexByte, zcc, List.length_cons]
  by_cases h : a = c
  ·subst h
   simp
  ·have h1 : (a == c) = false := by simpa using h
   have h2 : (a != c) = true := by simpa using h
   by_cases hlt : runN (fun d => d != c) r < r.length
   ·have h3 : ((runN (fun d => d != c) r : Int) == -1) = false := by rw [beq_eq_false_iff_ne]; omega
    simp [h1, h2, ih, hlt, h3]
   ·simp [h1, h2, ih, hlt]
theorem zll (sp : Option Addr) (cap : Nat) (L : List UInt8) (w : World) (h : BA w sp L) (hpos : 0 < L.length) :
  Calls Tryz.prog 53 #[.slice sp L.length cap] w fun e w' => e = .returned (.int .i64 (comN L)) ∧ w' = w := by
 obtain ⟨b, o, rfl, hc⟩ := h hpos
 have HI : Hid (Calls Tryz.prog 74 #[.slice (some ⟨b, o, none⟩) L.length cap, .int .u8 10] w fun e w' => e = .returned (.int .i64 (if runN (fun d => d != 10) L < L.length then (runN (fun d => d != 10) L : Int) else -1)) ∧ w' = w) := by
  have := Tryz.bytes_IndexByte_at ⟨b, o, none⟩ L.length cap (Lib.numsL L) 10 w (by simp [Lib.numsL]) (fun i hi => by
   rw [Addr.add_mid, hc i _ (List.getElem?_eq_getElem hi)]
   simp [Lib.numsL, hi])
  rw [Lib.bytesOf_numsL, zt9] at this
  exact this
 have hle := zf8 (fun c => c != 10) L
 clear hc h
 go_enter Tryz.func53, Tryz.ntmps53
 by_cases hlt : runN (fun d => d != 10) L < L.length
 ·have hn : ¬ ((runN (fun d => d != 10) L : Int) < 0) := by omega
  have HX : Hid (comN L = runN (fun d => d != 10) L) := rfl
  go_wp2_with (go_at_call 74; refine HI.out.mono ?_; rintro e W1 ⟨rfl, hW1⟩; subst hW1; rw [if_pos hlt])
  go_ret
  exact ⟨zgb (by rw [HX.out]), rfl⟩
 ·have HX : Hid (comN L = L.length) := by
   have : comN L = runN (fun d => d != 10) L := rfl
   rw [this]
   show runN (fun d => d != 10) L = L.length
   omega
  go_wp2_with (go_at_call 74; refine HI.out.mono ?_; rintro e W1 ⟨rfl, hW1⟩; subst hW1; rw [if_neg hlt])
  go_ret
  exact ⟨zgb (by rw [HX.out]), rfl⟩
theorem zua {L M : List UInt8} {n q k : Nat} (h : numR L = if (decO M).isSome = false ∨ 0 < k then (0, 201) else (n, 0)) (hd : decO M = some q) : numR L = if 0 < k then (0, 201) else (n, 0) := by
 rw [h, hd]
 simp
theorem zog (sp : Option Addr) (cap : Nat) (L : List UInt8) (w : World) (h : BA w sp L) (hpos : 0 < L.length) (hl : L.length <= 100000) (hcap : L.length <= cap) :
  Calls Tryz.prog 50 #[.slice sp L.length cap] w fun e w' => e = .returned (pairV (numR L)) ∧ Below w.heap.size w w' := by
 obtain ⟨b, o, rfl, hc⟩ := h hpos
 have HL : Hid (BA w (some ⟨b, o, none⟩) L) := h
 clear h hc
 obtain ⟨n, HN⟩ : ∃ n, Hid (runN (inC [4]) L = n) := ⟨_, rfl⟩
 have hnl : n <= L.length := by rw [<- HN.out]; exact zf8 _ _
 have HE : Hid (numR L = if (decO (L.take n)).isSome = false ∨ 0 < runN (inC [3]) (L.drop n) then (0, 201) else (n, 0)) := by unfold numR; rw [HN.out]; exact rfl
 have HR : Hid (Calls Tryz.prog 70 #[.slice (some ⟨b, o, none⟩) L.length cap, .slice (some ⟨w.heap.size, 0, none⟩) 1 1] (w.alloc (.cells #[.int .i64 4] 3)) fun e w' => e = .returned (.int .i64 n) ∧ Below w.heap.size w w') := by
  have b1 : Below w.heap.size w (w.alloc (.cells #[.int .i64 4] 3)) := (Below.refl _ _).alloc (Nat.le_refl _) _
  have := zlk _ cap L w.heap.size 0 1 [4] _ (HL.out.below b1) (by omega) (by simp) (zga w [4] 3)
  rw [HN.out] at this
  exact this.mono fun e w' ⟨h1, h2⟩ => ⟨h1, h2 ▸ b1⟩
 go_enter Tryz.func50, Tryz.ntmps50
 go_wp2_with fail
 refine HR.out.mono ?_
 rintro e W1 ⟨rfl, b1⟩
 have htl : (L.take n).length = n := by rw [List.length_take]; omega
 have hcv := zgq ((HL.out.below' b1).take n) cap
 rw [htl] at hcv
 have hnc : (n : Int) <= cap := by omega
 go_wp2_with fail
 refine (zg1 (strU (L.take n)) W1).mono ?_
 rintro e W2 ⟨rfl, b2⟩
 rw [zdi]
 have bw2 : Below w.heap.size w W2 := b1.trans (b2.mono b1.size)
 clear hcv htl HR
 cases hdo : decO (L.take n) with
 | none =>
  have HX : Hid (numR L = (0, 201)) := by rw [HE.out, hdo]; exact rfl
  clear HE hdo
  unfold decV
  go_wp2
  go_ret2
  exact ⟨zas HX.out, bw2⟩
 | some q =>
  have HX : Hid (numR L = if 0 < runN (inC [3]) (L.drop n) then (0, 201) else (n, 0)) := zua HE.out hdo
  clear HE hdo
  have b3 : Below w.heap.size w (W2.alloc (.cells #[.int .i64 3] 3)) := bw2.alloc bw2.size _
  have HR2 : Hid (Calls Tryz.prog 70 #[.slice (if cap = n then some ⟨b, o, none⟩ else some ⟨b, o + n, none⟩) (L.length - n) (cap - n), .slice (some ⟨W2.heap.size, 0, none⟩) 1 1] (W2.alloc (.cells #[.int .i64 3] 3)) fun e w' => e = .returned (.int .i64 (runN (inC [3]) (L.drop n))) ∧ w' = (W2.alloc (.cells #[.int .i64 3] 3))) := by
   have := zlk _ (cap - n) (L.drop n) W2.heap.size 0 1 [3] _ (BA.cut (HL.out.below' b3) n hcap) (by rw [List.length_drop]; omega) (by simp) (zga W2 [3] 3)
   rw [List.length_drop] at this
   exact this
  unfold decV
  by_cases hr : 0 < runN (inC [3]) (L.drop n)
  ·have hr' : ((runN (inC [3]) (L.drop n) : Nat) : Int) > 0 := by omega
   have HY : Hid (numR L = (0, 201)) := by rw [HX.out, if_pos hr]; exact rfl
   clear HX
   go_wp2_with (go_at_call 70; refine HR2.out.mono ?_; rintro e W3 ⟨rfl, rfl⟩)
   all_goals go_ret2
   all_goals exact ⟨zas HY.out, b3⟩
  ·have hr' : ¬ ((runN (inC [3]) (L.drop n) : Nat) : Int) > 0 := by omega
   have HY : Hid (numR L = (n, 0)) := by rw [HX.out, if_neg hr]; exact rfl
   clear HX
   go_wp2_with (go_at_call 70; refine HR2.out.mono ?_; rintro e W3 ⟨rfl, rfl⟩)
   all_goals go_ret2
   all_goals exact ⟨zas HY.out, b3⟩
def lookR (L : List UInt8) (en : Bool) : Int × Nat × Int := match L with
  | [] => (5, 0, 0)
  | c :: r =>
    if clsI c.toNat = 2 then (if en then (5, 0, 0) else (0, 1, 0))
    else if clsI c.toNat = 1 then (0, 1, 0)
    else if clsI c.toNat = 6 then (5, 1, 0)
    else if clsI c.toNat = 3 then (1, wordR (c :: r))
    else if clsI c.toNat = 4 then (2, numR (c :: r))
    else if clsI c.toNat = 5 then (3, quoR (c :: r))
    else if Lib.hasPrefix (c :: r) [47, 47] then (0, comN (c :: r), 0)
    else (4, sigR (c :: r))
def tripV (p : Int × Nat × Int) : Value := .tuple #[.int .i64 p.1, .int .i64 p.2.1, .int .i64 p.2.2]
theorem zdt {p : Int × Nat × Int} {k : Int} {n : Nat} {e : Int} (h : p = (k, n, e)) : Ending.returned (.tuple #[.int .i64 k, .int .i64 n, .int .i64 e]) = .returned (tripV p) := by rw [h]; rfl
theorem zpw (c : Int) : clsI c = 0 ∨ clsI c = 1 ∨ clsI c = 2 ∨ clsI c = 3 ∨ clsI c = 4 ∨ clsI c = 5 ∨ clsI c = 6 := by
  unfold clsI
  repeat' split
  all_goals simp
theorem ziy (sp : Option Addr) (cap : Nat) (L : List UInt8) (g : Nat) (t : Tok) (w : World) (h : BA w sp L) (hl : L.length <= 100000) (hcap : L.length <= cap)
    (h0 : w.cell? ⟨g, 0, none⟩ = some (.int .i64 t.kind)) (h1 : w.cell? ⟨g, 1, none⟩ = some (.string t.text)) :
    Calls Tryz.prog 36 #[.slice sp L.length cap, .func (.func 35) #[.pointer (some ⟨g, 0, none⟩)] #[]] w fun e w' => e = .returned (tripV (lookR L (clo t))) ∧ Below w.heap.size w w' := by
  have H0 : Hid (w.cell? ⟨g, 0, none⟩ = some (.int .i64 t.kind)) := h0
  have H1 : Hid (w.cell? ⟨g, 1, none⟩ = some (.string t.text)) := h1
  have HL : Hid (BA w sp L) := h
  clear h h0 h1
  cases L with
  | nil =>
    go_enter Tryz.func36, Tryz.ntmps36
    go_wp2
    go_ret3
    exact ⟨rfl, Below.refl _ _⟩
  | cons c r =>
    obtain ⟨b, o, rfl, hc⟩ := HL.out (by simp)
    have k0 : w.cell? ⟨b, o, none⟩ = some (.int .u8 c.toNat) := hc 0 c rfl
    have hln : ((((c :: r).length : Nat) : Int) == 0) = false := by rw [beq_eq_false_iff_ne, List.length_cons]; omega
    have hlt : (0 : Int) < ((c :: r).length : Nat) := by rw [List.length_cons]; omega
    have hw := zek c
    clear hc
    obtain ⟨M, HM⟩ : ∃ M, Hid (c :: r = M) := ⟨_, rfl⟩
    have HE : Hid (lookR M (clo t) = if clsI c.toNat = 2 then (if clo t then (5, 0, 0) else (0, 1, 0)) else if clsI c.toNat = 1 then (0, 1, 0) else if clsI c.toNat = 6 then (5, 1, 0) else if clsI c.toNat = 3 then (1, wordR M)
      else if clsI c.toNat = 4 then (2, numR M) else if clsI c.toNat = 5 then (3, quoR M) else if Lib.hasPrefix M [47, 47] then (0, comN M, 0) else (4, sigR M)) := by rw [<- HM.out]; exact rfl
    have HC : Hid (∃ r, M = c :: r) := ⟨r, HM.out.symm⟩
    rw [HM.out] at hln hlt HL hl hcap ⊢
    clear HM
    have HPOS : 0 < M.length := by omega
    go_enter Tryz.func36, Tryz.ntmps36
    rcases zpw c.toNat with hk | hk | hk | hk | hk | hk | hk
    · have HX : Hid (lookR M (clo t) = if Lib.hasPrefix M [47, 47] then (0, comN M, 0) else (4, sigR M)) := by rw [HE.out, hk]; exact rfl
      clear HE
      have hcv := Lib.run_convert_bytes_const (P := Tryz.prog) w 56 5 #[.int .u8 47, .int .u8 47] 2 2 Tryz.underlying56 Tryz.underlying5
      obtain ⟨WA, HWA⟩ : ∃ WA, Hid (w.alloc (.cells #[.int .u8 47, .int .u8 47] 5 (2, 3)) = WA) := ⟨_, rfl⟩
      have b1 : Below w.heap.size w WA := by rw [<- HWA.out]; exact (Below.refl _ _).alloc (Nat.le_refl _) _
      have hP2 : BA WA (some ⟨w.heap.size, 0, none⟩) [47, 47] := BA.of_rows (fun _ => ⟨w.heap.size, 0, rfl, fun i x hx j u hu => by
        have hrow : WA.heap[w.heap.size]? = some (.cells #[.int .u8 47, .int .u8 47] 5 (2, 3)) := by rw [<- HWA.out]; exact heap_alloc_new _ _
        rw [cell_of_row _ _ _ _ _ _ hrow]
        have hj : j = 0 := by have := (Array.getElem?_eq_some_iff.1 hu).1; simp [byC] at this; omega
        subst hj
        rw [<- hu]
        match i, hx with
        | 0, hx => have hx' : (47 : UInt8) = x := by simpa using hx
                   subst hx'; rfl
        | 1, hx => have hx' : (47 : UInt8) = x := by simpa using hx
                   subst hx'; rfl
        | k + 2, hx => simp at hx⟩)
      have HP : Hid (Calls Tryz.prog 52 #[.slice (some ⟨b, o, none⟩) M.length cap, .slice (some ⟨w.heap.size, 0, none⟩) 2 2] WA fun e w' => e = .returned (.bool (Lib.hasPrefix M [47, 47])) ∧ w' = WA) := by
        have := Tryz.bytes_HasPrefix_all (some ⟨b, o, none⟩) (some ⟨w.heap.size, 0, none⟩) M.length cap 2 2 (Lib.numsL M) (Lib.numsL [47, 47]) WA (by simp [Lib.numsL]) rfl hcap (HL.out.below b1).bytesIn hP2.bytesIn
        rw [Lib.bytesOf_numsL, Lib.bytesOf_numsL] at this
        exact this
      clear hP2
      have hcv' : (convert 56 56 (.slice (some ⟨w.heap.size, 0, none⟩) 2 2)).run Tryz.prog (w.alloc (.cells #[.int .u8 47, .int .u8 47] 5)) = .ok (.slice (some ⟨w.heap.size, 0, none⟩) 2 2) WA := by
        rw [hcv]
        exact congrArg _ HWA.out
      clear hcv
      cases hp : Lib.hasPrefix M [47, 47]
      · have HY : Hid (lookR M (clo t) = (4, sigR M)) := by rw [HX.out, hp]; exact rfl
        clear HX
        obtain ⟨n, er, HR⟩ : ∃ n er, Hid (sigR M = (n, er)) := ⟨_, _, rfl⟩
        have HS : Hid (Calls Tryz.prog 54 #[.slice (some ⟨b, o, none⟩) M.length cap] WA fun e w' => e = .returned (.tuple #[.int .i64 n, .int .i64 er]) ∧ w' = WA) := by
          obtain ⟨r', hr'⟩ := HC.out
          have := zt8 (some ⟨b, o, none⟩) cap c r' WA (hr' ▸ HL.out.below b1) (hr' ▸ hl) (hr' ▸ hcap)
          rw [<- hr', HR.out] at this
          exact this
        go_wp2_with (first
          | (go_at_call 48; refine (zbe _ _).mono ?_; rintro e W1 ⟨rfl, hW1⟩; subst hW1; rw [hk])
          | (go_at_call 52; refine HP.out.mono ?_; rintro e W1 ⟨rfl, hW1⟩; rw [hW1, hp])
          | (go_at_call 54; refine HS.out.mono ?_; rintro e W1 ⟨rfl, hW1⟩; rw [hW1]))
        go_ret3
        exact ⟨zdt (by rw [HY.out, HR.out]), b1⟩
      · have HY : Hid (lookR M (clo t) = (0, comN M, 0)) := by rw [HX.out, hp]; exact rfl
        clear HX
        have HS : Hid (Calls Tryz.prog 53 #[.slice (some ⟨b, o, none⟩) M.length cap] WA fun e w' => e = .returned (.int .i64 (comN M)) ∧ w' = WA) := zll _ cap M WA (HL.out.below b1) HPOS
        go_wp2_with (first
          | (go_at_call 48; refine (zbe _ _).mono ?_; rintro e W1 ⟨rfl, hW1⟩; subst hW1; rw [hk])
          | (go_at_call 52; refine HP.out.mono ?_; rintro e W1 ⟨rfl, hW1⟩; rw [hW1, hp])
          | (go_at_call 53; refine HS.out.mono ?_; rintro e W1 ⟨rfl, hW1⟩; rw [hW1]))
        go_ret3
        exact ⟨zdt HY.out, b1⟩
    · have HX : Hid (lookR M (clo t) = (0, 1, 0)) := by rw [HE.out, hk]; exact rfl
      clear HE
      go_wp2_with (go_at_call 48; refine (zbe _ _).mono ?_; rintro e W1 ⟨rfl, hW1⟩; subst hW1; rw [hk])
      go_ret3
      exact ⟨zdt HX.out, Below.refl _ _⟩
    · have HX : Hid (lookR M (clo t) = if clo t then (5, 0, 0) else (0, 1, 0)) := by rw [HE.out, hk]; exact rfl
      clear HE
      cases hcl : clo t
      · have HY : Hid (lookR M false = (0, 1, 0)) := by rw [<- hcl, HX.out, hcl]; exact rfl
        clear HX
        go_wp2_with (first
          | (go_at_call 48; refine (zbe _ _).mono ?_; rintro e W1 ⟨rfl, hW1⟩; subst hW1; rw [hk])
          | (go_at_call 35; refine (zej g t _ H0.out H1.out).mono ?_; rintro e W1 ⟨rfl, hW1⟩; subst hW1; rw [hcl]))
        go_ret3
        exact ⟨zdt HY.out, Below.refl _ _⟩
      · have HY : Hid (lookR M true = (5, 0, 0)) := by rw [<- hcl, HX.out, hcl]; exact rfl
        clear HX
        go_wp2_with (first
          | (go_at_call 48; refine (zbe _ _).mono ?_; rintro e W1 ⟨rfl, hW1⟩; subst hW1; rw [hk])
          | (go_at_call 35; refine (zej g t _ H0.out H1.out).mono ?_; rintro e W1 ⟨rfl, hW1⟩; subst hW1; rw [hcl]))
        go_ret3
        exact ⟨zdt HY.out, Below.refl _ _⟩
    · have HX : Hid (lookR M (clo t) = (1, wordR M)) := by rw [HE.out, hk]; exact rfl
      clear HE
      obtain ⟨n, er, HR⟩ : ∃ n er, Hid (wordR M = (n, er)) := ⟨_, _, rfl⟩
      go_wp2_with (first
        | (go_at_call 48; refine (zbe _ _).mono ?_; rintro e W1 ⟨rfl, hW1⟩; subst hW1; rw [hk])
        | (go_at_call 49; refine (zt7 _ cap M _ HL.out hl).mono ?_; rintro e W1 ⟨rfl, b1⟩; rw [HR.out, pairV]))
      go_ret3
      exact ⟨zdt (by rw [HX.out, HR.out]), b1⟩
    · have HX : Hid (lookR M (clo t) = (2, numR M)) := by rw [HE.out, hk]; exact rfl
      clear HE
      obtain ⟨n, er, HR⟩ : ∃ n er, Hid (numR M = (n, er)) := ⟨_, _, rfl⟩
      go_wp2_with (first
        | (go_at_call 48; refine (zbe _ _).mono ?_; rintro e W1 ⟨rfl, hW1⟩; subst hW1; rw [hk])
        | (go_at_call 50; refine (zog _ cap M _ HL.out HPOS hl hcap).mono ?_; rintro e W1 ⟨rfl, b1⟩; rw [HR.out, pairV]))
      go_ret3
      exact ⟨zdt (by rw [HX.out, HR.out]), b1⟩
    · have HX : Hid (lookR M (clo t) = (3, quoR M)) := by rw [HE.out, hk]; exact rfl
      clear HE
      obtain ⟨n, er, HR⟩ : ∃ n er, Hid (quoR M = (n, er)) := ⟨_, _, rfl⟩
      go_wp2_with (first
        | (go_at_call 48; refine (zbe _ _).mono ?_; rintro e W1 ⟨rfl, hW1⟩; subst hW1; rw [hk])
        | (go_at_call 51; refine (zof _ cap M _ HL.out hl hcap).mono ?_; rintro e W1 ⟨rfl, b1⟩; rw [HR.out, pairV]))
      go_ret3
      exact ⟨zdt (by rw [HX.out, HR.out]), b1⟩
    · have HX : Hid (lookR M (clo t) = (5, 1, 0)) := by rw [HE.out, hk]; exact rfl
      clear HE
      go_wp2_with (go_at_call 48; refine (zbe _ _).mono ?_; rintro e W1 ⟨rfl, hW1⟩; subst hW1; rw [hk])
      go_ret3
      exact ⟨zdt HX.out, Below.refl _ _⟩
section
variable {P : Program} {ops : Array Oper} {Q : Exit -> Act -> World -> Prop} {md : Region.Mode} {S : World -> Prop} {fuel : Nat} {listed : Array Bool} {tm : Array Value} {df : List Deferred} {w : World}
 {op : Op} {ty0 : TypeId} {pos : String} {aft : Array Edge}
theorem zfp {id : Nat} {a : Act} (n : Nat) (hn : ops.size = n) (hm : P.follows .mixedOrders = true)
  (h : wpAnyH P .any ops Q S n (Array.replicate n false) a w.drew) : (Code.region id ops true).wp P Q a w := by
 subst hn
 exact wp_region_held hm h
theorem zzq (i d : Nat) (v : Value) (hi : ops[i]? = some ⟨some d, op, ty0, pos, aft, none⟩) (hs : Region.noSelect ops = true) (hf : Region.free md ops listed i = true) (hr : (Region.ready md ops listed).contains i = true)
  (hQ : ∀ c a w, Q (.panic c) (a.put (some d) v) w -> Q (.panic c) a w) (hrun : ∀ w, S w -> (execOp (Act.eval ⟨tm, df⟩) ⟨some d, op, ty0, pos, aft, none⟩).run P w = .ok (.value v) w) (hS : S w)
  (h : wpAnyH P md ops Q S fuel (listed.setIfInBounds i true) ⟨tm.setIfInBounds d v, df⟩ w) : wpAnyH P md ops Q S (fuel + 1) listed ⟨tm, df⟩ w :=
 wpAnyH_take hi hs hf hr hQ (.inl ⟨rfl, hrun⟩) hS h
theorem zdn (i : Nat) {dst : Option Tmp} (hi : ops[i]? = some ⟨dst, op, ty0, pos, aft, none⟩) (hr : Region.ready md ops listed = [i])
  (h : Oper.wp P ⟨dst, op, ty0, pos, aft, none⟩ ⟨tm, df⟩ w (fun a' w' => S w' ∧ wpAnyH P md ops Q S fuel (listed.setIfInBounds i true) a' w') Q) : wpAnyH P md ops Q S (fuel + 1) listed ⟨tm, df⟩ w :=
 zt2 rfl hr hi rfl h
end
section
variable {P : Program} {ops : Array Oper} {Q : Exit -> Act -> World -> Prop} {md : Region.Mode} {S : World -> Prop} {fuel : Nat} {listed : Array Bool} {tm : Array Value} {df : List Deferred} {w : World}
 {op : Op} {ty0 : TypeId} {pos : String} {aft : Array Edge}
theorem zar (i d : Nat) (v : Value) {gd : Option (Nat × Bool)} (hi : ops[i]? = some ⟨some d, op, ty0, pos, aft, gd⟩) (hw : Region.wanted ⟨some d, op, ty0, pos, aft, gd⟩ (yielded ops tm) = true) (hs : Region.noSelect ops = true) (hf : Region.free md ops listed i = true) (hr : (Region.ready md ops listed).contains i = true)
  (hQ : ∀ c a w, Q (.panic c) (a.put (some d) v) w -> Q (.panic c) a w) (hrun : ∀ w, S w -> (execOp (Act.eval ⟨tm, df⟩) ⟨some d, op, ty0, pos, aft, gd⟩).run P w = .ok (.value v) w) (hS : S w)
  (h : wpAnyH P md ops Q S fuel (listed.setIfInBounds i true) ⟨tm.setIfInBounds d v, df⟩ w) : wpAnyH P md ops Q S (fuel + 1) listed ⟨tm, df⟩ w :=
 wpAnyH_take hi hs hf hr hQ (.inl ⟨hw, hrun⟩) hS h
theorem zpx (i d : Nat) (ty : TypeId) (x : Operand) {gd : Option (Nat × Bool)} (hi : ops[i]? = some ⟨some d, .load ty x, ty0, pos, aft, gd⟩) (hw : Region.wanted ⟨some d, .load ty x, ty0, pos, aft, gd⟩ (yielded ops tm) = true) (g : Nat) (t : TypeId) (cs : Array Value) (fr : Nat × Nat) (hx : Act.eval ⟨tm, df⟩ x = .pointer (some ⟨g, 0, none⟩))
  (hs : Region.noSelect ops = true) (hf : Region.free md ops listed i = true) (hr : (Region.ready md ops listed).contains i = true)
  (hQ : ∀ c a w, Q (.panic c) (a.put (some d) (.agg cs)) w -> Q (.panic c) a w) (D : TypeDesc) (hrow : ∀ w, S w -> w.heap[g]? = some (.cells cs t fr)) (hu : P.underlying ty = some D)
  (hd : (match D with | .struct _ | .array _ _ => true | _ => false) = true) (hsz : (P.info? ty).map (·.size) = some cs.size) (hS : S w)
  (h : wpAnyH P md ops Q S fuel (listed.setIfInBounds i true) ⟨tm.setIfInBounds d (.agg cs), df⟩ w) : wpAnyH P md ops Q S (fuel + 1) listed ⟨tm, df⟩ w :=
 zar i d (.agg cs) hi hw hs hf hr hQ (fun w' hw' => by
  unfold execOp
  simp only [hx, Instr.loadAt, Instr.sureAddr, Sem.run_bind, Sem.run_pure, Result.andThen_ok, run_loadVar_row w' g t ty cs fr D (hrow w' hw') hu hd hsz]) hS h
theorem zgt (i : Nat) {dst : Option Tmp} {gd : Option (Nat × Bool)} (hi : ops[i]? = some ⟨dst, op, ty0, pos, aft, gd⟩) (hw : Region.wanted ⟨dst, op, ty0, pos, aft, gd⟩ (yielded ops tm) = true) (hr : Region.ready md ops listed = [i])
  (h : Oper.wp P ⟨dst, op, ty0, pos, aft, gd⟩ ⟨tm, df⟩ w (fun a' w' => S w' ∧ wpAnyH P md ops Q S fuel (listed.setIfInBounds i true) a' w') Q) : wpAnyH P md ops Q S (fuel + 1) listed ⟨tm, df⟩ w := by
 refine wpAnyH_all hr (by simp) fun j hj => ?_
 obtain rfl : j = i := by simpa using hj
 unfold wpOp
 simp only [hi, hw, if_true]
 exact .inl h
end
end Go.Proofs.YtbadafkfjfbnlaaGreatDoor
