import Derived.Test.YtbadafkfjfbnlaaGreatDoorTwN
import Derived.Test.YtbadafkfjfbnlaaGreatDoorTwE
import Derived.Test.YtbadafkfjfbnlaaGreatDoorTwO
import Derived.Shelf.Strings.Repeat
import Derived.Test.YtbadafkfjfbnlaaGreatDoorProg
import Derived.Test.YtbadafkfjfbnlaaGreatDoorTwV
import Derived.Test.YtbadafkfjfbnlaaGreatDoorTwT
import Derived.Lib.ItoaLen
namespace Go.Proofs.YtbadafkfjfbnlaaGreatDoor
set_option maxRecDepth 100000
set_option maxHeartbeats 4000000
open Go.RowKit
structure Pw (w0 : World) (g : Nat) (nv : Value) (d : Nat) (w : World) (v : Value) (out : List UInt8) : Prop where
 b : Below w0.heap.size w0 w
 h : w0.heap.size <= g
 r : ∃ p, (p = .pointer none ∨ p = .pointer (some ⟨g, 0, none⟩)) ∧ w.heap[g]? = some (.cells #[p, v, nv, .int .i64 d] 87 (0, 0))
 o : OwnB w0.heap.size w v out
def Pp (w0 : World) (g : Nat) (nv : Value) (d : Nat) (w : World) (v : Value) (out : List UInt8) (w' : World) : Prop :=
 ∃ v', Pw w0 g nv d w' v' out ∧ Oth g v w w' ∧ (v'.ownBlock = v.ownBlock ∨ ∃ q, v'.ownBlock = some q ∧ w.heap.size <= q)
section
variable {w0 w w1 w2 : World} {g d d1 d2 : Nat} {nv v v1 : Value} {out out1 out2 : List UInt8}
theorem Pw.lt (h : Pw w0 g nv d w v out) : g < w.heap.size := by
 obtain ⟨p, -, hr⟩ := h.r
 exact lt_of_row hr
theorem Pw.ne (h : Pw w0 g nv d w v out) : v.ownBlock ≠ some g := by
 obtain ⟨p, -, hr⟩ := h.r
 exact OwnG.nb h.o hr (by decide)
theorem Pw.low (h : Pw w0 g nv d w v out) (hb : Below w.heap.size w w1) : Pw w0 g nv d w1 v out := by
 obtain ⟨p, hp, hr⟩ := h.r
 exact ⟨h.b.trans (hb.mono h.b.size), h.h, ⟨p, hp, (hb.block _ h.lt).trans hr⟩, h.o.below hb⟩
theorem Pp.start (h : Pw w0 g nv d w v out) : Pp w0 g nv d w v out w := ⟨v, h, oth_refl g v w, .inl rfl⟩
theorem Pp.trans (h : Oth g v w w1) (hv : v1.ownBlock = v.ownBlock ∨ ∃ q, v1.ownBlock = some q ∧ w.heap.size <= q) (h' : Pp w0 g nv d w1 v1 out w2) : Pp w0 g nv d w v out w2 := by
 obtain ⟨v2, r2, o2, q2⟩ := h'
 refine ⟨v2, r2, h.trans hv o2, ?_⟩
 rcases q2 with q2 | ⟨q, q2, q3⟩
 ·rcases hv with hv | ⟨q, hv, hq⟩
  ·exact .inl (q2.trans hv)
  ·exact .inr ⟨q, q2.trans hv, hq⟩
 ·exact .inr ⟨q, q2, Nat.le_trans h.size q3⟩
theorem Pp.pre (hb : Below w.heap.size w w1) (h' : Pp w0 g nv d w1 v out w2) : Pp w0 g nv d w v out w2 := Pp.trans (oth_below g v hb) (.inl rfl) h'
theorem Pp.row {cs : Array Value} {ty : TypeId} {fr : Nat × Nat} {j : Nat} (hw : Pw w0 g nv d w v out1) (h : Oth g v w w1) (hr : w.heap[j]? = some (.cells cs ty fr)) (hj : j ≠ g) (ht : 5 ≠ ty) : w1.heap[j]? = some (.cells cs ty fr) :=
 (h.block j (lt_of_row hr) hj (OwnG.nb hw.o hr ht)).trans hr
theorem Pw.env (h : Pw w0 g nv d w v out) {α : Type} {m : Nat} {cs : α -> Array Value} {sp : Option Addr} {xs : List α} (hr : RowsAt w0 m cs sp xs) : RowsAt w m cs sp xs := hr.below h.b
theorem Pp.step (h : Pp w0 g nv d w v out w1) : ∃ v', Pw w0 g nv d w1 v' out ∧ ∀ W2 d2 out2, Pp w0 g nv d2 w1 v' out2 W2 -> Pp w0 g nv d2 w v out2 W2 ∧ ∀ (j : Nat) (cs : Array Value) (ty : TypeId) (fr : Nat × Nat), w1.heap[j]? = some (.cells cs ty fr) -> j ≠ g -> 5 ≠ ty -> W2.heap[j]? = some (.cells cs ty fr) := by
 obtain ⟨v', h1, o1, q1⟩ := h
 refine ⟨v', h1, fun W2 d2 out2 h2 => ⟨Pp.trans o1 q1 h2, fun j cs ty fr hr hj ht => ?_⟩⟩
 obtain ⟨v2, -, o2, -⟩ := h2
 exact Pp.row h1 o2 hr hj ht
theorem oth_set (c : Nat) (x : Value) : Oth g v w (w.setCell ⟨g, c, none⟩ x) := by
 have hq := (Below.refl 0 w).setCell (p := ⟨g, c, none⟩) (Nat.zero_le _) x
 exact ⟨hq.os, hq.tape, hq.output, hq.size, fun j _ hj _ => heap_setCell_other _ _ _ _ hj⟩
theorem Pw.deep (h : Pw w0 g nv d w v out) (d2 : Nat) : Pp w0 g nv d2 w v out (w.setCell ⟨g, 3, none⟩ (.int .i64 d2)) := by
 have hne := h.ne
 obtain ⟨p, hp, hr⟩ := h.r
 exact ⟨v, ⟨h.b.setCell (p := ⟨g, 3, none⟩) h.h _, h.h, ⟨p, hp, heap_setCell_same _ _ 3 _ _ _ hr⟩, h.o.keep fun q hq => heap_setCell_other _ _ _ _ fun e => hne (by rw [hq, show q = g from e])⟩, oth_set 3 _, .inl rfl⟩
end
theorem infoB : ∃ i, Tryz.prog.info? 5 = some i ∧ i.zero = some (.int .u8 0) ∧ i.size = 1 ∧ i.bytes = 1 := by
 have h : (Tryz.prog.info? 5).map (fun i => (i.zero, i.size, i.bytes)) = some (some (.int .u8 0), 1, 1) := by kernel_rfl
 cases hq : Tryz.prog.info? 5 with
 | none => rw [hq] at h; cases h
 | some j => rw [hq] at h; simp only [Option.map_some, Option.some.injEq, Prod.mk.injEq] at h; exact ⟨j, rfl, h⟩
theorem append_own_s {B : Nat} {w : World} {v : Value} {L : List UInt8} {ty : TypeId} {s : ByteArray} {v' : Value} {w' : World} (hown : OwnB B w v L) (hlen : L.length + s.size <= 140737488355328)
  (hr : (Builtin.append_ #[56, 9] ty #[v, .string s]).run Tryz.prog w = .ok v' w') : v'.ownBlock = v.ownBlock ∨ v'.ownBlock = some w.heap.size := by
 obtain ⟨i0, hi, hz0, hz1, hz2⟩ := infoB
 have hfl : (flatG byC L).length = L.length := by rw [flatG_length elB, Nat.mul_one]
 rcases hown.2 with ⟨rfl, h0⟩ | ⟨g, cap, cur, rfl, h2, h3, h4, h5, h6, h7⟩
 ·by_cases hm : s.size = 0
  ·have e := Lib.run_append_own_string (P := Tryz.prog) w 0 56 9 ty 5 i0 Tryz.underlying56 Tryz.underlying9 hi hz0 hz1 hz2 (.slice none 0 0) 0 [] (World.ownsRow_nil w 0 5 1) s (by unfold maxLen; omega) (by omega) (Nat.zero_le _)
   obtain ⟨v2, w2, e1, -, -, e4⟩ := e
   rw [e1] at hr
   injection hr with hr1 hr2
   rw [<- hr1, e4.2 ⟨rfl, hm⟩]
   exact .inl rfl
  ·have e := run_append_nil_string (P := Tryz.prog) w 56 9 ty 5 i0 (.int .u8 0) Tryz.underlying56 Tryz.underlying9 hi hz0 s (by omega) (by omega) (by rw [hz2]; omega)
   rw [e] at hr
   injection hr with hr1 hr2
   rw [<- hr1]
   exact .inr rfl
 ·have h6' : cur.size = cap := by simpa using h6
  by_cases hroom : L.length + s.size <= cap
  ·have e := Lib.run_append_room_string (P := Tryz.prog) w 56 9 ty 5 i0 Tryz.underlying56 Tryz.underlying9 hi hz1 g L.length cap cur h3 s hroom (by omega)
   rw [e] at hr
   injection hr with hr1 hr2
   rw [<- hr1]
   exact .inl rfl
  ·have holds : ∀ j u, (flatG byC L)[j]? = some u -> w.cell? ((⟨g, 0, none⟩ : Addr).add j) = some u := World.ownsRow.cells (g := g) hown rfl
   have e := Lib.run_append_grow_string (P := Tryz.prog) w 56 9 ty 5 i0 (.int .u8 0) Tryz.underlying56 Tryz.underlying9 hi hz0 ⟨g, 0, none⟩ L.length cap (flatG byC L) (by rw [hz1, hfl]; omega) holds s (by omega) (by omega) (growslice_fits (by omega) (by rw [hz2]; omega))
   rw [e] at hr
   injection hr with hr1 hr2
   rw [<- hr1]
   exact .inr rfl
section
variable {w0 w w1 w2 : World} {g d : Nat} {nv v : Value} {out : List UInt8}
theorem copyCheckP_any (h : Pw w0 g nv d w v out) :
  Calls Tryz.prog 46 #[.pointer (some ⟨g, 0, none⟩)] w fun e w' => e = .returned (.tuple #[]) ∧ Pw w0 g nv d w' v out ∧ Oth g v w w' := by
 have hne := h.ne
 obtain ⟨p, hp, hb⟩ := h.r
 obtain ⟨j, hj, hjs⟩ := bld_info
 have hsh : w.shape? g = some (87, 4) := by simp [World.shape?, hb]
 have c0 : w.cell? ⟨g, 0, none⟩ = some p := (cell_of_row _ _ 0 _ _ _ hb).trans rfl
 have z0 : w.frozen? ⟨g, 0, none⟩ = false := frozen_of_row _ _ _ _ _ hb
 have HB : Hid (Pw w0 g nv d w v out) := h
 have HR : Hid (w.heap[g]? = some (.cells #[p, v, nv, .int .i64 d] 87 (0, 0))) := hb
 have HNE : Hid _ := hne
 clear h hb hne
 rcases hp with rfl | rfl
 ·go_enter Tryz.func46, Tryz.ntmps46
  go_wp2
  rw [Lib.run_to_unsafe w ⟨g, 0, none⟩ Tryz.underlying55 Tryz.underlying108 hj (by rw [hjs]; decide) hsh (Nat.zero_lt_succ 3)]
  simp only [Result.andThen]
  rw [Oper.upon_value]
  go_wp2
  rw [run_callFunc_extern Tryz.func62 (by kernel_rfl) (by kernel_rfl) (by kernel_rfl) (e := Extern.AbiNoEscape.same) (by kernel_rfl)]
  rw [Lib.run_noEscape]
  simp only [Result.andThen]
  rw [Oper.upon_value]
  go_wp2
  rw [Lib.run_from_unsafe w ⟨g, 0, none⟩ Tryz.underlying108 Tryz.underlying55 hj hsh (by kernel_rfl)]
  simp only [Result.andThen]
  rw [Oper.upon_value]
  go_wp2
  go_end0
  have r1 : (w.setCell ⟨g, 0, none⟩ (.pointer (some ⟨g, 0, none⟩))).heap[g]? = some (.cells #[.pointer (some ⟨g, 0, none⟩), v, nv, .int .i64 d] 87 (0, 0)) := heap_setCell_same _ _ _ _ _ _ HR.out
  refine ⟨rfl, ⟨HB.out.b.setCell (p := ⟨g, 0, none⟩) HB.out.h _, HB.out.h, ⟨_, .inr rfl, r1⟩, OwnG.keep HB.out.o fun k hk => heap_setCell_other _ _ _ _ (fun (e : k = g) => HNE.out (e ▸ hk))⟩, oth_set 0 _⟩
 ·go_enter Tryz.func46, Tryz.ntmps46
  go_wp2
  rw [Lib.run_neq_ptr_same w _ Tryz.underlying55 hj]
  go_wp2
  go_end0
  exact ⟨rfl, HB.out, oth_refl _ _ _⟩
theorem writeStringP_any (s : ByteArray) (h : Pw w0 g nv d w v out) (hl : out.length + s.size <= 1000000000000) :
  Calls Tryz.prog 27 #[.pointer (some ⟨g, 0, none⟩), .string s] w fun e w' => e = .returned (.tuple #[.int .i64 s.size, .nilIface]) ∧ Pp w0 g nv d w v (out ++ s.data.toList) w' := by
 go_enter Tryz.func27, Tryz.ntmps27
 go_wp2_with fail
 refine (copyCheckP_any h).mono ?_
 rintro e W1 ⟨rfl, h1, o1⟩
 clear h
 have hne := h1.ne
 have ho := h1.o
 obtain ⟨p, hp, hr⟩ := h1.r
 obtain ⟨sp, cap, rfl⟩ := OwnG.shape ho
 have hw1 : w0.heap.size <= W1.heap.size := h1.b.size
 obtain ⟨i, hi, hi1, hi2, hi3⟩ := infoB
 obtain ⟨v', W2, hra, q1, q2, -⟩ := Lib.run_append_own_string (P := Tryz.prog) W1 w0.heap.size 56 9 56 5 i Tryz.underlying56 Tryz.underlying9 hi hi1 hi2 hi3 _ out.length (flatG byC out) ho s (by unfold maxLen; omega) (by omega) hw1
 have q3 := append_own_s ho (by omega) hra
 have q1' : OwnB w0.heap.size W2 v' (out ++ s.data.toList) := by
  show W2.ownsRow w0.heap.size 5 1 v' (out ++ s.data.toList).length (flatG byC (out ++ s.data.toList))
  rw [strCells_flat] at q1
  rw [List.length_append, show s.data.toList.length = s.size by simp, flatG, List.flatMap_append]
  exact q1
 obtain ⟨sp', cap', rfl⟩ := OwnG.shape q1'
 have hr2 : W2.heap[g]? = some (.cells #[p, .slice sp out.length cap, nv, .int .i64 d] 87 (0, 0)) := (q2.block g (lt_of_row hr) (fun e => hne e.symm)).trans hr
 have PUT : Hid (Pp w0 g nv d w (.slice sp out.length cap) (out ++ s.data.toList) (W2.setCell ⟨g, 1, none⟩ (.slice sp' (out ++ s.data.toList).length cap'))) := by
  have hB2 : Below w0.heap.size w0 W2 := OwnG.grown ho (Nat.le_refl _) hw1 h1.b q2
  have hne2 : (Value.slice sp' (out ++ s.data.toList).length cap').ownBlock ≠ some g := OwnG.nb q1' hr2 (by decide)
  have q2' : Oth g (.slice sp out.length cap) W1 W2 := ⟨q2.os, q2.tape, q2.output, q2.size, fun j hj _ hjv => q2.block j hj fun e => hjv e.symm⟩
  have hsz := o1.size
  refine Pp.trans (o1.trans (.inl rfl) q2') (v1 := .slice sp' (out ++ s.data.toList).length cap') (q3.imp id fun e => ⟨_, e, hsz⟩) ⟨_, ⟨hB2.setCell (p := ⟨g, 1, none⟩) h1.h _, h1.h, ⟨p, hp, heap_setCell_same _ _ 1 _ _ _ hr2⟩, OwnG.keep q1' fun k hk => heap_setCell_other _ _ _ _ (fun (e : k = g) => hne2 (e ▸ hk))⟩, oth_set 1 _, .inl rfl⟩
 have c1 : W1.cell? ⟨g, 1, none⟩ = some (.slice sp out.length cap) := (cell_of_row _ _ 1 _ _ _ hr).trans rfl
 have d1 : W2.cell? ⟨g, 1, none⟩ = some (.slice sp out.length cap) := (cell_of_row _ _ 1 _ _ _ hr2).trans rfl
 have z1 : W2.frozen? ⟨g, 1, none⟩ = false := frozen_of_row _ _ _ _ _ hr2
 generalize (out ++ s.data.toList).length = n at hra PUT
 clear q1 q1' q2 q3 hr2 ho hr h1 o1 hi hi1 hi2 hi3 hne
 go_wp2_with (at_builtin; refine list_append2 (.tmp 12) (.tmp 13) 56 9 (by rfl) (by rfl) (by rfl) (by rfl) hra ?_)
 go_ret2
 exact ⟨rfl, PUT.out⟩
end
def fl (xs : List ByteArray) : List UInt8 := (xs.map fun x => x.data.toList).flatten
theorem fl_take {xs : List ByteArray} {t : Nat} {x : ByteArray} (h : xs[t]? = some x) : fl (xs.take (t + 1)) = fl (xs.take t) ++ x.data.toList := by
 rw [List.take_add_one, h]
 simp [fl]
theorem fl_len {xs : List ByteArray} {t : Nat} {x : ByteArray} (h : xs[t]? = some x) : (fl (xs.take t)).length + x.size <= (fl xs).length := by
 have h1 : fl xs = fl (xs.take (t + 1)) ++ fl (xs.drop (t + 1)) := by
  unfold fl
  rw [<- List.flatten_append, <- List.map_append, List.take_append_drop]
 rw [h1, fl_take h]
 simp
section
variable {w0 w : World} {g d : Nat} {nv v : Value} {out : List UInt8}
theorem pput_any (b cap : Nat) (xs : List ByteArray) (h : Pw w0 g nv d w v out) (hx : w.heap[b]? = some (.cells (xs.map Value.string).toArray 9 (0, 0))) (hbg : b ≠ g) (hl : out.length + (fl xs).length <= 1000000000000) (hs : xs.length <= 1000) :
  Calls Tryz.prog 64 #[.pointer (some ⟨g, 0, none⟩), .slice (some ⟨b, 0, none⟩) xs.length cap] w fun e w' => e = .returned (.tuple #[]) ∧ Pp w0 g nv d w v (out ++ fl xs) w' := by
 have HW : Hid (Pw w0 g nv d w v out) := h
 have HX : Hid (w.heap[b]? = some (.cells (xs.map Value.string).toArray 9 (0, 0))) := hx
 clear h hx
 go_enter Tryz.func64, Tryz.ntmps64
 go_wp2
 go_loopw [8] (fun i wr => ∃ t : Nat, t <= xs.length ∧ i = .int .i64 t ∧ Pp w0 g nv d w v (out ++ fl (xs.take t)) wr) (fun i _ => xs.length - (intOf i).toNat)
 case atStart => exact ⟨0, Nat.zero_le _, rfl, by simpa [fl] using Pp.start HW.out⟩
 case round =>
  obtain ⟨t, ht, rfl, v1, h1, o1, q1⟩ := hrel
  have HP : Hid (Pp w0 g nv d w v (out ++ fl (xs.take t)) wr) := ⟨v1, h1, o1, q1⟩
  by_cases hlt : t < xs.length
  ·have hd : decide ((t : Int) < xs.length) = true := by simp; omega
   obtain ⟨x, hx⟩ : ∃ x, xs[t]? = some x := ⟨_, List.getElem?_eq_getElem hlt⟩
   have rb := Pp.row HW.out o1 HX.out hbg (by decide)
   have kb : wr.cell? ⟨b, t, none⟩ = some (.string x) := by
    rw [cell_of_row _ _ _ _ _ _ rb, List.getElem?_toArray, List.getElem?_map, hx]
    rfl
   have hb2 := fl_len hx
   have HC := writeStringP_any x h1 (by rw [List.length_append]; omega)
   have HTK : Hid _ := fl_take hx
   have HO : Hid _ := o1
   have HQ : Hid _ := q1
   clear h1 o1 q1 hx rb HP hb2
   go_wp2_with fail
   refine HC.mono ?_
   rintro e W ⟨rfl, hp⟩
   have HN : Hid (Pp w0 g nv d w v (out ++ fl (xs.take (t + 1))) W) := by
    refine Pp.trans HO.out HQ.out ?_
    rw [HTK.out, <- List.append_assoc]
    exact hp
   clear hp HC
   go_wp2
   exact ⟨⟨t + 1, by omega, by go_num, HN.out⟩, by simp [intOf]; omega⟩
  ·have hd : decide ((t : Int) < xs.length) = false := by simp; omega
   clear h1 o1 q1
   go_wp2
   go_end0
   refine ⟨rfl, ?_⟩
   have := HP.out
   rw [List.take_of_length_le (by omega)] at this
   exact this
theorem put_lit (xs : List ByteArray) (h : Pw w0 g nv d w v out) (hl : out.length + (fl xs).length <= 1000000000000) (hs : xs.length <= 1000) :
  Calls Tryz.prog 64 #[.pointer (some ⟨g, 0, none⟩), .slice (some ⟨w.heap.size, 0, none⟩) xs.length xs.length] (w.alloc (.cells (xs.map Value.string).toArray 9)) fun e w' => e = .returned (.tuple #[]) ∧ Pp w0 g nv d w v (out ++ fl xs) w' := by
 have hb : Below w.heap.size w (w.alloc (.cells (xs.map Value.string).toArray 9)) := (Below.refl _ _).alloc (Nat.le_refl _) _
 refine (pput_any w.heap.size xs.length xs (h.low hb) (heap_alloc_new _ _) (by have := h.lt; omega) hl hs).mono ?_
 rintro e W ⟨rfl, hp⟩
 exact ⟨rfl, Pp.pre hb hp⟩
end
def NodP (w0 : World) (g : Nat) (nv : Value) (L : List Nd) (t : Pt) : Prop := ∀ (d i : Nat) (w : World) (v : Value) (out : List UInt8), Emb L i t -> Pw w0 g nv d w v out -> d + cntP t <= 100000 -> out.length + (rn (prP d t)).length <= 1000000000000 ->
 Calls Tryz.prog 47 #[.pointer (some ⟨g, 0, none⟩), .int .i64 i] w fun e w' => e = .returned (.tuple #[]) ∧ Pp w0 g nv d w v (out ++ rn (prP d t)) w'
structure KsP (w0 : World) (g : Nat) (nv : Value) (L : List Nd) (sk : Option Addr) (ks : List Nat) (ts : List Pt) : Prop where
 r : RowsAt w0 1 intC sk ks
 l : ks.length = ts.length
 e : ∀ (j : Nat) k t, ks[j]? = some k -> ts[j]? = some t -> Emb L k t
 n : ∀ t ∈ ts, NodP w0 g nv L t
 s : ks.length <= 100000
theorem ppar_snoc (s : List Pe) (os : List (List Pe)) (o : List Pe) : pPar s (os ++ [o]) = pPar s os ++ (if os.length = 0 then o else s ++ o) := by
 cases os with
 | nil => simp [pPar]
 | cons a r => simp [pPar]
theorem pbeh_snoc (s : List Pe) (os : List (List Pe)) (o : List Pe) : pBeh s (os ++ [o]) = pBeh s os ++ (s ++ o) := by simp [pBeh]
theorem plin_snoc (d : Nat) (os : List (List Pe)) (o : List Pe) : pLin d (os ++ [o]) = pLin d os ++ (tb d ++ o ++ [.e]) := by simp [pLin]
theorem ppar_pre (s : List Pe) (os : List (List Pe)) (n : Nat) : ∃ r, pPar s os = pPar s (os.take n) ++ r := by
 cases os with
 | nil => exact ⟨[], by simp [pPar]⟩
 | cons a q =>
  cases n with
  | zero => exact ⟨pPar s (a :: q), by simp [pPar]⟩
  | succ n =>
   refine ⟨((q.drop n).map (s ++ ·)).flatten, ?_⟩
   show a ++ (q.map (s ++ ·)).flatten = (a ++ ((q.take n).map (s ++ ·)).flatten) ++ _
   rw [List.append_assoc, <- List.flatten_append, <- List.map_append, List.take_append_drop]
theorem pbeh_pre (s : List Pe) (os : List (List Pe)) (n : Nat) : ∃ r, pBeh s os = pBeh s (os.take n) ++ r := by
 refine ⟨pBeh s (os.drop n), ?_⟩
 unfold pBeh
 rw [<- List.flatten_append, <- List.map_append, List.take_append_drop]
theorem plin_pre (d : Nat) (os : List (List Pe)) (n : Nat) : ∃ r, pLin d os = pLin d (os.take n) ++ r := by
 refine ⟨pLin d (os.drop n), ?_⟩
 unfold pLin
 rw [<- List.flatten_append, <- List.map_append, List.take_append_drop]
theorem rn_pre {a b r : List Pe} (h : a = b ++ r) : (rn b).length <= (rn a).length := by
 rw [h, rn_app, List.length_append]
 omega
theorem map_take_one {ts : List Pt} {q : Nat} {t : Pt} (d : Nat) (h : ts[q]? = some t) : (ts.map (prP d)).take (q + 1) = (ts.map (prP d)).take q ++ [prP d t] := by
 rw [List.take_add_one, List.getElem?_map, h]
 rfl
theorem map_take_all {ts : List Pt} {q : Nat} (d : Nat) (h : ts.length <= q) : (ts.map (prP d)).take q = ts.map (prP d) := List.take_of_length_le (by simpa using h)
section
variable {w0 w : World} {g d : Nat} {nv v : Value} {out : List UInt8} {L : List Nd}
theorem pparted_any (S : List Pe) (sb : ByteArray) (hS : rn S = sb.data.toList) (sk : Option Addr) (ck : Nat) (ks : List Nat) (ts : List Pt) (hk : KsP w0 g nv L sk ks ts) (h : Pw w0 g nv d w v out) (hd1 : d + cntL ts <= 100000) (hl : out.length + (rn (pPar S (ts.map (prP d)))).length <= 1000000000000) :
  Calls Tryz.prog 66 #[.pointer (some ⟨g, 0, none⟩), .string sb, .slice sk ks.length ck] w fun e w' => e = .returned (.tuple #[]) ∧ Pp w0 g nv d w v (out ++ rn (pPar S (ts.map (prP d)))) w' := by
 have HW : Hid (Pw w0 g nv d w v out) := h
 have HK : Hid (KsP w0 g nv L sk ks ts) := hk
 have HS : Hid (rn S = sb.data.toList) := hS
 have HL : Hid (out.length + (rn (pPar S (ts.map (prP d)))).length <= 1000000000000) := hl
 have HD1 : Hid (d + cntL ts <= 100000) := hd1
 have hks := hk.s
 clear h hk hl hS hd1
 go_enter Tryz.func66, Tryz.ntmps66
 go_wp2
 go_loopw [10] (fun i wr => ∃ q : Nat, q <= ks.length ∧ i = .int .i64 q ∧ Pp w0 g nv d w v (out ++ rn (pPar S ((ts.map (prP d)).take q))) wr) (fun i _ => ks.length - (intOf i).toNat)
 case atStart => exact ⟨0, Nat.zero_le _, rfl, by simpa [pPar, rn] using Pp.start HW.out⟩
 case round =>
  obtain ⟨q, hq, rfl, v1, h1, o1, q1⟩ := hrel
  have hlk := HK.out.l
  by_cases hlt : q < ks.length
  ·have hd : decide ((q : Int) < ks.length) = true := by simp; omega
   obtain ⟨k, hk⟩ : ∃ k, ks[q]? = some k := ⟨_, List.getElem?_eq_getElem hlt⟩
   obtain ⟨t, ht⟩ : ∃ t, ts[q]? = some t := ⟨_, List.getElem?_eq_getElem (by omega)⟩
   have hrk := h1.env HK.out.r
   obtain ⟨b, o, rfl, -⟩ := hrk (by omega)
   have kc := ints_cell hrk q (by simpa using hlt)
   rw [List.getD_eq_getElem?_getD, List.getElem?_map, hk] at kc
   simp only [Option.map_some, Option.getD_some] at kc
   have htk := map_take_one d ht
   have hlq : ((ts.map (prP d)).take q).length = q := by rw [List.length_take, List.length_map]; omega
   have HTK : Hid (pPar S ((ts.map (prP d)).take (q + 1)) = pPar S ((ts.map (prP d)).take q) ++ (if q = 0 then prP d t else S ++ prP d t)) := by
    show _ = _
    rw [htk, ppar_snoc, hlq]
   have hbud : out.length + (rn (pPar S ((ts.map (prP d)).take q) ++ (if q = 0 then prP d t else S ++ prP d t))).length <= 1000000000000 := by
    obtain ⟨r, hr⟩ := ppar_pre S (ts.map (prP d)) (q + 1)
    have := rn_pre hr
    rw [<- HTK.out]
    have := HL.out
    omega
   have hdt : d + cntP t <= 100000 := by have := cntL_at ts q t ht; have := HD1.out; omega
   have HNC : Hid (NodP w0 g nv L t) := HK.out.n t (List.mem_of_getElem? ht)
   have HEM : Hid (Emb L k t) := HK.out.e q k t hk ht
   have HO : Hid _ := o1
   have HQ : Hid _ := q1
   by_cases hq0 : q = 0
   ·rw [if_pos hq0, rn_app, List.length_append] at hbud
    have HC := HNC.out d k wr v1 _ HEM.out h1 hdt (by rw [List.length_append]; omega)
    have hz : decide (0 < q) = false := by simp; omega
    have HZ : Hid (q = 0) := hq0
    clear h1 o1 q1 hk ht hrk htk hbud hlk hlq hq0 hdt
    go_wp2_with fail
    refine HC.mono ?_
    rintro e W ⟨rfl, hp⟩
    have HN : Hid (Pp w0 g nv d w v (out ++ rn (pPar S ((ts.map (prP d)).take (q + 1)))) W) := by
     refine Pp.trans HO.out HQ.out ?_
     rw [HTK.out, if_pos HZ.out, rn_app, <- List.append_assoc]
     exact hp
    clear hp HC
    go_wp2
    exact ⟨⟨q + 1, by omega, by go_num, HN.out⟩, by simp [intOf]; omega⟩
   ·rw [if_neg hq0, rn_app, rn_app, List.length_append, List.length_append] at hbud
    have hfs : fl [sb] = rn S := by rw [HS.out]; simp [fl]
    have HC := put_lit [sb] h1 (by rw [hfs, List.length_append]; omega) (by simp)
    rw [hfs] at HC
    have hz : decide (0 < q) = true := by simp; omega
    have HZ : Hid (¬ q = 0) := hq0
    have HBD : Hid _ := hbud
    have HDT : Hid _ := hdt
    clear h1 o1 q1 hk ht hrk htk hbud hlk hlq hq0 hfs hdt
    go_wp2_with fail
    refine HC.mono ?_
    rintro e W ⟨rfl, v2, h2, o2, q2⟩
    have HD := HNC.out d k W v2 _ HEM.out h2 HDT.out (by have := HBD.out; rw [List.length_append, List.length_append]; omega)
    have HO2 : Hid _ := o2
    have HQ2 : Hid _ := q2
    clear h2 o2 q2 HC
    go_wp2_with fail
    refine HD.mono ?_
    rintro e W3 ⟨rfl, hp⟩
    have HN : Hid (Pp w0 g nv d w v (out ++ rn (pPar S ((ts.map (prP d)).take (q + 1)))) W3) := by
     refine Pp.trans HO.out HQ.out (Pp.trans HO2.out HQ2.out ?_)
     rw [HTK.out, if_neg HZ.out, rn_app, rn_app, <- List.append_assoc, <- List.append_assoc]
     exact hp
    clear hp HD
    go_wp2
    exact ⟨⟨q + 1, by omega, by go_num, HN.out⟩, by simp [intOf]; omega⟩
  ·have hd : decide ((q : Int) < ks.length) = false := by simp; omega
   have HP : Hid (Pp w0 g nv d w v (out ++ rn (pPar S (ts.map (prP d)))) wr) := by
    have hp : Pp w0 g nv d w v (out ++ rn (pPar S ((ts.map (prP d)).take q))) wr := ⟨v1, h1, o1, q1⟩
    rw [map_take_all d (by omega)] at hp
    exact hp
   clear h1 o1 q1
   go_wp2
   go_end0
   exact ⟨rfl, HP.out⟩
theorem pbehind_any (S : List Pe) (sb : ByteArray) (hS : rn S = sb.data.toList) (sk : Option Addr) (ck : Nat) (ks : List Nat) (ts : List Pt) (hk : KsP w0 g nv L sk ks ts) (h : Pw w0 g nv d w v out) (hd1 : d + cntL ts <= 100000) (hl : out.length + (rn (pBeh S (ts.map (prP d)))).length <= 1000000000000) :
  Calls Tryz.prog 103 #[.pointer (some ⟨g, 0, none⟩), .string sb, .slice sk ks.length ck] w fun e w' => e = .returned (.tuple #[]) ∧ Pp w0 g nv d w v (out ++ rn (pBeh S (ts.map (prP d)))) w' := by
 have HW : Hid (Pw w0 g nv d w v out) := h
 have HK : Hid (KsP w0 g nv L sk ks ts) := hk
 have HS : Hid (rn S = sb.data.toList) := hS
 have HL : Hid (out.length + (rn (pBeh S (ts.map (prP d)))).length <= 1000000000000) := hl
 have HD1 : Hid (d + cntL ts <= 100000) := hd1
 have hks := hk.s
 clear h hk hl hS hd1
 go_enter Tryz.func103, Tryz.ntmps103
 go_wp2
 go_loopw [10] (fun i wr => ∃ q : Nat, q <= ks.length ∧ i = .int .i64 q ∧ Pp w0 g nv d w v (out ++ rn (pBeh S ((ts.map (prP d)).take q))) wr) (fun i _ => ks.length - (intOf i).toNat)
 case atStart => exact ⟨0, Nat.zero_le _, rfl, by simpa [pBeh, rn] using Pp.start HW.out⟩
 case round =>
  obtain ⟨q, hq, rfl, v1, h1, o1, q1⟩ := hrel
  have hlk := HK.out.l
  by_cases hlt : q < ks.length
  ·have hd : decide ((q : Int) < ks.length) = true := by simp; omega
   obtain ⟨k, hk⟩ : ∃ k, ks[q]? = some k := ⟨_, List.getElem?_eq_getElem hlt⟩
   obtain ⟨t, ht⟩ : ∃ t, ts[q]? = some t := ⟨_, List.getElem?_eq_getElem (by omega)⟩
   have hrk := h1.env HK.out.r
   obtain ⟨b, o, rfl, -⟩ := hrk (by omega)
   have kc := ints_cell hrk q (by simpa using hlt)
   rw [List.getD_eq_getElem?_getD, List.getElem?_map, hk] at kc
   simp only [Option.map_some, Option.getD_some] at kc
   have HTK : Hid (pBeh S ((ts.map (prP d)).take (q + 1)) = pBeh S ((ts.map (prP d)).take q) ++ (S ++ prP d t)) := by
    show _ = _
    rw [map_take_one d ht, pbeh_snoc]
   have hbud : out.length + (rn (pBeh S ((ts.map (prP d)).take q) ++ (S ++ prP d t))).length <= 1000000000000 := by
    obtain ⟨r, hr⟩ := pbeh_pre S (ts.map (prP d)) (q + 1)
    have := rn_pre hr
    rw [<- HTK.out]
    have := HL.out
    omega
   have hdt : d + cntP t <= 100000 := by have := cntL_at ts q t ht; have := HD1.out; omega
   have HNC : Hid (NodP w0 g nv L t) := HK.out.n t (List.mem_of_getElem? ht)
   have HEM : Hid (Emb L k t) := HK.out.e q k t hk ht
   have HO : Hid _ := o1
   have HQ : Hid _ := q1
   rw [rn_app, rn_app, List.length_append, List.length_append] at hbud
   have hfs : fl [sb] = rn S := by rw [HS.out]; simp [fl]
   have HC := put_lit [sb] h1 (by rw [hfs, List.length_append]; omega) (by simp)
   rw [hfs] at HC
   have HBD : Hid _ := hbud
   have HDT : Hid _ := hdt
   clear h1 o1 q1 hk ht hrk hbud hlk hfs hdt
   go_wp2_with fail
   refine HC.mono ?_
   rintro e W ⟨rfl, v2, h2, o2, q2⟩
   have HD := HNC.out d k W v2 _ HEM.out h2 HDT.out (by have := HBD.out; rw [List.length_append, List.length_append]; omega)
   have HO2 : Hid _ := o2
   have HQ2 : Hid _ := q2
   clear h2 o2 q2 HC
   go_wp2_with fail
   refine HD.mono ?_
   rintro e W3 ⟨rfl, hp⟩
   have HN : Hid (Pp w0 g nv d w v (out ++ rn (pBeh S ((ts.map (prP d)).take (q + 1)))) W3) := by
    refine Pp.trans HO.out HQ.out (Pp.trans HO2.out HQ2.out ?_)
    rw [HTK.out, rn_app, rn_app, <- List.append_assoc, <- List.append_assoc]
    exact hp
   clear hp HD
   go_wp2
   exact ⟨⟨q + 1, by omega, by go_num, HN.out⟩, by simp [intOf]; omega⟩
  ·have hd : decide ((q : Int) < ks.length) = false := by simp; omega
   have HP : Hid (Pp w0 g nv d w v (out ++ rn (pBeh S (ts.map (prP d)))) wr) := by
    have hp : Pp w0 g nv d w v (out ++ rn (pBeh S ((ts.map (prP d)).take q))) wr := ⟨v1, h1, o1, q1⟩
    rw [map_take_all d (by omega)] at hp
    exact hp
   clear h1 o1 q1
   go_wp2
   go_end0
   exact ⟨rfl, HP.out⟩
theorem plist_any (sk : Option Addr) (ck : Nat) (ks : List Nat) (ts : List Pt) (hk : KsP w0 g nv L sk ks ts) (h : Pw w0 g nv d w v out) (hd1 : d + cntL ts <= 100000) (hl : out.length + (rn (pBrk (ts.map (prP d)))).length <= 1000000000000) :
  Calls Tryz.prog 102 #[.pointer (some ⟨g, 0, none⟩), .slice sk ks.length ck] w fun e w' => e = .returned (.tuple #[]) ∧ Pp w0 g nv d w v (out ++ rn (pBrk (ts.map (prP d)))) w' := by
 have HK : Hid (KsP w0 g nv L sk ks ts) := hk
 have HD1 : Hid (d + cntL ts <= 100000) := hd1
 have e0 : rn (pBrk (ts.map (prP d))) = [40] ++ rn (pPar [sg [44], sp] (ts.map (prP d))) ++ [41] := by
  unfold pBrk
  rw [rn_app, rn_app]
  rfl
 rw [e0] at hl ⊢
 have HL : Hid (out.length + ((rn (pPar [sg [44], sp] (ts.map (prP d)))).length + 2) <= 1000000000000) := by show _ <= _; simp at hl; omega
 have HC := put_lit [strU [40]] h (by have := HL.out; show _ + (1 : Nat) <= _; omega) (by simp)
 clear h hk hl hd1 e0
 go_enter Tryz.func102, Tryz.ntmps102
 go_wp2_with fail
 refine HC.mono ?_
 rintro e W1 ⟨rfl, v1, h1, o1, q1⟩
 have HO : Hid _ := o1
 have HQ : Hid _ := q1
 have HD := pparted_any [sg [44], sp] (strU [44, 32]) rfl sk ck ks ts HK.out h1 HD1.out (by have := HL.out; rw [List.length_append]; show _ + (1 : Nat) + _ <= _; omega)
 clear h1 o1 q1 HC
 go_wp2_with fail
 refine HD.mono ?_
 rintro e W2 ⟨rfl, v2, h2, o2, q2⟩
 have HO2 : Hid _ := o2
 have HQ2 : Hid _ := q2
 have HE := put_lit [strU [41]] h2 (by have := HL.out; rw [List.length_append, List.length_append]; show _ + (1 : Nat) + _ + (1 : Nat) <= _; omega) (by simp)
 clear h2 o2 q2 HD
 go_wp2_with fail
 refine HE.mono ?_
 rintro e W3 ⟨rfl, hp⟩
 have HN : Hid (Pp w0 g nv d w v (out ++ ([40] ++ rn (pPar [sg [44], sp] (ts.map (prP d))) ++ [41])) W3) := by
  refine Pp.trans HO.out HQ.out (Pp.trans HO2.out HQ2.out ?_)
  have e : out ++ ([40] ++ rn (pPar [sg [44], sp] (ts.map (prP d))) ++ [41]) = out ++ fl [strU [40]] ++ rn (pPar [sg [44], sp] (ts.map (prP d))) ++ fl [strU [41]] := by simp [fl, strU]
  rw [e]
  exact hp
 clear hp HE
 go_wp2
 go_end0
 exact ⟨rfl, HN.out⟩
end
end Go.Proofs.YtbadafkfjfbnlaaGreatDoor

namespace Go.Proofs
open Go.Shelf
def Tryz.lays105_ren : Go.Shelf.Ren := ⟨fun | 105 => 127 | 212 => 145 | 99 => 146 | 165 => 147 | 166 => 27 | 170 => 28 | 169 => 29 | 263 => 158 | 264 => 159 | 206 => 160 | 240 => 46 | 241 => 161 | 276 => 62 | 277 => 175 | n => n, fun | 9 => 9 | 3 => 3 | 4 => 4 | 20 => 20 | 0 => 0 | 46 => 158 | 109 => 159 | 5 => 5 | 72 => 58 | 76 => 65 | 51 => 163 | 146 => 164 | 53 => 166 | 148 => 167 | 70 => 55 | 37 => 56 | 75 => 63 | 127 => 85 | 164 => 108 | 80 => 68 | n => n, fun | n => n⟩
theorem Tryz.lays105 : Go.Proofs.Lays.n105 Tryz.prog Tryz.lays105_ren := {
 mixed := by kernel_rfl
 f99 := Tryz.func146.trans (congrArg some (by kernel_rfl))
 f105 := Tryz.func127.trans (congrArg some (by kernel_rfl))
 f165 := Tryz.func147.trans (congrArg some (by kernel_rfl))
 f166 := Tryz.func27.trans (congrArg some (by kernel_rfl))
 f169 := Tryz.func29.trans (congrArg some (by kernel_rfl))
 f170 := Tryz.func28.trans (congrArg some (by kernel_rfl))
 f206 := Tryz.func160.trans (congrArg some (by kernel_rfl))
 f212 := Tryz.func145.trans (congrArg some (by kernel_rfl))
 f240 := Tryz.func46.trans (congrArg some (by kernel_rfl))
 f241 := Tryz.func161.trans (congrArg some (by kernel_rfl))
 f263 := Tryz.func158.trans (congrArg some (by kernel_rfl))
 f264 := Tryz.func159.trans (congrArg some (by kernel_rfl))
 f276 := Tryz.func62.trans (congrArg some (by kernel_rfl))
 f277 := Tryz.func175.trans (congrArg some (by kernel_rfl))
 t0 := Tryz.underlying0
 a0 := Tryz.isAgg0
 z0 := Tryz.sizeOf0
 v0 := Tryz.zeroValue0
 t3 := Tryz.underlying3
 a3 := Tryz.isAgg3
 z3 := Tryz.sizeOf3
 v3 := Tryz.zeroValue3
 t4 := Tryz.underlying4
 a4 := Tryz.isAgg4
 z4 := Tryz.sizeOf4
 v4 := Tryz.zeroValue4
 t5 := Tryz.underlying5
 a5 := Tryz.isAgg5
 z5 := Tryz.sizeOf5
 v5 := Tryz.zeroValue5
 t9 := Tryz.underlying9
 a9 := Tryz.isAgg9
 z9 := Tryz.sizeOf9
 v9 := Tryz.zeroValue9
 t20 := Tryz.underlying20
 a20 := Tryz.isAgg20
 z20 := Tryz.sizeOf20
 v20 := Tryz.zeroValue20
 t37 := Tryz.underlying56
 a37 := Tryz.isAgg56
 z37 := Tryz.sizeOf56
 v37 := Tryz.zeroValue56
 t46 := Tryz.underlying158
 a46 := Tryz.isAgg158
 z46 := Tryz.sizeOf158
 v46 := Tryz.zeroValue158
 t51 := Tryz.underlying163
 a51 := Tryz.isAgg163
 z51 := Tryz.sizeOf163
 v51 := Tryz.zeroValue163
 t53 := Tryz.underlying166
 a53 := Tryz.isAgg166
 z53 := Tryz.sizeOf166
 v53 := Tryz.zeroValue166
 t70 := Tryz.underlying55
 a70 := Tryz.isAgg55
 z70 := Tryz.sizeOf55
 v70 := Tryz.zeroValue55
 t72 := Tryz.underlying58
 a72 := Tryz.isAgg58
 z72 := Tryz.sizeOf58
 v72 := Tryz.zeroValue58
 t75 := Tryz.underlying63
 a75 := Tryz.isAgg63
 z75 := Tryz.sizeOf63
 v75 := Tryz.zeroValue63
 t76 := Tryz.underlying65
 a76 := Tryz.isAgg65
 z76 := Tryz.sizeOf65
 v76 := Tryz.zeroValue65
 t109 := Tryz.underlying159
 a109 := Tryz.isAgg159
 z109 := Tryz.sizeOf159
 v109 := Tryz.zeroValue159
 t127 := Tryz.underlying85
 a127 := Tryz.isAgg85
 z127 := Tryz.sizeOf85
 v127 := Tryz.zeroValue85
 t146 := Tryz.underlying164
 a146 := Tryz.isAgg164
 z146 := Tryz.sizeOf164
 v146 := Tryz.zeroValue164
 t148 := Tryz.underlying167
 a148 := Tryz.isAgg167
 z148 := Tryz.sizeOf167
 v148 := Tryz.zeroValue167
 t164 := Tryz.underlying108
 a164 := Tryz.isAgg108
 z164 := Tryz.sizeOf108
 v164 := Tryz.zeroValue108 }
theorem Tryz.Builder_Extra_105 : Builder.Extra Tryz.prog Tryz.lays105_ren := {
 sizeBuilder := by kernel_rfl
 liesBuilder := by kernel_rfl
 t5 := Tryz.underlying5
 a5 := Tryz.isAgg5
 z5 := Tryz.sizeOf5
 v5 := Tryz.zeroValue5
 infoByte := by kernel_rfl
 cellsByte := by kernel_rfl
 sizeByte := by kernel_rfl
 neB5 := by decide }
open Go.RowKit Go.Lib in
theorem Tryz.strings_Repeat (s : ByteArray) (c : Nat) (w : World) (hc : c <= 9223372036854775807) (hlen : s.size * c <= 140737488355328) :
  Calls Tryz.prog 127 #[.string s, .int .i64 c] w fun e w' => e = .returned (.string ⟨(Lib.repeatL s.data.toList c).toArray⟩) ∧ Below w.heap.size w w' := Any.strings_Repeat Tryz.lays105 Tryz.Builder_Extra_105 s c w hc hlen
end Go.Proofs

namespace Go.Proofs.YtbadafkfjfbnlaaGreatDoor
set_option maxRecDepth 100000
set_option maxHeartbeats 4000000
open Go.RowKit
theorem rn_tb (d : Nat) : rn (tb d) = Lib.repeatL [9] d := by
 induction d with
 | zero => rfl
 | succ d ih =>
  show rn (.w 9 :: tb d) = _
  rw [rn_cons, ih]
  rfl
theorem rn_tb_len (d : Nat) : (rn (tb d)).length = d := by
 induction d with
 | zero => rfl
 | succ d ih =>
  show (rn (.w 9 :: tb d)).length = _
  rw [rn_cons, List.length_append, ih]
  show 1 + d = d + 1
  omega
section
variable {w0 w : World} {g d : Nat} {nv v : Value} {out : List UInt8} {L : List Nd}
theorem Pw.c3 (h : Pw w0 g nv d w v out) : w.cell? ⟨g, 3, none⟩ = some (.int .i64 d) ∧ w.frozen? ⟨g, 3, none⟩ = false := by
 obtain ⟨p, -, hr⟩ := h.r
 exact ⟨(cell_of_row _ _ 3 _ _ _ hr).trans rfl, frozen_of_row _ _ _ _ _ hr⟩
theorem Pw.c2 (h : Pw w0 g nv d w v out) : w.cell? ⟨g, 2, none⟩ = some nv := by
 obtain ⟨p, -, hr⟩ := h.r
 exact (cell_of_row _ _ 2 _ _ _ hr).trans rfl
theorem pindent_any (h : Pw w0 g nv d w v out) (hd1 : d <= 100000) (hl : out.length + d <= 1000000000000) :
  Calls Tryz.prog 100 #[.pointer (some ⟨g, 0, none⟩)] w fun e w' => e = .returned (.tuple #[]) ∧ Pp w0 g nv d w v (out ++ rn (tb d)) w' := by
 have HW : Hid (Pw w0 g nv d w v out) := h
 have c3 := h.c3.1
 clear h
 go_enter Tryz.func100, Tryz.ntmps100
 go_wp2_with fail
 refine (Tryz.strings_Repeat (strU [9]) d w (by omega) (by show 1 * d <= _; omega)).mono ?_
 rintro e W ⟨rfl, hb⟩
 have e1 : fl [⟨(Lib.repeatL (strU [9]).data.toList d).toArray⟩] = rn (tb d) := by
  rw [rn_tb]
  simp [fl, strU]
 have HC := put_lit [⟨(Lib.repeatL (strU [9]).data.toList d).toArray⟩] (HW.out.low hb) (by rw [e1, rn_tb_len]; omega) (by simp)
 rw [e1] at HC
 have HB : Hid _ := hb
 generalize (⟨(Lib.repeatL (strU [9]).data.toList d).toArray⟩ : ByteArray) = tabs at HC ⊢
 clear hb e1 c3
 go_wp2_with fail
 refine HC.mono ?_
 rintro e W2 ⟨rfl, hp⟩
 have HN : Hid (Pp w0 g nv d w v (out ++ rn (tb d)) W2) := Pp.pre HB.out hp
 clear hp HC
 go_wp2
 go_end0
 exact ⟨rfl, HN.out⟩
theorem pline_any (i : Nat) (t : Pt) (hn : NodP w0 g nv L t) (he : Emb L i t) (h : Pw w0 g nv d w v out) (hd1 : d + cntP t <= 100000) (hl : out.length + (rn (tb d ++ prP d t ++ [.e])).length <= 1000000000000) :
  Calls Tryz.prog 98 #[.pointer (some ⟨g, 0, none⟩), .int .i64 i] w fun e w' => e = .returned (.tuple #[]) ∧ Pp w0 g nv d w v (out ++ rn (tb d ++ prP d t ++ [.e])) w' := by
 have HNC : Hid (NodP w0 g nv L t) := hn
 have HEM : Hid (Emb L i t) := he
 have e0 : rn (tb d ++ prP d t ++ [.e]) = rn (tb d) ++ rn (prP d t) ++ [10] := by rw [rn_app, rn_app]; rfl
 rw [e0] at hl ⊢
 have HL : Hid (out.length + (d + ((rn (prP d t)).length + 1)) <= 1000000000000) := by show _ <= _; rw [List.length_append, List.length_append, rn_tb_len] at hl; simp at hl; omega
 have HD1 : Hid _ := hd1
 have HC := pindent_any h (by omega) (by have := HL.out; omega)
 clear h hn he hl hd1 e0
 go_enter Tryz.func98, Tryz.ntmps98
 go_wp2_with fail
 refine HC.mono ?_
 rintro e W1 ⟨rfl, v1, h1, o1, q1⟩
 have HO : Hid _ := o1
 have HQ : Hid _ := q1
 have HD := HNC.out d i W1 v1 _ HEM.out h1 HD1.out (by have := HL.out; rw [List.length_append, rn_tb_len]; omega)
 clear h1 o1 q1 HC
 go_wp2_with fail
 refine HD.mono ?_
 rintro e W2 ⟨rfl, v2, h2, o2, q2⟩
 have HO2 : Hid _ := o2
 have HQ2 : Hid _ := q2
 have HE := put_lit [strU [10]] h2 (by have := HL.out; rw [List.length_append, List.length_append, rn_tb_len]; show _ + (1 : Nat) <= _; omega) (by simp)
 clear h2 o2 q2 HD
 go_wp2_with fail
 refine HE.mono ?_
 rintro e W3 ⟨rfl, hp⟩
 have HN : Hid (Pp w0 g nv d w v (out ++ (rn (tb d) ++ rn (prP d t) ++ [10])) W3) := by
  refine Pp.trans HO.out HQ.out (Pp.trans HO2.out HQ2.out ?_)
  have e : out ++ (rn (tb d) ++ rn (prP d t) ++ [10]) = out ++ rn (tb d) ++ rn (prP d t) ++ fl [strU [10]] := by simp [fl, strU]
  rw [e]
  exact hp
 clear hp HE
 go_wp2
 go_end0
 exact ⟨rfl, HN.out⟩
theorem pbraced_any (sk : Option Addr) (ck : Nat) (ks : List Nat) (ts : List Pt) (hk : KsP w0 g nv L sk ks ts) (h : Pw w0 g nv d w v out) (hd1 : d + 1 + cntL ts <= 100000) (hl : out.length + (rn (pBra d (ts.map (prP (d + 1))))).length <= 1000000000000) :
  Calls Tryz.prog 67 #[.pointer (some ⟨g, 0, none⟩), .slice sk ks.length ck] w fun e w' => e = .returned (.tuple #[]) ∧ Pp w0 g nv d w v (out ++ rn (pBra d (ts.map (prP (d + 1))))) w' := by
 have HK : Hid (KsP w0 g nv L sk ks ts) := hk
 have hks := hk.s
 have e0 : rn (pBra d (ts.map (prP (d + 1)))) = [123, 10] ++ rn (pLin (d + 1) (ts.map (prP (d + 1)))) ++ rn (tb d) ++ [125] := by
  unfold pBra
  rw [rn_app, rn_app, rn_app]
  rfl
 rw [e0] at hl ⊢
 have HL : Hid (out.length + (2 + ((rn (pLin (d + 1) (ts.map (prP (d + 1))))).length + (d + 1))) <= 1000000000000) := by show _ <= _; rw [List.length_append, List.length_append, List.length_append, rn_tb_len] at hl; simp at hl; omega
 have HD1 : Hid _ := hd1
 have hdw : d <= 100000 := by omega
 have HC := put_lit [strU [123, 10]] h (by have := HL.out; show _ + (2 : Nat) <= _; omega) (by simp)
 clear h hk hl hd1 e0
 go_enter Tryz.func67, Tryz.ntmps67
 go_wp2_with fail
 refine HC.mono ?_
 rintro e W1 ⟨rfl, v1, h1, o1, q1⟩
 obtain ⟨c3, z3⟩ := h1.c3
 obtain ⟨vd, hd2, od, qd⟩ := h1.deep (d + 1)
 have HSD : Hid (Pp w0 g nv (d + 1) w v (out ++ [123, 10]) (W1.setCell ⟨g, 3, none⟩ (.int .i64 ((d + 1 : Nat) : Int)))) := Pp.trans o1 q1 ⟨vd, hd2, od, qd⟩
 have hcd : ((d + 1 : Nat) : Int) = (d : Int) + 1 := by omega
 rw [hcd] at HSD
 clear h1 o1 q1 HC hd2 od qd hcd
 go_wp2
 go_loopw [18] (fun i wr => ∃ q : Nat, q <= ks.length ∧ i = .int .i64 q ∧ Pp w0 g nv (d + 1) w v (out ++ [123, 10] ++ rn (pLin (d + 1) ((ts.map (prP (d + 1))).take q))) wr) (fun i _ => ks.length - (intOf i).toNat)
 case atStart => exact ⟨0, Nat.zero_le _, rfl, by simpa [pLin, rn] using HSD.out⟩
 case round =>
  obtain ⟨q, hq, rfl, v1, h1, o1, q1⟩ := hrel
  have hlk := HK.out.l
  by_cases hlt : q < ks.length
  ·have hd : decide ((q : Int) < ks.length) = true := by simp; omega
   obtain ⟨k, hk⟩ : ∃ k, ks[q]? = some k := ⟨_, List.getElem?_eq_getElem hlt⟩
   obtain ⟨t, ht⟩ : ∃ t, ts[q]? = some t := ⟨_, List.getElem?_eq_getElem (by omega)⟩
   have hrk := h1.env HK.out.r
   obtain ⟨b, o, rfl, -⟩ := hrk (by omega)
   have kc := ints_cell hrk q (by simpa using hlt)
   rw [List.getD_eq_getElem?_getD, List.getElem?_map, hk] at kc
   simp only [Option.map_some, Option.getD_some] at kc
   have HTK : Hid (pLin (d + 1) ((ts.map (prP (d + 1))).take (q + 1)) = pLin (d + 1) ((ts.map (prP (d + 1))).take q) ++ (tb (d + 1) ++ prP (d + 1) t ++ [.e])) := by
    show _ = _
    rw [map_take_one (d + 1) ht, plin_snoc]
   have hbud : out.length + 2 + (rn (pLin (d + 1) ((ts.map (prP (d + 1))).take q) ++ (tb (d + 1) ++ prP (d + 1) t ++ [.e]))).length <= 1000000000000 := by
    obtain ⟨r, hr⟩ := plin_pre (d + 1) (ts.map (prP (d + 1))) (q + 1)
    have := rn_pre hr
    rw [<- HTK.out]
    have := HL.out
    omega
   have hdt : d + 1 + cntP t <= 100000 := by have := cntL_at ts q t ht; have := HD1.out; omega
   rw [rn_app, List.length_append] at hbud
   have HC := pline_any k t (HK.out.n t (List.mem_of_getElem? ht)) (HK.out.e q k t hk ht) h1 hdt (by rw [List.length_append, List.length_append]; show _ + (2 : Nat) + _ + _ <= _; omega)
   have HO : Hid _ := o1
   have HQ : Hid _ := q1
   clear h1 o1 q1 hk ht hrk hbud hlk hdt c3 z3
   go_wp2_with fail
   refine HC.mono ?_
   rintro e W ⟨rfl, hp⟩
   have HN : Hid (Pp w0 g nv (d + 1) w v (out ++ [123, 10] ++ rn (pLin (d + 1) ((ts.map (prP (d + 1))).take (q + 1)))) W) := by
    refine Pp.trans HO.out HQ.out ?_
    rw [HTK.out, rn_app, <- List.append_assoc]
    exact hp
   clear hp HC
   go_wp2
   exact ⟨⟨q + 1, by omega, by go_num, HN.out⟩, by simp [intOf]; omega⟩
  ·have hd : decide ((q : Int) < ks.length) = false := by simp; omega
   have hp : Pp w0 g nv (d + 1) w v (out ++ [123, 10] ++ rn (pLin (d + 1) (ts.map (prP (d + 1))))) wr := by
    have hp : Pp w0 g nv (d + 1) w v (out ++ [123, 10] ++ rn (pLin (d + 1) ((ts.map (prP (d + 1))).take q))) wr := ⟨v1, h1, o1, q1⟩
    rw [map_take_all (d + 1) (by omega)] at hp
    exact hp
   clear h1 o1 q1 c3 z3
   obtain ⟨v2, h2, o2, q2⟩ := hp
   obtain ⟨c3, z3⟩ := h2.c3
   have hcd : ((d + 1 : Nat) : Int) = (d : Int) + 1 := by omega
   rw [hcd] at c3
   obtain ⟨v3, h3, o3, q3⟩ := h2.deep d
   have h3' := pindent_any h3 hdw (by have := HL.out; rw [List.length_append, List.length_append]; show _ + (2 : Nat) + _ + _ <= _; omega)
   have HO : Hid _ := o2.trans q2 o3
   have HQ : Hid _ := q3
   have HO2 : Hid _ := o2
   have HQ2 : Hid _ := q2
   have HO3 : Hid _ := o3
   clear h2 h3 o2 q2 o3 q3 hcd
   go_wp2_with fail
   refine h3'.mono ?_
   rintro e W2 ⟨rfl, v4, h4, o4, q4⟩
   have HE := put_lit [strU [125]] h4 (by have := HL.out; rw [List.length_append, List.length_append, List.length_append, rn_tb_len]; show _ + (2 : Nat) + _ + _ + (1 : Nat) <= _; omega) (by simp)
   have HO4 : Hid _ := o4
   have HQ4 : Hid _ := q4
   clear h4 o4 q4 h3' c3 z3
   go_wp2_with fail
   refine HE.mono ?_
   rintro e W3 ⟨rfl, hp⟩
   have HN : Hid (Pp w0 g nv d w v (out ++ ([123, 10] ++ rn (pLin (d + 1) (ts.map (prP (d + 1)))) ++ rn (tb d) ++ [125])) W3) := by
    refine Pp.trans HO2.out HQ2.out (Pp.trans HO3.out HQ.out (Pp.trans HO4.out HQ4.out ?_))
    have e : out ++ ([123, 10] ++ rn (pLin (d + 1) (ts.map (prP (d + 1)))) ++ rn (tb d) ++ [125]) = out ++ [123, 10] ++ rn (pLin (d + 1) (ts.map (prP (d + 1)))) ++ rn (tb d) ++ fl [strU [125]] := by simp [fl, strU]
    rw [e]
    exact hp
   clear hp HE
   go_wp2
   go_end0
   exact ⟨rfl, HN.out⟩
end
mutual
def shP : Pt -> Prop | .mk k _ _ _ _ _ l => ndK k <= l.length ∧ shL l
def shL : List Pt -> Prop | [] => True | t :: r => shP t ∧ shL r
end
theorem shL_iff : ∀ {l : List Pt}, shL l ↔ ∀ u ∈ l, shP u
 | [] => by simp [shL]
 | t :: r => by simp [shL, shL_iff (l := r)]
theorem sh_mk {k n a f t : Int} {x : ByteArray} {l : List Pt} (h : ndK k <= l.length) (hl : ∀ u ∈ l, shP u) : shP (.mk k x n a f t l) := by
 rw [shP]
 exact ⟨h, shL_iff.2 hl⟩
theorem ex_sh {e : Pt} (h : Ex e) : shP e := by
 induction h with
 | int _ _ => exact sh_mk (by decide) (by simp)
 | text _ _ => exact sh_mk (by decide) (by simp)
 | bool _ => exact sh_mk (by decide) (by simp)
 | name _ _ => exact sh_mk (by decide) (by simp)
 | dot _ _ _ ih => exact sh_mk (by simp [ndK]) (mem_one ih)
 | call _ _ ih ihl => exact sh_mk (by simp [ndK]) fun u hu => (List.mem_cons.1 hu).elim (fun e => by rw [e]; exact ih) (ihl u)
 | una _ _ ih => exact sh_mk (by simp [ndK]) (mem_one ih)
 | bin _ _ _ ihu ihv => exact sh_mk (by simp [ndK]) (mem_two ihu ihv)
theorem ty_sh {e : Pt} (h : Ty e) : shP e := by
 cases h with
 | basic _ => exact sh_mk (by decide) (by simp)
 | named _ _ => exact sh_mk (by decide) (by simp)
 | far _ _ _ => exact sh_mk (by simp [ndK]) (mem_one (sh_mk (by decide) (by simp)))
theorem vc_sh {e : Pt} (h : Vc e) : shP e := by
 cases h with
 | va h =>
  cases h with
  | int h1 h2 => exact ex_sh (.int h1 h2)
  | text h1 h2 => exact ex_sh (.text h1 h2)
  | bool h1 => exact ex_sh (.bool h1)
 | neg h1 h2 => exact ex_sh (.una (.inl rfl) (.int h1 h2))
theorem st_sh {e : Pt} (h : St e) : shP e := by
 induction h with
 | block _ ih => exact sh_mk (by simp [ndK]) ih
 | loop hc _ ih => exact sh_mk (by simp [ndK]) (mem_two (ex_sh hc) (sh_mk (by simp [ndK]) ih))
 | if1 hc _ ih => exact sh_mk (by simp [ndK]) (mem_two (ex_sh hc) (sh_mk (by simp [ndK]) ih))
 | if2 hc _ _ ih ih' =>
  refine sh_mk (by simp [ndK]) fun u hu => ?_
  simp only [List.mem_cons, List.not_mem_nil, or_false] at hu
  rcases hu with rfl | rfl | rfl
  ·exact ex_sh hc
  ·exact sh_mk (by simp [ndK]) ih
  ·exact sh_mk (by simp [ndK]) ih'
 | if3 hc _ _ _ ih ih' =>
  refine sh_mk (by simp [ndK]) fun u hu => ?_
  simp only [List.mem_cons, List.not_mem_nil, or_false] at hu
  rcases hu with rfl | rfl | rfl
  ·exact ex_sh hc
  ·exact sh_mk (by simp [ndK]) ih
  ·exact ih'
 | var1 _ hv => exact sh_mk (by simp [ndK]) (mem_one (ty_sh hv))
 | var2 _ hv he => exact sh_mk (by simp [ndK]) (mem_two (ty_sh hv) (ex_sh he))
 | res0 => exact sh_mk (by simp [ndK]) (by simp)
 | res1 he => exact sh_mk (by simp [ndK]) (mem_one (ex_sh he))
 | short _ _ he => exact sh_mk (by simp [ndK]) (mem_one (ex_sh he))
 | assign he hu => exact sh_mk (by simp [ndK]) (mem_two (ex_sh he) (ex_sh hu))
 | expr he => exact sh_mk (by simp [ndK]) (mem_one (ex_sh he))
theorem pm_sh {k : Int} (hk : k = 6 ∨ k = 9) {u : Pt} (h : Pm k u) : shP u := by
 obtain ⟨x, v, a, f, t, rfl, -, -, hv⟩ := h
 exact sh_mk (by rcases hk with rfl | rfl <;> simp [ndK]) (mem_one (ty_sh hv))
theorem dc_sh {e : Pt} (h : Dc e) : shP e := by
 cases h with
 | con _ hv => exact sh_mk (by simp [ndK]) (mem_one (vc_sh hv))
 | var1 h1 h2 => exact st_sh (.var1 h1 h2)
 | var2 h1 h2 h3 => exact st_sh (.var2 h1 h2 h3)
 | str _ hl => exact sh_mk (by simp [ndK]) fun u hu => pm_sh (.inl rfl) (hl u hu)
 | fn _ _ h1 h2 h3 h4 =>
  refine sh_mk (by simp [ndK]) fun u hu => ?_
  simp only [List.mem_append, List.mem_singleton] at hu
  rcases hu with ((hu | hu) | hu) | rfl
  ·rcases h1 with rfl | ⟨y, z, a, f, t, a', f', t', rfl, -, -⟩
   ·simp at hu
   ·obtain rfl := List.mem_singleton.1 hu
    exact sh_mk (by simp [ndK]) (mem_one (sh_mk (by simp [ndK]) (by simp)))
  ·exact pm_sh (.inr rfl) (h2 u hu)
  ·rcases h3 with rfl | ⟨v, rfl, hv⟩
   ·simp at hu
   ·obtain rfl := List.mem_singleton.1 hu
    exact ty_sh hv
  ·obtain ⟨a, f, t, l, rfl, hl⟩ := h4
   exact st_sh (.block hl)
theorem fi_sh {t : Pt} (h : FiT t) : shP t := by
 obtain ⟨x, a, f, e, is, ds, rfl, -, hi, hd⟩ := h
 refine sh_mk (by simp [ndK]) fun u hu => ?_
 rcases List.mem_append.1 hu with hu | hu
 ·obtain ⟨y, a, f, t, rfl, -⟩ := hi u hu
  exact sh_mk (by simp [ndK]) (by simp)
 ·exact dc_sh (hd u hu)
mutual
theorem ar_of : ∀ t : Pt, shP t -> GdP t -> arP t
 | .mk k x n a f t l, h, ho => by
  rw [shP] at h
  rw [GdP] at ho
  rw [arP]
  exact ⟨h.1, ⟨by have := ho.1; omega, ho.2.1.1, ho.2.1.2⟩, ar_ofL l h.2 ho.2.2⟩
theorem ar_ofL : ∀ l : List Pt, shL l -> GdL l -> arL l
 | [], _, _ => by rw [arL]; trivial
 | t :: r, h, ho => by
  rw [shL] at h
  rw [GdL] at ho
  rw [arL]
  exact ⟨ar_of t h.1 ho.1, ar_ofL r h.2 ho.2⟩
end
def lnS (os : List (List Pe)) : Nat := (os.map fun o => (rn o).length + 5025).sum
theorem lnS_nil : lnS [] = 0 := rfl
theorem lnS_cons (o : List Pe) (os : List (List Pe)) : lnS (o :: os) = (rn o).length + 5025 + lnS os := by simp [lnS]
theorem lnS_take (os : List (List Pe)) (n : Nat) : lnS (os.take n) + lnS (os.drop n) = lnS os := by
 induction os generalizing n with
 | nil => simp [lnS]
 | cons a b ih =>
  cases n with
  | zero => simp [lnS]
  | succ n =>
   have := ih n
   rw [List.take_succ_cons, List.drop_succ_cons, lnS_cons, lnS_cons]
   omega
theorem beh_ln {s : List Pe} (hs : (rn s).length <= 6) (os : List (List Pe)) : (rn (pBeh s os)).length <= lnS os := by
 induction os with
 | nil => simp [pBeh, rn]
 | cons a b ih =>
  have e : pBeh s (a :: b) = s ++ a ++ pBeh s b := by simp [pBeh]
  rw [e, rn_app, rn_app, lnS_cons, List.length_append, List.length_append]
  omega
theorem par_ln {s : List Pe} (hs : (rn s).length <= 6) (os : List (List Pe)) : (rn (pPar s os)).length <= lnS os := by
 cases os with
 | nil => simp [pPar, rn]
 | cons a b =>
  have e : pPar s (a :: b) = a ++ pBeh s b := by simp [pPar, pBeh]
  have := beh_ln hs b
  rw [e, rn_app, lnS_cons, List.length_append]
  omega
theorem brk_ln (os : List (List Pe)) : (rn (pBrk os)).length <= 2 + lnS os := by
 have := par_ln (s := [sg [44], sp]) (by decide) os
 have h1 : (rn [sg [40]]).length = 1 := rfl
 have h2 : (rn [sg [41]]).length = 1 := rfl
 unfold pBrk
 rw [rn_app, rn_app, List.length_append, List.length_append]
 omega
theorem lin_ln {d : Nat} (hd : d <= 5000) (os : List (List Pe)) : (rn (pLin d os)).length <= lnS os := by
 induction os with
 | nil => simp [pLin, rn]
 | cons a b ih =>
  have e : pLin d (a :: b) = tb d ++ a ++ [.e] ++ pLin d b := by simp [pLin]
  have h1 : (rn [Pe.e]).length = 1 := rfl
  have h2 := rn_tb_len d
  rw [e, rn_app, rn_app, rn_app, lnS_cons, List.length_append, List.length_append, List.length_append]
  omega
theorem bra_ln {d : Nat} (hd : d + 1 <= 5000) (os : List (List Pe)) : (rn (pBra d os)).length <= 5003 + lnS os := by
 have := lin_ln hd os
 have h1 : (rn [sg [123], fe]).length = 2 := rfl
 have h2 : (rn [sg [125]]).length = 1 := rfl
 have h3 := rn_tb_len d
 unfold pBra
 rw [rn_app, rn_app, rn_app, List.length_append, List.length_append, List.length_append]
 omega
theorem one_ln (os : List (List Pe)) : (rn (pOne os)).length <= lnS os := by
 cases os with
 | nil => simp [pOne, rn]
 | cons a b => rw [lnS_cons]; show (rn a).length <= _; omega
theorem ope_ln (k : Int) (x : ByteArray) (hs : List (Int × ByteArray)) (os : List (List Pe)) (i : Nat) (n : Nat) (h : ∀ o, os[i]? = some o -> (rn o).length + 2 <= n) : (rn (pOpe k x hs os i)).length <= n := by
 unfold pOpe
 split
 ·rename_i h' o e1 e2
  have := h o e2
  split
  ·have e : rn (pBrk [o]) = [40] ++ rn o ++ [41] := by unfold pBrk; rw [rn_app, rn_app]; simp [pPar]; rfl
   rw [e]
   simp
   omega
  ·omega
 ·simp [rn]
theorem ope_ln2 (k : Int) (x : ByteArray) (hs : List (Int × ByteArray)) (os : List (List Pe)) : (rn (pOpe k x hs os 0)).length + (rn (pOpe k x hs os 1)).length <= lnS os ∧ (rn (pOpe k x hs os 0)).length + lnS (os.drop 1) <= lnS os := by
 cases os with
 | nil =>
  have h0 := ope_ln k x hs [] 0 0 (by simp)
  have h1 := ope_ln k x hs [] 1 0 (by simp)
  rw [List.drop_nil, lnS_nil]
  omega
 | cons a r =>
  have h0 := ope_ln k x hs (a :: r) 0 ((rn a).length + 2) (by simp)
  cases r with
  | nil =>
   have h1 := ope_ln k x hs [a] 1 0 (by simp)
   rw [lnS_cons, List.drop_succ_cons, List.drop_nil, lnS_nil]
   omega
  | cons b r =>
   have h1 := ope_ln k x hs (a :: b :: r) 1 ((rn b).length + 2) (by simp)
   rw [lnS_cons, lnS_cons, List.drop_succ_cons, List.drop_zero, lnS_cons]
   omega
theorem fik_ln {d : Nat} (hd : d <= 5000) : ∀ (b : Bool) (hs : List (Int × ByteArray)) (os : List (List Pe)), (rn (pFiK d b hs os)).length <= lnS os
 | _, [], os => by simp [pFiK, rn]
 | _, _ :: _, [] => by simp [pFiK, rn]
 | b, h :: hs, o :: os => by
  have ih := fik_ln hd false hs os
  have h1 : (rn [Pe.e]).length = 1 := rfl
  have h2 := rn_tb_len d
  have h3 : (rn (if b || h.1 != 2 then [fe] else [])).length <= 1 := by split <;> decide
  rw [pFiK, rn_app, rn_app, rn_app, rn_app, lnS_cons]
  simp only [List.length_append]
  omega
theorem quo_ln {x : ByteArray} (hx : x.size <= 100000) : (quoT x).data.toList.length <= 200002 := by
 unfold quoT
 split
 ·rename_i q hq
  have := (quo_unq hq).2.1
  have e : x.data.toList.length = x.size := by simp
  rw [strU_data]
  omega
 ·simp
theorem rn_t (y : Tok) : (rn [.t y]).length = y.text.data.toList.length := by simp [rn, Pe.bs]
theorem fun_ln (x : ByteArray) (hs : List (Int × ByteArray)) (os : List (List Pe)) : (rn (pFun x hs os)).length <= 20 + x.data.toList.length + lnS os := by
 have a1 := brk_ln (os.take (cutN 8 hs))
 have a2 := lnS_take os (cutN 8 hs)
 have a3 := brk_ln ((os.drop (cutN 8 hs)).take (cutN 9 (hs.drop (cutN 8 hs))))
 have a4 := lnS_take (os.drop (cutN 8 hs)) (cutN 9 (hs.drop (cutN 8 hs)))
 have a5 := beh_ln (s := [sp]) (by decide) ((os.drop (cutN 8 hs)).drop (cutN 9 (hs.drop (cutN 8 hs))))
 have h1 : (rn [wd [102, 117, 110, 99], sp]).length = 5 := rfl
 have h2 : (rn [sp]).length = 1 := rfl
 have h3 := rn_t (tkW 1 x)
 have h4 : (tkW 1 x).text.data.toList.length = x.data.toList.length := rfl
 unfold pFun
 rw [rn_app, rn_app, rn_app, rn_app]
 simp only [List.length_append]
 split
 ·rw [rn_app, List.length_append]
  omega
 ·rw [rn_nil, List.length_nil]
  omega
theorem prX_ln (k : Int) (x : ByteArray) (n : Int) (hx : x.size <= 100000) (hn : -9223372036854775808 <= n ∧ n <= 9223372036854775807) (hs : List (Int × ByteArray)) (os : List (List Pe)) : (rn (prX k x n hs os)).length <= 300000 + lnS os := by
 obtain ⟨h1, h2⟩ := ope_ln2 k x hs os
 have h3 := brk_ln (os.drop 1)
 have e1 : x.data.toList.length = x.size := by simp
 have h4 : (rn [.t (tkW 1 x)]).length = x.size := by rw [rn_t]; exact e1
 have h5 : (rn [.t (tkW 4 x)]).length = x.size := by rw [rn_t]; exact e1
 have h6 : (rn [.t (nuT n)]).length <= 21 := by rw [rn_t]; show (Lib.itoa n).toArray.toList.length <= 21; simpa using Lib.itoa_length_le n hn.1 hn.2
 have h7 : (rn [.t (tkW 3 (quoT x))]).length <= 200002 := by rw [rn_t]; exact quo_ln hx
 have h8 : (rn [sg [46], .t (tkW 1 x)]).length = 1 + x.size := by rw [rn_cons, List.length_append, h4]; rfl
 have h9 : (rn [sp, .t (tkW 4 x), sp]).length = 2 + x.size := by
  rw [show [sp, .t (tkW 4 x), sp] = [sp] ++ [.t (tkW 4 x)] ++ [sp] from rfl, rn_app, rn_app, List.length_append, List.length_append, h5]
  show 1 + x.size + 1 = _
  omega
 unfold prX
 repeat' split
 all_goals (try simp only [rn_app, List.length_append])
 all_goals (try rw [rn_nil])
 all_goals (try simp only [List.length_nil])
 all_goals omega
theorem prS_ln {d : Nat} (hd : d + 1 <= 5000) (k : Int) (x : ByteArray) (n : Int) (hx : x.size <= 100000) (hn : -9223372036854775808 <= n ∧ n <= 9223372036854775807) (hs : List (Int × ByteArray)) (os : List (List Pe)) : (rn (prS d k x n hs os)).length <= 300000 + lnS os := by
 have h1 := prX_ln k x n hx hn hs os
 have h2 := bra_ln hd os
 have h3 := par_ln (s := [sp]) (by decide) (os.take 2)
 have h4 := beh_ln (s := [sp, wd [101, 108, 115, 101], sp]) (by decide) (os.drop 2)
 have h5 := lnS_take os 2
 have h6 := par_ln (s := [sp]) (by decide) os
 have h7 := beh_ln (s := [sp]) (by decide) os
 have h8 := one_ln os
 have h9 := par_ln (s := [sp, sg [61], sp]) (by decide) os
 have e1 : x.data.toList.length = x.size := by simp
 have g4 : (rn [.t (tkW 1 x)]).length = x.size := by rw [rn_t]; exact e1
 have g5 : (rn [.t (tkW 1 x), sp, sg [58, 61], sp]).length = x.size + 4 := by
  rw [show [.t (tkW 1 x), sp, sg [58, 61], sp] = [.t (tkW 1 x)] ++ [sp, sg [58, 61], sp] from rfl, rn_app, List.length_append, g4]
  rfl
 have g6 : (rn [wd [105, 102], sp]).length = 3 := rfl
 have g7 : (rn [wd [102, 111, 114], sp]).length = 4 := rfl
 have g8 : (rn [wd [114, 101, 116, 117, 114, 110]]).length = 6 := rfl
 unfold prS
 repeat' split
 all_goals (try simp only [rn_app, List.length_append])
 all_goals omega
theorem prK_ln {d : Nat} (hd : d + 1 <= 5000) (k : Int) (x : ByteArray) (n : Int) (hx : x.size <= 100000) (hn : -9223372036854775808 <= n ∧ n <= 9223372036854775807) (hs : List (Int × ByteArray)) (os : List (List Pe)) : (rn (prK d k x n hs os)).length <= 300100 + lnS os := by
 have h1 := prS_ln hd k x n hx hn hs os
 have h2 := bra_ln hd os
 have h3 := fik_ln (d := d) (by omega) true hs os
 have h4 := one_ln os
 have h5 := par_ln (s := [sp, sg [61], sp]) (by decide) os
 have h6 := fun_ln x hs os
 have e1 : x.data.toList.length = x.size := by simp
 have g4 : (rn [.t (tkW 1 x)]).length = x.size := by rw [rn_t]; exact e1
 have g5 : ∀ a b : List Pe, (rn (a ++ .t (tkW 1 x) :: b)).length = (rn a).length + x.size + (rn b).length := fun a b => by
  rw [show a ++ .t (tkW 1 x) :: b = a ++ [.t (tkW 1 x)] ++ b by simp, rn_app, rn_app, List.length_append, List.length_append, g4]
 have k1 : (rn [wd [112, 97, 99, 107, 97, 103, 101], sp, .t (tkW 1 x), .e]).length = 8 + x.size + 1 := g5 [wd [112, 97, 99, 107, 97, 103, 101], sp] [.e]
 have k2 : (rn [wd [105, 109, 112, 111, 114, 116], sp, .t (tkW 3 (quoT x))]).length <= 200020 := by
  rw [show [wd [105, 109, 112, 111, 114, 116], sp, .t (tkW 3 (quoT x))] = [wd [105, 109, 112, 111, 114, 116], sp] ++ [.t (tkW 3 (quoT x))] from rfl, rn_app, List.length_append, rn_t]
  have : (tkW 3 (quoT x)).text.data.toList.length <= 200002 := quo_ln hx
  have : (rn [wd [105, 109, 112, 111, 114, 116], sp]).length = 7 := rfl
  omega
 have k3 : (rn [wd [99, 111, 110, 115, 116], sp, .t (tkW 1 x), sp, sg [61], sp]).length = 6 + x.size + 3 := g5 [wd [99, 111, 110, 115, 116], sp] [sp, sg [61], sp]
 have k4 : (rn [wd [118, 97, 114], sp, .t (tkW 1 x), sp]).length = 4 + x.size + 1 := g5 [wd [118, 97, 114], sp] [sp]
 have k5 : (rn [wd [116, 121, 112, 101], sp, .t (tkW 1 x), sp, wd [115, 116, 114, 117, 99, 116], sp]).length = 5 + x.size + 8 := g5 [wd [116, 121, 112, 101], sp] [sp, wd [115, 116, 114, 117, 99, 116], sp]
 have k6 : (rn [.t (tkW 1 x), sp]).length = 0 + x.size + 1 := g5 [] [sp]
 have k7 : (rn [sg [46], .t (tkW 1 x)]).length = 1 + x.size + 0 := g5 [sg [46]] []
 unfold prK
 repeat' split
 all_goals (try simp only [rn_app, List.length_append])
 all_goals omega
mutual
theorem pr_ln : ∀ (t : Pt) (d : Nat), arP t -> d + cntP t <= 4999 -> (rn (prP d t)).length + 5025 <= 320000 * cntP t
 | .mk k x n a f t l, d, h, hd => by
  rw [arP] at h
  rw [cntP] at hd ⊢
  have hk : kdD k d <= d + 1 := by unfold kdD; split <;> omega
  have h1 := prK_ln (d := d) (by omega) k x n h.2.1.1 h.2.1.2 (l.map hdP) (prM (kdD k d) l)
  have h2 := prM_ln l (kdD k d) h.2.2 (by omega)
  rw [prP]
  omega
theorem prM_ln : ∀ (l : List Pt) (d : Nat), arL l -> d + cntL l <= 4999 -> lnS (prM d l) <= 320000 * cntL l
 | [], d, _, _ => by rw [prM, lnS_nil]; omega
 | t :: r, d, h, hd => by
  rw [arL] at h
  rw [cntL] at hd ⊢
  have h1 := pr_ln t d h.1 (by omega)
  have h2 := prM_ln r d h.2 (by omega)
  rw [prM, lnS_cons]
  omega
end
end Go.Proofs.YtbadafkfjfbnlaaGreatDoor
