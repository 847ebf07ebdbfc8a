/- Bytes that are gathered by append; the contracts of object.putText and object.putEntry. -/
import Derived.Test.YtgfjjglejlnfbaaGreatDoorCheckC
import Derived.Lib.AppendStr
import Derived.Laws.AppendOwnNone
namespace Go.Proofs.YtgfjjglejlnfbaaGreatDoor
open Go.RowKit

def cellsU (L : List Int) : List Value := L.map (Value.int .u8)
theorem cellsU_len (L : List Int) : (cellsU L).length = L.length := by simp [cellsU]
theorem cellsU_app (L M : List Int) : cellsU (L ++ M) = cellsU L ++ cellsU M := by simp [cellsU]
/-- A slice that the call owns, and its bytes. -/
def Own (w : World) (v : Value) (L : List Int) : Prop := w.ownsRow 0 5 1 v L.length (cellsU L)
/-- What an append may change: the row of the slice, and nothing else. -/
structure Step (w : World) (v : Value) (w' : World) (v' : Value) : Prop where
  grown : w.grownBy w' v.ownBlock
  block : v'.ownBlock = v.ownBlock ∨ ∃ k, v'.ownBlock = some k ∧ w.heap.size ≤ k
theorem Step.refl (w : World) (v : Value) : Step w v w v := ⟨⟨rfl, rfl, rfl, Nat.le_refl _, fun _ _ _ => rfl⟩, .inl rfl⟩
theorem Step.trans {w w1 w2 : World} {v v1 v2 : Value} (h : Step w v w1 v1) (h' : Step w1 v1 w2 v2) : Step w v w2 v2 := by
  refine ⟨⟨h'.grown.os.trans h.grown.os, h'.grown.tape.trans h.grown.tape, h'.grown.output.trans h.grown.output, Nat.le_trans h.grown.size h'.grown.size, fun k hk hne => ?_⟩, ?_⟩
  · rw [h'.grown.block k (Nat.lt_of_lt_of_le hk h.grown.size) ?_, h.grown.block k hk hne]
    rcases h.block with e | ⟨j, e, hj⟩
    · rw [e]; exact hne
    · rw [e]; intro he; injection he with he; omega
  · rcases h'.block with e | ⟨j, e, hj⟩
    · rw [e]; exact h.block
    · exact .inr ⟨j, e, Nat.le_trans h.grown.size hj⟩
theorem Step.of_below {w w' : World} {v v' : Value} (h : Below w.heap.size w w') {k : Nat} (hb : v'.ownBlock = some k) (hk : w.heap.size ≤ k) : Step w v w' v' :=
  ⟨⟨h.os, h.tape, h.output, h.size, fun k hk _ => h.block k hk⟩, .inr ⟨k, hb, hk⟩⟩
theorem Step.alloc {w : World} {v : Value} (o : Obj) : Step w v (w.alloc o) v :=
  ⟨⟨rfl, rfl, rfl, by simp, fun k hk _ => Below.heap_alloc _ _ _ hk⟩, .inl rfl⟩
theorem Step.setRow {w : World} {v : Value} {g : Nat} (cs : Array Value) (w0 : World) (h : Step w0 v w v) (hg : w0.heap.size ≤ g) : Step w0 v (w.setRow g cs) v :=
  ⟨⟨h.grown.os, h.grown.tape, h.grown.output, by simpa using h.grown.size, fun k hk hne => by rw [setRow_other _ _ _ _ (by omega)]; exact h.grown.block k hk hne⟩, h.block⟩
theorem Step.keep {w w' : World} {v v' : Value} (h : Step w v w' v') {g : Nat} (hg : g < w.heap.size) (hne : v.ownBlock ≠ some g) : w'.heap[g]? = w.heap[g]? := h.grown.block g hg fun e => hne e.symm
/-- All below the slice's row is as it was. -/
theorem Step.below {w w' : World} {v v' : Value} (h : Step w v w' v') {B : Nat} (hb : ∀ k, v.ownBlock = some k → B ≤ k) (hB : B ≤ w.heap.size) : Below B w w' :=
  ⟨h.grown.os, h.grown.tape, h.grown.output, h.grown.size, fun k hk => h.grown.block k (by omega) fun e => by have := hb k e.symm; omega⟩
theorem Own.step {w w' : World} {v : Value} {L : List Int} (h : Own w v L) (hh : ∀ k, v.ownBlock = some k → w'.heap[k]? = w.heap[k]?) : Own w' v L := by
  refine ⟨h.1, ?_⟩
  rcases h.2 with ⟨rfl, h0⟩ | ⟨g, cap, cur, rfl, h1, h2, h3⟩
  · exact .inl ⟨rfl, h0⟩
  · exact .inr ⟨g, cap, cur, rfl, h1, (hh g rfl).trans h2, h3⟩
theorem Own.lt {w : World} {v : Value} {L : List Int} (h : Own w v L) {k : Nat} (hk : v.ownBlock = some k) : k < w.heap.size := (World.ownsRow.lt h k hk).2
theorem Own.below {w w' : World} {v : Value} {L : List Int} (h : Own w v L) (hb : Below w.heap.size w w') : Own w' v L := h.step fun _ hk => hb.block _ (h.lt hk)
theorem Own.src {w : World} {v : Value} {L : List Int} (h : Own w v L) : ∃ sp cap, v = .slice sp L.length cap ∧ SrcAt w .u8 sp L.length (fun i => L.getD i 0) := by
  rcases h.2 with ⟨rfl, h0⟩ | ⟨g, cap, cur, rfl, h1, h2, h3, h4, h5, h6⟩
  · exact ⟨none, 0, by rw [h0], fun hl => by omega⟩
  · refine ⟨_, cap, rfl, fun _ => ⟨g, 0, rfl, fun j hj => ?_⟩⟩
    rw [Nat.zero_add, cell_of_row _ _ _ _ _ _ h2, ← Array.getElem?_toList]
    have : (cur.toList.take (L.length * 1))[j]? = (cellsU L)[j]? := by rw [h6]
    rw [List.getElem?_take, if_pos (by omega)] at this
    rw [this]
    simp [cellsU, hj]
theorem own_row {w : World} {g n : Nat} {f : Nat → Int} (h : w.heap[g]? = some (.cells (arr .u8 n f) 5 (0, 0))) (hn : n ≤ 1000000) : Own w (.slice (some ⟨g, 0, none⟩) n n) ((List.range n).map f) := by
  have e : ((List.range n).map f).length = n := by simp
  unfold Own
  rw [e]
  refine ⟨by simp [cellsU], .inr ⟨g, n, arr .u8 n f, rfl, Nat.zero_le _, h, Nat.le_refl _, by unfold maxLen; omega, by simp [arr_size], ?_⟩⟩
  apply List.ext_getElem?
  intro i
  by_cases hi : i < n
  · have := arr_get (k := .u8) (f := f) hi
    rw [List.getElem?_take, if_pos (by omega), Array.getElem?_toList, this]
    simp [cellsU, hi]
  · rw [List.getElem?_eq_none (by simp [arr_size]; omega), List.getElem?_eq_none (by simp [cellsU]; omega)]

/-- Behind an append the slice lies where it lay, or in a new row. -/
theorem append_block {w : World} {v : Value} {L : List Int} {ty : TypeId} {ad : Addr} {m c : Nat} {news : List Value} {v' : Value} {w' : World} (hown : Own w v L) (hl : news.length = m * 1) (hnews : ∀ j u, news[j]? = some u → w.cell? (ad.add j) = some u) (h1 : ∀ u ∈ news, u.oneCell' = true) (hlen : L.length + m ≤ 1000000)
    (hr : (Builtin.append_ #[61, 61] ty #[v, .slice (some ad) m c]).run Tryz.prog w = .ok v' w') : v'.ownBlock = v.ownBlock ∨ v'.ownBlock = some w.heap.size := by
  obtain ⟨i0, hi, hz0, hz1, hz2⟩ := info_parts info5
  rw [← hz1] at hl
  rcases hown.2 with ⟨rfl, h0⟩ | ⟨g, cap, cur, rfl, h2, h3, h4, h5, h6, h7⟩
  · by_cases hm : m = 0
    · subst hm
      have e := run_append_own (P := Tryz.prog) w 0 61 ty 5 i0 (.int .u8 0) 1 1 Tryz.underlying61 hi hz0 hz1 hz2 rfl (by decide) (.slice none 0 0) 0 [] (World.ownsRow_nil w 0 5 1) ad 0 c news (by rw [hl]; simp) hnews h1 (by unfold maxLen; omega) (by omega) (Nat.zero_le _)
      obtain ⟨v2, w2, e1, -, -, e4⟩ := e
      rw [e1] at hr
      injection hr with hr1 hr2
      rw [← hr1, e4.2 ⟨rfl, rfl⟩]
      exact .inl rfl
    · have e := run_append_nil (P := Tryz.prog) w 61 ty 5 i0 (.int .u8 0) Tryz.underlying61 hi hz0 ad m c news hl hnews (by omega) (by omega) (by rw [hz2]; omega)
      rw [e] at hr
      injection hr with hr1 hr2
      rw [← hr1]
      exact .inr rfl
  · by_cases hroom : L.length + m ≤ cap
    · have e := run_append_room (P := Tryz.prog) w 61 ty 5 i0 Tryz.underlying61 hi g L.length cap cur h3 ad m c news hl hnews h1 hroom (by rw [hl, h6, hz1]; omega)
      rw [e] at hr
      injection hr with hr1 hr2
      rw [← hr1]
      exact .inl rfl
    · have holds : ∀ j u, (cellsU L)[j]? = some u → w.cell? ((⟨g, 0, none⟩ : Addr).add j) = some u := World.ownsRow.cells (g := g) hown rfl
      have e := run_append_grow (P := Tryz.prog) w 61 ty 5 i0 (.int .u8 0) Tryz.underlying61 hi hz0 ⟨g, 0, none⟩ L.length cap (cellsU L) (by rw [hz1, cellsU_len]; omega) holds ad m c news hl hnews (by omega) (by omega) (growslice_fits (by omega) (by rw [hz2]; omega))
      rw [e] at hr
      injection hr with hr1 hr2
      rw [← hr1]
      exact .inr rfl

set_option maxRecDepth 100000 in
theorem own_append {w : World} {ops : Array Oper} {rest : List Oper} {o : Oper} {a : Act} {Q : Exit → Act → World → Prop} (hgd : o.guard = none) (s x : Operand)
    (ho : o.op = .call { callee := .builtin .append, args := #[s, x], argTypes := #[61, 61] }) (v : Value) (L : List Int) (hs : a.eval s = v) (hown : Own w v L)
    (sp : Option Addr) (m c : Nat) (src : Nat → Int) (hx : a.eval x = .slice sp m c) (hc : sp = none → c = 0 ∧ m = 0) (hsrc : SrcAt w .u8 sp m src) (hlen : L.length + m ≤ 1000000)
    (h : ∀ v' w', Own w' v' (L ++ (List.range m).map src) → Step w v w' v' → wpList Tryz.prog ops Q rest (a.put o.dst v') w') : wpList Tryz.prog ops Q (o :: rest) a w := by
  obtain ⟨i0, hi, hz0, hz1, hz2⟩ := info_parts info5
  cases sp with
  | none =>
    obtain ⟨rfl, rfl⟩ := hc rfl
    refine wpList_append_own_none hgd s x 61 ho 0 5 i0 1 Tryz.underlying61 hi v L.length (cellsU L) hs hown hx (h v w ?_ (Step.refl _ _))
    simpa using hown
  | some p =>
    refine wpList_plain hgd fun _ hK => ?_
    have hl : (cellsU ((List.range m).map src)).length = m * 1 := by simp [cellsU]
    have hnews : ∀ j u, (cellsU ((List.range m).map src))[j]? = some u → w.cell? (p.add j) = some u := fun j u hu => by
      have hj : j < m := by
        by_cases hj : j < m
        · exact hj
        · rw [List.getElem?_eq_none (by rw [hl]; omega)] at hu; cases hu
      obtain ⟨b, off, e, hcell⟩ := hsrc (by omega)
      injection e with e
      subst e
      have hv' : u = .int .u8 (src j) := by simpa [cellsU, hj] using hu.symm
      have hadd : (⟨b, off, none⟩ : Addr).add j = ⟨b, off + j, none⟩ := by unfold Addr.add; split <;> simp_all
      rw [hadd, hv']; exact hcell j hj
    have h1 : ∀ u ∈ cellsU ((List.range m).map src), u.oneCell' = true := fun u hu => by
      obtain ⟨y, _, rfl⟩ := List.mem_map.1 hu
      rfl
    obtain ⟨v', w', hr, q1, q2, -⟩ := run_append_own (P := Tryz.prog) w 0 61 o.type 5 i0 (.int .u8 0) 1 1 Tryz.underlying61 hi hz0 hz1 hz2 rfl (by decide) v L.length (cellsU L) hown p m c (cellsU ((List.range m).map src)) hl hnews h1 (by unfold maxLen; omega) (by omega) (Nat.zero_le _)
    have hb := append_block hown hl hnews h1 hlen hr
    unfold Oper.wp execOp
    simp only [ho, resolve, invoke, builtin, Sem.run_bind, Sem.run_pure, Result.andThen_ok, List.map_toArray, List.map_cons, List.map_nil, hs, hx, hr]
    refine hK _ _ (h v' w' ?_ ⟨q2, hb.imp id fun e => ⟨_, e, Nat.le_refl _⟩⟩)
    unfold Own
    rw [cellsU_app, List.length_append, List.length_map, List.length_range]
    exact q1

/-- A text's bytes. -/
def bytesOf (s : ByteArray) : List Int := s.data.toList.map fun b => (b.toNat : Int)
theorem bytesOf_cells (s : ByteArray) : Lib.strCells s = cellsU (bytesOf s) := by
  simp [Lib.strCells, cellsU, bytesOf, Function.comp_def]
theorem bytesOf_len (s : ByteArray) : (bytesOf s).length = s.size := by simp [bytesOf]
set_option maxRecDepth 100000 in
theorem append_block_s {w : World} {v : Value} {L : List Int} {ty : TypeId} {s : ByteArray} {v' : Value} {w' : World} (hown : Own w v L) (hlen : L.length + s.size ≤ 1000000)
    (hr : (Builtin.append_ #[61, 9] ty #[v, .string s]).run Tryz.prog w = .ok v' w') : v'.ownBlock = v.ownBlock ∨ v'.ownBlock = some w.heap.size := by
  obtain ⟨i0, hi, hz0, hz1, hz2⟩ := info_parts info5
  rcases hown.2 with ⟨rfl, h0⟩ | ⟨g, cap, cur, rfl, h2, h3, h4, h5, h6, h7⟩
  · by_cases hm : s.size = 0
    · have e := Lib.run_append_own_string (P := Tryz.prog) w 0 61 9 ty 5 i0 Tryz.underlying61 Tryz.underlying9 hi hz0 hz1 hz2 (.slice none 0 0) 0 [] (World.ownsRow_nil w 0 5 1) s (by unfold maxLen; omega) (by omega) (Nat.zero_le _)
      obtain ⟨v2, w2, e1, -, -, e4⟩ := e
      rw [e1] at hr
      injection hr with hr1 hr2
      rw [← hr1, e4.2 ⟨rfl, hm⟩]
      exact .inl rfl
    · have e := run_append_nil_string (P := Tryz.prog) w 61 9 ty 5 i0 (.int .u8 0) Tryz.underlying61 Tryz.underlying9 hi hz0 s (by omega) (by omega) (by rw [hz2]; omega)
      rw [e] at hr
      injection hr with hr1 hr2
      rw [← hr1]
      exact .inr rfl
  · have h6' : cur.size = cap := by simpa using h6
    by_cases hroom : L.length + s.size ≤ cap
    · have e := Lib.run_append_room_string (P := Tryz.prog) w 61 9 ty 5 i0 Tryz.underlying61 Tryz.underlying9 hi hz1 g L.length cap cur h3 s hroom (by omega)
      rw [e] at hr
      injection hr with hr1 hr2
      rw [← hr1]
      exact .inl rfl
    · have holds : ∀ j u, (cellsU L)[j]? = some u → w.cell? ((⟨g, 0, none⟩ : Addr).add j) = some u := World.ownsRow.cells (g := g) hown rfl
      have e := Lib.run_append_grow_string (P := Tryz.prog) w 61 9 ty 5 i0 (.int .u8 0) Tryz.underlying61 Tryz.underlying9 hi hz0 ⟨g, 0, none⟩ L.length cap (cellsU L) (by rw [hz1, cellsU_len]; omega) holds s (by omega) (by omega) (growslice_fits (by omega) (by rw [hz2]; omega))
      rw [e] at hr
      injection hr with hr1 hr2
      rw [← hr1]
      exact .inr rfl
theorem own_text {w : World} {ops : Array Oper} {rest : List Oper} {o : Oper} {a : Act} {Q : Exit → Act → World → Prop} (hgd : o.guard = none) (s x : Operand)
    (ho : o.op = .call { callee := .builtin .append, args := #[s, x], argTypes := #[61, 9] }) (v : Value) (L : List Int) (hs : a.eval s = v) (hown : Own w v L)
    (t : ByteArray) (hx : a.eval x = .string t) (hlen : L.length + t.size ≤ 1000000)
    (h : ∀ v' w', Own w' v' (L ++ bytesOf t) → Step w v w' v' → wpList Tryz.prog ops Q rest (a.put o.dst v') w') : wpList Tryz.prog ops Q (o :: rest) a w := by
  obtain ⟨i0, hi, hz0, hz1, hz2⟩ := info_parts info5
  refine wpList_plain hgd fun _ hK => ?_
  obtain ⟨v', w', hr, q1, q2, -⟩ := Lib.run_append_own_string (P := Tryz.prog) w 0 61 9 o.type 5 i0 Tryz.underlying61 Tryz.underlying9 hi hz0 hz1 hz2 v L.length (cellsU L) hown t (by unfold maxLen; omega) (by omega) (Nat.zero_le _)
  have hb := append_block_s hown hlen hr
  unfold Oper.wp execOp
  simp only [ho, resolve, invoke, builtin, Sem.run_bind, Sem.run_pure, Result.andThen_ok, List.map_toArray, List.map_cons, List.map_nil, hs, hx, hr]
  refine hK _ _ (h v' w' ?_ ⟨q2, hb.imp id fun e => ⟨_, e, Nat.le_refl _⟩⟩)
  unfold Own
  rw [cellsU_app, List.length_append, bytesOf_len, ← bytesOf_cells]
  exact q1
theorem srcAt_one {w : World} {c : Int} {t : TypeId} : SrcAt (w.alloc (.cells #[.int .u8 c] t)) .u8 (some ⟨w.heap.size, 0, none⟩) 1 (fun _ => c) := fun _ => ⟨w.heap.size, 0, rfl, fun j hj => by
  obtain rfl : j = 0 := by omega
  exact (cell_of_row _ _ _ _ _ _ (heap_alloc_new _ _)).trans rfl⟩

set_option maxRecDepth 100000 in
set_option maxHeartbeats 1000000 in
theorem putText_any (v : Value) (L : List Int) (s : ByteArray) (w : World) (hown : Own w v L) (hs : s.size ≤ 255) (hlen : L.length ≤ 500000) :
    Calls Tryz.prog 102 #[v, .string s] w fun e w' => ∃ v', e = .returned v' ∧ Own w' v' (L ++ (s.size : Int) :: bytesOf s) ∧ Step w v w' v' := by
  have HO : Hid _ := hown
  clear hown
  go_enter Tryz.func102, Tryz.ntmps102
  go_wp2_with (at_builtin; first
    | (refine own_append (by rfl) (.tmp 5) (.tmp 9) (by rfl) v L (by rfl) (Own.below HO.out ((Below.refl _ _).alloc (Nat.le_refl _) _)) (some ⟨w.heap.size, 0, none⟩) 1 1 _ (by rfl) (by simp) srcAt_one (by omega) ?_; intro v1 w1 hO1 hS1; have hO1' : Hid (Own w1 v1 (L ++ [(s.size : Int)])) := hO1; have hS1' : Step w v w1 v1 := Step.trans (Step.alloc _) hS1; clear hO1 hS1)
    | (refine own_text (by rfl) (.tmp 11) (.tmp 12) (by rfl) v1 (L ++ [(s.size : Int)]) (by rfl) hO1'.out s (by rfl) (by simp; omega) ?_; intro v2 w2 hO2 hS2))
  go_ret
  refine ⟨v2, rfl, ?_, Step.trans hS1' hS2⟩
  rw [List.append_assoc] at hO2
  exact hO2


/-- An Id's bytes; an entry's. -/
def idBytes (f : Nat → Int) : List Int := (List.range 32).map f
def entBytes (e : Ent) : List Int := (e.name.size : Int) :: bytesOf e.name ++ (if e.folder then 1 else 0) :: idBytes e.id

set_option maxRecDepth 100000 in
set_option maxHeartbeats 1000000 in
theorem putEntry_any (v : Value) (L : List Int) (e : Ent) (w : World) (hown : Own w v L) (hs : e.name.size ≤ 255) (hlen : L.length ≤ 400000) :
    Calls Tryz.prog 100 #[v, .agg e.cells] w fun r w' => ∃ v', r = .returned v' ∧ Own w' v' (L ++ entBytes e) ∧ Step w v w' v' := by
  have HO : Hid _ := hown
  clear hown
  have a0 := e.cell0
  go_enter Tryz.func100, Tryz.ntmps100
  go_wp2_with fail
  have hO1 : Own (w.alloc (.cells e.cells 133)) v L := Own.below HO.out ((Below.refl _ _).alloc (Nat.le_refl _) _)
  refine (putText_any v L e.name _ hO1 hs (by omega)).mono ?_
  rintro r w1 ⟨v1, rfl, hO2, hS2⟩
  have hrow : w1.heap[w.heap.size]? = some (.cells e.cells 133 (0, 0)) := (hS2.keep (g := w.heap.size) (by simp) (fun h => by have := Own.lt HO.out h; omega)).trans (heap_alloc_new _ _)
  have hS : Step w v w1 v1 := Step.trans (Step.alloc _) hS2
  have hf : w1.cell? ⟨w.heap.size, 1, none⟩ = some (.bool e.folder) := (cell_of_row _ _ _ _ _ _ hrow).trans e.cell1
  have hne : ∀ k, v1.ownBlock = some k → k ≠ w.heap.size := fun k hk h => by
    rcases hS2.block with q | ⟨j, q, hj⟩
    · rw [q] at hk; have := Own.lt HO.out hk; omega
    · rw [q] at hk; injection hk with hk; simp at hj; omega
  have HR : Hid _ := hrow
  have HO2 : Hid _ := hO2
  clear a0 hrow hO1 hO2 hS2
  have hl2 : (L ++ (e.name.size : Int) :: bytesOf e.name).length ≤ 500000 := by simp [bytesOf_len]; omega
  have hbt : L ++ entBytes e = (L ++ (e.name.size : Int) :: bytesOf e.name) ++ ([if e.folder then 1 else 0] ++ idBytes e.id) := by simp [entBytes]
  generalize L ++ (e.name.size : Int) :: bytesOf e.name = M at HO2 hl2 hbt
  have HBT : Hid _ := hbt
  clear hbt
  cases hfo : e.folder with
  | true =>
    rw [hfo] at hf
    go_wp2_with (at_builtin; first
      | (refine own_append (by rfl) (.tmp 12) (.tmp 14) (by rfl) v1 M (by rfl) (Own.below HO2.out ((Below.refl _ _).alloc (Nat.le_refl _) _)) (some ⟨w1.heap.size, 0, none⟩) 1 1 _ (by rfl) (by simp) srcAt_one (by omega) ?_; intro v2 w2 hO3 hS3; have hrow2 : w2.heap[w.heap.size]? = some (.cells e.cells 133 (0, 0)) := (hS3.keep (g := w.heap.size) (by have := lt_of_row HR.out; simp; omega) (fun h => hne _ h rfl)).trans ((Below.heap_alloc _ _ _ (lt_of_row HR.out)).trans HR.out); have hc2 : w2.cell? ⟨w.heap.size, 2, none⟩ = some (.int .u8 (e.id 0)) := (cell_of_row _ _ _ _ _ _ hrow2).trans (e.cellId 0 (by omega)); have hO3' : Hid (Own w2 v2 (M ++ [1])) := hO3; have hS3' : Step w v w2 v2 := Step.trans hS (Step.trans (Step.alloc _) hS3); have HR2 : Hid _ := hrow2; clear hO3 hS3 hrow2)
      | (refine own_append (by rfl) (.tmp 16) (.tmp 18) (by rfl) v2 (M ++ [1]) (by rfl) hO3'.out (some ⟨w.heap.size, 2, none⟩) 32 32 e.id (by rfl) (by simp) (fun _ => ⟨w.heap.size, 2, rfl, fun j hj => (cell_of_row _ _ _ _ _ _ HR2.out).trans (e.cellId j hj)⟩) (by simp; omega) ?_; intro v3 w3 hO4 hS4))
    go_ret
    refine ⟨v3, rfl, ?_, Step.trans hS3' hS4⟩
    rw [List.append_assoc] at hO4
    rw [HBT.out, hfo]
    exact hO4
  | false =>
    rw [hfo] at hf
    go_wp2_with (at_builtin; first
      | (refine own_append (by rfl) (.tmp 12) (.tmp 14) (by rfl) v1 M (by rfl) (Own.below HO2.out ((Below.refl _ _).alloc (Nat.le_refl _) _)) (some ⟨w1.heap.size, 0, none⟩) 1 1 _ (by rfl) (by simp) srcAt_one (by omega) ?_; intro v2 w2 hO3 hS3; have hrow2 : w2.heap[w.heap.size]? = some (.cells e.cells 133 (0, 0)) := (hS3.keep (g := w.heap.size) (by have := lt_of_row HR.out; simp; omega) (fun h => hne _ h rfl)).trans ((Below.heap_alloc _ _ _ (lt_of_row HR.out)).trans HR.out); have hc2 : w2.cell? ⟨w.heap.size, 2, none⟩ = some (.int .u8 (e.id 0)) := (cell_of_row _ _ _ _ _ _ hrow2).trans (e.cellId 0 (by omega)); have hO3' : Hid (Own w2 v2 (M ++ [0])) := hO3; have hS3' : Step w v w2 v2 := Step.trans hS (Step.trans (Step.alloc _) hS3); have HR2 : Hid _ := hrow2; clear hO3 hS3 hrow2)
      | (refine own_append (by rfl) (.tmp 16) (.tmp 18) (by rfl) v2 (M ++ [0]) (by rfl) hO3'.out (some ⟨w.heap.size, 2, none⟩) 32 32 e.id (by rfl) (by simp) (fun _ => ⟨w.heap.size, 2, rfl, fun j hj => (cell_of_row _ _ _ _ _ _ HR2.out).trans (e.cellId j hj)⟩) (by simp; omega) ?_; intro v3 w3 hO4 hS4))
    go_ret
    refine ⟨v3, rfl, ?_, Step.trans hS3' hS4⟩
    rw [List.append_assoc] at hO4
    rw [HBT.out, hfo]
    exact hO4
end Go.Proofs.YtgfjjglejlnfbaaGreatDoor
