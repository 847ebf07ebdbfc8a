/- The frame that the proofs of this seat share: the listed tables out of the row's condition, the door's own heap as the witness, branches and moves that come in. -/
import Derived.Test.YtgfjjglejlnfbaaGreatDoorFsS
import Derived.Test.YtgfjjglejlnfbaaGreatDoorFsM
import Derived.Test.YtgfjjglejlnfbaaGreatDoorIdZ
import Derived.Test.YtgfjjglejlnfbaaGreatDoorTie
import Derived.Test.YtgfjjglejlnfbaaGreatDoorCards
import Derived.ProofKit
import Derived.OpenShut
import Derived.ShutString
import Derived.LaidMore
import Derived.Stop.Joined
import Derived.Deep.Slices
namespace Go.Proofs.YtgfjjglejlnfbaaGreatDoor
open Go.ChangeShapes Go.WideShapes Go.ChangeAt Go.RowKit Go.Deep

theorem own : ownKnob Tryz.prog.godebug = none := by kernel_rfl
theorem laidOut : laidOutB Tryz.prog = true := by kernel_rfl
theorem gConsts : Tryz.prog.globalNamed "shipwright/sha.constants" = some 2 := by kernel_rfl
theorem gStart : Tryz.prog.globalNamed "shipwright/sha.start" = some 0 := by kernel_rfl
theorem tConsts : (Tryz.prog.globals[2]?).map (·.type) = some 197 := by kernel_rfl
theorem tStart : (Tryz.prog.globals[0]?).map (·.type) = some 179 := by kernel_rfl
theorem cellsW : Tryz.prog.cellsOf 63 = 1 := by kernel_rfl

/-- What the rows list. -/
def laid2 : List (String × DataW Unit) := [("shipwright/sha.constants", Rows.laid_shipwright_sha_constants), ("shipwright/sha.start", Rows.laid_shipwright_sha_start)]

theorem door_met (os : Os) (args : Array Value) : laidMetH Tryz.prog laid2 ((World.doorLaid Tryz.prog 400 os).forCall (fun _ _ => 0) ⟨#[], args, []⟩).memory :=
  laidMetH_of_parts3 (fuel := 8) (laidMet_of_run' 8 (by kernel_rfl) (by kernel_rfl)) (by kernel_rfl) (by kernel_rfl)

/-- The cells of a table of numbers, out of its reading. -/
theorem cells_laid {H : Type} {enc : TypeId × Value → H} {W : World} {base : Nat} {spare : Nat → Bool} {held : Bool} {fuel : Nat} {t : TypeId} {n : Nat} {k : IntKind} {e : TypeId} {l : List Int} {cs : Array Value} {p : List MemPlace} {g : Nat}
    (hu : Tryz.prog.underlying t = some (.array n e)) (he : Tryz.prog.underlying e = some (.int k)) (hce : Tryz.prog.cellsOf e = 1) (hv : ∀ i, W.cell? ⟨g, i, none⟩ = cs[i]?)
    (hd : DataW.trod enc Tryz.prog W base spare held fuel t cs.toList = some (.agg (l.map fun x => .lit (.int k x)), p)) : ∀ i, i < n → W.cell? ⟨g, i, none⟩ = some (.int k (l.getD i 0)) := by
  obtain ⟨xs, m, rfl, hx, hlen, hn, hel⟩ := DataW.trod_array hu hd
  intro i hi
  have h1 := hel i hi
  rw [hce, Nat.mul_one] at h1
  have hxi : xs[i]? = some xs[i] := List.getElem?_eq_getElem (by omega)
  rw [hxi] at h1
  obtain ⟨q, e1, e2, _⟩ := DataW.trod_int he h1
  simp only [Prod.mk.injEq, DataW.agg.injEq] at hx
  have e3 : (l.map fun x => (DataW.lit (.int k x) : DataW H))[i]? = some (.lit (.int k q)) := by
    rw [hx.1, List.getElem?_map, hxi, Option.map_some, e2]
  have e4 : l.getD i 0 = q := by
    rw [List.getElem?_map] at e3
    cases hl : l[i]? with
    | none => rw [hl] at e3; simp at e3
    | some y => rw [hl] at e3; simp at e3; simp [List.getD_eq_getElem?_getD, hl, e3]
  rw [hv, e4]
  have e5 : (cs.toList.drop i).take 1 = [.int k q] := e1
  have e6 : cs.toList[i]? = some (.int k q) := by
    have := congrArg (fun l => l[0]?) e5
    simpa using this
  rw [← Array.getElem?_toList]; exact e6

theorem laid_of {W : World} (h : laidMetH Tryz.prog laid2 W) : Tab W kF hS := by
  rw [MakeChecks.laidMetH_plain _ _ _ (by kernel_rfl)] at h
  obtain ⟨ps, ⟨g0, t0, cs0, f0, p0, q0, hg0, ht0, hv0, hd0, ⟨g1, t1, cs1, f1, p1, q1, hg1, ht1, hv1, hd1, _, _⟩, _⟩, _, _⟩ := h
  obtain rfl := Option.some.inj (gConsts.symm.trans hg0)
  obtain rfl := Option.some.inj (gStart.symm.trans hg1)
  obtain rfl := Option.some.inj (tConsts.symm.trans ht0)
  obtain rfl := Option.some.inj (tStart.symm.trans ht1)
  refine ⟨fun i hi => ?_, fun i hi => ?_, hS_ok⟩
  · exact cells_laid (l := kL) Tryz.underlying197 Tryz.underlying63 cellsW (World.var?_cell hg0 hv0) hd0 i hi
  · have := cells_laid (l := [1779033703, 3144134277, 1013904242, 2773480762, 1359893119, 2600822924, 528734635, 1541459225]) Tryz.underlying179 Tryz.underlying63 cellsW (World.var?_cell hg1 hv1) hd1 i hi
    rw [this]
    match i, hi with
    | 0, _ => rfl
    | 1, _ => rfl
    | 2, _ => rfl
    | 3, _ => rfl
    | 4, _ => rfl
    | 5, _ => rfl
    | 6, _ => rfl
    | 7, _ => rfl


theorem add_twice (a : Addr) (m n : Nat) : (a.add m).add n = a.add (m + n) := by
  by_cases hm : m = 0
  · subst hm; simp [Addr.add]
  by_cases hn : n = 0
  · subst hn; simp [Addr.add]
  simp [Addr.add, hm, hn, Nat.add_assoc]

section
variable {H : Type} {enc : TypeId × Value → H} {W : World} {base : Nat} {spare : Nat → Bool} {held : Bool} {fuel : Nat} {cs : List Value} {x : DataW H × List MemPlace}

/-- Elements of m cells, one behind the other. -/
theorem open_rows {α : Type} [Inhabited α] {t e : TypeId} {m : Nat} {f : α → Array Value} {Q : α → Prop} (ht : Tryz.prog.underlying t = some (.slice e)) (hm : Tryz.prog.cellsOf e = m) (hpos : 0 < m)
    (hel : ∀ (n : Nat) (cs' : List Value) (y : DataW H × List MemPlace), DataW.trod enc Tryz.prog W base spare held n e cs' = some y → ∃ a, cs' = (f a).toList ∧ Q a)
    (h : DataW.trod enc Tryz.prog W base spare held fuel t cs = some x) :
    ∃ (sp : Option Addr) (cap : Nat) (xs : List α), cs = [.slice sp xs.length cap] ∧ RowsAt W m f sp xs ∧ (∀ a ∈ xs, Q a) ∧ (xs.length ≤ cap ∧ cap ≤ maxLen) ∧ (sp = none → xs.length = 0 ∧ cap = 0) := by
  rcases open_slice ht h with ⟨rfl, -⟩ | ⟨a, len, cap, k, n, D, Pl, rfl, -, hl, hmx, hk, -, hx⟩
  · exact ⟨none, 0, [], rfl, RowsAt.none, fun a ha => (by simp at ha), ⟨Nat.le_refl _, Nat.zero_le _⟩, fun _ => ⟨rfl, rfl⟩⟩
  have hkl : len ≤ k := by rw [hk]; split <;> omega
  have key : ∀ i, i < len → ∃ y : α, (∀ j u, (f y)[j]? = some u → W.cell? (a.add (i * m + j)) = some u) ∧ 0 < (f y).size ∧ Q y := fun i hi => by
    obtain ⟨cs', h1, h2⟩ := hx i (by omega)
    obtain ⟨y, rfl, hq⟩ := hel n cs' _ h2
    rw [hm] at h1
    obtain ⟨-, hlen, hc⟩ := World.cells?_some h1
    have hsz : (f y).size = m := by simpa using hlen
    refine ⟨y, fun j u hu => ?_, by omega, hq⟩
    have hj : j < m := by rw [← hsz]; exact (Array.getElem?_eq_some_iff.1 hu).1
    have := hc j hj
    rw [Array.getElem?_toList, hu] at this
    rw [show a.add (i * m + j) = (a.add (i * m)).add j from (add_twice a (i * m) j).symm]
    exact this
  obtain ⟨g, hg⟩ := choose_lt key
  refine ⟨some a, cap, (List.range len).map g, by simp, fun hpos' => ?_, fun b hb => ?_, ⟨by simpa using hl, hmx⟩, fun h => by cases h⟩
  · have h0 : 0 < len := by simpa using hpos'
    obtain ⟨b, off, spot⟩ := a
    have hspot : spot = none := by
      obtain ⟨hc, hs, -⟩ := hg 0 h0
      have := hc 0 _ (Array.getElem?_eq_getElem hs)
      simpa [Addr.add] using World.cell?_spot this
    subst hspot
    refine ⟨b, off, rfl, fun i y hy j u hu => ?_⟩
    have hi : i < len := by have := (List.getElem?_eq_some_iff.1 hy).1; simpa using this
    have hy' : g i = y := by simpa [hi] using hy
    subst hy'
    have := (hg i hi).1 j u hu
    rw [Addr.add_mid] at this
    rw [Nat.add_assoc]
    exact this
  · obtain ⟨i, hi, rfl⟩ := List.mem_map.1 hb
    exact (hg i (List.mem_range.1 hi)).2.2

/-- A struct's fields, by their number. -/
theorem open_fields {t : TypeId} {l : List (TypeId × Nat)} (ht : Tryz.prog.underlying t = some (.struct (Tryz.prog.fieldsOf t))) (hl : (Tryz.prog.fieldsOf t).toList.map (fun f => (f.type, f.offset)) = l)
    (h : DataW.trod enc Tryz.prog W base spare held fuel t cs = some x) :
    cs.length = Tryz.prog.cellsOf t ∧ ∃ n, ∀ (i : Nat) u o, l[i]? = some (u, o) → ∃ y, DataW.trod enc Tryz.prog W base spare held n u ((cs.drop o).take (Tryz.prog.cellsOf u)) = some y := by
  obtain ⟨xs, n, rfl, -, hlen, hn, hel⟩ := DataW.trod_struct ht h
  refine ⟨hlen, n, fun i u o hi => ?_⟩
  rw [← hl, List.getElem?_map, Array.getElem?_toList] at hi
  cases hf : (Tryz.prog.fieldsOf t)[i]? with
  | none => rw [hf] at hi; cases hi
  | some f =>
    rw [hf] at hi
    simp only [Option.map_some, Option.some.injEq, Prod.mk.injEq] at hi
    obtain ⟨rfl, rfl⟩ := hi
    have h1 := hel i f hf
    have hi' : i < xs.length := by rw [hn]; exact (Array.getElem?_eq_some_iff.1 hf).1
    exact ⟨xs[i], h1.trans (List.getElem?_eq_getElem hi')⟩
theorem cut_at {l a b : List Value} {i n m : Nat} (h1 : (l.drop i).take n = a) (h2 : (l.drop (i + n)).take m = b) : (l.drop i).take (n + m) = a ++ b := by
  rw [← h1, ← h2, List.take_add, List.drop_drop]
/-- Bytes by value. -/
theorem open_id (h : DataW.trod enc Tryz.prog W base spare held fuel 26 cs = some x) : ∃ f : Nat → Int, cs = (arr .u8 32 f).toList := by
  obtain ⟨xs, m, rfl, -, hlen, hn, hel⟩ := DataW.trod_array Tryz.underlying26 h
  have hc32 : Tryz.prog.cellsOf 26 = 32 := by kernel_rfl
  have hc1 : Tryz.prog.cellsOf 5 = 1 := by kernel_rfl
  have key : ∀ i, i < 32 → ∃ q, cs[i]? = some (.int .u8 q) := fun i hi => by
    have h1 := hel i hi
    rw [hc1, Nat.mul_one] at h1
    rw [show xs[i]? = some xs[i] from List.getElem?_eq_getElem (by omega)] at h1
    obtain ⟨q, e1, _, e3⟩ := DataW.trod_int Tryz.underlying5 h1
    refine ⟨q, ?_⟩
    have := congrArg (fun l => l[0]?) e1
    simpa using this
  obtain ⟨f, hf⟩ := choose_lt key
  refine ⟨f, ?_⟩
  apply List.ext_getElem?
  intro i
  rw [Array.getElem?_toList (xs := arr .u8 32 f)]
  by_cases hi : i < 32
  · rw [arr_get hi]
    exact hf i hi
  · rw [List.getElem?_eq_none (by rw [hlen, hc32]; omega), Array.getElem?_eq_none (by rw [arr_size]; omega)]
instance : Inhabited Re := ⟨⟨⟨#[]⟩, fun _ => 0⟩⟩
theorem fields_ref : (Tryz.prog.fieldsOf 92).toList.map (fun f => (f.type, f.offset)) = [(9, 0), (26, 1)] := by kernel_rfl
theorem fields_refs : (Tryz.prog.fieldsOf 24).toList.map (fun f => (f.type, f.offset)) = [(22, 0)] := by kernel_rfl
theorem fields_move : (Tryz.prog.fieldsOf 28).toList.map (fun f => (f.type, f.offset)) = [(9, 0), (26, 1), (26, 33)] := by kernel_rfl
/-- A branch. -/
theorem open_ref (h : DataW.trod enc Tryz.prog W base spare held fuel 92 cs = some x) : ∃ e : Re, cs = e.cells.toList ∧ e.name.size ≤ maxLen := by
  obtain ⟨hlen, n, hf⟩ := open_fields (by kernel_rfl) fields_ref h
  obtain ⟨y0, h0⟩ := hf 0 _ _ rfl
  obtain ⟨y1, h1⟩ := hf 1 _ _ rfl
  obtain ⟨s, e0, -, hs⟩ := DataW.trod_string Tryz.underlying9 h0
  obtain ⟨f, e1⟩ := open_id h1
  have hl : cs.length = 33 := hlen.trans (by kernel_rfl)
  rw [show Tryz.prog.cellsOf 9 = 1 by kernel_rfl] at e0
  rw [show Tryz.prog.cellsOf 26 = 32 by kernel_rfl] at e1
  refine ⟨⟨s, f⟩, ?_, hs⟩
  have e := cut_at e0 e1
  rw [List.drop_zero, List.take_of_length_le (by omega)] at e
  rw [e]
  simp [Re.cells]
/-- A move. -/
theorem open_mv (h : DataW.trod enc Tryz.prog W base spare held fuel 28 cs = some x) : ∃ m : Mv, cs = m.cells.toList := by
  obtain ⟨hlen, n, hf⟩ := open_fields (by kernel_rfl) fields_move h
  obtain ⟨y0, h0⟩ := hf 0 _ _ rfl
  obtain ⟨y1, h1⟩ := hf 1 _ _ rfl
  obtain ⟨y2, h2⟩ := hf 2 _ _ rfl
  obtain ⟨s, e0, -, hs⟩ := DataW.trod_string Tryz.underlying9 h0
  obtain ⟨f, e1⟩ := open_id h1
  obtain ⟨g, e2⟩ := open_id h2
  have hl : cs.length = 65 := hlen.trans (by kernel_rfl)
  rw [show Tryz.prog.cellsOf 9 = 1 by kernel_rfl] at e0
  rw [show Tryz.prog.cellsOf 26 = 32 by kernel_rfl] at e1 e2
  refine ⟨⟨s, f, g⟩, ?_⟩
  have e := cut_at (cut_at e0 e1) e2
  rw [List.drop_zero, List.take_of_length_le (by omega)] at e
  rw [e]
  simp [Mv.cells]
end
set_option maxRecDepth 100000 in
theorem open_agg {t : TypeId} {W : World} {r : Reach} {b0 : Nat} {v : Value} (hu : Tryz.prog.underlying t = some (.struct (Tryz.prog.fieldsOf t))) (hv : Value.okWide Tryz.prog W r b0 t v) : ∃ cs, v = .agg cs := by
  unfold Value.okWide at hv
  rw [hu] at hv
  obtain ⟨cs, h1, h2, _⟩ := hv
  exact ⟨cs, h1⟩
set_option maxRecDepth 100000 in
/-- Branches that came in. -/
theorem open_refs {H : Type} {enc : TypeId × Value → H} {W : World} {base b0 : Nat} {spare : Nat → Bool} {held : Bool} {r : Reach} {v : Value} {d : DataW H} {p : List MemPlace}
    (hv : Value.okWide Tryz.prog W r b0 24 v) (h : DataW.Trod enc Tryz.prog W base spare held 24 v d p) : ∃ (sp : Option Addr) (cap : Nat) (xs : List Re), v = .agg #[.slice sp xs.length cap] ∧ RowsAt W 33 Re.cells sp xs ∧ xs.length ≤ cap ∧ cap ≤ 9223372036854775807 ∧ (sp = none → xs.length = 0 ∧ cap = 0) := by
  obtain ⟨cs, rfl⟩ := open_agg (by kernel_rfl) hv
  obtain ⟨fuel, hf⟩ := h
  obtain ⟨hlen, n, hf'⟩ := open_fields (by kernel_rfl) fields_refs hf
  obtain ⟨y0, h0⟩ := hf' 0 _ _ rfl
  obtain ⟨sp, cap, xs, e, hr, hq, hc, hn⟩ := open_rows (m := 33) (f := Re.cells) (Q := fun e => e.name.size ≤ maxLen) Tryz.underlying22 (by kernel_rfl) (by omega) (fun n cs' y hy => open_ref hy) h0
  have hl : (Value.cells (.agg cs)).toList.length = 1 := hlen.trans (by kernel_rfl)
  rw [show Tryz.prog.cellsOf 22 = 1 by kernel_rfl, List.drop_zero, List.take_of_length_le (by omega)] at e
  refine ⟨sp, cap, xs, congrArg Value.agg (Array.toList_inj.1 e), hr, hc.1, hc.2, hn⟩
set_option maxRecDepth 100000 in
/-- A move that came in. -/
theorem open_move {H : Type} {enc : TypeId × Value → H} {W : World} {base b0 : Nat} {spare : Nat → Bool} {held : Bool} {r : Reach} {v : Value} {d : DataW H} {p : List MemPlace}
    (hv : Value.okWide Tryz.prog W r b0 28 v) (h : DataW.Trod enc Tryz.prog W base spare held 28 v d p) : ∃ m : Mv, v = .agg m.cells := by
  obtain ⟨cs, rfl⟩ := open_agg (by kernel_rfl) hv
  obtain ⟨fuel, hf⟩ := h
  obtain ⟨m, hcs⟩ := open_mv hf
  exact ⟨m, congrArg Value.agg (Array.toList_inj.1 hcs)⟩
end Go.Proofs.YtgfjjglejlnfbaaGreatDoor
