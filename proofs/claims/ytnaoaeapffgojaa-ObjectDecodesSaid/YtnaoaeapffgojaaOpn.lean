/- Objects that come in: what their cells are, and what their lists hold. No function of the program is walked here. -/
import Derived.Test.YtnaoaeapffgojaaDecL
import Derived.ProofKit
import Derived.OpenShut
import Derived.Deep.Slices
namespace Go.Proofs.Ytnaoaeapffgojaa
open Go.ChangeShapes Go.WideShapes Go.ChangeAt Go.RowKit Go.Deep

theorem add_twice (a : Addr) (m n : Nat) : (a.add m).add n = a.add (m + n) := by
  by_cases hm : m = 0
  · subst hm; simp [Addr.add]
  by_cases hn : n = 0
  · subst hn; simp [Addr.add]
  simp [Addr.add, hm, hn, Nat.add_assoc]

section
variable {H : Type} {enc : TypeId × Value → H} {W : World} {base : Nat} {spare : Nat → Bool} {held : Bool} {fuel : Nat} {cs : List Value} {x : DataW H × List MemPlace}

/-- Bytes by value. -/
theorem open_id (h : DataW.trod enc Try.prog W base spare held fuel 26 cs = some x) : ∃ f : Nat → Int, cs = (arr .u8 32 f).toList ∧ ∀ i, 0 ≤ f i ∧ f i ≤ 255 := by
  obtain ⟨xs, m, rfl, -, hlen, hn, hel⟩ := DataW.trod_array Try.underlying26 h
  have hc32 : Try.prog.cellsOf 26 = 32 := by kernel_rfl
  have hc1 : Try.prog.cellsOf 5 = 1 := by kernel_rfl
  have key : ∀ i, i < 32 → ∃ q, cs[i]? = some (.int .u8 q) ∧ 0 ≤ q ∧ q ≤ 255 := fun i hi => by
    have h1 := hel i hi
    rw [hc1, Nat.mul_one] at h1
    rw [show xs[i]? = some xs[i] from List.getElem?_eq_getElem (by omega)] at h1
    obtain ⟨q, e1, _, e3⟩ := DataW.trod_int Try.underlying5 h1
    refine ⟨q, ?_, bounds_u8 e3⟩
    have := congrArg (fun l => l[0]?) e1
    simpa using this
  obtain ⟨f, hf⟩ := choose_lt key
  refine ⟨fun i => if i < 32 then f i else 0, ?_, fun i => ?_⟩
  · apply List.ext_getElem?
    intro i
    rw [Array.getElem?_toList (xs := arr .u8 32 fun i => if i < 32 then f i else 0)]
    by_cases hi : i < 32
    · rw [arr_get hi, if_pos hi]
      exact (hf i hi).1
    · rw [List.getElem?_eq_none (by rw [hlen, hc32]; omega), Array.getElem?_eq_none (by rw [arr_size]; omega)]
  · by_cases hi : i < 32
    · simp only [if_pos hi]; exact (hf i hi).2
    · simp only [if_neg hi]; omega

/-- Elements of m cells, one behind the other. -/
theorem open_rows {α : Type} [Inhabited α] {t e : TypeId} {m : Nat} {f : α → Array Value} {Q : α → Prop} (ht : Try.prog.underlying t = some (.slice e)) (hm : Try.prog.cellsOf e = m) (hpos : 0 < m)
    (hel : ∀ (n : Nat) (cs' : List Value) (y : DataW H × List MemPlace), DataW.trod enc Try.prog W base spare held n e cs' = some y → ∃ a, cs' = (f a).toList ∧ Q a)
    (h : DataW.trod enc Try.prog W base spare held fuel t cs = some x) :
    ∃ (sp : Option Addr) (cap : Nat) (xs : List α), cs = [.slice sp xs.length cap] ∧ RowsAt W m f sp xs ∧ (∀ a ∈ xs, Q a) ∧ xs.length ≤ maxLen ∧ (sp = none → xs.length = 0 ∧ cap = 0) := by
  rcases open_slice ht h with ⟨rfl, -⟩ | ⟨a, len, cap, k, n, D, Pl, rfl, -, hl, hmx, hk, -, hx⟩
  · exact ⟨none, 0, [], rfl, RowsAt.none, fun a ha => by simp at ha, Nat.zero_le _, fun _ => ⟨rfl, rfl⟩⟩
  have hkl : len ≤ k := by rw [hk]; split <;> omega
  have key : ∀ i, i < len → ∃ y : α, (∀ j u, (f y)[j]? = some u → W.cell? (a.add (i * m + j)) = some u) ∧ 0 < (f y).size ∧ Q y := fun i hi => by
    obtain ⟨cs', h1, h2⟩ := hx i (by omega)
    obtain ⟨y, rfl, hq⟩ := hel n cs' _ h2
    rw [hm] at h1
    obtain ⟨-, hlen, hc⟩ := World.cells?_some h1
    have hsz : (f y).size = m := by simpa using hlen
    refine ⟨y, fun j u hu => ?_, by omega, hq⟩
    have hj : j < m := by rw [← hsz]; exact (Array.getElem?_eq_some_iff.1 hu).1
    have := hc j hj
    rw [Array.getElem?_toList, hu] at this
    rw [show a.add (i * m + j) = (a.add (i * m)).add j from (add_twice a (i * m) j).symm]
    exact this
  obtain ⟨g, hg⟩ := choose_lt key
  refine ⟨some a, cap, (List.range len).map g, by simp, fun hpos' => ?_, fun b hb => ?_, by simp; omega, fun h => by cases h⟩
  · have h0 : 0 < len := by simpa using hpos'
    obtain ⟨b, off, spot⟩ := a
    have hspot : spot = none := by
      obtain ⟨hc, hs, -⟩ := hg 0 h0
      have := hc 0 _ (Array.getElem?_eq_getElem hs)
      simpa [Addr.add] using World.cell?_spot this
    subst hspot
    refine ⟨b, off, rfl, fun i y hy j u hu => ?_⟩
    have hi : i < len := by have := (List.getElem?_eq_some_iff.1 hy).1; simpa using this
    have hy' : g i = y := by simpa [hi] using hy
    subst hy'
    have := (hg i hi).1 j u hu
    rw [Addr.add_mid] at this
    rw [Nat.add_assoc]
    exact this
  · obtain ⟨i, hi, rfl⟩ := List.mem_map.1 hb
    exact (hg i (List.mem_range.1 hi)).2.2

theorem fields_ent : (Try.prog.fieldsOf 40).toList.map (fun f => (f.type, f.offset)) = [(9, 0), (4, 1), (26, 2)] := by kernel_rfl
theorem fields_obj : (Try.prog.fieldsOf 30).toList.map (fun f => (f.type, f.offset)) = [(3, 0), (22, 1), (24, 2), (26, 3), (27, 35), (28, 36), (9, 37)] := by kernel_rfl
/-- A struct's fields, by their number. -/
theorem open_fields {t : TypeId} {l : List (TypeId × Nat)} (ht : Try.prog.underlying t = some (.struct (Try.prog.fieldsOf t))) (hl : (Try.prog.fieldsOf t).toList.map (fun f => (f.type, f.offset)) = l)
    (h : DataW.trod enc Try.prog W base spare held fuel t cs = some x) :
    cs.length = Try.prog.cellsOf t ∧ ∃ n, ∀ (i : Nat) u o, l[i]? = some (u, o) → ∃ y, DataW.trod enc Try.prog W base spare held n u ((cs.drop o).take (Try.prog.cellsOf u)) = some y := by
  obtain ⟨xs, n, rfl, -, hlen, hn, hel⟩ := DataW.trod_struct ht h
  refine ⟨hlen, n, fun i u o hi => ?_⟩
  rw [← hl, List.getElem?_map, Array.getElem?_toList] at hi
  cases hf : (Try.prog.fieldsOf t)[i]? with
  | none => rw [hf] at hi; cases hi
  | some f =>
    rw [hf] at hi
    simp only [Option.map_some, Option.some.injEq, Prod.mk.injEq] at hi
    obtain ⟨rfl, rfl⟩ := hi
    have h1 := hel i f hf
    have hi' : i < xs.length := by rw [hn]; exact (Array.getElem?_eq_some_iff.1 hf).1
    exact ⟨xs[i], h1.trans (List.getElem?_eq_getElem hi')⟩
instance : Inhabited Ent := ⟨⟨⟨#[]⟩, false, fun _ => 0⟩⟩
theorem cut_at {l a b : List Value} {i n m : Nat} (h1 : (l.drop i).take n = a) (h2 : (l.drop (i + n)).take m = b) : (l.drop i).take (n + m) = a ++ b := by
  rw [← h1, ← h2, List.take_add, List.drop_drop]
/-- An entry. -/
theorem open_ent (h : DataW.trod enc Try.prog W base spare held fuel 40 cs = some x) : ∃ e : Ent, cs = e.cells.toList ∧ ((∀ i, 0 ≤ e.id i ∧ e.id i ≤ 255) ∧ e.name.size ≤ maxLen) := by
  obtain ⟨hlen, n, hf⟩ := open_fields (by kernel_rfl) fields_ent h
  obtain ⟨y0, h0⟩ := hf 0 _ _ rfl
  obtain ⟨y1, h1⟩ := hf 1 _ _ rfl
  obtain ⟨y2, h2⟩ := hf 2 _ _ rfl
  obtain ⟨s, e0, -, hs⟩ := DataW.trod_string Try.underlying9 h0
  obtain ⟨b, e1, -⟩ := DataW.trod_bool Try.underlying4 h1
  obtain ⟨f, e2, hfo⟩ := open_id h2
  have hl34 : cs.length = 34 := hlen.trans (by kernel_rfl)
  rw [show Try.prog.cellsOf 9 = 1 by kernel_rfl] at e0
  rw [show Try.prog.cellsOf 4 = 1 by kernel_rfl] at e1
  rw [show Try.prog.cellsOf 26 = 32 by kernel_rfl] at e2
  refine ⟨⟨s, b, f⟩, ?_, hfo, hs⟩
  have e3 := cut_at (cut_at e0 e1) e2
  rw [List.drop_zero, List.take_of_length_le (by omega)] at e3
  rw [e3]
  simp [Ent.cells]

/-- What is known of an object that came in. -/
structure In (w : World) (o : Ob) (c : Co) : Prop where
  b : ∃ sp cap, o.bs = .slice sp c.nb cap ∧ SrcAt w .u8 sp c.nb c.bf ∧ (sp = none → cap = 0 ∧ c.nb = 0)
  e : ∃ sp cap, o.es = .slice sp c.es.length cap ∧ RowsAt w 34 Ent.cells sp c.es ∧ (sp = none → c.es.length = 0 ∧ cap = 0)
  p : ∃ sp cap, o.ps = .slice sp c.ps.length cap ∧ RowsAt w 32 (arr .u8 32) sp c.ps ∧ (sp = none → c.ps.length = 0 ∧ cap = 0)
  bok : ∀ i, 0 ≤ c.bf i ∧ c.bf i ≤ 255
  fit : Fit o c
  lb : c.nb ≤ maxLen
  le : c.es.length ≤ maxLen
  lp : c.ps.length ≤ maxLen
  ln : o.note.size ≤ maxLen
  names : ∀ e ∈ c.es, e.name.size ≤ maxLen
theorem In.has {w : World} {o : Ob} {c : Co} (h : In w o c) (h1 : c.nb ≤ 100000000) (h2 : c.es.length ≤ 100000000) (h3 : c.ps.length ≤ 100000000) : Has w o c := by
  obtain ⟨sp, cp, a1, a2, a3⟩ := h.b
  obtain ⟨sq, cq, b1, b2, -⟩ := h.e
  obtain ⟨sr, cr, c1, c2, -⟩ := h.p
  refine ⟨⟨sp, cp, a1, a2⟩, ⟨sq, cq, b1, b2⟩, ⟨sr, cr, c1, c2⟩, fun i _ => h.bok i, fun n cap hb => ?_, h1, h2, h3⟩
  rw [a1] at hb
  injection hb with q1 q2 q3
  rw [← q3]
  exact (a3 q1).1
theorem open_obj (h : DataW.trod enc Try.prog W base spare held fuel 30 cs = some x) : ∃ (o : Ob) (c : Co), cs = o.cells.toList ∧ In W o c := by
  obtain ⟨hlen, n, hf⟩ := open_fields (by kernel_rfl) fields_obj h
  obtain ⟨y0, h0⟩ := hf 0 _ _ rfl
  obtain ⟨y1, h1⟩ := hf 1 _ _ rfl
  obtain ⟨y2, h2⟩ := hf 2 _ _ rfl
  obtain ⟨y3, h3⟩ := hf 3 _ _ rfl
  obtain ⟨y4, h4⟩ := hf 4 _ _ rfl
  obtain ⟨y5, h5⟩ := hf 5 _ _ rfl
  obtain ⟨y6, h6⟩ := hf 6 _ _ rfl
  have hl38 : cs.length = 38 := hlen.trans (by kernel_rfl)
  obtain ⟨k, e0, -, -⟩ := DataW.trod_int Try.underlying3 h0
  obtain ⟨f, e3, hfo⟩ := open_id h3
  obtain ⟨num, e5, -, hnum⟩ := DataW.trod_int Try.underlying28 h5
  obtain ⟨s, e6, -, hs⟩ := DataW.trod_string Try.underlying9 h6
  obtain ⟨sq, cq, es, e2, hes, hesok, hesl, hesn⟩ := open_rows (f := Ent.cells) Try.underlying24 (show Try.prog.cellsOf 40 = 34 by kernel_rfl) (by omega) (fun n cs' y hy => open_ent hy) h2
  obtain ⟨sr, cr, ps, e4, hps, hpsok, hpsl, hpsn⟩ := open_rows (f := arr .u8 32) Try.underlying27 (show Try.prog.cellsOf 26 = 32 by kernel_rfl) (by omega) (fun n cs' y hy => open_id hy) h4
  obtain ⟨sp, nb, cb, bf, e1, hbs, hbok, hbl, hbn⟩ : ∃ sp nb cb, ∃ bf : Nat → Int, (cs.drop 1).take (Try.prog.cellsOf 22) = [.slice sp nb cb] ∧ SrcAt W .u8 sp nb bf ∧ (∀ i, 0 ≤ bf i ∧ bf i ≤ 255) ∧ nb ≤ maxLen ∧ (sp = none → cb = 0 ∧ nb = 0) := by
    rcases open_ints Try.underlying22 Try.underlying5 (by kernel_rfl) h1 with ⟨hcs, -⟩ | ⟨a, l, c, zs, hcs, -, hl, hm, hz, -, hcell, hwz⟩
    · exact ⟨none, 0, 0, fun _ => 0, hcs, fun h => absurd h (by omega), fun _ => ⟨Int.le_refl 0, by show (0 : Int) ≤ 255; decide⟩, Nat.zero_le _, fun _ => ⟨rfl, rfl⟩⟩
    · have hz' : l ≤ zs.length := by
        rw [hz]
        split <;> omega
      refine ⟨some a, l, c, fun i => zs.getD i 0, hcs, fun hpos => ?_, fun i => ?_, Nat.le_trans hl hm, fun h => by cases h⟩
      · obtain ⟨b, off, spot⟩ := a
        have hc := hcell 0 (by omega)
        have hspot : spot = none := by simpa [Addr.add] using World.cell?_spot hc
        subst hspot
        refine ⟨b, off, rfl, fun j hj => ?_⟩
        have := hcell j (by omega)
        rwa [Addr.add_mid] at this
      · have := range_u8 hwz i
        rw [← List.getD_eq_getElem?_getD] at this
        exact this
  rw [show Try.prog.cellsOf 3 = 1 by kernel_rfl] at e0
  rw [show Try.prog.cellsOf 22 = 1 by kernel_rfl] at e1
  rw [show Try.prog.cellsOf 24 = 1 by kernel_rfl] at e2
  rw [show Try.prog.cellsOf 26 = 32 by kernel_rfl] at e3
  rw [show Try.prog.cellsOf 27 = 1 by kernel_rfl] at e4
  rw [show Try.prog.cellsOf 28 = 1 by kernel_rfl] at e5
  rw [show Try.prog.cellsOf 9 = 1 by kernel_rfl] at e6
  have hn := bounds_u32 hnum
  refine ⟨⟨k, .slice sp nb cb, .slice sq es.length cq, f, .slice sr ps.length cr, num, s⟩, ⟨nb, bf, es, ps⟩, ?_, ⟨⟨sp, cb, rfl, hbs, hbn⟩, ⟨sq, cq, rfl, hes, hesn⟩, ⟨sr, cr, rfl, hps, hpsn⟩, hbok, ⟨fun e he => (hesok e he).1, hfo, hpsok, by show 0 ≤ num ∧ num < 4294967296; omega⟩, hbl, hesl, hpsl, hs, fun e he => (hesok e he).2⟩⟩
  have e7 := cut_at (cut_at (cut_at (cut_at (cut_at (cut_at e0 e1) e2) e3) e4) e5) e6
  rw [List.drop_zero, List.take_of_length_le (by omega)] at e7
  rw [e7]
  simp [Ob.cells]
end
end Go.Proofs.Ytnaoaeapffgojaa
