/- Tokens that come in. No function of the program is walked here. -/
import Derived.Test.YthnoiohganknnabDoorPcI
namespace Go.Proofs.YthnoiohganknnabDoor
open Go.ChangeShapes Go.WideShapes Go.ChangeAt Go.RowKit Go.Deep

theorem add_twice (a : Addr) (m n : Nat) : (a.add m).add n = a.add (m + n) := by
  by_cases hm : m = 0
  · subst hm; simp [Addr.add]
  by_cases hn : n = 0
  · subst hn; simp [Addr.add]
  simp [Addr.add, hm, hn, Nat.add_assoc]

section
variable {H : Type} {enc : TypeId × Value → H} {W : World} {base : Nat} {spare : Nat → Bool} {held : Bool} {fuel : Nat} {cs : List Value} {x : DataW H × List MemPlace}

/-- Elements of m cells, one behind the other. -/
theorem open_rows {α : Type} [Inhabited α] {t e : TypeId} {m : Nat} {f : α → Array Value} {Q : α → Prop} (ht : Tryd.prog.underlying t = some (.slice e)) (hm : Tryd.prog.cellsOf e = m) (hpos : 0 < m)
    (hel : ∀ (n : Nat) (cs' : List Value) (y : DataW H × List MemPlace), DataW.trod enc Tryd.prog W base spare held n e cs' = some y → ∃ a, cs' = (f a).toList ∧ Q a)
    (h : DataW.trod enc Tryd.prog W base spare held fuel t cs = some x) :
    ∃ (sp : Option Addr) (cap : Nat) (xs : List α), cs = [.slice sp xs.length cap] ∧ RowsAt W m f sp xs ∧ (∀ a ∈ xs, Q a) ∧ (xs.length ≤ cap ∧ cap ≤ maxLen) ∧ (sp = none → xs.length = 0 ∧ cap = 0) := by
  rcases open_slice ht h with ⟨rfl, -⟩ | ⟨a, len, cap, k, n, D, Pl, rfl, -, hl, hmx, hk, -, hx⟩
  · exact ⟨none, 0, [], rfl, RowsAt.none, fun a ha => (by simp at ha), ⟨Nat.le_refl _, Nat.zero_le _⟩, fun _ => ⟨rfl, rfl⟩⟩
  have hkl : len ≤ k := by rw [hk]; split <;> omega
  have key : ∀ i, i < len → ∃ y : α, (∀ j u, (f y)[j]? = some u → W.cell? (a.add (i * m + j)) = some u) ∧ 0 < (f y).size ∧ Q y := fun i hi => by
    obtain ⟨cs', h1, h2⟩ := hx i (by omega)
    obtain ⟨y, rfl, hq⟩ := hel n cs' _ h2
    rw [hm] at h1
    obtain ⟨-, hlen, hc⟩ := World.cells?_some h1
    have hsz : (f y).size = m := by simpa using hlen
    refine ⟨y, fun j u hu => ?_, by omega, hq⟩
    have hj : j < m := by rw [← hsz]; exact (Array.getElem?_eq_some_iff.1 hu).1
    have := hc j hj
    rw [Array.getElem?_toList, hu] at this
    rw [show a.add (i * m + j) = (a.add (i * m)).add j from (add_twice a (i * m) j).symm]
    exact this
  obtain ⟨g, hg⟩ := choose_lt key
  refine ⟨some a, cap, (List.range len).map g, by simp, fun hpos' => ?_, fun b hb => ?_, ⟨by simpa using hl, hmx⟩, fun h => by cases h⟩
  · have h0 : 0 < len := by simpa using hpos'
    obtain ⟨b, off, spot⟩ := a
    have hspot : spot = none := by
      obtain ⟨hc, hs, -⟩ := hg 0 h0
      have := hc 0 _ (Array.getElem?_eq_getElem hs)
      simpa [Addr.add] using World.cell?_spot this
    subst hspot
    refine ⟨b, off, rfl, fun i y hy j u hu => ?_⟩
    have hi : i < len := by have := (List.getElem?_eq_some_iff.1 hy).1; simpa using this
    have hy' : g i = y := by simpa [hi] using hy
    subst hy'
    have := (hg i hi).1 j u hu
    rw [Addr.add_mid] at this
    rw [Nat.add_assoc]
    exact this
  · obtain ⟨i, hi, rfl⟩ := List.mem_map.1 hb
    exact (hg i (List.mem_range.1 hi)).2.2

/-- A struct's fields, by their number. -/
theorem open_fields {t : TypeId} {l : List (TypeId × Nat)} (ht : Tryd.prog.underlying t = some (.struct (Tryd.prog.fieldsOf t))) (hl : (Tryd.prog.fieldsOf t).toList.map (fun f => (f.type, f.offset)) = l)
    (h : DataW.trod enc Tryd.prog W base spare held fuel t cs = some x) :
    cs.length = Tryd.prog.cellsOf t ∧ ∃ n, ∀ (i : Nat) u o, l[i]? = some (u, o) → ∃ y, DataW.trod enc Tryd.prog W base spare held n u ((cs.drop o).take (Tryd.prog.cellsOf u)) = some y := by
  obtain ⟨xs, n, rfl, -, hlen, hn, hel⟩ := DataW.trod_struct ht h
  refine ⟨hlen, n, fun i u o hi => ?_⟩
  rw [← hl, List.getElem?_map, Array.getElem?_toList] at hi
  cases hf : (Tryd.prog.fieldsOf t)[i]? with
  | none => rw [hf] at hi; cases hi
  | some f =>
    rw [hf] at hi
    simp only [Option.map_some, Option.some.injEq, Prod.mk.injEq] at hi
    obtain ⟨rfl, rfl⟩ := hi
    have h1 := hel i f hf
    have hi' : i < xs.length := by rw [hn]; exact (Array.getElem?_eq_some_iff.1 hf).1
    exact ⟨xs[i], h1.trans (List.getElem?_eq_getElem hi')⟩
theorem cut_at {l a b : List Value} {i n m : Nat} (h1 : (l.drop i).take n = a) (h2 : (l.drop (i + n)).take m = b) : (l.drop i).take (n + m) = a ++ b := by
  rw [← h1, ← h2, List.take_add, List.drop_drop]
theorem fields_tok : (Tryd.prog.fieldsOf 35).toList.map (fun f => (f.type, f.offset)) = [(3, 0), (9, 1), (3, 2)] := by kernel_rfl
/-- A token. -/
theorem open_tok (h : DataW.trod enc Tryd.prog W base spare held fuel 35 cs = some x) : ∃ t : Tok, cs = t.cells.toList ∧ t.text.size ≤ maxLen := by
  obtain ⟨hlen, n, hf⟩ := open_fields (by kernel_rfl) fields_tok h
  obtain ⟨y0, h0⟩ := hf 0 _ _ rfl
  obtain ⟨y1, h1⟩ := hf 1 _ _ rfl
  obtain ⟨y2, h2⟩ := hf 2 _ _ rfl
  obtain ⟨k, e0, -, -⟩ := DataW.trod_int Tryd.underlying3 h0
  obtain ⟨s, e1, -, hs⟩ := DataW.trod_string Tryd.underlying9 h1
  obtain ⟨p, e2, -, -⟩ := DataW.trod_int Tryd.underlying3 h2
  have hl : cs.length = 3 := hlen.trans (by kernel_rfl)
  rw [show Tryd.prog.cellsOf 9 = 1 by kernel_rfl] at e1
  rw [show Tryd.prog.cellsOf 3 = 1 by kernel_rfl] at e0 e2
  refine ⟨⟨k, s, p⟩, ?_, hs⟩
  have e := cut_at (cut_at e0 e1) e2
  rw [List.drop_zero, List.take_of_length_le (by omega)] at e
  rw [e]
  rfl
end
set_option maxRecDepth 100000 in
/-- Tokens that came in. -/
theorem open_toks {H : Type} {enc : TypeId × Value → H} {W : World} {base b0 : Nat} {spare : Nat → Bool} {held : Bool} {r : Reach} {v : Value} {d : DataW H} {p : List MemPlace}
    (hv : Value.okWide Tryd.prog W r b0 22 v) (h : DataW.Trod enc Tryd.prog W base spare held 22 v d p) : ∃ (sp : Option Addr) (cap : Nat) (xs : List Tok), v = .slice sp xs.length cap ∧ RowsT W sp xs ∧ (∀ t ∈ xs, t.text.size ≤ maxLen) ∧ xs.length ≤ cap ∧ cap ≤ maxLen ∧ (sp = none → cap = 0) := by
  obtain ⟨a0, len0, cap0, rfl⟩ := okWide_slice Tryd.underlying22 hv
  obtain ⟨fuel, hf⟩ := h
  obtain ⟨sp, cap, xs, e, hr, hq, hc, hn⟩ := open_rows (m := 3) (f := Tok.cells) (Q := fun t => t.text.size ≤ maxLen) Tryd.underlying22 (by kernel_rfl) (by omega) (fun n cs' y hy => open_tok hy) hf
  have e' : Value.slice a0 len0 cap0 = .slice sp xs.length cap := by simpa [Value.cells] using e
  exact ⟨sp, cap, xs, e', hr, hq, hc.1, hc.2, fun h => (hn h).2⟩
end Go.Proofs.YthnoiohganknnabDoor
