/- The frame that every law's proof of this seat shares: the listed tables out of the row's condition, the door's own heap as the witness, arrays and slices of numbers that come in. -/
import Derived.Test.YtekmmmechhjggaaDoorWakes
import Derived.Test.YtekmmmechhjggaaDoorTie
import Derived.Test.YtekmmmechhjggaaDoorCards
import Derived.ProofKit
import Derived.OpenShut
import Derived.ShutString
import Derived.LaidMore
import Derived.Stop.Joined
namespace Go.Proofs.YtekmmmechhjggaaDoor
open Go.ChangeShapes Go.WideShapes Go.ChangeAt Go.RowKit

theorem own : ownKnob Tryd.prog.godebug = none := by kernel_rfl
theorem laidOut : laidOutB Tryd.prog = true := by kernel_rfl
theorem gConsts : Tryd.prog.globalNamed "shipwright/sha.constants" = some 1 := by kernel_rfl
theorem gStart : Tryd.prog.globalNamed "shipwright/sha.start" = some 0 := by kernel_rfl
theorem tConsts : (Tryd.prog.globals[1]?).map (·.type) = some 33 := by kernel_rfl
theorem tStart : (Tryd.prog.globals[0]?).map (·.type) = some 29 := by kernel_rfl
theorem cells28 : Tryd.prog.cellsOf 28 = 1 := by kernel_rfl

/-- What the rows list. -/
def laid2 : List (String × DataW Unit) := [("shipwright/sha.constants", Rows.laid_shipwright_sha_constants), ("shipwright/sha.start", Rows.laid_shipwright_sha_start)]

theorem door_met (os : Os) (args : Array Value) : laidMetH Tryd.prog laid2 ((World.doorLaid Tryd.prog 400 os).forCall (fun _ _ => 0) ⟨#[], args, []⟩).memory :=
  laidMetH_of_parts3 (fuel := 8) (laidMet_of_run' 8 (by kernel_rfl) (by kernel_rfl)) (by kernel_rfl) (by kernel_rfl)

/-- The cells of a table of numbers, out of its reading. -/
theorem cells_laid {H : Type} {enc : TypeId × Value → H} {W : World} {base : Nat} {spare : Nat → Bool} {held : Bool} {fuel : Nat} {t : TypeId} {n : Nat} {k : IntKind} {e : TypeId} {l : List Int} {cs : Array Value} {p : List MemPlace} {g : Nat}
    (hu : Tryd.prog.underlying t = some (.array n e)) (he : Tryd.prog.underlying e = some (.int k)) (hce : Tryd.prog.cellsOf e = 1) (hv : ∀ i, W.cell? ⟨g, i, none⟩ = cs[i]?)
    (hd : DataW.trod enc Tryd.prog W base spare held fuel t cs.toList = some (.agg (l.map fun x => .lit (.int k x)), p)) : ∀ i, i < n → W.cell? ⟨g, i, none⟩ = some (.int k (l.getD i 0)) := by
  obtain ⟨xs, m, rfl, hx, hlen, hn, hel⟩ := DataW.trod_array hu hd
  intro i hi
  have h1 := hel i hi
  rw [hce, Nat.mul_one] at h1
  have hxi : xs[i]? = some xs[i] := List.getElem?_eq_getElem (by omega)
  rw [hxi] at h1
  obtain ⟨q, e1, e2, _⟩ := DataW.trod_int he h1
  simp only [Prod.mk.injEq, DataW.agg.injEq] at hx
  have e3 : (l.map fun x => (DataW.lit (.int k x) : DataW H))[i]? = some (.lit (.int k q)) := by
    rw [hx.1, List.getElem?_map, hxi, Option.map_some, e2]
  have e4 : l.getD i 0 = q := by
    rw [List.getElem?_map] at e3
    cases hl : l[i]? with
    | none => rw [hl] at e3; simp at e3
    | some y => rw [hl] at e3; simp at e3; simp [List.getD_eq_getElem?_getD, hl, e3]
  rw [hv, e4]
  have e5 : (cs.toList.drop i).take 1 = [.int k q] := e1
  have e6 : cs.toList[i]? = some (.int k q) := by
    have := congrArg (fun l => l[0]?) e5
    simpa using this
  rw [← Array.getElem?_toList]; exact e6

theorem laid_of {W : World} (h : laidMetH Tryd.prog laid2 W) : Laid W := by
  rw [MakeChecks.laidMetH_plain _ _ _ (by kernel_rfl)] at h
  obtain ⟨ps, ⟨g0, t0, cs0, f0, p0, q0, hg0, ht0, hv0, hd0, ⟨g1, t1, cs1, f1, p1, q1, hg1, ht1, hv1, hd1, _, _⟩, _⟩, _, _⟩ := h
  obtain rfl := Option.some.inj (gConsts.symm.trans hg0)
  obtain rfl := Option.some.inj (gStart.symm.trans hg1)
  obtain rfl := Option.some.inj (tConsts.symm.trans ht0)
  obtain rfl := Option.some.inj (tStart.symm.trans ht1)
  refine ⟨fun i hi => ?_, fun i hi => ?_⟩
  · exact cells_laid (l := kL) Tryd.underlying33 Tryd.underlying28 cells28 (World.var?_cell hg0 hv0) hd0 i hi
  · have := cells_laid (l := [1779033703, 3144134277, 1013904242, 2773480762, 1359893119, 2600822924, 528734635, 1541459225]) Tryd.underlying29 Tryd.underlying28 cells28 (World.var?_cell hg1 hv1) hd1 i hi
    rw [this]
    match i, hi with
    | 0, _ => rfl
    | 1, _ => rfl
    | 2, _ => rfl
    | 3, _ => rfl
    | 4, _ => rfl
    | 5, _ => rfl
    | 6, _ => rfl
    | 7, _ => rfl

/-- An array of numbers that came in. -/
theorem open_arr {H : Type} {enc : TypeId × Value → H} {W : World} {base b0 : Nat} {spare : Nat → Bool} {held : Bool} {r : Reach} {t e : TypeId} {n : Nat} {k : IntKind} {v : Value} {d : DataW H} {p : List MemPlace}
    (hu : Tryd.prog.underlying t = some (.array n e)) (he : Tryd.prog.underlying e = some (.int k)) (hce : Tryd.prog.cellsOf e = 1) (hct : Tryd.prog.cellsOf t = n)
    (hv : Value.okWide Tryd.prog W r b0 t v) (h : DataW.Trod enc Tryd.prog W base spare held t v d p) : ∃ f : Nat → Int, v = .agg (arr k n f) ∧ ∀ i, (Lit.int k (f i)).wf = true ∨ f i = 0 := by
  have hv' : ∃ cs, v = .agg cs ∧ cs.size = Tryd.prog.cellsOf t := by
    unfold Value.okWide at hv
    rw [hu] at hv
    obtain ⟨cs, h1, h2, _⟩ := hv
    exact ⟨cs, h1, h2⟩
  obtain ⟨cs, rfl, hsz⟩ := hv'
  obtain ⟨fuel, hf⟩ := h
  obtain ⟨xs, m, rfl, hx, hlen, hn, hel⟩ := DataW.trod_array hu hf
  have key : ∀ i, i < n → ∃ q, cs[i]? = some (.int k q) ∧ (Lit.int k q).wf = true := fun i hi => by
    have h1 := hel i hi
    rw [hce, Nat.mul_one] at h1
    rw [show xs[i]? = some xs[i] from List.getElem?_eq_getElem (by omega)] at h1
    obtain ⟨q, e1, _, e3⟩ := DataW.trod_int he h1
    refine ⟨q, ?_, e3⟩
    have e5 : (cs.toList.drop i).take 1 = [.int k q] := e1
    have := congrArg (fun l => l[0]?) e5
    rw [← Array.getElem?_toList]
    simpa using this
  refine ⟨fun i => match cs[i]? with | some (.int _ q) => q | _ => 0, ?_, fun i => ?_⟩
  · congr 1
    apply Array.ext
    · rw [arr_size, hsz, hct]
    · intro i h1 h2
      have hi : i < n := by rw [arr_size] at h2; exact h2
      obtain ⟨q, hq, _⟩ := key i hi
      have hq' : cs[i] = .int k q := by
        rw [Array.getElem?_eq_getElem h1] at hq
        exact Option.some.inj hq
      simp only [arr, Array.getElem_ofFn, hq', hq]
  · by_cases hi : i < n
    · obtain ⟨q, hq, hw⟩ := key i hi
      left
      simp only [hq]
      exact hw
    · right
      have hn' : cs[i]? = none := Array.getElem?_eq_none (by rw [hsz, hct]; omega)
      simp only [hn']
theorem byte_of {f : Nat → Int} (h : ∀ i, (Lit.int .u8 (f i)).wf = true ∨ f i = 0) (i : Nat) : 0 ≤ f i ∧ f i ≤ 255 := by
  rcases h i with h | h
  · exact bounds_u8 h
  · omega
/-- Bytes that came in. -/
theorem open_bytes {H : Type} {enc : TypeId × Value → H} {W : World} {base : Nat} {spare : Nat → Bool} {held : Bool} {a : Option Addr} {len cap : Nat} {d : DataW H} {p : List MemPlace}
    (h : DataW.Trod enc Tryd.prog W base spare held 22 (.slice a len cap) d p) : ∃ src : Nat → Int, SrcAt W .u8 a len src ∧ (∀ i, 0 ≤ src i ∧ src i ≤ 255) ∧ len ≤ maxLen := by
  obtain ⟨fuel, hf⟩ := h
  rcases open_ints Tryd.underlying22 Tryd.underlying5 (by kernel_rfl) hf with ⟨hcs, _⟩ | ⟨x, l, c, zs, hcs, _, hl, hm, hz, _, hcell, hwz⟩
  · simp [Value.cells] at hcs
    obtain ⟨rfl, rfl, rfl⟩ := hcs
    exact ⟨fun _ => 0, fun h => absurd h (by omega), fun _ => ⟨Int.le_refl 0, by show (0 : Int) ≤ 255; decide⟩, Nat.zero_le _⟩
  · simp [Value.cells] at hcs
    obtain ⟨rfl, rfl, rfl⟩ := hcs
    have hz' : len ≤ zs.length := by
      have e : zs.length = if spare x.block = true then cap else len := by simpa using hz
      rw [e]
      split <;> omega
    refine ⟨fun i => zs.getD i 0, fun hpos => ?_, fun i => ?_, Nat.le_trans hl hm⟩
    · obtain ⟨b, off, spot⟩ := x
      have hc := hcell 0 (by omega)
      have hspot : spot = none := by simpa [Addr.add] using World.cell?_spot hc
      subst hspot
      refine ⟨b, off, rfl, fun j hj => ?_⟩
      have := hcell j (by omega)
      rwa [Addr.add_mid] at this
    · have := range_u8 hwz i
      rw [← List.getD_eq_getElem?_getD] at this
      exact this
end Go.Proofs.YtekmmmechhjggaaDoor
