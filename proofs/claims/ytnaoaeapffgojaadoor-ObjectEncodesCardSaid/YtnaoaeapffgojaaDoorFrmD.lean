/- The frame that the laws' proofs of this seat share: the listed tables out of the row's condition, the door's own heap as the witness, objects that come in. -/
import Derived.Test.YtnaoaeapffgojaaDoorTabs
import Derived.Test.YtnaoaeapffgojaaDoorTie
import Derived.Test.YtnaoaeapffgojaaDoorCards
import Derived.ProofKit
import Derived.OpenShut
import Derived.ShutString
import Derived.LaidMore
import Derived.Stop.Joined
namespace Go.Proofs.YtnaoaeapffgojaaDoor
open Go.ChangeShapes Go.WideShapes Go.ChangeAt Go.RowKit

theorem own : ownKnob Tryd.prog.godebug = none := by kernel_rfl
theorem laidOut : laidOutB Tryd.prog = true := by kernel_rfl
theorem gConsts : Tryd.prog.globalNamed "shipwright/sha.constants" = some 1 := by kernel_rfl
theorem gStart : Tryd.prog.globalNamed "shipwright/sha.start" = some 0 := by kernel_rfl
theorem tConsts : (Tryd.prog.globals[1]?).map (·.type) = some 82 := by kernel_rfl
theorem tStart : (Tryd.prog.globals[0]?).map (·.type) = some 76 := by kernel_rfl
theorem cellsW : Tryd.prog.cellsOf 27 = 1 := by kernel_rfl

/-- What the rows list. -/
def laid2 : List (String × DataW Unit) := [("shipwright/sha.constants", Rows.laid_shipwright_sha_constants), ("shipwright/sha.start", Rows.laid_shipwright_sha_start)]

theorem door_met (os : Os) (args : Array Value) : laidMetH Tryd.prog laid2 ((World.doorLaid Tryd.prog 400 os).forCall (fun _ _ => 0) ⟨#[], args, []⟩).memory :=
  laidMetH_of_parts3 (fuel := 8) (laidMet_of_run' 8 (by kernel_rfl) (by kernel_rfl)) (by kernel_rfl) (by kernel_rfl)

/-- The cells of a table of numbers, out of its reading. -/
theorem cells_laid {H : Type} {enc : TypeId × Value → H} {W : World} {base : Nat} {spare : Nat → Bool} {held : Bool} {fuel : Nat} {t : TypeId} {n : Nat} {k : IntKind} {e : TypeId} {l : List Int} {cs : Array Value} {p : List MemPlace} {g : Nat}
    (hu : Tryd.prog.underlying t = some (.array n e)) (he : Tryd.prog.underlying e = some (.int k)) (hce : Tryd.prog.cellsOf e = 1) (hv : ∀ i, W.cell? ⟨g, i, none⟩ = cs[i]?)
    (hd : DataW.trod enc Tryd.prog W base spare held fuel t cs.toList = some (.agg (l.map fun x => .lit (.int k x)), p)) : ∀ i, i < n → W.cell? ⟨g, i, none⟩ = some (.int k (l.getD i 0)) := by
  obtain ⟨xs, m, rfl, hx, hlen, hn, hel⟩ := DataW.trod_array hu hd
  intro i hi
  have h1 := hel i hi
  rw [hce, Nat.mul_one] at h1
  have hxi : xs[i]? = some xs[i] := List.getElem?_eq_getElem (by omega)
  rw [hxi] at h1
  obtain ⟨q, e1, e2, _⟩ := DataW.trod_int he h1
  simp only [Prod.mk.injEq, DataW.agg.injEq] at hx
  have e3 : (l.map fun x => (DataW.lit (.int k x) : DataW H))[i]? = some (.lit (.int k q)) := by
    rw [hx.1, List.getElem?_map, hxi, Option.map_some, e2]
  have e4 : l.getD i 0 = q := by
    rw [List.getElem?_map] at e3
    cases hl : l[i]? with
    | none => rw [hl] at e3; simp at e3
    | some y => rw [hl] at e3; simp at e3; simp [List.getD_eq_getElem?_getD, hl, e3]
  rw [hv, e4]
  have e5 : (cs.toList.drop i).take 1 = [.int k q] := e1
  have e6 : cs.toList[i]? = some (.int k q) := by
    have := congrArg (fun l => l[0]?) e5
    simpa using this
  rw [← Array.getElem?_toList]; exact e6

theorem laid_of {W : World} (h : laidMetH Tryd.prog laid2 W) : Tab W kF hS := by
  rw [MakeChecks.laidMetH_plain _ _ _ (by kernel_rfl)] at h
  obtain ⟨ps, ⟨g0, t0, cs0, f0, p0, q0, hg0, ht0, hv0, hd0, ⟨g1, t1, cs1, f1, p1, q1, hg1, ht1, hv1, hd1, _, _⟩, _⟩, _, _⟩ := h
  obtain rfl := Option.some.inj (gConsts.symm.trans hg0)
  obtain rfl := Option.some.inj (gStart.symm.trans hg1)
  obtain rfl := Option.some.inj (tConsts.symm.trans ht0)
  obtain rfl := Option.some.inj (tStart.symm.trans ht1)
  refine ⟨fun i hi => ?_, fun i hi => ?_, hS_ok⟩
  · exact cells_laid (l := kL) Tryd.underlying82 Tryd.underlying27 cellsW (World.var?_cell hg0 hv0) hd0 i hi
  · have := cells_laid (l := [1779033703, 3144134277, 1013904242, 2773480762, 1359893119, 2600822924, 528734635, 1541459225]) Tryd.underlying76 Tryd.underlying27 cellsW (World.var?_cell hg1 hv1) hd1 i hi
    rw [this]
    match i, hi with
    | 0, _ => rfl
    | 1, _ => rfl
    | 2, _ => rfl
    | 3, _ => rfl
    | 4, _ => rfl
    | 5, _ => rfl
    | 6, _ => rfl
    | 7, _ => rfl


/-- An object that came in. -/
theorem open_object {H : Type} {enc : TypeId × Value → H} {W : World} {base b0 : Nat} {spare : Nat → Bool} {held : Bool} {r : Reach} {v : Value} {d : DataW H} {p : List MemPlace}
    (hv : Value.okWide Tryd.prog W r b0 29 v) (h : DataW.Trod enc Tryd.prog W base spare held 29 v d p) : ∃ (o : Ob) (c : Co), v = .agg o.cells ∧ In W o c := by
  have hu : Tryd.prog.underlying 29 = some (.struct (Tryd.prog.fieldsOf 29)) := by kernel_rfl
  have hv' : ∃ cs, v = .agg cs := by
    unfold Value.okWide at hv
    rw [hu] at hv
    obtain ⟨cs, h1, h2, _⟩ := hv
    exact ⟨cs, h1⟩
  obtain ⟨cs, rfl⟩ := hv'
  obtain ⟨fuel, hf⟩ := h
  obtain ⟨o, c, hcs, hin⟩ := open_obj hf
  exact ⟨o, c, congrArg Value.agg (Array.toList_inj.1 hcs), hin⟩
end Go.Proofs.YtnaoaeapffgojaaDoor
