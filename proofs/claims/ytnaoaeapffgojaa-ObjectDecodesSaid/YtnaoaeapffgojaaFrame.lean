/- The frame that the laws' proofs share: numbers and bytes that come in. -/
import Derived.Test.YtnaoaeapffgojaaWakC
import Derived.Test.YtnaoaeapffgojaaRows
import Derived.ProofKit
import Derived.OpenShut
import Derived.ShutString
namespace Go.Proofs.Ytnaoaeapffgojaa
open Go.ChangeShapes Go.WideShapes Go.ChangeAt Go.RowKit

theorem own : ownKnob Try.prog.godebug = none := by kernel_rfl
theorem laidOut : laidOutB Try.prog = true := by kernel_rfl

/-- Bytes that came in. -/
theorem open_bytes {H : Type} {enc : TypeId × Value → H} {W : World} {base : Nat} {spare : Nat → Bool} {held : Bool} {a : Option Addr} {len cap : Nat} {d : DataW H} {p : List MemPlace}
    (h : DataW.Trod enc Try.prog W base spare held 22 (.slice a len cap) d p) : ∃ src : Nat → Int, SrcAt W .u8 a len src ∧ (∀ i, 0 ≤ src i ∧ src i ≤ 255) ∧ len ≤ maxLen ∧ (a = none → cap = 0 ∧ len = 0) := by
  obtain ⟨fuel, hf⟩ := h
  rcases open_ints Try.underlying22 Try.underlying5 (by kernel_rfl) hf with ⟨hcs, _⟩ | ⟨x, l, c, zs, hcs, _, hl, hm, hz, _, hcell, hwz⟩
  · simp [Value.cells] at hcs
    obtain ⟨rfl, rfl, rfl⟩ := hcs
    exact ⟨fun _ => 0, fun h => absurd h (by omega), fun _ => ⟨Int.le_refl 0, by show (0 : Int) ≤ 255; decide⟩, Nat.zero_le _, fun _ => ⟨rfl, rfl⟩⟩
  · simp [Value.cells] at hcs
    obtain ⟨rfl, rfl, rfl⟩ := hcs
    have hz' : len ≤ zs.length := by
      have e : zs.length = if spare x.block = true then cap else len := by simpa using hz
      rw [e]
      split <;> omega
    refine ⟨fun i => zs.getD i 0, fun hpos => ?_, fun i => ?_, Nat.le_trans hl hm, fun h => by cases h⟩
    · obtain ⟨b, off, spot⟩ := x
      have hc := hcell 0 (by omega)
      have hspot : spot = none := by simpa [Addr.add] using World.cell?_spot hc
      subst hspot
      refine ⟨b, off, rfl, fun j hj => ?_⟩
      have := hcell j (by omega)
      rwa [Addr.add_mid] at this
    · have := range_u8 hwz i
      rw [← List.getD_eq_getElem?_getD] at this
      exact this
end Go.Proofs.Ytnaoaeapffgojaa
