/- The contract of the document's Same of bytes (layer 1). -/
import Derived.Test.YtnaoaeapffgojaaLrgC
namespace Go.Proofs.Ytnaoaeapffgojaa
open Go.RowKit

set_option maxRecDepth 100000 in
set_option maxHeartbeats 1000000 in
theorem rsame1_any (sp tp : Option Addr) (l1 l2 c1 c2 : Nat) (f g : Nat → Int) (w : World) (h1 : SrcAt w .u8 sp l1 f) (h2 : SrcAt w .u8 tp l2 g) (hlen : l1 ≤ 100000000) :
    Calls Try.prog 32 #[.slice sp l1 c1, .slice tp l2 c2] w fun e w' => e = .returned (.bool (l1 == l2 && eqTo f g l1)) ∧ ∃ n, w' = w.drewN n := by
  by_cases hl : l1 = l2
  · subst hl
    have hne : ((l1 : Int) != (l1 : Int)) = false := by simp
    go_enter Try.func32, Try.ntmps32
    go_wp2
    go_loopw [5] (fun i wr => ∃ (t n : Nat), t ≤ l1 ∧ i = .int .i64 t ∧ wr = w.drewN n ∧ ∀ j, j < t → f j = g j) (fun i _ => l1 - (intOf i).toNat)
    case atStart => exact ⟨0, 0, Nat.zero_le _, rfl, rfl, fun j hj => by omega⟩
    case round =>
      obtain ⟨t, n, ht, rfl, rfl, hz⟩ := hrel
      have HZ : Hid _ := hz
      clear hz
      by_cases hlt : t < l1
      · obtain ⟨b1, o1, rfl, hc1⟩ := h1 (by omega)
        obtain ⟨b2, o2, rfl, hc2⟩ := h2 (by omega)
        have e1 : w.cell? ⟨b1, o1 + t, none⟩ = some (.int .u8 (f t)) := hc1 t hlt
        have e2 : w.cell? ⟨b2, o2 + t, none⟩ = some (.int .u8 (g t)) := hc2 t hlt
        generalize hX : f t = x at e1
        generalize hY : g t = y at e2
        have HX : Hid _ := hX
        have HY : Hid _ := hY
        clear hc1 hc2 h1 h2 hX hY
        cases hb : (x != y) with
        | false =>
          go_wp2
          go_quiet (fail)
          go_wp2
          go_roundw
          case rel =>
            refine ⟨t + 1, n + nq, by omega, by go_num, by simp [World.drewN], fun j hj => ?_⟩
            by_cases hj' : j < t
            · exact HZ.out j hj'
            · obtain rfl : j = t := by omega
              rw [HX.out, HY.out]
              simpa using hb
          case measure => simp [intOf]; omega
        | true =>
          go_wp2
          go_quiet (fail)
          go_wp2
          go_ret
          refine ⟨congrArg Ending.returned (congrArg Value.bool ?_), n + nq, by simp [World.drewN, Nat.add_assoc]⟩
          have hne' : eqTo f g l1 = false := by
            cases h : eqTo f g l1 with
            | false => rfl
            | true =>
              have := eqTo_iff.1 h t hlt
              rw [HX.out, HY.out] at this
              simp [this] at hb
          simp [hne']
      · have htl : t = l1 := by omega
        have HT : Hid _ := htl
        clear h1 h2 htl
        go_wp2
        go_ret
        refine ⟨congrArg Ending.returned (congrArg Value.bool ?_), n, rfl⟩
        have : eqTo f g l1 = true := eqTo_true fun i hi => HZ.out i (by rw [HT.out]; exact hi)
        simp [this]
  · have hne : ((l1 : Int) != (l2 : Int)) = true := by simpa using fun h => hl (by omega)
    clear h1 h2
    go_enter Try.func32, Try.ntmps32
    go_wp2
    go_ret
    refine ⟨congrArg Ending.returned (congrArg Value.bool ?_), 0, rfl⟩
    simp [hl]
end Go.Proofs.Ytnaoaeapffgojaa
