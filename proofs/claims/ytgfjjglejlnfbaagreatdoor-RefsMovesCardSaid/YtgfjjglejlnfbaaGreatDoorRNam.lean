/- The contract of the document's Name. -/
import Derived.Test.YtgfjjglejlnfbaaGreatDoorNameC
namespace Go.Proofs.YtgfjjglejlnfbaaGreatDoor
open Go.RowKit

set_option maxRecDepth 100000 in
set_option maxHeartbeats 1000000 in
theorem rname_any (s : ByteArray) (w : World) (hs : s.size ≤ 9223372036854775807) : Calls Tryz.prog 41 #[.string s] w fun e w' => e = .returned (.bool (nameB s)) ∧ w' = w := by
  go_enter Tryz.func41, Tryz.ntmps41
  go_wp2
  go_loopw [3] (fun i wr => ∃ t : Nat, t ≤ s.size ∧ i = .int .i64 t ∧ wr = w ∧ ∀ j, j < t → ∃ h : j < s.size, plainB (s[j]'h).toNat = true) (fun i _ => s.size - (intOf i).toNat)
  case atStart => exact ⟨0, Nat.zero_le _, rfl, rfl, fun j hj => by omega⟩
  case round =>
    obtain ⟨t, ht, rfl, rfl, hz⟩ := hrel
    have HZ : Hid _ := hz
    clear hz
    by_cases hlt : t < s.size
    · have hx : ∃ x : Int, ((s[t]'hlt).toNat : Int) = x := ⟨_, rfl⟩
      obtain ⟨x, hx⟩ := hx
      cases hp : plainB x with
      | true =>
        have HP : Hid _ := hp
        have hnx : ∀ j, j < t + 1 → ∃ h : j < s.size, plainB (s[j]'h).toNat = true := fun j hj => by
          by_cases h : j < t
          · exact HZ.out j h
          · obtain rfl : j = t := by omega
            exact ⟨hlt, by rw [hx]; exact hp⟩
        have HNX : Hid _ := hnx
        clear hp hnx
        go_wp2
        all_goals first
          | (exact ⟨⟨t + 1, by omega, by simp, trivial, HNX.out⟩, by simp [intOf]; omega⟩)
          | (exfalso; have hp := HP.out; simp only [plainB, Bool.or_eq_true, Bool.and_eq_true, decide_eq_true_eq, beq_iff_eq] at hp; simp_all <;> omega)
      | false =>
        have hN : nameB s = false := by
          have := all_not hlt (by rw [hx]; exact hp)
          simp [nameB, this]
        have HP : Hid _ := hp
        have HN : Hid _ := hN
        clear hp hN
        go_wp2
        all_goals first
          | (go_ret; exact ⟨ret_bool HN.out.symm, rfl⟩)
          | (exfalso; have hp := HP.out; simp only [plainB, Bool.or_eq_false_iff, Bool.and_eq_false_iff, decide_eq_false_iff_not, beq_eq_false_iff_ne] at hp; simp_all <;> omega)
    · have hall : s.data.toList.all (fun c => plainB c.toNat) = true := all_to fun i hi => HZ.out i (by omega)
      have HA : Hid _ := hall
      clear hall
      have hN : nameB s = (decide (1 ≤ s.size) && (decide (s.size ≤ 24) && (!(s.toList == [46]) && !(s.toList == [46, 46])))) := by
        simp only [nameB, HA.out, Bool.true_and, Bool.and_assoc]
      have HN : Hid _ := hN
      have e1 : decide (1 ≤ (s.size : Int)) = decide (1 ≤ s.size) := decide_eq_decide.2 (by omega)
      have e2 : decide ((s.size : Int) ≤ 24) = decide (s.size ≤ 24) := decide_eq_decide.2 (by omega)
      clear hN
      cases h1 : decide (1 ≤ s.size) <;> cases h2 : decide (s.size ≤ 24) <;> cases h3 : (s.toList == [46]) <;> cases h4 : (s.toList == [46, 46]) <;> (rw [h1] at e1; rw [h2] at e2; go_wp2; go_ret; refine ⟨ret_bool ?_, rfl⟩; rw [HN.out, h1, h2, h3, h4]; rfl)
end Go.Proofs.YtgfjjglejlnfbaaGreatDoor
