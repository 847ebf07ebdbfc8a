/- Which signs and names may be; the contracts of object.plain and object.Name. -/
import Derived.Test.YtgfjjglejlnfbaaGreatDoorHeld
import Derived.Laws.RangeAny
namespace Go.Proofs.YtgfjjglejlnfbaaGreatDoor
open Go.RowKit

theorem ret_bool {a b : Bool} (h : a = b) : Ending.returned (.bool a) = .returned (.bool b) := by rw [h]
/-- May a sign stand in a name? -/
def plainB (c : Int) : Bool := (decide (97 ≤ c) && decide (c ≤ 122)) || (decide (65 ≤ c) && decide (c ≤ 90)) || (decide (48 ≤ c) && decide (c ≤ 57)) || (c == 46) || (c == 95) || (c == 45)
theorem plain_low {c : Int} (h : plainB c = true) : c ≤ 122 := by
  simp [plainB] at h
  omega

set_option maxRecDepth 100000 in
set_option maxHeartbeats 1000000 in
theorem plain_any (r : Int) (w : World) : Calls Tryz.prog 71 #[.int .i32 r] w fun e w' => e = .returned (.bool (plainB r)) ∧ w' = w := by
  go_enter Tryz.func71, Tryz.ntmps71
  go_wp2
  all_goals go_ret
  all_goals (refine ⟨ret_bool ?_, rfl⟩; rw [Bool.eq_iff_iff]; simp_all [plainB]; try omega)

def nameB (s : ByteArray) : Bool := s.data.toList.all (fun c => plainB c.toNat) && decide (1 ≤ s.size) && decide (s.size ≤ 24) && !(s.toList == [46]) && !(s.toList == [46, 46])

theorem name_no {s : ByteArray} (h : s.toList = [] ∨ s.toList = [46] ∨ s.toList = [46, 46] ∨ 24 < s.size) : nameB s = false := by
  have hl : s.size = s.toList.length := by rw [ByteArray.toList_eq]; rfl
  rcases h with h | h | h | h
  · have : s.size = 0 := by rw [hl, h]; rfl
    simp [nameB, this]
  · simp [nameB, h]
  · simp [nameB, h]
  · simp [nameB]; omega
theorem name_is {s : ByteArray} (h0 : ¬ s.toList = []) (h1 : ¬ s.toList = [46]) (h2 : ¬ s.toList = [46, 46]) (h3 : s.size ≤ 24) : nameB s = s.data.toList.all (fun c => plainB c.toNat) := by
  have hl : s.size = s.toList.length := by rw [ByteArray.toList_eq]; rfl
  have h4 : 1 ≤ s.size := by
    rw [hl]
    cases h : s.toList with
    | nil => exact absurd h h0
    | cons a l => simp
  have e1 : (s.toList == [46]) = false := by simpa using h1
  have e2 : (s.toList == [46, 46]) = false := by simpa using h2
  simp [nameB, e1, e2, h3, h4]
theorem all_to {s : ByteArray} (h : ∀ i, i < s.size → ∃ h : i < s.size, plainB (s[i]'h).toNat = true) : s.data.toList.all (fun c => plainB c.toNat) = true := by
  rw [List.all_eq_true]
  intro c hc
  obtain ⟨i, hi, rfl⟩ := List.mem_iff_getElem.1 hc
  obtain ⟨h', hp⟩ := h i (by simpa using hi)
  exact hp
theorem all_not {s : ByteArray} {i : Nat} (h : i < s.size) (hp : plainB (s[i]'h).toNat = false) : s.data.toList.all (fun c => plainB c.toNat) = false := by
  rw [← Bool.not_eq_true, List.all_eq_true]
  intro ha
  have := ha (s[i]'h) (List.mem_iff_getElem.2 ⟨i, by simpa using h, rfl⟩)
  simp [hp] at this

set_option maxRecDepth 100000 in
set_option maxHeartbeats 1000000 in
theorem name_any (s : ByteArray) (w : World) : Calls Tryz.prog 36 #[.string s] w fun e w' => e = .returned (.bool (nameB s)) ∧ Below w.heap.size w w' := by
  by_cases hn : s.toList = [] ∨ s.toList = [46] ∨ s.toList = [46, 46] ∨ 24 < s.size
  · have hN := name_no hn
    go_enter Tryz.func36, Tryz.ntmps36
    by_cases h0 : s.toList = []
    · clear hn
      go_wp2
      go_ret
      exact ⟨ret_bool hN.symm, Below.refl _ _⟩
    by_cases h1 : s.toList = [46]
    · clear hn
      go_wp2
      go_ret
      exact ⟨ret_bool hN.symm, Below.refl _ _⟩
    by_cases h2 : s.toList = [46, 46]
    · clear hn
      go_wp2
      go_ret
      exact ⟨ret_bool hN.symm, Below.refl _ _⟩
    have h3 : 24 < s.size := by simpa [h0, h1, h2] using hn
    clear hn
    go_wp2
    go_ret
    exact ⟨ret_bool hN.symm, Below.refl _ _⟩
  · have h0 : ¬ s.toList = [] := fun h => hn (.inl h)
    have h1 : ¬ s.toList = [46] := fun h => hn (.inr (.inl h))
    have h2 : ¬ s.toList = [46, 46] := fun h => hn (.inr (.inr (.inl h)))
    have h3 : s.size ≤ 24 := by
      have : ¬ 24 < s.size := fun h => hn (.inr (.inr (.inr h)))
      omega
    have hN : Hid _ := name_is h0 h1 h2 h3
    have e0 : s.toList.isEmpty = false := by cases h : s.toList with | nil => exact absurd h h0 | cons a l => rfl
    have e1 : (s.toList == [46]) = false := by simpa using h1
    have e2 : (s.toList == [46, 46]) = false := by simpa using h2
    have e3 : ¬ ((24 : Int) < s.size) := by omega
    clear hn h0 h1 h2 h3
    go_enter Tryz.func36, Tryz.ntmps36
    go_wp2
    clear e0 e1 e2 e3
    go_loopw [] (fun w' => ∃ pos, w' = w.iter s pos ∧ ∀ i, i < pos → ∃ h : i < s.size, plainB (s[i]'h).toNat = true) (fun w' => s.size - w'.iterPos w.heap.size)
    case atStart => exact ⟨0, rfl, fun i hi => absurd hi (by omega)⟩
    case round =>
      obtain ⟨pos, rfl, hall⟩ := hrel
      have HA : Hid _ := hall
      clear hall
      by_cases hp : pos < s.size
      · have hnx : ∀ ty, (Instr.next (.pointer (some ⟨w.heap.size, 0, none⟩)) true ty).run Tryz.prog (w.iter s pos) = _ := fun ty => run_next_any w s pos ty hp
        go_wp2_with fail
        refine (plain_any _ _).mono ?_
        rintro e w1 ⟨rfl, rfl⟩
        clear hnx
        by_cases ha : (s[pos]'hp).toNat < 128
        · rw [decode_ascii s pos hp ha]
          cases hb : plainB (s[pos]'hp).toNat with
          | true =>
            have HB : Hid _ := hb
            clear hb ha
            go_wp2
            go_roundw
            case rel =>
              refine ⟨pos + 1, rfl, fun i hi => ?_⟩
              by_cases hi' : i < pos
              · exact HA.out i hi'
              · obtain rfl : i = pos := by omega
                exact ⟨hp, HB.out⟩
            case measure => simp; omega
          | false =>
            have HB : Hid _ := hb
            clear hb ha
            go_wp2
            go_ret
            refine ⟨ret_bool ?_, (Below.refl _ _).alloc (Nat.le_refl _) _⟩
            rw [hN.out, all_not hp HB.out]
        · have hb : plainB (s[pos]'hp).toNat = false := by
            rw [← Bool.not_eq_true]
            intro h
            have := plain_low h
            omega
          have hd := (decode_high s pos hp (by omega)).1
          have hc : plainB ((Utf8.decode s pos).1 : Int) = false := by
            rw [← Bool.not_eq_true]
            intro h
            have := plain_low h
            omega
          rw [hc]
          have HB : Hid _ := hb
          clear hb ha hd hc
          go_wp2
          go_ret
          refine ⟨ret_bool ?_, (Below.refl _ _).alloc (Nat.le_refl _) _⟩
          rw [hN.out, all_not hp HB.out]
      · have hnx : ∀ ty, (Instr.next (.pointer (some ⟨w.heap.size, 0, none⟩)) true ty).run Tryz.prog (w.iter s pos) = _ := fun ty => run_next_end w s pos ty hp
        go_wp2
        go_ret
        refine ⟨ret_bool ?_, (Below.refl _ _).alloc (Nat.le_refl _) _⟩
        rw [hN.out, all_to fun i hi => HA.out i (by omega)]
end Go.Proofs.YtgfjjglejlnfbaaGreatDoor
