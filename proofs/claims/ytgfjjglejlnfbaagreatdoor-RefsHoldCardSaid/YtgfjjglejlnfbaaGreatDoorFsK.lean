/- The contract of slices.Concat of branches. -/
import Derived.Test.YtgfjjglejlnfbaaGreatDoorFsG
namespace Go.Proofs.YtgfjjglejlnfbaaGreatDoor
open Go.RowKit

/-- A slice of branches among several. -/
structure Pt where
  sp : Option Addr
  fs : List Re
  cap : Nat
def Pt.cells (p : Pt) : Array Value := #[.slice p.sp p.fs.length p.cap]
def sizeP (ps : List Pt) : Nat := (ps.map (·.fs.length)).sum
def flatP (ps : List Pt) : List Re := ps.flatMap (·.fs)
/-- Each lies there. -/
def PtsAt (w : World) (ps : List Pt) : Prop := ∀ p ∈ ps, RowsAt w 33 Re.cells p.sp p.fs ∧ (p.sp = none → p.fs.length = 0 ∧ p.cap = 0)

theorem growR_all (n : Nat) (w : World) (hn : n ≤ 100000) :
    Calls Tryz.prog 75 #[.slice none 0 0, .int .i64 n] w fun e w' => (∃ v, e = .returned v ∧ OwnR w.heap.size w' v []) ∧ Below w.heap.size w w' := by
  by_cases h : n = 0
  · subst h
    exact (growR_zero w).mono fun e w' h => ⟨⟨_, h.1, ownR_nil _ _⟩, h.2⟩
  · exact growR_any n w (by omega) hn
theorem sizeP_take {ps : List Pt} {t : Nat} {p : Pt} (h : ps[t]? = some p) : sizeP (ps.take (t + 1)) = sizeP (ps.take t) + p.fs.length := by
  unfold sizeP
  rw [List.take_add_one, h]
  simp
theorem flatP_take {ps : List Pt} {t : Nat} {p : Pt} (h : ps[t]? = some p) : flatP (ps.take (t + 1)) = flatP (ps.take t) ++ p.fs := by
  unfold flatP
  rw [List.take_add_one, h]
  simp
theorem sizeP_le {ps : List Pt} (t : Nat) : sizeP (ps.take t) ≤ sizeP ps := by
  have h : sizeP ps = sizeP (ps.take t) + sizeP (ps.drop t) := by
    unfold sizeP
    rw [← List.sum_append, ← List.map_append, List.take_append_drop]
  omega
theorem flatP_len (ps : List Pt) : (flatP ps).length = sizeP ps := by
  unfold flatP sizeP
  rw [List.length_flatMap]
theorem pt_cell {w : World} {b off i : Nat} {ps : List Pt} (h : RowsAt w 1 Pt.cells (some ⟨b, off, none⟩) ps) {p : Pt} (hp : ps[i]? = some p) : w.cell? ⟨b, off + i, none⟩ = some (.slice p.sp p.fs.length p.cap) := by
  obtain ⟨b', off', e, hc⟩ := h (by have := (List.getElem?_eq_some_iff.1 hp).1; omega)
  injection e with e
  injection e with e1 e2
  subst e1 e2
  have := hc i p hp 0 (.slice p.sp p.fs.length p.cap) rfl
  simpa using this

set_option maxRecDepth 100000 in
set_option maxHeartbeats 2000000 in
theorem concatR_any (sp : Option Addr) (cap : Nat) (ps : List Pt) (w : World) (hr : RowsAt w 1 Pt.cells sp ps) (hp : PtsAt w ps) (hl : ps.length ≤ 1000) (hz : sizeP ps ≤ 10000) :
    Calls Tryz.prog 40 #[.slice sp ps.length cap] w fun e w' => (∃ v, e = .returned v ∧ OwnR w.heap.size w' v (flatP ps)) ∧ Below w.heap.size w w' := by
  have HR : Hid (RowsAt w 1 Pt.cells sp ps) := hr
  have HP : Hid (PtsAt w ps) := hp
  clear hr hp
  go_enter Tryz.func40, Tryz.ntmps40
  go_wp2
  go_loopw [3, 11] (fun s i wr => ∃ t : Nat, t ≤ ps.length ∧ i = .int .i64 t ∧ s = .int .i64 (sizeP (ps.take t) : Nat) ∧ wr = w) (fun _ i _ => ps.length - (intOf i).toNat)
  case atStart => exact ⟨0, Nat.zero_le _, rfl, rfl, rfl⟩
  case round =>
    obtain ⟨t, ht, rfl, rfl, hw⟩ := hrel
    obtain rfl : w = wr := hw.symm
    clear hw
    by_cases hlt : t < ps.length
    · obtain ⟨b, off, rfl, -⟩ := HR.out (by omega)
      obtain ⟨p, hp⟩ : ∃ p, ps[t]? = some p := ⟨_, List.getElem?_eq_getElem hlt⟩
      have hc := pt_cell HR.out hp
      have hst := sizeP_take hp
      have hle := sizeP_le (ps := ps) (t + 1)
      have hd : decide ((t : Int) < (ps.length : Int)) = true := by simp; omega
      generalize hS : sizeP (ps.take t) = S at *
      have HST : Hid _ := hst
      have hSl : S + p.fs.length ≤ 10000 := by omega
      clear hst hle
      go_wp2
      go_roundw
      case rel => exact ⟨t + 1, by omega, by go_num, by rw [HST.out]; go_num, trivial⟩
      case measure => simp [intOf]; omega
    · obtain rfl : t = ps.length := by omega
      rw [List.take_length]
      have hd : decide ((ps.length : Int) < (ps.length : Int)) = false := by simp
      go_wp2_with (go_at_call 75; refine (growR_all (sizeP ps) w (by omega)).mono ?_; rintro e w2 ⟨⟨v, rfl, hO2⟩, hB2⟩; have HO2 : Hid _ := hO2; clear hO2)
      go_loopw [6, 27] (fun v i W => ∃ t : Nat, t ≤ ps.length ∧ i = .int .i64 t ∧ OwnR w.heap.size W v (flatP (ps.take t)) ∧ Below w.heap.size w W) (fun _ i _ => ps.length - (intOf i).toNat)
      case atStart => exact ⟨0, Nat.zero_le _, rfl, HO2.out, hB2⟩
      case round =>
        obtain ⟨t, ht, rfl, hO, hB⟩ := hrel
        have HO : Hid _ := hO
        clear hO HO2 hB2
        by_cases hlt : t < ps.length
        · obtain ⟨b, off, rfl, -⟩ := HR.out (by omega)
          obtain ⟨p, hp⟩ : ∃ p, ps[t]? = some p := ⟨_, List.getElem?_eq_getElem hlt⟩
          have hc := pt_cell (RowsAt.below HR.out hB) hp
          have HPP : Hid _ := HP.out p (List.mem_of_getElem? hp)
          have hr2 : Hid _ := RowsAt.below HPP.out.1 hB
          have HF : Hid _ := flatP_take hp
          have HL : Hid ((flatP (ps.take t)).length + p.fs.length ≤ 100000) := by
            have h1 := sizeP_le (ps := ps) (t + 1)
            have h2 := congrArg List.length (flatP_take hp)
            rw [flatP_len, List.length_append] at h2
            exact (show (flatP (ps.take t)).length + p.fs.length ≤ 100000 by omega)
          have hd' : decide ((t : Int) < (ps.length : Int)) = true := by simp; omega
          clear hp
          go_wp2_with (refine refs_append (by rfl) (.tmp 31) (.tmp 32) (by rfl) w.heap.size _ (flatP (ps.take t)) (by rfl) HO.out p.sp p.cap p.fs (by rfl) HPP.out.2 hr2.out (fun h => by obtain ⟨b', off', h', -⟩ := hr2.out h; exact ⟨b', off', h'⟩) HL.out hB.size ?_; intro v' w3 hO3 hg3 _; have HO3 : Hid _ := hO3; clear hO3; have hB3 := OwnR.grown (xs := flatP (ps.take t)) HO.out (Nat.le_refl _) hB.size hB hg3; clear hg3)
          go_roundw
          case rel => exact ⟨t + 1, by omega, by go_num, by rw [HF.out]; exact HO3.out, hB3⟩
          case measure => simp [intOf]; omega
        · obtain rfl : t = ps.length := by omega
          rw [List.take_length] at HO
          have hd' : decide ((ps.length : Int) < (ps.length : Int)) = false := by simp
          go_wp2
          go_ret
          exact ⟨⟨_, rfl, HO.out⟩, hB⟩
end Go.Proofs.YtgfjjglejlnfbaaGreatDoor
