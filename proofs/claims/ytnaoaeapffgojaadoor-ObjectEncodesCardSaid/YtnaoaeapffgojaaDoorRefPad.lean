/- The contract of the reference's Pad: the bytes that sha.Pad makes. -/
import Derived.Test.YtnaoaeapffgojaaDoorBoth
import Derived.Test.YtnaoaeapffgojaaDoorSum
namespace Go.Proofs.YtnaoaeapffgojaaDoor
open Go.RowKit

theorem pad_not (len t : Nat) (h : t < padZ len) : (len + 1 + t) % 64 ≠ 56 := by unfold padZ at h; omega
theorem padF_both (src : Nat → Int) (len i : Nat) (h : i < padLen len) : bothF (pad1F src len) (len + 1 + padZ len) (highTo (8 * len) 8 8) i = padF src len i := by
  unfold padLen at h
  unfold bothF padF putF highTo
  by_cases h1 : i < len + 1 + padZ len
  · rw [if_pos h1, if_pos h1]
  · rw [if_neg h1, if_neg h1, if_pos (by omega), if_pos (by omega), show 8 - 1 - (i - (len + 1 + padZ len)) = len + 1 + padZ len + 8 - 1 - i by omega]
theorem pad1_both (src : Nat → Int) (len i : Nat) (h : i < len + 1) : bothF src len (fun _ => 128) i = pad1F src len i := by
  unfold bothF pad1F upd
  dsimp only
  by_cases h1 : i < len
  · rw [if_pos h1, if_neg (by omega), if_pos h1]
  · rw [if_neg h1, if_pos (by omega)]
theorem pad1_past (src : Nat → Int) (len i : Nat) (h : len < i) : pad1F src len i = 0 := by
  unfold pad1F upd
  dsimp only
  rw [if_neg (by omega), if_neg (by omega)]

set_option maxRecDepth 100000 in
set_option maxHeartbeats 1000000 in
theorem refPad_any (sp : Option Addr) (len cap : Nat) (src : Nat → Int) (w : World) (hsrc : SrcAt w .u8 sp len src) (hlen : len ≤ 50000) :
    Calls Tryd.prog 48 #[.slice sp len cap] w fun e w' => ∃ v, e = .returned v ∧ OwnB w' w.heap.size v (padLen len) (padF src len) ∧ Below w.heap.size w w' := by
  have HS : Hid (SrcAt w .u8 sp len src) := hsrc
  clear hsrc
  go_enter Tryd.func48, Tryd.ntmps48
  go_wp2_with fail
  refine calls_gen (fun W1 => Below w.heap.size w W1 ∧ W1.heap[w.heap.size]? = some (.cells (arr .u8 1 fun _ => 128) 5 (0, 0))) ⟨?_, ?_⟩ ?_
  · exact (Below.refl _ _).alloc (Nat.le_refl _) _
  · exact (heap_alloc_new _ _).trans rfl
  intro W1 ⟨hB1, hrow⟩
  refine (both_any sp (some ⟨w.heap.size, 0, none⟩) len 1 cap 1 src (fun _ => 128) W1 (SrcAt.below HS.out hB1) (srcAt_row hrow (Nat.le_refl _)) (by omega) (by omega)).mono ?_
  rintro e w2 ⟨v2, rfl, hO2, hB2⟩
  have hBw : Below w.heap.size w w2 := hB1.trans (hB2.mono hB1.size)
  have HO : Hid (OwnB w2 w.heap.size v2 (len + 1) (pad1F src len)) := by
    have h := hO2.congr (pad1_both src len)
    refine ⟨h.1, ?_⟩
    rcases h.2 with h | ⟨g, c, cur, hv, hg, r⟩
    · exact .inl h
    · exact .inr ⟨g, c, cur, hv, Nat.le_trans hB1.size hg, r⟩
  clear hO2 hB1 hB2 hrow
  have hzl := padZ_lt len
  have hzm := padZ_mod len
  have hzn := pad_not len
  have HFIN : Hid (∀ i, i < len + 1 + padZ len + 8 → bothF (pad1F src len) (len + 1 + padZ len) (highTo (8 * len) 8 8) i = padF src len i) := padF_both src len
  have HL : Hid (padLen len = len + 1 + padZ len + 8) := rfl
  have HP := pad1_past src len
  generalize padZ len = z at *
  generalize pad1F src len = p1 at *
  have HZN : Hid _ := hzn
  have HPP : Hid _ := HP
  clear hzn HP
  go_wp2
  go_loopw [3] (fun v wr => ∃ t : Nat, t ≤ z ∧ OwnB wr w.heap.size v (len + 1 + t) p1 ∧ Below w.heap.size w wr) (fun v _ => len + 1 + z - sliceLen v)
  case atStart => exact ⟨0, Nat.zero_le _, HO.out, hBw⟩
  case round =>
    obtain ⟨t, ht, hown, hBr⟩ := hrel
    clear HO hBw
    have HO : Hid (OwnB wr w.heap.size u3 (len + 1 + t) p1) := hown
    obtain ⟨sq, cq, rfl, hsq, hcq, hcm⟩ := hown.src
    have HSQ : Hid (SrcAt wr .u8 sq (len + 1 + t) p1) := hsq
    unfold maxLen at hcm
    clear hown hsq
    by_cases hlt : t < z
    · have hne : (((len + 1 + t : Nat) : Int) % 64 != 56) = true := by
        have := HZN.out t hlt
        rw [bne_iff_ne]; omega
      have hp0 := HPP.out (len + 1 + t) (by omega)
      have HP0 : Hid _ := hp0
      clear hp0
      go_wp2_with (at_builtin; refine append_one (by rfl) (.tmp 11) (.tmp 12) (by rfl) w.heap.size (.slice sq (len + 1 + t) cq) (len + 1 + t) p1 0 (by rfl) wr (by rfl) (by rfl) HO.out HP0.out (by omega) w hBr hBr.size ?_; intro v1 w3 hO3 hB3)
      obtain ⟨sz, cz, rfl, _, _, _⟩ := hO3.out.src
      refine ⟨⟨t + 1, by omega, hO3.out, hB3⟩, ?_⟩
      simp only [sliceLen]
      omega
    · have htz : t = z := by omega
      have hne : (((len + 1 + t : Nat) : Int) % 64 != 56) = false := by rw [bne_eq_false_iff_eq]; omega
      have HTZ : Hid _ := htz
      clear htz
      go_wp2_with fail
      have hh := high_any (len * 8) 8 wr (by omega) (by omega) (by omega)
      refine hh.mono ?_
      rintro e w6 ⟨rfl, hr6, hB6⟩
      have HR6 : Hid _ := hr6
      clear hr6 hh
      go_wp2_with fail
      refine (both_any sq (some ⟨wr.heap.size, 0, none⟩) (len + 1 + t) 8 cq 8 p1 (highTo (len * 8) 8 8) w6 (SrcAt.below HSQ.out hB6) (srcAt_row HR6.out (Nat.le_refl _)) (by omega) (by omega)).mono ?_
      rintro e w7 ⟨v7, rfl, hO7, hB7⟩
      have HO7 : Hid (OwnB w7 w6.heap.size v7 (len + 1 + t + 8) (bothF p1 (len + 1 + t) (highTo (len * 8) 8 8))) := hO7
      clear hO7
      have hB67 : Below w.heap.size w w6 := hBr.trans (hB6.mono hBr.size)
      go_wp2
      go_ret
      refine ⟨v7, rfl, ?_, hB67.trans (hB7.mono hB67.size)⟩
      have h7 := HO7.out
      rw [HTZ.out, Int.mul_comm] at h7
      rw [HL.out]
      have h8 := h7.congr HFIN.out
      refine ⟨h8.1, ?_⟩
      rcases h8.2 with h | ⟨g, c, cur, hv, hg, r⟩
      · exact .inl h
      · exact .inr ⟨g, c, cur, hv, Nat.le_trans hB67.size hg, r⟩
end Go.Proofs.YtnaoaeapffgojaaDoor
