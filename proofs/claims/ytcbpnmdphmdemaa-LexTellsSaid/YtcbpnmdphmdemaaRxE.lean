/- The contract of the document's Quote. -/
import Derived.Test.YtcbpnmdphmdemaaRxD
namespace Go.Proofs.Ytcbpnmdphmdemaa
open Go.RowKit

/-- Two bytes are put behind a slice of one's own. -/
theorem push_two {B : Nat} {w wr : World} {v : Value} {acc : List UInt8} (c d : UInt8) (ho : OwnB B wr v acc) (hb : Below B w wr) (hB : B ≤ wr.heap.size) (hl : acc.length ≤ 900000) :
    ∃ v' w', (Builtin.append_ #[58, 58] 58 #[v, .slice (some ⟨wr.heap.size, 0, none⟩) 2 2]).run Try.prog (wr.alloc (.cells #[.int .u8 c.toNat, .int .u8 d.toNat] 5)) = .ok v' w' ∧ OwnB B w' v' (acc ++ [c, d]) ∧ Below B w w' := by
  have ba : Below wr.heap.size wr (wr.alloc (.cells #[.int .u8 c.toNat, .int .u8 d.toNat] 5)) := (Below.refl _ _).alloc (Nat.le_refl _) _
  have ho' := ho.below ba
  have hr : RowsAt (wr.alloc (.cells #[.int .u8 c.toNat, .int .u8 d.toNat] 5)) 1 byC (some ⟨wr.heap.size, 0, none⟩) [c, d] := BA.rows (fun _ => ⟨wr.heap.size, 0, rfl, fun i x hi => by
    rw [cell_of_row _ _ _ _ _ _ (heap_alloc_new wr _), Nat.zero_add]
    match i, hi with
    | 0, hi => have : c = x := by simpa using hi
               subst this; rfl
    | 1, hi => have : d = x := by simpa using hi
               subst this; rfl
    | k + 2, hi => simp at hi⟩)
  obtain ⟨v', w', hr, q1, q2, -⟩ := own_run elB (ys := [c, d]) (sp := some ⟨wr.heap.size, 0, none⟩) (cap := 2) 58 ho' (fun h => by cases h) hr (by simp; omega) (by simp; omega)
  exact ⟨v', w', hr, q1, OwnG.grown ho' (Nat.le_refl _) (by simp; omega) (hb.alloc hB _) q2⟩
set_option maxRecDepth 100000 in
set_option maxHeartbeats 4000000 in
theorem squote_any (s : ByteArray) (w : World) (hs : s.size ≤ 100000) : Calls Try.prog 23 #[.string s] w fun e w' => e = .returned (strB (quoO s.data.toList)) ∧ Below w.heap.size w w' := by
  have HS : Hid (s.size = s.data.toList.length) := by show s.size = s.data.toList.length; simp
  have hO0 : OwnB w.heap.size (w.alloc (.cells #[.int .u8 34] 5)) (.slice (some ⟨w.heap.size, 0, none⟩) 1 1) [34] := by
    refine ⟨by simp [flatG, byC], .inr ⟨w.heap.size, 1, _, rfl, Nat.le_refl _, heap_alloc_new _ _, by simp, by unfold maxLen; omega, rfl, rfl⟩⟩
  have HI : Hid (OwnB w.heap.size (w.alloc (.cells #[.int .u8 34] 5)) (.slice (some ⟨w.heap.size, 0, none⟩) 1 1) [34] ∧ Below w.heap.size w (w.alloc (.cells #[.int .u8 34] 5))) := ⟨hO0, (Below.refl _ _).alloc (Nat.le_refl _) _⟩
  clear hO0
  go_enter Try.func23, Try.ntmps23
  go_wp2
  go_loopw [4, 10] (fun u i wr => ∃ (t : Nat) (acc : List UInt8), t ≤ s.size ∧ i = .int .i64 t ∧ OwnB w.heap.size wr u acc ∧ Below w.heap.size w wr ∧ acc.length ≤ 1 + 2 * t ∧ quoG acc (s.data.toList.drop t) = quoO s.data.toList) (fun _ i _ => s.size - (intOf i).toNat)
  case atStart => exact ⟨0, [34], Nat.zero_le _, rfl, HI.out.1, HI.out.2, by simp, rfl⟩
  case round =>
    clear HI
    obtain ⟨t, acc, ht, rfl, hown, hbel, hal, hqu⟩ := hrel
    have HO : Hid (OwnB w.heap.size wr u4 acc) := hown
    have HB : Hid (Below w.heap.size w wr) := hbel
    have HQU : Hid (quoG acc (s.data.toList.drop t) = quoO s.data.toList) := hqu
    clear hown hbel hqu
    by_cases hlt : t < s.size
    · have hd : decide ((t : Int) < s.size) = true := decide_eq_true (by omega)
      have hB := byte_at hlt
      obtain ⟨c, HC⟩ : ∃ c, Hid (s[t]'hlt = c) := ⟨_, rfl⟩
      rw [HC.out] at hB
      have HBY : Hid (s.data.toList[t]? = some c) := hB
      clear hB
      have REL : ∀ (x : List UInt8) (v' : Value) (w' : World), quoB c = some x → x.length ≤ 2 → OwnB w.heap.size w' v' (acc ++ x) → Below w.heap.size w w' → Hid (∃ (t' : Nat) (acc : List UInt8), t' ≤ s.size ∧ Value.int .i64 ((t : Int) + 1) = .int .i64 t' ∧ OwnB w.heap.size w' v' acc ∧ Below w.heap.size w w' ∧ acc.length ≤ 1 + 2 * t' ∧ quoG acc (s.data.toList.drop t') = quoO s.data.toList) := fun x v' w' hq hx ho' hb' => ⟨t + 1, acc ++ x, by omega, by go_num, ho', hb', by rw [List.length_append]; omega, quo_go HBY.out HQU.out hq⟩
      by_cases h10 : c.toNat = 10
      · have a10 : (((s[t]'hlt).toNat : Int) == 10) = true := by rw [HC.out, beq_iff_eq]; omega
        obtain ⟨v', w', hr, ho', hb'⟩ := push_two 92 110 HO.out HB.out HB.out.size (by omega)
        have RR := REL [92, 110] v' w' (by unfold quoB; rw [if_neg (by omega), if_pos h10]) (by simp) ho' hb'
        clear REL ho' hb'
        go_wp2_with (at_builtin; refine list_appendg (.tmp 23) (.tmp 24) 58 (by rfl) (by rfl) (by rfl) (by rfl) hr ?_)
        exact ⟨RR.out, by simp [intOf]; omega⟩
      · have a10 : (((s[t]'hlt).toNat : Int) == 10) = false := by rw [HC.out, beq_eq_false_iff_ne]; omega
        by_cases hq : c.toNat = 34 ∨ c.toNat = 92
        · obtain ⟨v', w', hr, ho', hb'⟩ := push_two 92 c HO.out HB.out HB.out.size (by omega)
          have RR := REL [92, c] v' w' (by unfold quoB; rw [if_pos hq]) (by simp) ho' hb'
          rw [← HC.out] at hr
          clear REL ho' hb'
          by_cases h34 : c.toNat = 34
          · have a34 : (((s[t]'hlt).toNat : Int) == 34) = true := by rw [HC.out, beq_iff_eq]; omega
            go_wp2_with (at_builtin; refine list_appendg (.tmp 33) (.tmp 35) 58 (by rfl) (by rfl) (by rfl) (by rfl) hr ?_)
            exact ⟨RR.out, by simp [intOf]; omega⟩
          · have a34 : (((s[t]'hlt).toNat : Int) == 34) = false := by rw [HC.out, beq_eq_false_iff_ne]; omega
            have a92 : (((s[t]'hlt).toNat : Int) == 92) = true := by rw [HC.out, beq_iff_eq]; omega
            go_wp2_with (at_builtin; refine list_appendg (.tmp 33) (.tmp 35) 58 (by rfl) (by rfl) (by rfl) (by rfl) hr ?_)
            exact ⟨RR.out, by simp [intOf]; omega⟩
        · have a34 : (((s[t]'hlt).toNat : Int) == 34) = false := by rw [HC.out, beq_eq_false_iff_ne]; omega
          have a92 : (((s[t]'hlt).toNat : Int) == 92) = false := by rw [HC.out, beq_eq_false_iff_ne]; omega
          cases hpl : plnB c.toNat
          · have HNO : Hid (quoO s.data.toList = none) := quo_no HBY.out HQU.out (by unfold quoB; rw [if_neg hq, if_neg h10, hpl]; rfl)
            by_cases h32 : c.toNat < 32
            · have a32 : ((s[t]'hlt).toNat : Int) < 32 := by rw [HC.out]; omega
              go_wp2
              go_ret2
              refine ⟨?_, HB.out⟩
              rw [HNO.out]
              exact rfl
            · have a32 : ¬ ((s[t]'hlt).toNat : Int) < 32 := by rw [HC.out]; omega
              have a126 : ((s[t]'hlt).toNat : Int) > 126 := by
                rw [HC.out]
                simp [plnB] at hpl
                omega
              go_wp2
              go_ret2
              refine ⟨?_, HB.out⟩
              rw [HNO.out]
              exact rfl
          · have hpl' : 32 ≤ (c.toNat : Int) ∧ (c.toNat : Int) ≤ 126 := by simpa [plnB] using hpl
            have a32 : ¬ ((s[t]'hlt).toNat : Int) < 32 := by rw [HC.out]; omega
            have a126 : ¬ ((s[t]'hlt).toNat : Int) > 126 := by rw [HC.out]; omega
            obtain ⟨v', w', hr, ho', hb'⟩ := push_byte c HO.out HB.out HB.out.size (by omega)
            have RR := REL [c] v' w' (by unfold quoB; rw [if_neg hq, if_neg h10, hpl]; rfl) (by simp) ho' hb'
            rw [← HC.out] at hr
            clear REL ho' hb' hpl hpl'
            go_wp2_with (at_builtin; refine list_appendg (.tmp 16) (.tmp 18) 58 (by rfl) (by rfl) (by rfl) (by rfl) hr ?_)
            exact ⟨RR.out, by simp [intOf]; omega⟩
    · have hd : decide ((t : Int) < s.size) = false := decide_eq_false (by omega)
      have HY : Hid (quoO s.data.toList = some (acc ++ [34])) := by rw [← HQU.out, List.drop_eq_nil_of_le (by have := HS.out; omega)]; exact rfl
      obtain ⟨v', w', hr, ho', hb'⟩ := push_byte 34 HO.out HB.out HB.out.size (by omega)
      obtain ⟨su, cu, rfl, hRu, -, -, -⟩ := OwnG.rows elB ho'
      have hcv := conv_str (BA.of_rows hRu) cu
      have HBB : Hid (Below w.heap.size w w') := hb'
      have hlen : (acc ++ [(34 : UInt8)]).length = acc.length + 1 := by simp
      rw [hlen] at hcv hr
      clear hRu ho' hb'
      go_wp2_with (at_builtin; refine list_appendg (.tmp 45) (.tmp 46) 58 (by rfl) (by rfl) (by rfl) (by rfl) hr ?_)
      go_ret2
      refine ⟨?_, HBB.out⟩
      rw [HY.out]
      exact rfl
end Go.Proofs.Ytcbpnmdphmdemaa
