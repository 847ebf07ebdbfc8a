/- The contract of the document's sign. -/
import Derived.Test.YtcbpnmdphmdemaaRxC
import Derived.Lib.SlBytesConst
namespace Go.Proofs.Ytcbpnmdphmdemaa
open Go.RowKit

/-- The six signs of two bytes that the document's list has, and the signs of one. -/
def six : List (List UInt8) := [[58, 61], [61, 61], [33, 61], [60, 61], [62, 61], [38, 38]]
def ones : List UInt8 := [40, 41, 123, 125, 91, 93, 44, 46, 58, 61, 43, 45, 42, 47, 37, 60, 62, 33]
theorem sig1_ones (c : UInt8) : sig1 c = ones.any (fun d => c == d) := by simp only [sig1, ones, List.any_cons, List.any_nil, Bool.or_false, Bool.or_assoc]
theorem sig2_six (x : List UInt8) : sig2 x = (six.any (fun d => x == d) || x == [124, 124]) := by simp only [sig2, six, List.any_cons, List.any_nil, Bool.or_false, Bool.or_assoc]
theorem ones_cell (w : World) (t : TypeId) (fr : Nat × Nat) : ∀ j (d : UInt8), ones[j]? = some d → (w.alloc (.cells #[.int .u8 40, .int .u8 41, .int .u8 123, .int .u8 125, .int .u8 91, .int .u8 93, .int .u8 44, .int .u8 46, .int .u8 58, .int .u8 61, .int .u8 43, .int .u8 45, .int .u8 42, .int .u8 47, .int .u8 37, .int .u8 60, .int .u8 62, .int .u8 33] t fr)).cell? ⟨w.heap.size, j, none⟩ = some (.int .u8 d.toNat) := fun j d hj => by
  rw [cell_of_row _ _ _ _ _ _ (heap_alloc_new w _)]
  have e : (#[.int .u8 40, .int .u8 41, .int .u8 123, .int .u8 125, .int .u8 91, .int .u8 93, .int .u8 44, .int .u8 46, .int .u8 58, .int .u8 61, .int .u8 43, .int .u8 45, .int .u8 42, .int .u8 47, .int .u8 37, .int .u8 60, .int .u8 62, .int .u8 33] : Array Value) = (ones.map (fun d => Value.int .u8 d.toNat)).toArray := rfl
  rw [e]
  obtain ⟨h1, h2⟩ := List.getElem?_eq_some_iff.1 hj
  simp [h1, h2]
theorem sig2_short {L : List UInt8} (h : L.length < 2) : sig2 (L.take 2) = false := by
  match L, h with
  | [], _ => rfl
  | [c], _ => simp [sig2]
theorem byte_at0 {s : ByteArray} (hp : 0 < s.size) : s.data.toList[0]? = some (s[0]'hp) := by
  rw [List.getElem?_eq_getElem (by simpa using hp)]
  simp [ByteArray.getElem_eq_getElem_data]
set_option pp.deepTerms.threshold 2000 in
set_option maxRecDepth 100000 in
set_option maxHeartbeats 4000000 in
theorem ssign_any (s : ByteArray) (w : World) (hs : s.size ≤ 100000) : Calls Try.prog 53 #[.string s] w fun e w' => e = .returned (.int .i64 (sigR s.data.toList).1) ∧ Below w.heap.size w w' := by
  have HSL : Hid (s.data.toList.length = s.size) := by show s.data.toList.length = s.size; simp
  obtain ⟨x, hx, HX⟩ : ∃ x : List UInt8, (s.extract 0 2).toList = x ∧ Hid (s.data.toList.take 2 = x) := ⟨_, rfl, by
    show _ = _
    rw [ByteArray.toList_eq]
    simp [ByteArray.data_extract, List.extract_eq_take_drop]⟩
  go_enter Try.func53, Try.ntmps53
  go_wp2
  go_loopw [8] (fun i wr => ∃ t : Nat, t ≤ 6 ∧ i = .int .i64 t ∧ wr = w ∧ (1 < s.size → ∀ j d, j < t → six[j]? = some d → (x == d) = false)) (fun i _ => 6 - (intOf i).toNat)
  case atStart => exact ⟨0, Nat.zero_le _, rfl, rfl, fun _ j d hj => by omega⟩
  case round =>
    obtain ⟨t, ht, rfl, rfl, hall⟩ := hrel
    have HA : Hid (1 < s.size → ∀ j d, j < t → six[j]? = some d → (x == d) = false) := hall
    clear hall
    by_cases h6 : t = 6
    · subst h6
      have H6 : Hid (1 < s.size → six.any (fun d => x == d) = false) := by
        show _ → _
        intro h1
        rw [List.any_eq_false]
        intro d hd
        obtain ⟨j, hj, rfl⟩ := List.mem_iff_getElem.1 hd
        rw [HA.out h1 j _ hj (List.getElem?_eq_getElem hj)]
        simp
      clear HA
      by_cases h1 : 1 < s.size
      · have h1' : decide ((s.size : Int) > 1) = true := by simp; omega
        have h2' : (2 : Int) ≤ s.size := by omega
        cases a7 : ((s.extract 0 2).toList == [124, 124])
        rotate_left
        · have HR : Hid ((sigR s.data.toList).1 = 2) := by
            show _ = _
            unfold sigR
            rw [HX.out, sig2_six, ← hx, a7, Bool.or_true]
            rfl
          clear HX H6 hx
          go_wp2
          go_ret
          exact ⟨by rw [HR.out]; rfl, Below.refl _ _⟩
        · have H2 : Hid (sig2 (s.data.toList.take 2) = false) := by
            show _ = _
            rw [HX.out, sig2_six, H6.out h1, ← hx, a7]
            rfl
          have hne : ((s.toList : List UInt8) == []) = false := by
            rw [beq_eq_false_iff_ne, ByteArray.toList_eq]
            intro h
            have := congrArg List.length h
            rw [HSL.out] at this
            have h00 : s.size = 0 := this
            omega
          clear HX H6
          have hp : 0 < s.size := by omega
          have hp' : (0 : Int) < s.size := by omega
          obtain ⟨c, HC⟩ : ∃ c, Hid (s[0]'hp = c) := ⟨_, rfl⟩
          have HCR : Hid ((sigR s.data.toList).1 = if sig1 c then 1 else 0) := by
            show _ = _
            have h3 := H2.out
            have h0 := byte_at0 hp
            rw [HC.out] at h0
            generalize s.data.toList = M at h3 h0
            match M, h3, h0 with
            | d :: r, h3, h0 =>
              have : d = c := by simpa using h0
              subst this
              unfold sigR
              rw [h3, if_neg (by simp)]
              show (if sig1 d = true then ((1 : Nat), (0 : Int)) else (0, 200)).1 = _
              split <;> rfl
          clear H2 hx
          obtain ⟨w0, hw0⟩ : ∃ w0, w0 = wr := ⟨_, rfl⟩
          subst hw0
          have hcv := Lib.run_convert_bytes_const (P := Try.prog) w0 58 5 #[.int .u8 40, .int .u8 41, .int .u8 123, .int .u8 125, .int .u8 91, .int .u8 93, .int .u8 44, .int .u8 46, .int .u8 58, .int .u8 61, .int .u8 43, .int .u8 45, .int .u8 42, .int .u8 47, .int .u8 37, .int .u8 60, .int .u8 62, .int .u8 33] 18 18 Try.underlying58 Try.underlying5
          obtain ⟨WA, HWA⟩ : ∃ WA, Hid (w0.alloc (.cells #[.int .u8 40, .int .u8 41, .int .u8 123, .int .u8 125, .int .u8 91, .int .u8 93, .int .u8 44, .int .u8 46, .int .u8 58, .int .u8 61, .int .u8 43, .int .u8 45, .int .u8 42, .int .u8 47, .int .u8 37, .int .u8 60, .int .u8 62, .int .u8 33] 5 (18, 19)) = WA) := ⟨_, rfl⟩
          have hcv' : (convert 58 58 (.slice (some ⟨w0.heap.size, 0, none⟩) 18 18)).run Try.prog (w0.alloc (.cells #[.int .u8 40, .int .u8 41, .int .u8 123, .int .u8 125, .int .u8 91, .int .u8 93, .int .u8 44, .int .u8 46, .int .u8 58, .int .u8 61, .int .u8 43, .int .u8 45, .int .u8 42, .int .u8 47, .int .u8 37, .int .u8 60, .int .u8 62, .int .u8 33] 5)) = .ok (.slice (some ⟨w0.heap.size, 0, none⟩) 18 18) WA := by
            rw [hcv]
            exact congrArg _ HWA.out
          have HCL : Hid (∀ j (d : UInt8), ones[j]? = some d → WA.cell? ⟨w0.heap.size, j, none⟩ = some (.int .u8 d.toNat)) := by
            show ∀ j (d : UInt8), ones[j]? = some d → WA.cell? ⟨w0.heap.size, j, none⟩ = some (.int .u8 d.toNat)
            intro j d hj
            rw [← HWA.out]
            exact ones_cell w0 5 (18, 19) j d hj
          have HBB : Hid (Below w0.heap.size w0 WA) := by
            show Below w0.heap.size w0 WA
            rw [← HWA.out]
            exact (Below.refl _ _).alloc (Nat.le_refl _) _
          clear hcv HWA
          go_wp2
          clear hcv'
          go_loopw [34] (fun i wr' => ∃ t : Nat, t ≤ 18 ∧ i = .int .i64 t ∧ wr' = WA ∧ ∀ j d, j < t → ones[j]? = some d → (c == d) = false) (fun i _ => 18 - (intOf i).toNat)
          case atStart => exact ⟨0, Nat.zero_le _, rfl, rfl, fun j d hj => by omega⟩
          case round =>
            obtain ⟨t, ht, rfl, rfl, hall⟩ := hrel
            have HA : Hid (∀ j d, j < t → ones[j]? = some d → (c == d) = false) := hall
            clear hall
            by_cases hlt : t < 18
            · have hd : decide ((t : Int) < 18) = true := decide_eq_true (by omega)
              obtain ⟨d, hdd⟩ : ∃ d, ones[t]? = some d := ⟨_, List.getElem?_eq_getElem hlt⟩
              have k0 := HCL.out t d hdd
              cases a : (c == d)
              · have a' : (((s[0]'hp).toNat : Int) == (d.toNat : Int)) = false := by rw [HC.out, u8_int]; exact a
                have RR : Hid ((∃ t' : Nat, t' ≤ 18 ∧ Value.int .i64 ((t : Int) + 1) = .int .i64 t' ∧ True ∧ ∀ j d, j < t' → ones[j]? = some d → (c == d) = false) ∧ 18 - (intOf (.int .i64 ((t : Int) + 1))).toNat < 18 - (intOf (.int .i64 (t : Int))).toNat) := by
                  refine ⟨⟨t + 1, by omega, by go_num, trivial, fun j d' hj hd' => ?_⟩, by simp [intOf]; omega⟩
                  by_cases hk : j = t
                  · subst hk
                    rw [hdd] at hd'
                    injection hd' with hd'
                    rw [← hd']
                    exact a
                  · exact HA.out j d' (by omega) hd'
                clear HA HCR HCL hdd
                go_wp2
                exact RR.out
              · have a' : (((s[0]'hp).toNat : Int) == (d.toNat : Int)) = true := by rw [HC.out, u8_int]; exact a
                have HR : Hid ((sigR s.data.toList).1 = 1) := by
                  show _ = _
                  rw [HCR.out, if_pos]
                  rw [sig1_ones, List.any_eq_true]
                  exact ⟨d, List.mem_of_getElem? hdd, a⟩
                clear HA HCR HCL hdd
                go_wp2
                go_ret
                exact ⟨by rw [HR.out]; rfl, HBB.out⟩
            · have hd : decide ((t : Int) < 18) = false := decide_eq_false (by omega)
              have HR : Hid ((sigR s.data.toList).1 = 0) := by
                show _ = _
                rw [HCR.out, if_neg]
                rw [sig1_ones, Bool.not_eq_true, List.any_eq_false]
                intro d hdd
                obtain ⟨j, hj, rfl⟩ := List.mem_iff_getElem.1 hdd
                have hj' : j < 18 := hj
                rw [HA.out j _ (by omega) (List.getElem?_eq_getElem hj)]
                simp
              clear HA HCR HCL
              go_wp2
              go_ret
              exact ⟨by rw [HR.out]; rfl, HBB.out⟩
      · have h1' : decide ((s.size : Int) > 1) = false := by simp; omega
        have H2 : Hid (sig2 (s.data.toList.take 2) = false) := sig2_short (by rw [HSL.out]; omega)
        clear HX H6
        by_cases h0 : s.size = 0
        · have hne : ((s.toList : List UInt8) == []) = true := by
            rw [beq_iff_eq, ByteArray.toList_eq]
            exact List.eq_nil_of_length_eq_zero (by rw [HSL.out]; exact h0)
          have HR : Hid ((sigR s.data.toList).1 = 0) := by
            show _ = _
            rw [List.eq_nil_of_length_eq_zero (l := s.data.toList) (by rw [HSL.out]; exact h0)]
            rfl
          clear h0
          go_wp2
          go_ret
          exact ⟨by rw [HR.out]; rfl, Below.refl _ _⟩
        · have hne : ((s.toList : List UInt8) == []) = false := by
            rw [beq_eq_false_iff_ne, ByteArray.toList_eq]
            intro h
            have := congrArg List.length h
            rw [HSL.out] at this
            have h00 : s.size = 0 := this
            omega
          have hp : 0 < s.size := by omega
          have hp' : (0 : Int) < s.size := by omega
          obtain ⟨c, HC⟩ : ∃ c, Hid (s[0]'hp = c) := ⟨_, rfl⟩
          have HCR : Hid ((sigR s.data.toList).1 = if sig1 c then 1 else 0) := by
            show _ = _
            have h3 := H2.out
            have h0 := byte_at0 hp
            rw [HC.out] at h0
            generalize s.data.toList = M at h3 h0
            match M, h3, h0 with
            | d :: r, h3, h0 =>
              have : d = c := by simpa using h0
              subst this
              unfold sigR
              rw [h3, if_neg (by simp)]
              show (if sig1 d = true then ((1 : Nat), (0 : Int)) else (0, 200)).1 = _
              split <;> rfl
          clear H2 hx
          obtain ⟨w0, hw0⟩ : ∃ w0, w0 = wr := ⟨_, rfl⟩
          subst hw0
          have hcv := Lib.run_convert_bytes_const (P := Try.prog) w0 58 5 #[.int .u8 40, .int .u8 41, .int .u8 123, .int .u8 125, .int .u8 91, .int .u8 93, .int .u8 44, .int .u8 46, .int .u8 58, .int .u8 61, .int .u8 43, .int .u8 45, .int .u8 42, .int .u8 47, .int .u8 37, .int .u8 60, .int .u8 62, .int .u8 33] 18 18 Try.underlying58 Try.underlying5
          obtain ⟨WA, HWA⟩ : ∃ WA, Hid (w0.alloc (.cells #[.int .u8 40, .int .u8 41, .int .u8 123, .int .u8 125, .int .u8 91, .int .u8 93, .int .u8 44, .int .u8 46, .int .u8 58, .int .u8 61, .int .u8 43, .int .u8 45, .int .u8 42, .int .u8 47, .int .u8 37, .int .u8 60, .int .u8 62, .int .u8 33] 5 (18, 19)) = WA) := ⟨_, rfl⟩
          have hcv' : (convert 58 58 (.slice (some ⟨w0.heap.size, 0, none⟩) 18 18)).run Try.prog (w0.alloc (.cells #[.int .u8 40, .int .u8 41, .int .u8 123, .int .u8 125, .int .u8 91, .int .u8 93, .int .u8 44, .int .u8 46, .int .u8 58, .int .u8 61, .int .u8 43, .int .u8 45, .int .u8 42, .int .u8 47, .int .u8 37, .int .u8 60, .int .u8 62, .int .u8 33] 5)) = .ok (.slice (some ⟨w0.heap.size, 0, none⟩) 18 18) WA := by
            rw [hcv]
            exact congrArg _ HWA.out
          have HCL : Hid (∀ j (d : UInt8), ones[j]? = some d → WA.cell? ⟨w0.heap.size, j, none⟩ = some (.int .u8 d.toNat)) := by
            show ∀ j (d : UInt8), ones[j]? = some d → WA.cell? ⟨w0.heap.size, j, none⟩ = some (.int .u8 d.toNat)
            intro j d hj
            rw [← HWA.out]
            exact ones_cell w0 5 (18, 19) j d hj
          have HBB : Hid (Below w0.heap.size w0 WA) := by
            show Below w0.heap.size w0 WA
            rw [← HWA.out]
            exact (Below.refl _ _).alloc (Nat.le_refl _) _
          clear hcv HWA
          go_wp2
          clear hcv'
          go_loopw [34] (fun i wr' => ∃ t : Nat, t ≤ 18 ∧ i = .int .i64 t ∧ wr' = WA ∧ ∀ j d, j < t → ones[j]? = some d → (c == d) = false) (fun i _ => 18 - (intOf i).toNat)
          case atStart => exact ⟨0, Nat.zero_le _, rfl, rfl, fun j d hj => by omega⟩
          case round =>
            obtain ⟨t, ht, rfl, rfl, hall⟩ := hrel
            have HA : Hid (∀ j d, j < t → ones[j]? = some d → (c == d) = false) := hall
            clear hall
            by_cases hlt : t < 18
            · have hd : decide ((t : Int) < 18) = true := decide_eq_true (by omega)
              obtain ⟨d, hdd⟩ : ∃ d, ones[t]? = some d := ⟨_, List.getElem?_eq_getElem hlt⟩
              have k0 := HCL.out t d hdd
              cases a : (c == d)
              · have a' : (((s[0]'hp).toNat : Int) == (d.toNat : Int)) = false := by rw [HC.out, u8_int]; exact a
                have RR : Hid ((∃ t' : Nat, t' ≤ 18 ∧ Value.int .i64 ((t : Int) + 1) = .int .i64 t' ∧ True ∧ ∀ j d, j < t' → ones[j]? = some d → (c == d) = false) ∧ 18 - (intOf (.int .i64 ((t : Int) + 1))).toNat < 18 - (intOf (.int .i64 (t : Int))).toNat) := by
                  refine ⟨⟨t + 1, by omega, by go_num, trivial, fun j d' hj hd' => ?_⟩, by simp [intOf]; omega⟩
                  by_cases hk : j = t
                  · subst hk
                    rw [hdd] at hd'
                    injection hd' with hd'
                    rw [← hd']
                    exact a
                  · exact HA.out j d' (by omega) hd'
                clear HA HCR HCL hdd
                go_wp2
                exact RR.out
              · have a' : (((s[0]'hp).toNat : Int) == (d.toNat : Int)) = true := by rw [HC.out, u8_int]; exact a
                have HR : Hid ((sigR s.data.toList).1 = 1) := by
                  show _ = _
                  rw [HCR.out, if_pos]
                  rw [sig1_ones, List.any_eq_true]
                  exact ⟨d, List.mem_of_getElem? hdd, a⟩
                clear HA HCR HCL hdd
                go_wp2
                go_ret
                exact ⟨by rw [HR.out]; rfl, HBB.out⟩
            · have hd : decide ((t : Int) < 18) = false := decide_eq_false (by omega)
              have HR : Hid ((sigR s.data.toList).1 = 0) := by
                show _ = _
                rw [HCR.out, if_neg]
                rw [sig1_ones, Bool.not_eq_true, List.any_eq_false]
                intro d hdd
                obtain ⟨j, hj, rfl⟩ := List.mem_iff_getElem.1 hdd
                have hj' : j < 18 := hj
                rw [HA.out j _ (by omega) (List.getElem?_eq_getElem hj)]
                simp
              clear HA HCR HCL
              go_wp2
              go_ret
              exact ⟨by rw [HR.out]; rfl, HBB.out⟩
    · obtain rfl | rfl | rfl | rfl | rfl | rfl : t = 0 ∨ t = 1 ∨ t = 2 ∨ t = 3 ∨ t = 4 ∨ t = 5 := by omega
      · have hI : Sem.run Try.prog (Instr.index 93 (.agg #[.string ⟨#[58, 61]⟩, .string ⟨#[61, 61]⟩, .string ⟨#[33, 61]⟩, .string ⟨#[60, 61]⟩, .string ⟨#[62, 61]⟩, .string ⟨#[38, 38]⟩]) (.int .i64 0)) wr = .ok (.string ⟨#[58, 61]⟩) wr := by rfl
        by_cases h1 : 1 < s.size
        · have h1' : decide ((s.size : Int) > 1) = true := by simp; omega
          have h2' : (2 : Int) ≤ s.size := by omega
          cases a : ((s.extract 0 2).toList == [58, 61])
          · have RR : Hid ((∃ t : Nat, t ≤ 6 ∧ Value.int .i64 1 = .int .i64 t ∧ True ∧ (1 < s.size → ∀ j d, j < t → six[j]? = some d → (x == d) = false)) ∧ 6 - (intOf (.int .i64 1)).toNat < 6 - (intOf (.int .i64 (0 : Nat))).toNat) := by
              refine ⟨⟨1, by omega, rfl, trivial, fun h1 j d hj hd => ?_⟩, by decide⟩
              by_cases hk : j = 0
              · subst hk
                have : [58, 61] = d := by simpa [six] using hd
                rw [← this, ← hx]
                exact a
              · exact HA.out h1 j d (by omega) hd
            clear HA HX hx
            go_wp2
            exact RR.out
          · have HR : Hid ((sigR s.data.toList).1 = 2) := by
              show _ = _
              unfold sigR
              rw [HX.out, sig2_six, ← hx]
              rw [if_pos]
              simp [six, a]
            clear HA HX hx
            go_wp2
            go_ret
            exact ⟨by rw [HR.out]; rfl, Below.refl _ _⟩
        · have h1' : decide ((s.size : Int) > 1) = false := by simp; omega
          have RR : Hid ((∃ t : Nat, t ≤ 6 ∧ Value.int .i64 1 = .int .i64 t ∧ True ∧ (1 < s.size → ∀ j d, j < t → six[j]? = some d → (x == d) = false)) ∧ 6 - (intOf (.int .i64 1)).toNat < 6 - (intOf (.int .i64 (0 : Nat))).toNat) := by
            refine ⟨⟨1, by omega, rfl, trivial, fun h => absurd h h1⟩, by decide⟩
          clear HA HX hx
          go_wp2
          exact RR.out
      · have hI : Sem.run Try.prog (Instr.index 93 (.agg #[.string ⟨#[58, 61]⟩, .string ⟨#[61, 61]⟩, .string ⟨#[33, 61]⟩, .string ⟨#[60, 61]⟩, .string ⟨#[62, 61]⟩, .string ⟨#[38, 38]⟩]) (.int .i64 1)) wr = .ok (.string ⟨#[61, 61]⟩) wr := by rfl
        by_cases h1 : 1 < s.size
        · have h1' : decide ((s.size : Int) > 1) = true := by simp; omega
          have h2' : (2 : Int) ≤ s.size := by omega
          cases a : ((s.extract 0 2).toList == [61, 61])
          · have RR : Hid ((∃ t : Nat, t ≤ 6 ∧ Value.int .i64 2 = .int .i64 t ∧ True ∧ (1 < s.size → ∀ j d, j < t → six[j]? = some d → (x == d) = false)) ∧ 6 - (intOf (.int .i64 2)).toNat < 6 - (intOf (.int .i64 (1 : Nat))).toNat) := by
              refine ⟨⟨2, by omega, rfl, trivial, fun h1 j d hj hd => ?_⟩, by decide⟩
              by_cases hk : j = 1
              · subst hk
                have : [61, 61] = d := by simpa [six] using hd
                rw [← this, ← hx]
                exact a
              · exact HA.out h1 j d (by omega) hd
            clear HA HX hx
            go_wp2
            exact RR.out
          · have HR : Hid ((sigR s.data.toList).1 = 2) := by
              show _ = _
              unfold sigR
              rw [HX.out, sig2_six, ← hx]
              rw [if_pos]
              simp [six, a]
            clear HA HX hx
            go_wp2
            go_ret
            exact ⟨by rw [HR.out]; rfl, Below.refl _ _⟩
        · have h1' : decide ((s.size : Int) > 1) = false := by simp; omega
          have RR : Hid ((∃ t : Nat, t ≤ 6 ∧ Value.int .i64 2 = .int .i64 t ∧ True ∧ (1 < s.size → ∀ j d, j < t → six[j]? = some d → (x == d) = false)) ∧ 6 - (intOf (.int .i64 2)).toNat < 6 - (intOf (.int .i64 (1 : Nat))).toNat) := by
            refine ⟨⟨2, by omega, rfl, trivial, fun h => absurd h h1⟩, by decide⟩
          clear HA HX hx
          go_wp2
          exact RR.out
      · have hI : Sem.run Try.prog (Instr.index 93 (.agg #[.string ⟨#[58, 61]⟩, .string ⟨#[61, 61]⟩, .string ⟨#[33, 61]⟩, .string ⟨#[60, 61]⟩, .string ⟨#[62, 61]⟩, .string ⟨#[38, 38]⟩]) (.int .i64 2)) wr = .ok (.string ⟨#[33, 61]⟩) wr := by rfl
        by_cases h1 : 1 < s.size
        · have h1' : decide ((s.size : Int) > 1) = true := by simp; omega
          have h2' : (2 : Int) ≤ s.size := by omega
          cases a : ((s.extract 0 2).toList == [33, 61])
          · have RR : Hid ((∃ t : Nat, t ≤ 6 ∧ Value.int .i64 3 = .int .i64 t ∧ True ∧ (1 < s.size → ∀ j d, j < t → six[j]? = some d → (x == d) = false)) ∧ 6 - (intOf (.int .i64 3)).toNat < 6 - (intOf (.int .i64 (2 : Nat))).toNat) := by
              refine ⟨⟨3, by omega, rfl, trivial, fun h1 j d hj hd => ?_⟩, by decide⟩
              by_cases hk : j = 2
              · subst hk
                have : [33, 61] = d := by simpa [six] using hd
                rw [← this, ← hx]
                exact a
              · exact HA.out h1 j d (by omega) hd
            clear HA HX hx
            go_wp2
            exact RR.out
          · have HR : Hid ((sigR s.data.toList).1 = 2) := by
              show _ = _
              unfold sigR
              rw [HX.out, sig2_six, ← hx]
              rw [if_pos]
              simp [six, a]
            clear HA HX hx
            go_wp2
            go_ret
            exact ⟨by rw [HR.out]; rfl, Below.refl _ _⟩
        · have h1' : decide ((s.size : Int) > 1) = false := by simp; omega
          have RR : Hid ((∃ t : Nat, t ≤ 6 ∧ Value.int .i64 3 = .int .i64 t ∧ True ∧ (1 < s.size → ∀ j d, j < t → six[j]? = some d → (x == d) = false)) ∧ 6 - (intOf (.int .i64 3)).toNat < 6 - (intOf (.int .i64 (2 : Nat))).toNat) := by
            refine ⟨⟨3, by omega, rfl, trivial, fun h => absurd h h1⟩, by decide⟩
          clear HA HX hx
          go_wp2
          exact RR.out
      · have hI : Sem.run Try.prog (Instr.index 93 (.agg #[.string ⟨#[58, 61]⟩, .string ⟨#[61, 61]⟩, .string ⟨#[33, 61]⟩, .string ⟨#[60, 61]⟩, .string ⟨#[62, 61]⟩, .string ⟨#[38, 38]⟩]) (.int .i64 3)) wr = .ok (.string ⟨#[60, 61]⟩) wr := by rfl
        by_cases h1 : 1 < s.size
        · have h1' : decide ((s.size : Int) > 1) = true := by simp; omega
          have h2' : (2 : Int) ≤ s.size := by omega
          cases a : ((s.extract 0 2).toList == [60, 61])
          · have RR : Hid ((∃ t : Nat, t ≤ 6 ∧ Value.int .i64 4 = .int .i64 t ∧ True ∧ (1 < s.size → ∀ j d, j < t → six[j]? = some d → (x == d) = false)) ∧ 6 - (intOf (.int .i64 4)).toNat < 6 - (intOf (.int .i64 (3 : Nat))).toNat) := by
              refine ⟨⟨4, by omega, rfl, trivial, fun h1 j d hj hd => ?_⟩, by decide⟩
              by_cases hk : j = 3
              · subst hk
                have : [60, 61] = d := by simpa [six] using hd
                rw [← this, ← hx]
                exact a
              · exact HA.out h1 j d (by omega) hd
            clear HA HX hx
            go_wp2
            exact RR.out
          · have HR : Hid ((sigR s.data.toList).1 = 2) := by
              show _ = _
              unfold sigR
              rw [HX.out, sig2_six, ← hx]
              rw [if_pos]
              simp [six, a]
            clear HA HX hx
            go_wp2
            go_ret
            exact ⟨by rw [HR.out]; rfl, Below.refl _ _⟩
        · have h1' : decide ((s.size : Int) > 1) = false := by simp; omega
          have RR : Hid ((∃ t : Nat, t ≤ 6 ∧ Value.int .i64 4 = .int .i64 t ∧ True ∧ (1 < s.size → ∀ j d, j < t → six[j]? = some d → (x == d) = false)) ∧ 6 - (intOf (.int .i64 4)).toNat < 6 - (intOf (.int .i64 (3 : Nat))).toNat) := by
            refine ⟨⟨4, by omega, rfl, trivial, fun h => absurd h h1⟩, by decide⟩
          clear HA HX hx
          go_wp2
          exact RR.out
      · have hI : Sem.run Try.prog (Instr.index 93 (.agg #[.string ⟨#[58, 61]⟩, .string ⟨#[61, 61]⟩, .string ⟨#[33, 61]⟩, .string ⟨#[60, 61]⟩, .string ⟨#[62, 61]⟩, .string ⟨#[38, 38]⟩]) (.int .i64 4)) wr = .ok (.string ⟨#[62, 61]⟩) wr := by rfl
        by_cases h1 : 1 < s.size
        · have h1' : decide ((s.size : Int) > 1) = true := by simp; omega
          have h2' : (2 : Int) ≤ s.size := by omega
          cases a : ((s.extract 0 2).toList == [62, 61])
          · have RR : Hid ((∃ t : Nat, t ≤ 6 ∧ Value.int .i64 5 = .int .i64 t ∧ True ∧ (1 < s.size → ∀ j d, j < t → six[j]? = some d → (x == d) = false)) ∧ 6 - (intOf (.int .i64 5)).toNat < 6 - (intOf (.int .i64 (4 : Nat))).toNat) := by
              refine ⟨⟨5, by omega, rfl, trivial, fun h1 j d hj hd => ?_⟩, by decide⟩
              by_cases hk : j = 4
              · subst hk
                have : [62, 61] = d := by simpa [six] using hd
                rw [← this, ← hx]
                exact a
              · exact HA.out h1 j d (by omega) hd
            clear HA HX hx
            go_wp2
            exact RR.out
          · have HR : Hid ((sigR s.data.toList).1 = 2) := by
              show _ = _
              unfold sigR
              rw [HX.out, sig2_six, ← hx]
              rw [if_pos]
              simp [six, a]
            clear HA HX hx
            go_wp2
            go_ret
            exact ⟨by rw [HR.out]; rfl, Below.refl _ _⟩
        · have h1' : decide ((s.size : Int) > 1) = false := by simp; omega
          have RR : Hid ((∃ t : Nat, t ≤ 6 ∧ Value.int .i64 5 = .int .i64 t ∧ True ∧ (1 < s.size → ∀ j d, j < t → six[j]? = some d → (x == d) = false)) ∧ 6 - (intOf (.int .i64 5)).toNat < 6 - (intOf (.int .i64 (4 : Nat))).toNat) := by
            refine ⟨⟨5, by omega, rfl, trivial, fun h => absurd h h1⟩, by decide⟩
          clear HA HX hx
          go_wp2
          exact RR.out
      · have hI : Sem.run Try.prog (Instr.index 93 (.agg #[.string ⟨#[58, 61]⟩, .string ⟨#[61, 61]⟩, .string ⟨#[33, 61]⟩, .string ⟨#[60, 61]⟩, .string ⟨#[62, 61]⟩, .string ⟨#[38, 38]⟩]) (.int .i64 5)) wr = .ok (.string ⟨#[38, 38]⟩) wr := by rfl
        by_cases h1 : 1 < s.size
        · have h1' : decide ((s.size : Int) > 1) = true := by simp; omega
          have h2' : (2 : Int) ≤ s.size := by omega
          cases a : ((s.extract 0 2).toList == [38, 38])
          · have RR : Hid ((∃ t : Nat, t ≤ 6 ∧ Value.int .i64 6 = .int .i64 t ∧ True ∧ (1 < s.size → ∀ j d, j < t → six[j]? = some d → (x == d) = false)) ∧ 6 - (intOf (.int .i64 6)).toNat < 6 - (intOf (.int .i64 (5 : Nat))).toNat) := by
              refine ⟨⟨6, by omega, rfl, trivial, fun h1 j d hj hd => ?_⟩, by decide⟩
              by_cases hk : j = 5
              · subst hk
                have : [38, 38] = d := by simpa [six] using hd
                rw [← this, ← hx]
                exact a
              · exact HA.out h1 j d (by omega) hd
            clear HA HX hx
            go_wp2
            exact RR.out
          · have HR : Hid ((sigR s.data.toList).1 = 2) := by
              show _ = _
              unfold sigR
              rw [HX.out, sig2_six, ← hx]
              rw [if_pos]
              simp [six, a]
            clear HA HX hx
            go_wp2
            go_ret
            exact ⟨by rw [HR.out]; rfl, Below.refl _ _⟩
        · have h1' : decide ((s.size : Int) > 1) = false := by simp; omega
          have RR : Hid ((∃ t : Nat, t ≤ 6 ∧ Value.int .i64 6 = .int .i64 t ∧ True ∧ (1 < s.size → ∀ j d, j < t → six[j]? = some d → (x == d) = false)) ∧ 6 - (intOf (.int .i64 6)).toNat < 6 - (intOf (.int .i64 (5 : Nat))).toNat) := by
            refine ⟨⟨6, by omega, rfl, trivial, fun h => absurd h h1⟩, by decide⟩
          clear HA HX hx
          go_wp2
          exact RR.out
end Go.Proofs.Ytcbpnmdphmdemaa
