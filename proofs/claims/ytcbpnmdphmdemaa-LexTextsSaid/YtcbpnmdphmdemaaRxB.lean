/- The contracts of the document's whole, Number and Word. -/
import Derived.Test.YtcbpnmdphmdemaaRxA
namespace Go.Proofs.Ytcbpnmdphmdemaa
open Go.RowKit

def dgS (a : Nat) (c : UInt8) : Nat := a * 10 + (c.toNat - 48)
/-- The value of digits, read on. -/
def valF (acc : Nat) (L : List UInt8) : Nat := L.foldl dgS acc
theorem valF_nil (acc : Nat) : valF acc [] = acc := rfl
theorem valF_cons (acc : Nat) (c : UInt8) (r : List UInt8) : valF acc (c :: r) = valF (acc * 10 + (c.toNat - 48)) r := by
  unfold valF
  rw [List.foldl_cons, dgS]
theorem valF_ge (L : List UInt8) : ∀ acc : Nat, acc * 10 ^ L.length ≤ valF acc L := by
  induction L with
  | nil => intro acc; rw [valF_nil, List.length_nil, Nat.pow_zero, Nat.mul_one]; exact Nat.le_refl _
  | cons c r ih =>
    intro acc
    have h := ih (acc * 10 + (c.toNat - 48))
    rw [valF_cons, List.length_cons, Nat.pow_succ]
    refine Nat.le_trans ?_ h
    rw [Nat.mul_comm (10 ^ r.length) 10, ← Nat.mul_assoc]
    exact Nat.mul_le_mul_right _ (by omega)
theorem valF_le (L : List UInt8) (acc : Nat) : acc ≤ valF acc L := by
  refine Nat.le_trans ?_ (valF_ge L acc)
  exact Nat.le_mul_of_pos_right _ (Nat.pow_pos (by decide))
theorem decF_val : ∀ (L : List UInt8) (acc : Nat), (∀ c ∈ L, inC [4] c = true) → acc ≤ 9223372036854775807 → decF acc L = if valF acc L ≤ 9223372036854775807 then some (valF acc L) else none
  | [], acc, _, h => by rw [decF, valF_nil, if_pos h]
  | c :: r, acc, hc, h => by
    have h4 : clsI c.toNat = 4 := by have := hc c (by simp); simpa [inC] using this
    rw [decF, valF_cons]
    by_cases hf : acc * 10 + (c.toNat - 48) ≤ 9223372036854775807
    · rw [if_pos ⟨h4, hf⟩]
      exact decF_val r _ (fun d hd => hc d (by simp [hd])) hf
    · rw [if_neg (fun h => hf h.2), if_neg]
      have := valF_le r (acc * 10 + (c.toNat - 48))
      omega
theorem decF_not : ∀ (L : List UInt8) (acc : Nat), (∃ c ∈ L, inC [4] c = false) → decF acc L = none
  | [], acc, h => by obtain ⟨c, hc, -⟩ := h; simp at hc
  | c :: r, acc, h => by
    rw [decF]
    split
    · rename_i hh
      refine decF_not r _ ?_
      obtain ⟨d, hd, hq⟩ := h
      rcases List.mem_cons.1 hd with rfl | hd
      · have : inC [4] d = true := by simp [inC, hh.1]
        rw [this] at hq
        cases hq
      · exact ⟨d, hd, hq⟩
    · rfl
theorem runN_full {p : UInt8 → Bool} {L : List UInt8} (h : runN p L = L.length) : ∀ c ∈ L, p c = true := by
  induction L with
  | nil => intro c hc; simp at hc
  | cons a r ih =>
    rw [runN_cons, List.length_cons] at h
    intro c hc
    cases hp : p a with
    | false => rw [hp] at h; simp at h
    | true =>
      rw [hp, if_pos rfl] at h
      rcases List.mem_cons.1 hc with rfl | hc
      · exact hp
      · exact ih (by omega) c hc
theorem runN_part {p : UInt8 → Bool} {L : List UInt8} (h : ¬ runN p L = L.length) : ∃ c ∈ L, p c = false := by
  induction L with
  | nil => exact absurd rfl h
  | cons a r ih =>
    cases hp : p a with
    | false => exact ⟨a, by simp, hp⟩
    | true =>
      rw [runN_cons, hp, if_pos rfl, List.length_cons] at h
      obtain ⟨c, hc, hq⟩ := ih (by omega)
      exact ⟨c, by simp [hc], hq⟩
/-- A number that may not be: digits that are none, or are too many. -/
theorem dec_digits {L : List UInt8} (h : ¬ runN (inC [4]) L = L.length) : decO L = none := by
  unfold decO
  split
  · rfl
  · exact decF_not L 0 (runN_part h)
theorem dec_long {L : List UInt8} (h : 19 < L.length) : decO L = none := by
  by_cases hd : runN (inC [4]) L = L.length
  · unfold decO
    split
    · rfl
    · rename_i hn
      cases L with
      | nil => simp at h
      | cons c r =>
        have hc := runN_full hd
        rw [List.length_cons] at h
        have h48 : ¬ c.toNat = 48 := fun e => hn (.inr ⟨by rw [List.length_cons]; omega, by rw [List.head?_cons, show c = 48 from UInt8.toNat.inj e]⟩)
        have h4 : clsI c.toNat = 4 := by have := hc c (by simp); simpa [inC] using this
        have := cls4.1 h4
        rw [decF_val _ _ hc (by omega), if_neg]
        have h1 := valF_ge r (0 * 10 + (c.toNat - 48))
        have h2 : 10 ^ 19 ≤ 10 ^ r.length := Nat.pow_le_pow_right (by decide) (by omega)
        have h3 : 1 * 10 ^ r.length ≤ (0 * 10 + (c.toNat - 48)) * 10 ^ r.length := Nat.mul_le_mul_right _ (by omega)
        rw [valF_cons]
        have h5 : (10 : Nat) ^ 19 = 10000000000000000000 := by decide
        omega
  · exact dec_digits hd
theorem valF_step {L : List UInt8} {i acc : Nat} {c : UInt8} (h : L[i]? = some c) : valF acc (L.drop i) = valF (acc * 10 + (c.toNat - 48)) (L.drop (i + 1)) := by
  rw [drop_at h, valF_cons]
theorem wrapU {x : Int} (h0 : 0 ≤ x) (h1 : x < 18446744073709551616) : IntKind.u64.wrap x = x := by
  rw [show IntKind.u64.wrap x = x % 18446744073709551616 by simp [IntKind.wrap, IntKind.bits, IntKind.signed]]
  omega
theorem pow_bound {t : Nat} (h : t < 19) : 10 ^ (t + 1) ≤ 10000000000000000000 := by
  have h1 : 10 ^ (t + 1) ≤ 10 ^ 19 := Nat.pow_le_pow_right (by decide) (by omega)
  have h2 : (10 : Nat) ^ 19 = 10000000000000000000 := by decide
  omega
set_option maxRecDepth 100000 in
set_option maxHeartbeats 4000000 in
theorem whole_any (s : ByteArray) (w : World) (hs : s.size ≤ 100000) : Calls Try.prog 42 #[.string s] w fun e w' => e = .returned (decV (decO s.data.toList)) ∧ w' = w := by
  have HS : Hid (s.size = s.data.toList.length) := by show s.size = s.data.toList.length; simp
  have HT : Hid (s.toList = s.data.toList) := ByteArray.toList_eq s
  have hle := runN_le (inC [4]) s.data.toList
  by_cases h0 : s.data.toList = []
  · have e0 : s.toList.isEmpty = true := by rw [HT.out, h0]; rfl
    have HN : Hid (decO s.data.toList = none) := dec_nil h0
    clear h0
    go_enter Try.func42, Try.ntmps42
    go_wp2
    go_ret2
    exact ⟨ret_none HN.out, rfl⟩
  have hpos : 0 < s.size := by rw [HS.out]; exact List.length_pos_iff.2 h0
  have e0 : s.toList.isEmpty = false := by rw [HT.out]; cases h : s.data.toList with | nil => exact absurd h h0 | cons a l => rfl
  by_cases hd : runN (inC [4]) s.data.toList = s.data.toList.length
  · have hd' : (((runN (inC [4]) s.data.toList : Nat) : Int) != s.size) = false := by rw [bne_eq_false_iff_eq, hd, HS.out]
    by_cases hl : 19 < s.size
    · have HN : Hid (decO s.data.toList = none) := dec_long (by rw [← HS.out]; exact hl)
      have hl' : (s.size : Int) > 19 := by omega
      clear h0 hd
      go_enter Try.func42, Try.ntmps42
      go_wp2_with (go_at_call 51; refine (sdigits_any s _ hs).mono ?_; rintro e W1 ⟨rfl, hW1⟩; rw [hW1]; clear hW1)
      go_ret2
      exact ⟨ret_none HN.out, rfl⟩
    · have hl' : ¬ (s.size : Int) > 19 := by omega
      have b0 := byte_at hpos
      have hhead : s.data.toList.head? = some (s[0]'hpos) := by rw [← b0]; cases s.data.toList <;> rfl
      by_cases hn : 1 < s.size ∧ (s[0]'hpos).toNat = 48
      · have HN : Hid (decO s.data.toList = none) := dec_nought (by have := HS.out; omega) (by rw [hhead, show s[0]'hpos = 48 from UInt8.toNat.inj hn.2])
        have hn1 : (s.size : Int) > 1 := by omega
        have hn2 := hn.2
        clear h0 hd b0 hhead hn
        go_enter Try.func42, Try.ntmps42
        go_wp2_with (go_at_call 51; refine (sdigits_any s _ hs).mono ?_; rintro e W1 ⟨rfl, hW1⟩; rw [hW1]; clear hW1)
        go_ret2
        exact ⟨ret_none HN.out, rfl⟩
      · have HV : Hid (decO s.data.toList = if valF 0 s.data.toList ≤ 9223372036854775807 then some (valF 0 s.data.toList) else none) := by
          rw [dec_go h0 (by
            rintro ⟨h1, h2⟩
            rw [hhead] at h2
            injection h2 with h2
            exact hn ⟨by have := HS.out; omega, by rw [h2]; rfl⟩), decF_val _ _ (runN_full hd) (by omega)]
          exact rfl
        have HDG : Hid (∀ c ∈ s.data.toList, inC [4] c = true) := runN_full hd
        have hn' : ¬ (1 < s.size) ∨ ¬ ((s[0]'hpos).toNat = 48) := by
          by_cases h1 : 1 < s.size
          · exact .inr fun h2 => hn ⟨h1, h2⟩
          · exact .inl h1
        clear h0 hd b0 hhead hn
        go_enter Try.func42, Try.ntmps42
        by_cases h1 : 1 < s.size
        · have hn2 : ¬ (s[0]'hpos).toNat = 48 := by
            rcases hn' with h | h
            · exact absurd h1 h
            · exact h
          have hn3 : (((s[0]'hpos).toNat : Int) == 48) = false := by rw [beq_eq_false_iff_ne]; omega
          clear hn'
          go_wp2_with (go_at_call 51; refine (sdigits_any s _ hs).mono ?_; rintro e W1 ⟨rfl, hW1⟩; rw [hW1]; clear hW1)
          generalize (s[0]'hpos).toNat = z0
          have HW : Hid (valF 0 (s.data.toList.drop 0) = valF 0 s.data.toList) := rfl
          go_loopw [4, 32] (fun n i wr => ∃ t v : Nat, t ≤ s.size ∧ i = .int .i64 t ∧ n = .int .u64 v ∧ wr = w ∧ v < 10 ^ t ∧ valF v (s.data.toList.drop t) = valF 0 s.data.toList) (fun _ i _ => s.size - (intOf i).toNat)
          case atStart => exact ⟨0, 0, Nat.zero_le _, rfl, rfl, rfl, by decide, HW.out⟩
          case round =>
            clear HW
            obtain ⟨t, v, ht, rfl, rfl, rfl, hv, hval⟩ := hrel
            have HV0 : Hid (v < 10 ^ t) := hv
            have HVL : Hid (valF v (s.data.toList.drop t) = valF 0 s.data.toList) := hval
            clear hv hval
            by_cases hlt : t < s.size
            · have hdl : decide ((t : Int) < s.size) = true := decide_eq_true (by omega)
              have hB := byte_at hlt
              have hc := HDG.out _ (List.mem_of_getElem? hB)
              have h4 : clsI ((s[t]'hlt).toNat : Int) = 4 := by simpa [inC] using hc
              obtain ⟨g1, g2⟩ := cls4.1 h4
              have hpb := pow_bound (t := t) (by omega)
              have hp1 : 10 ^ (t + 1) = 10 ^ t * 10 := Nat.pow_succ 10 t
              have hvb : v * 10 + 9 < 10 ^ (t + 1) := by have := HV0.out; omega
              have HNB : Hid (v * 10 + ((s[t]'hlt).toNat - 48) < 10 ^ (t + 1)) := by show v * 10 + ((s[t]'hlt).toNat - 48) < 10 ^ (t + 1); omega
              have HNL : Hid (valF (v * 10 + ((s[t]'hlt).toNat - 48)) (s.data.toList.drop (t + 1)) = valF 0 s.data.toList) := by rw [← HVL.out, valF_step hB]; exact rfl
              have hw1 : IntKind.u64.wrap (10 * (v : Int)) = 10 * (v : Int) := wrapU (by omega) (by omega)
              have hw2 : IntKind.u8.wrap (((s[t]'hlt).toNat : Int) - 48) = ((s[t]'hlt).toNat : Int) - 48 := by
                rw [show ∀ x : Int, IntKind.u8.wrap x = x % 256 from fun x => by simp [IntKind.wrap, IntKind.bits, IntKind.signed]]
                omega
              have hw3 : IntKind.u64.wrap (((s[t]'hlt).toNat : Int) - 48) = ((s[t]'hlt).toNat : Int) - 48 := wrapU (by omega) (by omega)
              have hw4 : IntKind.u64.wrap (10 * (v : Int) + (((s[t]'hlt).toNat : Int) - 48)) = 10 * (v : Int) + (((s[t]'hlt).toNat : Int) - 48) := wrapU (by omega) (by omega)
              clear hpb hp1 hvb h4 hc hB
              go_wp2
              refine ⟨⟨t + 1, v * 10 + ((s[t]'hlt).toNat - 48), by omega, by go_num, ?_, trivial, HNB.out, HNL.out⟩, by simp [intOf]; omega⟩
              congr 1
              omega
            · have hdl : decide ((t : Int) < s.size) = false := decide_eq_false (by omega)
              have HVV : Hid (valF 0 s.data.toList = v) := by rw [← HVL.out, List.drop_eq_nil_of_le (by have := HS.out; omega)]; exact rfl
              by_cases hmx : v ≤ 9223372036854775807
              · have HX : Hid (decO s.data.toList = some v) := by rw [HV.out, HVV.out, if_pos hmx]; exact rfl
                have hmx' : ¬ (v : Int) > 9223372036854775807 := by omega
                have hw5 : IntKind.i64.wrap (v : Int) = v := wrap64 (by omega) (by omega)
                go_wp2
                go_ret2
                exact ⟨ret_some HX.out, rfl⟩
              · have HX : Hid (decO s.data.toList = none) := by rw [HV.out, HVV.out, if_neg hmx]; exact rfl
                have hmx' : (v : Int) > 9223372036854775807 := by omega
                go_wp2
                go_ret2
                exact ⟨ret_none HX.out, rfl⟩
        · clear hn'
          go_wp2_with (go_at_call 51; refine (sdigits_any s _ hs).mono ?_; rintro e W1 ⟨rfl, hW1⟩; rw [hW1]; clear hW1)
          have HW : Hid (valF 0 (s.data.toList.drop 0) = valF 0 s.data.toList) := rfl
          go_loopw [4, 32] (fun n i wr => ∃ t v : Nat, t ≤ s.size ∧ i = .int .i64 t ∧ n = .int .u64 v ∧ wr = w ∧ v < 10 ^ t ∧ valF v (s.data.toList.drop t) = valF 0 s.data.toList) (fun _ i _ => s.size - (intOf i).toNat)
          case atStart => exact ⟨0, 0, Nat.zero_le _, rfl, rfl, rfl, by decide, HW.out⟩
          case round =>
            clear HW
            obtain ⟨t, v, ht, rfl, rfl, rfl, hv, hval⟩ := hrel
            have HV0 : Hid (v < 10 ^ t) := hv
            have HVL : Hid (valF v (s.data.toList.drop t) = valF 0 s.data.toList) := hval
            clear hv hval
            by_cases hlt : t < s.size
            · have hdl : decide ((t : Int) < s.size) = true := decide_eq_true (by omega)
              have hB := byte_at hlt
              have hc := HDG.out _ (List.mem_of_getElem? hB)
              have h4 : clsI ((s[t]'hlt).toNat : Int) = 4 := by simpa [inC] using hc
              obtain ⟨g1, g2⟩ := cls4.1 h4
              have hpb := pow_bound (t := t) (by omega)
              have hp1 : 10 ^ (t + 1) = 10 ^ t * 10 := Nat.pow_succ 10 t
              have hvb : v * 10 + 9 < 10 ^ (t + 1) := by have := HV0.out; omega
              have HNB : Hid (v * 10 + ((s[t]'hlt).toNat - 48) < 10 ^ (t + 1)) := by show v * 10 + ((s[t]'hlt).toNat - 48) < 10 ^ (t + 1); omega
              have HNL : Hid (valF (v * 10 + ((s[t]'hlt).toNat - 48)) (s.data.toList.drop (t + 1)) = valF 0 s.data.toList) := by rw [← HVL.out, valF_step hB]; exact rfl
              have hw1 : IntKind.u64.wrap (10 * (v : Int)) = 10 * (v : Int) := wrapU (by omega) (by omega)
              have hw2 : IntKind.u8.wrap (((s[t]'hlt).toNat : Int) - 48) = ((s[t]'hlt).toNat : Int) - 48 := by
                rw [show ∀ x : Int, IntKind.u8.wrap x = x % 256 from fun x => by simp [IntKind.wrap, IntKind.bits, IntKind.signed]]
                omega
              have hw3 : IntKind.u64.wrap (((s[t]'hlt).toNat : Int) - 48) = ((s[t]'hlt).toNat : Int) - 48 := wrapU (by omega) (by omega)
              have hw4 : IntKind.u64.wrap (10 * (v : Int) + (((s[t]'hlt).toNat : Int) - 48)) = 10 * (v : Int) + (((s[t]'hlt).toNat : Int) - 48) := wrapU (by omega) (by omega)
              clear hpb hp1 hvb h4 hc hB
              go_wp2
              refine ⟨⟨t + 1, v * 10 + ((s[t]'hlt).toNat - 48), by omega, by go_num, ?_, trivial, HNB.out, HNL.out⟩, by simp [intOf]; omega⟩
              congr 1
              omega
            · have hdl : decide ((t : Int) < s.size) = false := decide_eq_false (by omega)
              have HVV : Hid (valF 0 s.data.toList = v) := by rw [← HVL.out, List.drop_eq_nil_of_le (by have := HS.out; omega)]; exact rfl
              by_cases hmx : v ≤ 9223372036854775807
              · have HX : Hid (decO s.data.toList = some v) := by rw [HV.out, HVV.out, if_pos hmx]; exact rfl
                have hmx' : ¬ (v : Int) > 9223372036854775807 := by omega
                have hw5 : IntKind.i64.wrap (v : Int) = v := wrap64 (by omega) (by omega)
                go_wp2
                go_ret2
                exact ⟨ret_some HX.out, rfl⟩
              · have HX : Hid (decO s.data.toList = none) := by rw [HV.out, HVV.out, if_neg hmx]; exact rfl
                have hmx' : (v : Int) > 9223372036854775807 := by omega
                go_wp2
                go_ret2
                exact ⟨ret_none HX.out, rfl⟩
  · have hd' : (((runN (inC [4]) s.data.toList : Nat) : Int) != s.size) = true := by rw [bne_iff_ne]; have := HS.out; omega
    have HN : Hid (decO s.data.toList = none) := dec_digits hd
    clear h0 hd
    go_enter Try.func42, Try.ntmps42
    go_wp2_with (go_at_call 51; refine (sdigits_any s _ hs).mono ?_; rintro e W1 ⟨rfl, hW1⟩; rw [hW1]; clear hW1)
    go_ret2
    exact ⟨ret_none HN.out, rfl⟩
end Go.Proofs.Ytcbpnmdphmdemaa
