/- What digits say; the contract of lex's decimal. -/
import Derived.Test.YtcbpnmdphmdemaaLxR
namespace Go.Proofs.Ytcbpnmdphmdemaa
open Go.RowKit

/-- Digits, read on from what was read. -/
def decF (acc : Nat) : List UInt8 → Option Nat
  | [] => some acc
  | c :: r => if clsI c.toNat = 4 ∧ acc * 10 + (c.toNat - 48) ≤ 9223372036854775807 then decF (acc * 10 + (c.toNat - 48)) r else none
/-- What digits say; none: no number that may be. -/
def decO (L : List UInt8) : Option Nat := if L = [] ∨ (1 < L.length ∧ L.head? = some 48) then none else decF 0 L
theorem decF_le {L : List UInt8} : ∀ {acc n : Nat}, acc ≤ 9223372036854775807 → decF acc L = some n → n ≤ 9223372036854775807 := by
  induction L with
  | nil => intro acc n h he; simp [decF] at he; omega
  | cons c r ih =>
    intro acc n h he
    rw [decF] at he
    split at he
    · rename_i h'
      exact ih h'.2 he
    · cases he
theorem cls4 {c : Nat} : clsI (c : Int) = 4 ↔ 48 ≤ c ∧ c ≤ 57 := by
  unfold clsI
  constructor
  · intro h
    repeat' split at h
    all_goals first | (cases h; done) | omega
  · intro h
    rw [if_neg (by omega), if_neg (by omega), if_neg (by omega), if_pos (by omega)]
/-- A number and whether it may be, as they are told. -/
def decV (o : Option Nat) : Value := .tuple #[.int .i64 (o.getD 0 : Nat), .bool o.isSome]
theorem ret_dec {o : Option Nat} {n : Int} {b : Bool} (h1 : n = (o.getD 0 : Nat)) (h2 : b = o.isSome) : Ending.returned (.tuple #[.int .i64 n, .bool b]) = .returned (decV o) := by rw [h1, h2, decV]
theorem dec_nil {L : List UInt8} (h : L = []) : decO L = none := by unfold decO; rw [if_pos (.inl h)]
theorem dec_nought {L : List UInt8} (h : 1 < L.length) (h' : L.head? = some 48) : decO L = none := by unfold decO; rw [if_pos (.inr ⟨h, h'⟩)]
theorem dec_go {L : List UInt8} (h0 : ¬ L = []) (h : ¬ (1 < L.length ∧ L.head? = some 48)) : decO L = decF 0 L := by unfold decO; rw [if_neg (by intro hh; rcases hh with hh | hh; exact h0 hh; exact h hh)]
theorem decF_step {acc pos : Nat} {L : List UInt8} {c : UInt8} (hc : L[pos]? = some c) : decF acc (L.drop pos) = if clsI c.toNat = 4 ∧ acc * 10 + (c.toNat - 48) ≤ 9223372036854775807 then decF (acc * 10 + (c.toNat - 48)) (L.drop (pos + 1)) else none := by
  obtain ⟨hlt, he⟩ := List.getElem?_eq_some_iff.1 hc
  rw [List.drop_eq_getElem_cons hlt, he, decF]
theorem byte_at {s : ByteArray} {pos : Nat} (hp : pos < s.size) : s.data.toList[pos]? = some (s[pos]'hp) := by
  rw [List.getElem?_eq_getElem (by simpa using hp)]
  rfl
theorem wrap64 {x : Int} (h0 : -9223372036854775808 ≤ x) (h1 : x ≤ 9223372036854775807) : IntKind.i64.wrap x = x := by
  rw [show IntKind.i64.wrap x = (x + 9223372036854775808) % 18446744073709551616 - 9223372036854775808 by simp [IntKind.wrap, IntKind.bits, IntKind.signed]; omega]
  omega
theorem wrap32 {x : Int} (h0 : -2147483648 ≤ x) (h1 : x ≤ 2147483647) : IntKind.i32.wrap x = x := by
  rw [show IntKind.i32.wrap x = (x + 2147483648) % 4294967296 - 2147483648 by simp [IntKind.wrap, IntKind.bits, IntKind.signed]; omega]
  omega
theorem cls_high {c : Int} (h : 128 ≤ c) : clsI c = 0 := by
  unfold clsI
  repeat' rw [if_neg (by omega)]
theorem ret_none {o : Option Nat} (h : o = none) : Ending.returned (.tuple #[.int .i64 0, .bool false]) = .returned (decV o) := by rw [h]; rfl
theorem ret_some {o : Option Nat} {n : Nat} (h : o = some n) : Ending.returned (.tuple #[.int .i64 n, .bool true]) = .returned (decV o) := by rw [h]; rfl
set_option maxRecDepth 100000 in
set_option maxHeartbeats 4000000 in
theorem decimal_any (s : ByteArray) (w : World) : Calls Try.prog 41 #[.string s] w fun e w' => e = .returned (decV (decO s.data.toList)) ∧ Below w.heap.size w w' := by
  have hT : s.toList = s.data.toList := ByteArray.toList_eq s
  have hsz : s.size = s.data.toList.length := by simp
  by_cases h0 : s.data.toList = []
  · have e0 : s.toList.isEmpty = true := by rw [hT, h0]; rfl
    have e1 : s.toList = [] := by rw [hT, h0]
    have HN : Hid (decO s.data.toList = none) := dec_nil h0
    clear h0 hT hsz
    go_enter Try.func41, Try.ntmps41
    go_wp2
    go_ret2
    exact ⟨ret_none HN.out, Below.refl _ _⟩
  have hpos : 0 < s.size := by
    rw [hsz]
    exact List.length_pos_iff.2 h0
  have b0 := byte_at hpos
  have e0 : s.toList.isEmpty = false := by rw [hT]; cases h : s.data.toList with | nil => exact absurd h h0 | cons a l => rfl
  have hhead : s.data.toList.head? = some (s[0]'hpos) := by rw [← b0]; cases s.data.toList <;> rfl
  by_cases hn : 1 < s.size ∧ (s[0]'hpos).toNat = 48
  · have HN : Hid (decO s.data.toList = none) := dec_nought (by omega) (by rw [hhead, show s[0]'hpos = 48 from UInt8.toNat.inj hn.2])
    have hn1 : ((s.size : Int) > 1) := by omega
    have hn2 := hn.2
    clear hT hsz hhead b0 h0 hn
    go_enter Try.func41, Try.ntmps41
    go_wp2
    go_ret2
    exact ⟨ret_none HN.out, Below.refl _ _⟩
  have HGO : Hid (decO s.data.toList = decF 0 s.data.toList) := dec_go h0 (by
    rintro ⟨h1, h2⟩
    rw [hhead] at h2
    injection h2 with h2
    exact hn ⟨by omega, by rw [h2]; rfl⟩)
  have HS : Hid (s.size = s.data.toList.length) := hsz
  have hn' : ¬ (1 < s.size) ∨ ¬ ((s[0]'hpos).toNat = 48) := by
    by_cases h1 : 1 < s.size
    · exact .inr fun h2 => hn ⟨h1, h2⟩
    · exact .inl h1
  clear hT hsz hhead b0 h0 hn
  go_enter Try.func41, Try.ntmps41
  by_cases h1 : 1 < s.size
  · have hn2 : ¬ (s[0]'hpos).toNat = 48 := by
      rcases hn' with h | h
      · exact absurd h1 h
      · exact h
    clear hn'
    go_wp2
    generalize (s[0]'hpos).toNat = z0
    have HW : Hid (decF 0 (s.data.toList.drop 0) = decF 0 s.data.toList) := rfl
    go_loopw [4] (fun n wr => ∃ pos acc : Nat, pos ≤ s.size ∧ acc ≤ 9223372036854775807 ∧ n = .int .i64 acc ∧ wr = w.iter s pos ∧ decF acc (s.data.toList.drop pos) = decF 0 s.data.toList) (fun _ w' => s.size - w'.iterPos w.heap.size)
    case atStart => exact ⟨0, 0, Nat.zero_le _, by omega, rfl, rfl, HW.out⟩
    case round =>
      obtain ⟨pos, acc, hps, hacc, rfl, rfl, hdec⟩ := hrel
      have HD : Hid (decF acc (s.data.toList.drop pos) = decF 0 s.data.toList) := hdec
      clear hdec
      by_cases hp : pos < s.size
      · have hnx : ∀ ty, (Instr.next (.pointer (some ⟨w.heap.size, 0, none⟩)) true ty).run Try.prog (w.iter s pos) = _ := fun ty => run_next_any w s pos ty hp
        have HB : Hid (s.data.toList[pos]? = some (s[pos]'hp)) := byte_at hp
        by_cases ha : (s[pos]'hp).toNat < 128
        · have hdc := decode_ascii s pos hp ha
          have hw1 : IntKind.i32.wrap (((s[pos]'hp).toNat : Int) - 48) = ((s[pos]'hp).toNat : Int) - 48 := wrap32 (by omega) (by omega)
          have hw2 : IntKind.i64.wrap (((s[pos]'hp).toNat : Int) - 48) = ((s[pos]'hp).toNat : Int) - 48 := wrap64 (by omega) (by omega)
          rw [hdc] at hnx
          clear hdc
          by_cases h4 : clsI ((s[pos]'hp).toNat : Int) = 4
          · obtain ⟨g1, g2⟩ := cls4.1 h4
            have hw3 : IntKind.i64.wrap (9223372036854775807 - (((s[pos]'hp).toNat : Int) - 48)) = 9223372036854775807 - (((s[pos]'hp).toNat : Int) - 48) := wrap64 (by omega) (by omega)
            have hq : (9223372036854775807 - (((s[pos]'hp).toNat : Int) - 48)).tdiv 10 = (9223372036854775807 - (((s[pos]'hp).toNat : Int) - 48)) / 10 := Int.tdiv_eq_ediv_of_nonneg (by omega)
            have hw4 : IntKind.i64.wrap ((9223372036854775807 - (((s[pos]'hp).toNat : Int) - 48)) / 10) = (9223372036854775807 - (((s[pos]'hp).toNat : Int) - 48)) / 10 := wrap64 (by omega) (by omega)
            by_cases hf : acc * 10 + ((s[pos]'hp).toNat - 48) ≤ 9223372036854775807
            · have HNX : Hid (decF (acc * 10 + ((s[pos]'hp).toNat - 48)) (s.data.toList.drop (pos + 1)) = decF 0 s.data.toList) := by
                have := HD.out
                rw [decF_step HB.out, if_pos ⟨h4, hf⟩] at this
                exact this
              have hle : ¬ ((acc : Int) > (9223372036854775807 - (((s[pos]'hp).toNat : Int) - 48)) / 10) := by omega
              have hw5 : IntKind.i64.wrap ((acc : Int) * 10) = (acc : Int) * 10 := wrap64 (by omega) (by omega)
              have hw6 : IntKind.i64.wrap ((acc : Int) * 10 + (((s[pos]'hp).toNat : Int) - 48)) = (acc : Int) * 10 + (((s[pos]'hp).toNat : Int) - 48) := wrap64 (by omega) (by omega)
              go_wp2_with (go_at_call 47; refine (class_any _ _).mono ?_; rintro e W1 ⟨rfl, hW1⟩; subst hW1; rw [h4])
              go_roundw
              case rel => exact ⟨pos + 1, acc * 10 + ((s[pos]'hp).toNat - 48), by omega, hf, by congr 1; omega, rfl, HNX.out⟩
              case measure => simp; omega
            · have HNO : Hid (decO s.data.toList = none) := by
                have := HD.out
                rw [decF_step HB.out, if_neg (fun h => hf h.2)] at this
                rw [HGO.out, ← this]
                exact rfl
              have hgt : (acc : Int) > (9223372036854775807 - (((s[pos]'hp).toNat : Int) - 48)) / 10 := by omega
              clear hf
              go_wp2_with (go_at_call 47; refine (class_any _ _).mono ?_; rintro e W1 ⟨rfl, hW1⟩; subst hW1; rw [h4])
              go_ret2
              exact ⟨ret_none HNO.out, (Below.refl _ _).alloc (Nat.le_refl _) _⟩
          · have HNO : Hid (decO s.data.toList = none) := by
              have := HD.out
              rw [decF_step HB.out, if_neg (fun h => h4 h.1)] at this
              rw [HGO.out, ← this]
              exact rfl
            go_wp2_with (go_at_call 47; refine (class_any _ _).mono ?_; rintro e W1 ⟨rfl, hW1⟩; subst hW1)
            go_ret2
            exact ⟨ret_none HNO.out, (Below.refl _ _).alloc (Nat.le_refl _) _⟩
        · have hdh := (decode_high s pos hp (by omega)).1
          have hc0 : clsI ((Utf8.decode s pos).1 : Int) = 0 := cls_high (by omega)
          have h4 : ¬ clsI ((s[pos]'hp).toNat : Int) = 4 := by
            rw [cls4]
            omega
          have HNO : Hid (decO s.data.toList = none) := by
            have := HD.out
            rw [decF_step HB.out, if_neg (fun h => h4 h.1)] at this
            rw [HGO.out, ← this]
            exact rfl
          clear h4 hdh
          go_wp2_with (go_at_call 47; refine (class_any _ _).mono ?_; rintro e W1 ⟨rfl, hW1⟩; subst hW1; rw [hc0])
          go_ret2
          exact ⟨ret_none HNO.out, (Below.refl _ _).alloc (Nat.le_refl _) _⟩
      · have hnx : ∀ ty, (Instr.next (.pointer (some ⟨w.heap.size, 0, none⟩)) true ty).run Try.prog (w.iter s pos) = _ := fun ty => run_next_end w s pos ty hp
        have HYES : Hid (decO s.data.toList = some acc) := by
          have := HD.out
          rw [List.drop_eq_nil_of_le (by have := HS.out; omega), decF] at this
          rw [HGO.out, ← this]
          exact rfl
        go_wp2
        go_ret2
        exact ⟨ret_some HYES.out, (Below.refl _ _).alloc (Nat.le_refl _) _⟩
  · clear hn'
    go_wp2
    have HW : Hid (decF 0 (s.data.toList.drop 0) = decF 0 s.data.toList) := rfl
    go_loopw [4] (fun n wr => ∃ pos acc : Nat, pos ≤ s.size ∧ acc ≤ 9223372036854775807 ∧ n = .int .i64 acc ∧ wr = w.iter s pos ∧ decF acc (s.data.toList.drop pos) = decF 0 s.data.toList) (fun _ w' => s.size - w'.iterPos w.heap.size)
    case atStart => exact ⟨0, 0, Nat.zero_le _, by omega, rfl, rfl, HW.out⟩
    case round =>
      obtain ⟨pos, acc, hps, hacc, rfl, rfl, hdec⟩ := hrel
      have HD : Hid (decF acc (s.data.toList.drop pos) = decF 0 s.data.toList) := hdec
      clear hdec
      by_cases hp : pos < s.size
      · have hnx : ∀ ty, (Instr.next (.pointer (some ⟨w.heap.size, 0, none⟩)) true ty).run Try.prog (w.iter s pos) = _ := fun ty => run_next_any w s pos ty hp
        have HB : Hid (s.data.toList[pos]? = some (s[pos]'hp)) := byte_at hp
        by_cases ha : (s[pos]'hp).toNat < 128
        · have hdc := decode_ascii s pos hp ha
          have hw1 : IntKind.i32.wrap (((s[pos]'hp).toNat : Int) - 48) = ((s[pos]'hp).toNat : Int) - 48 := wrap32 (by omega) (by omega)
          have hw2 : IntKind.i64.wrap (((s[pos]'hp).toNat : Int) - 48) = ((s[pos]'hp).toNat : Int) - 48 := wrap64 (by omega) (by omega)
          rw [hdc] at hnx
          clear hdc
          by_cases h4 : clsI ((s[pos]'hp).toNat : Int) = 4
          · obtain ⟨g1, g2⟩ := cls4.1 h4
            have hw3 : IntKind.i64.wrap (9223372036854775807 - (((s[pos]'hp).toNat : Int) - 48)) = 9223372036854775807 - (((s[pos]'hp).toNat : Int) - 48) := wrap64 (by omega) (by omega)
            have hq : (9223372036854775807 - (((s[pos]'hp).toNat : Int) - 48)).tdiv 10 = (9223372036854775807 - (((s[pos]'hp).toNat : Int) - 48)) / 10 := Int.tdiv_eq_ediv_of_nonneg (by omega)
            have hw4 : IntKind.i64.wrap ((9223372036854775807 - (((s[pos]'hp).toNat : Int) - 48)) / 10) = (9223372036854775807 - (((s[pos]'hp).toNat : Int) - 48)) / 10 := wrap64 (by omega) (by omega)
            by_cases hf : acc * 10 + ((s[pos]'hp).toNat - 48) ≤ 9223372036854775807
            · have HNX : Hid (decF (acc * 10 + ((s[pos]'hp).toNat - 48)) (s.data.toList.drop (pos + 1)) = decF 0 s.data.toList) := by
                have := HD.out
                rw [decF_step HB.out, if_pos ⟨h4, hf⟩] at this
                exact this
              have hle : ¬ ((acc : Int) > (9223372036854775807 - (((s[pos]'hp).toNat : Int) - 48)) / 10) := by omega
              have hw5 : IntKind.i64.wrap ((acc : Int) * 10) = (acc : Int) * 10 := wrap64 (by omega) (by omega)
              have hw6 : IntKind.i64.wrap ((acc : Int) * 10 + (((s[pos]'hp).toNat : Int) - 48)) = (acc : Int) * 10 + (((s[pos]'hp).toNat : Int) - 48) := wrap64 (by omega) (by omega)
              go_wp2_with (go_at_call 47; refine (class_any _ _).mono ?_; rintro e W1 ⟨rfl, hW1⟩; subst hW1; rw [h4])
              go_roundw
              case rel => exact ⟨pos + 1, acc * 10 + ((s[pos]'hp).toNat - 48), by omega, hf, by congr 1; omega, rfl, HNX.out⟩
              case measure => simp; omega
            · have HNO : Hid (decO s.data.toList = none) := by
                have := HD.out
                rw [decF_step HB.out, if_neg (fun h => hf h.2)] at this
                rw [HGO.out, ← this]
                exact rfl
              have hgt : (acc : Int) > (9223372036854775807 - (((s[pos]'hp).toNat : Int) - 48)) / 10 := by omega
              clear hf
              go_wp2_with (go_at_call 47; refine (class_any _ _).mono ?_; rintro e W1 ⟨rfl, hW1⟩; subst hW1; rw [h4])
              go_ret2
              exact ⟨ret_none HNO.out, (Below.refl _ _).alloc (Nat.le_refl _) _⟩
          · have HNO : Hid (decO s.data.toList = none) := by
              have := HD.out
              rw [decF_step HB.out, if_neg (fun h => h4 h.1)] at this
              rw [HGO.out, ← this]
              exact rfl
            go_wp2_with (go_at_call 47; refine (class_any _ _).mono ?_; rintro e W1 ⟨rfl, hW1⟩; subst hW1)
            go_ret2
            exact ⟨ret_none HNO.out, (Below.refl _ _).alloc (Nat.le_refl _) _⟩
        · have hdh := (decode_high s pos hp (by omega)).1
          have hc0 : clsI ((Utf8.decode s pos).1 : Int) = 0 := cls_high (by omega)
          have h4 : ¬ clsI ((s[pos]'hp).toNat : Int) = 4 := by
            rw [cls4]
            omega
          have HNO : Hid (decO s.data.toList = none) := by
            have := HD.out
            rw [decF_step HB.out, if_neg (fun h => h4 h.1)] at this
            rw [HGO.out, ← this]
            exact rfl
          clear h4 hdh
          go_wp2_with (go_at_call 47; refine (class_any _ _).mono ?_; rintro e W1 ⟨rfl, hW1⟩; subst hW1; rw [hc0])
          go_ret2
          exact ⟨ret_none HNO.out, (Below.refl _ _).alloc (Nat.le_refl _) _⟩
      · have hnx : ∀ ty, (Instr.next (.pointer (some ⟨w.heap.size, 0, none⟩)) true ty).run Try.prog (w.iter s pos) = _ := fun ty => run_next_end w s pos ty hp
        have HYES : Hid (decO s.data.toList = some acc) := by
          have := HD.out
          rw [List.drop_eq_nil_of_le (by have := HS.out; omega), decF] at this
          rw [HGO.out, ← this]
          exact rfl
        go_wp2
        go_ret2
        exact ⟨ret_some HYES.out, (Below.refl _ _).alloc (Nat.le_refl _) _⟩
end Go.Proofs.Ytcbpnmdphmdemaa
