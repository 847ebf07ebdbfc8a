/- Which texts are words; the contract of lex's Word; wakes. -/
import Derived.Test.YtcbpnmdphmdemaaLxL
namespace Go.Proofs.Ytcbpnmdphmdemaa
open Go.RowKit

/-- May a byte stand in a word, at a place? -/
def okW (i : Nat) (c : UInt8) : Bool := inC [3] c || (inC [4] c && !(i == 0))
def allW : Nat → List UInt8 → Bool
  | _, [] => true
  | i, c :: r => okW i c && allW (i + 1) r
/-- Is it a word that is not too long? -/
def wordB (L : List UInt8) : Bool := allW 0 L && !L.isEmpty && decide (L.length ≤ 24)
theorem allW_iff : ∀ (L : List UInt8) (k : Nat), allW k L = true ↔ ∀ (i : Nat) (c : UInt8), L[i]? = some c → okW (k + i) c = true
  | [], k => by simp [allW]
  | a :: r, k => by
    simp only [allW, Bool.and_eq_true, allW_iff r (k + 1)]
    constructor
    · rintro ⟨h1, h2⟩ i c hi
      cases i with
      | zero => simp at hi; subst hi; exact h1
      | succ i => have := h2 i c (by simpa using hi); rwa [show k + (i + 1) = k + 1 + i by omega]
    · intro h
      exact ⟨h 0 a rfl, fun i c hi => by have := h (i + 1) c (by simpa using hi); rwa [show k + 1 + i = k + (i + 1) by omega]⟩
theorem wordB_no {L : List UInt8} {i : Nat} {c : UInt8} (hi : L[i]? = some c) (h : okW i c = false) : wordB L = false := by
  unfold wordB
  have : allW 0 L = false := by
    rw [← Bool.not_eq_true, allW_iff]
    intro hh
    have := hh i c hi
    rw [Nat.zero_add, h] at this
    cases this
  rw [this]
  rfl
theorem wordB_all {L : List UInt8} (h : ∀ (i : Nat) (c : UInt8), L[i]? = some c → okW i c = true) : wordB L = (!L.isEmpty && decide (L.length ≤ 24)) := by
  unfold wordB
  have : allW 0 L = true := (allW_iff L 0).2 fun i c hi => by rw [Nat.zero_add]; exact h i c hi
  rw [this]
  simp
theorem okW_cls (i : Nat) (c : UInt8) : okW i c = (decide (clsI c.toNat = 3) || (decide (clsI c.toNat = 4) && !decide (i = 0))) := by
  unfold okW inC
  rw [Bool.eq_iff_iff]
  simp
set_option maxRecDepth 100000 in
set_option maxHeartbeats 2000000 in
theorem word_is (s : ByteArray) (w : World) : Calls Try.prog 24 #[.string s] w fun e w' => e = .returned (.bool (wordB s.data.toList)) ∧ Below w.heap.size w w' := by
  have HT : Hid (s.toList = s.data.toList) := ByteArray.toList_eq s
  have HS : Hid (s.size = s.data.toList.length) := by show s.size = s.data.toList.length; simp
  go_enter Try.func24, Try.ntmps24
  go_wp2
  go_loopw [] (fun w' => ∃ pos, w' = w.iter s pos ∧ pos ≤ s.size ∧ ∀ i c, i < pos → s.data.toList[i]? = some c → okW i c = true) (fun w' => s.size - w'.iterPos w.heap.size)
  case atStart => exact ⟨0, rfl, Nat.zero_le _, fun i c hi => absurd hi (by omega)⟩
  case round =>
    obtain ⟨pos, rfl, hps, hall⟩ := hrel
    have HA : Hid (∀ i c, i < pos → s.data.toList[i]? = some c → okW i c = true) := hall
    clear hall
    by_cases hp : pos < s.size
    · have hnx : ∀ ty, (Instr.next (.pointer (some ⟨w.heap.size, 0, none⟩)) true ty).run Try.prog (w.iter s pos) = _ := fun ty => run_next_any w s pos ty hp
      have HB : Hid (s.data.toList[pos]? = some (s[pos]'hp)) := byte_at hp
      by_cases ha : (s[pos]'hp).toNat < 128
      · have hdc := decode_ascii s pos hp ha
        rw [hdc] at hnx
        clear hdc
        have HOK : Hid (okW pos (s[pos]'hp) = (decide (clsI (s[pos]'hp).toNat = 3) || (decide (clsI (s[pos]'hp).toNat = 4) && !decide (pos = 0)))) := okW_cls _ _
        have HNX : Hid (okW pos (s[pos]'hp) = true → ∀ i c, i < pos + 1 → s.data.toList[i]? = some c → okW i c = true) := fun hok i c hi hc => by
          by_cases hi' : i < pos
          · exact HA.out i c hi' hc
          · obtain rfl : i = pos := by omega
            rw [HB.out] at hc
            injection hc with hc
            rw [← hc]
            exact hok
        by_cases h3 : clsI ((s[pos]'hp).toNat : Int) = 3
        · go_wp2_with (go_at_call 47; refine (class_any _ _).mono ?_; rintro e W1 ⟨rfl, hW1⟩; subst hW1; rw [h3])
          go_roundw
          case rel => exact ⟨pos + 1, rfl, by omega, HNX.out (by rw [HOK.out, h3]; rfl)⟩
          case measure => simp; omega
        · by_cases h4 : clsI ((s[pos]'hp).toNat : Int) = 4
          · by_cases h0 : pos = 0
            · have HNO : Hid (wordB s.data.toList = false) := wordB_no HB.out (by rw [HOK.out, h4, h0]; rfl)
              have h0' : ((pos : Int) == 0) = true := by rw [beq_iff_eq]; omega
              clear h0
              go_wp2_with (go_at_call 47; refine (class_any _ _).mono ?_; rintro e W1 ⟨rfl, hW1⟩; subst hW1; rw [h4])
              go_ret
              exact ⟨ret_bool HNO.out.symm, (Below.refl _ _).alloc (Nat.le_refl _) _⟩
            · have h0' : ((pos : Int) == 0) = false := by rw [beq_eq_false_iff_ne]; omega
              go_wp2_with (go_at_call 47; refine (class_any _ _).mono ?_; rintro e W1 ⟨rfl, hW1⟩; subst hW1; rw [h4])
              go_roundw
              case rel => exact ⟨pos + 1, rfl, by omega, HNX.out (by rw [HOK.out, h4]; simp [h0])⟩
              case measure => simp; omega
          · have HNO : Hid (wordB s.data.toList = false) := wordB_no HB.out (by rw [HOK.out]; simp [h3, h4])
            go_wp2_with (go_at_call 47; refine (class_any _ _).mono ?_; rintro e W1 ⟨rfl, hW1⟩; subst hW1)
            go_ret
            exact ⟨ret_bool HNO.out.symm, (Below.refl _ _).alloc (Nat.le_refl _) _⟩
      · have hdh := (decode_high s pos hp (by omega)).1
        have hc0 : clsI ((Utf8.decode s pos).1 : Int) = 0 := cls_high (by omega)
        have hz : clsI ((s[pos]'hp).toNat : Int) = 0 := cls_high (by omega)
        have HNO : Hid (wordB s.data.toList = false) := wordB_no HB.out (by rw [okW_cls, hz]; rfl)
        clear hdh hz
        go_wp2_with (go_at_call 47; refine (class_any _ _).mono ?_; rintro e W1 ⟨rfl, hW1⟩; subst hW1; rw [hc0])
        go_ret
        exact ⟨ret_bool HNO.out.symm, (Below.refl _ _).alloc (Nat.le_refl _) _⟩
    · have hnx : ∀ ty, (Instr.next (.pointer (some ⟨w.heap.size, 0, none⟩)) true ty).run Try.prog (w.iter s pos) = _ := fun ty => run_next_end w s pos ty hp
      have HY : Hid (wordB s.data.toList = (!s.data.toList.isEmpty && decide (s.data.toList.length ≤ 24))) := wordB_all fun i c hi => HA.out i c (by have := (List.getElem?_eq_some_iff.1 hi).1; have := HS.out; omega) hi
      by_cases h0 : s.data.toList = []
      · have e0 : s.toList.isEmpty = true := by rw [HT.out, h0]; rfl
        have HN : Hid (wordB s.data.toList = false) := by rw [HY.out, h0]; exact rfl
        clear h0
        go_wp2
        go_ret
        exact ⟨ret_bool HN.out.symm, (Below.refl _ _).alloc (Nat.le_refl _) _⟩
      · have e0 : s.toList.isEmpty = false := by rw [HT.out]; cases h : s.data.toList with | nil => exact absurd h h0 | cons a l => rfl
        have e1 : s.data.toList.isEmpty = false := by rw [← HT.out]; exact e0
        by_cases h24 : s.size ≤ 24
        · have h24' : (s.size : Int) ≤ 24 := by omega
          have HN : Hid (wordB s.data.toList = true) := by rw [HY.out, e1, ← HS.out, decide_eq_true h24]; exact rfl
          clear h0 e1
          go_wp2
          go_ret
          exact ⟨ret_bool HN.out.symm, (Below.refl _ _).alloc (Nat.le_refl _) _⟩
        · have h24' : ¬ (s.size : Int) ≤ 24 := by omega
          have HN : Hid (wordB s.data.toList = false) := by rw [HY.out, e1, ← HS.out, decide_eq_false h24]; exact rfl
          clear h0 e1
          go_wp2
          go_ret
          exact ⟨ret_bool HN.out.symm, (Below.refl _ _).alloc (Nat.le_refl _) _⟩
/-- The tokens of wakes' text. -/
def wkL : List UInt8 := [120, 32, 58, 61, 32, 102, 40, 49, 41, 32, 47, 47, 32, 121, 10]
def wkT : List Tok := [⟨1, ⟨#[120]⟩, 0⟩, ⟨4, ⟨#[58, 61]⟩, 2⟩, ⟨1, ⟨#[102]⟩, 5⟩, ⟨4, ⟨#[40]⟩, 6⟩, ⟨2, ⟨#[49]⟩, 7⟩, ⟨4, ⟨#[41]⟩, 8⟩, ⟨5, ⟨#[]⟩, 14⟩]
theorem lex_wk : lexO wkL = (wkT, 0, 0) := by kernel_rfl
theorem word_wk : wordB [120] = true ∧ wordB [49] = false := by decide +kernel
set_option maxRecDepth 100000 in
set_option maxHeartbeats 2000000 in
theorem wakes_any (w : World) : Calls Try.prog 9 #[] w fun e w' => e = .returned (.bool true) ∧ Below w.heap.size w w' := by
  go_enter Try.func9, Try.ntmps9
  go_wp2_with fail
  refine (lex_any _ _).mono ?_
  rintro e W1 ⟨hP, b1⟩
  obtain ⟨v, rfl, hT⟩ : ∃ v, e = .returned (.tuple #[v, .agg #[.int .i64 0, .int .i64 0]]) ∧ OwnT w.heap.size W1 v wkT := by
    obtain ⟨v, h1, h2⟩ := hP
    have hx : lexO (⟨#[120, 32, 58, 61, 32, 102, 40, 49, 41, 32, 47, 47, 32, 121, 10]⟩ : ByteArray).data.toList = (wkT, 0, 0) := lex_wk
    rw [hx] at h1 h2
    exact ⟨v, h1, h2⟩
  clear hP
  obtain ⟨sp, cap, rfl, hR, -, -⟩ := OwnG.rows elT hT
  obtain ⟨b, o, rfl, -⟩ := hR (by decide)
  have hl : wkT.length = 7 := rfl
  rw [hl]
  have bA : Below W1.heap.size W1 (W1.alloc (.cells #[.int .i64 0, .int .i64 0] 27)) := (Below.refl _ _).alloc (Nat.le_refl _) _
  obtain ⟨-, k0, -⟩ := tok_cell hR (i := 0) (t := ⟨1, ⟨#[120]⟩, 0⟩) rfl
  obtain ⟨k1, -, -⟩ := tok_cell hR (i := 1) (t := ⟨4, ⟨#[58, 61]⟩, 2⟩) rfl
  obtain ⟨-, -, k4⟩ := tok_cell hR (i := 4) (t := ⟨2, ⟨#[49]⟩, 7⟩) rfl
  obtain ⟨k60, k61, k62⟩ := tok_cell hR (i := 6) (t := ⟨5, ⟨#[]⟩, 14⟩) rfl
  have hb := block_lt_of_cell k0
  simp only [Nat.zero_mul, Nat.add_zero, Nat.one_mul, Nat.reduceMul] at k0 k1 k4 k60 k61 k62
  clear hR hT hl bA
  go_wp2_with fail
  refine (word_is _ _).mono ?_
  rintro e W2 ⟨rfl, b2⟩
  have hx : wordB (⟨#[120]⟩ : ByteArray).data.toList = true := word_wk.1
  have hy : wordB (⟨#[49]⟩ : ByteArray).data.toList = false := word_wk.2
  rw [hx]
  have b3 : Below w.heap.size w W2 := (b1.alloc b1.size _).trans (b2.mono (by simp; exact Nat.le_succ_of_le b1.size))
  go_wp2_with fail
  refine (word_is _ _).mono ?_
  rintro e W3 ⟨rfl, b4⟩
  rw [hy]
  go_wp2
  go_ret
  exact ⟨rfl, b3.trans (b4.mono b3.size)⟩
end Go.Proofs.Ytcbpnmdphmdemaa
