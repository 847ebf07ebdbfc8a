/- The contracts of lex's word, number, quoted, sign and comment. -/
import Derived.Test.YtcbpnmdphmdemaaLxU
import Derived.Lib.SlFresh
namespace Go.Proofs.Ytcbpnmdphmdemaa
open Go.RowKit

theorem BA.bytesIn {w : World} {sp : Option Addr} {L : List UInt8} (h : BA w sp L) : Lib.BytesIn w sp L.length (Lib.numsL L) := fun hl => by
  obtain ⟨b, o, e, hc⟩ := h hl
  refine ⟨b, o, e, fun i hi => ?_⟩
  have hx : L[i]? = some (L[i]'hi) := List.getElem?_eq_getElem hi
  rw [hc i _ hx]
  simp [Lib.numsL, hi]
/-- A text out of bytes. -/
def strU (L : List UInt8) : ByteArray := ⟨L.toArray⟩
theorem strU_list (L : List UInt8) : (strU L).toList = L := by rw [ByteArray.toList_eq]; rfl
theorem strU_data (L : List UInt8) : (strU L).data.toList = L := rfl
theorem strU_size (L : List UInt8) : (strU L).size = L.length := by simp [strU, ByteArray.size]
theorem strU_of (s : ByteArray) : strU s.data.toList = s := rfl
theorem conv_str {w : World} {sp : Option Addr} {L : List UInt8} (h : BA w sp L) (cap : Nat) : (convert 58 9 (.slice sp L.length cap)).run Try.prog w = .ok (.string (strU L)) w := by
  have := Lib.BytesIn.convert (P := Try.prog) h.bytesIn (by simp [Lib.numsL]) cap 58 5 9 Try.underlying58 Try.underlying5 Try.underlying9
  rw [this]
  have e : strOfNums (Lib.numsL L) = strU L := by
    have := Lib.strOfNums_toList (Lib.numsL L)
    rw [Lib.bytesOf_numsL, ByteArray.toList_eq] at this
    exact congrArg strU this
  rw [e]
theorem BA.take {w : World} {sp : Option Addr} {L : List UInt8} (h : BA w sp L) (k : Nat) : BA w sp (L.take k) := fun hl => by
  obtain ⟨b, o, e, hc⟩ := h (by rw [List.length_take] at hl; omega)
  exact ⟨b, o, e, fun i c hi => hc i c (by
    rw [List.getElem?_take] at hi
    split at hi
    · exact hi
    · cases hi)⟩
/-- The size of a word, and its error. -/
def wordR (L : List UInt8) : Nat × Int := if runN (inC [3, 4]) L > 24 then (0, 3) else (runN (inC [3, 4]) L, 0)
/-- The size of a number, and its error. -/
def numR (L : List UInt8) : Nat × Int := if (decO (L.take (runN (inC [4]) L))).isSome = false ∨ 0 < runN (inC [3]) (L.drop (runN (inC [4]) L)) then (0, 201) else (runN (inC [4]) L, 0)
/-- The size of a text, and its error. -/
def quoR (L : List UInt8) : Nat × Int := match unqO L with | none => (0, 200) | some (_, n) => (n, 0)
def pairV (p : Nat × Int) : Value := .tuple #[.int .i64 p.1, .int .i64 p.2]
theorem ret_pair {p : Nat × Int} {n : Nat} {e : Int} (h : p = (n, e)) : Ending.returned (.tuple #[.int .i64 n, .int .i64 e]) = .returned (pairV p) := by rw [h]; rfl
theorem ints_cells (w : World) (zs : List Int) (t : TypeId) : ∀ j, j < zs.length → (w.alloc (.cells (zs.map (Value.int .i64)).toArray t)).cell? ⟨w.heap.size, 0 + j, none⟩ = some (.int .i64 (zs.getD j 0)) := fun j hj => by
  rw [cell_of_row _ _ _ _ _ _ (heap_alloc_new w _), Nat.zero_add]
  simp [hj]
set_option maxRecDepth 100000 in
set_option maxHeartbeats 1000000 in
theorem word_any (sp : Option Addr) (cap : Nat) (L : List UInt8) (w : World) (h : BA w sp L) (hl : L.length ≤ 100000) :
    Calls Try.prog 54 #[.slice sp L.length cap] w fun e w' => e = .returned (pairV (wordR L)) ∧ Below w.heap.size w w' := by
  have b1 : Below w.heap.size w (w.alloc (.cells #[.int .i64 3, .int .i64 4] 3)) := (Below.refl _ _).alloc (Nat.le_refl _) _
  have HR : Hid (Calls Try.prog 64 #[.slice sp L.length cap, .slice (some ⟨w.heap.size, 0, none⟩) 2 2] (w.alloc (.cells #[.int .i64 3, .int .i64 4] 3)) fun e w' => e = .returned (.int .i64 (runN (inC [3, 4]) L)) ∧ w' = (w.alloc (.cells #[.int .i64 3, .int .i64 4] 3))) := run_any sp cap L w.heap.size 0 2 [3, 4] _ (h.below b1) (by omega) (by simp) (ints_cells w [3, 4] _)
  have HB : Hid (Below w.heap.size w (w.alloc (.cells #[.int .i64 3, .int .i64 4] 3))) := b1
  have hle := runN_le (inC [3, 4]) L
  clear h b1
  by_cases h24 : 24 < runN (inC [3, 4]) L
  · have HE : Hid (wordR L = (0, 3)) := by unfold wordR; rw [if_pos h24]; exact rfl
    have hgt : ((runN (inC [3, 4]) L : Nat) : Int) > 24 := by omega
    go_enter Try.func54, Try.ntmps54
    go_wp2_with (go_at_call 64; refine HR.out.mono ?_; rintro e W1 ⟨rfl, rfl⟩)
    go_ret2
    exact ⟨ret_pair HE.out, HB.out⟩
  · have HE : Hid (wordR L = (runN (inC [3, 4]) L, 0)) := by unfold wordR; rw [if_neg h24]; exact rfl
    have hgt : ¬ ((runN (inC [3, 4]) L : Nat) : Int) > 24 := by omega
    go_enter Try.func54, Try.ntmps54
    go_wp2_with (go_at_call 64; refine HR.out.mono ?_; rintro e W1 ⟨rfl, rfl⟩)
    go_ret2
    exact ⟨ret_pair HE.out, HB.out⟩
theorem unqA_size : ∀ (k : Nat) {L : List UInt8} {acc v : List UInt8} {i n : Nat}, L.length ≤ k → unqA acc i L = some (v, n) → i < n ∧ n ≤ i + L.length
  | k, [], acc, v, i, n, _, h => by cases h
  | 0, c :: r, acc, v, i, n, hk, _ => by simp at hk
  | k + 1, c :: r, acc, v, i, n, hk, h => by
    rw [List.length_cons] at hk
    rw [unqA_cons] at h
    rw [List.length_cons]
    split at h
    · simp only [Option.some.injEq, Prod.mk.injEq] at h
      omega
    · split at h
      · cases r with
        | nil => cases h
        | cons d r' =>
          simp only at h
          cases hp : pairU d with
          | none => rw [hp] at h; cases h
          | some x =>
            rw [hp] at h
            rw [List.length_cons] at hk ⊢
            have := unqA_size k (by omega) h
            omega
      · split at h
        · have := unqA_size k (by omega) h
          omega
        · cases h
theorem unqO_size {L v : List UInt8} {n : Nat} (h : unqO L = some (v, n)) : 1 < n ∧ n ≤ L.length := by
  cases L with
  | nil => cases h
  | cons c r =>
    rw [unqO] at h
    split at h
    · have := unqA_size _ (Nat.le_refl _) h
      rw [List.length_cons]
      omega
    · cases h
set_option maxRecDepth 100000 in
set_option maxHeartbeats 1000000 in
theorem quoted_any (sp : Option Addr) (cap : Nat) (L : List UInt8) (w : World) (h : BA w sp L) (hl : L.length ≤ 100000) (hcap : L.length ≤ cap) :
    Calls Try.prog 56 #[.slice sp L.length cap] w fun e w' => e = .returned (pairV (quoR L)) ∧ Below w.heap.size w w' := by
  have HL : Hid (BA w sp L) := h
  clear h
  go_enter Try.func56, Try.ntmps56
  cases hq : unqO L with
  | none =>
    have HE : Hid (quoR L = (0, 200)) := by unfold quoR; rw [hq]; exact rfl
    have HQ : Hid (unqO L = none) := hq
    clear hq
    go_wp2_with (go_at_call 43; refine (unquote_any sp cap L _ HL.out hl hcap).mono ?_; rintro e W1 ⟨he, hb⟩; rw [HQ.out] at he; unfold UnqP at he; subst he)
    go_ret2
    exact ⟨ret_pair HE.out, hb⟩
  | some p =>
    obtain ⟨v, n⟩ := p
    have hn := unqO_size hq
    have HE : Hid (quoR L = (n, 0)) := by unfold quoR; rw [hq]; exact rfl
    have HQ : Hid (unqO L = some (v, n)) := hq
    have hn0 : ((n : Int) == 0) = false := by rw [beq_eq_false_iff_ne]; omega
    clear hq
    go_wp2_with (go_at_call 43; refine (unquote_any sp cap L _ HL.out hl hcap).mono ?_; rintro e W1 ⟨he, hb⟩; rw [HQ.out] at he; obtain ⟨u, rfl, -⟩ := he)
    go_ret2
    exact ⟨ret_pair HE.out, hb⟩
/-- Signs of two bytes, and of one. -/
def sig2 (s : List UInt8) : Bool := s == [58, 61] || s == [61, 61] || s == [33, 61] || s == [60, 61] || s == [62, 61] || s == [38, 38] || s == [124, 124]
def sig1 (c : UInt8) : Bool := c == 40 || c == 41 || c == 123 || c == 125 || c == 91 || c == 93 || c == 44 || c == 46 || c == 58 || c == 61 || c == 43 || c == 45 || c == 42 || c == 47 || c == 37 || c == 60 || c == 62 || c == 33
/-- The size of a sign, and its error. -/
def sigR (L : List UInt8) : Nat × Int := if sig2 (L.take 2) then (2, 0) else match L with | [] => (0, 200) | c :: _ => if sig1 c then (1, 0) else (0, 200)
theorem u8_int (c : UInt8) (k : UInt8) : ((c.toNat : Int) == (k.toNat : Int)) = (c == k) := by
  rw [Bool.eq_iff_iff, beq_iff_eq, beq_iff_eq, Int.ofNat_inj]
  exact ⟨fun h => UInt8.toNat.inj h, fun h => by rw [h]⟩
theorem sig1_iff (c : UInt8) : sig1 c = true ↔ c.toNat = 40 ∨ c.toNat = 41 ∨ c.toNat = 123 ∨ c.toNat = 125 ∨ c.toNat = 91 ∨ c.toNat = 93 ∨ c.toNat = 44 ∨ c.toNat = 46 ∨ c.toNat = 58 ∨ c.toNat = 61 ∨ c.toNat = 43 ∨ c.toNat = 45 ∨ c.toNat = 42 ∨ c.toNat = 47 ∨ c.toNat = 37 ∨ c.toNat = 60 ∨ c.toNat = 62 ∨ c.toNat = 33 := by
  simp only [sig1, Bool.or_eq_true, beq_iff_eq, ← UInt8.toNat_inj]
  simp only [or_assoc]
  exact Iff.rfl
set_option maxRecDepth 100000 in
set_option maxHeartbeats 4000000 in
theorem sign_any (sp : Option Addr) (cap : Nat) (c : UInt8) (r : List UInt8) (w : World) (h : BA w sp (c :: r)) (hl : (c :: r).length ≤ 100000) (hcap : (c :: r).length ≤ cap) :
    Calls Try.prog 59 #[.slice sp (c :: r).length cap] w fun e w' => e = .returned (pairV (sigR (c :: r))) ∧ w' = w := by
  obtain ⟨b, o, rfl, hc⟩ := h (by simp)
  have k0 : w.cell? ⟨b, o, none⟩ = some (.int .u8 c.toNat) := hc 0 c rfl
  have hcv := conv_str (h.take 2) cap
  have hmin : (min (((c :: r).length : Nat) : Int) 2).toNat = ((c :: r).take 2).length := by rw [List.length_take]; omega
  rw [← hmin] at hcv
  have hl0 : (0 : Int) < ((c :: r).length : Nat) := by rw [List.length_cons]; omega
  obtain ⟨s0, e0, e1⟩ : ∃ s0, strU ((c :: r).take 2) = s0 ∧ s0.toList = (c :: r).take 2 := ⟨_, rfl, strU_list _⟩
  rw [e0] at hcv
  have HE : Hid (sigR (c :: r) = if sig2 s0.toList then (2, 0) else if sig1 c then (1, 0) else (0, 200)) := by rw [e1]; exact rfl
  have hm0 : 0 ≤ (min (((c :: r).length : Nat) : Int) 2) := by omega
  have hm1 : (min (((c :: r).length : Nat) : Int) 2) ≤ cap := by omega
  clear e0 e1 hc h hmin
  generalize (c :: r).length = n at *
  go_enter Try.func59, Try.ntmps59
  cases a0 : (s0.toList == [58, 61])
  rotate_left
  · have HX : Hid (sigR (c :: r) = (2, 0)) := by rw [HE.out, if_pos (by simp only [sig2, a0, Bool.true_or])]; exact rfl
    clear HE
    go_wp2
    go_ret2
    exact ⟨ret_pair HX.out, rfl⟩
  cases a1 : (s0.toList == [61, 61])
  rotate_left
  · have HX : Hid (sigR (c :: r) = (2, 0)) := by rw [HE.out, if_pos (by simp only [sig2, a0, a1, Bool.or_true, Bool.true_or])]; exact rfl
    clear HE
    go_wp2
    go_ret2
    exact ⟨ret_pair HX.out, rfl⟩
  cases a2 : (s0.toList == [33, 61])
  rotate_left
  · have HX : Hid (sigR (c :: r) = (2, 0)) := by rw [HE.out, if_pos (by simp only [sig2, a0, a1, a2, Bool.or_true, Bool.true_or])]; exact rfl
    clear HE
    go_wp2
    go_ret2
    exact ⟨ret_pair HX.out, rfl⟩
  cases a3 : (s0.toList == [60, 61])
  rotate_left
  · have HX : Hid (sigR (c :: r) = (2, 0)) := by rw [HE.out, if_pos (by simp only [sig2, a0, a1, a2, a3, Bool.or_true, Bool.true_or])]; exact rfl
    clear HE
    go_wp2
    go_ret2
    exact ⟨ret_pair HX.out, rfl⟩
  cases a4 : (s0.toList == [62, 61])
  rotate_left
  · have HX : Hid (sigR (c :: r) = (2, 0)) := by rw [HE.out, if_pos (by simp only [sig2, a0, a1, a2, a3, a4, Bool.or_true, Bool.true_or])]; exact rfl
    clear HE
    go_wp2
    go_ret2
    exact ⟨ret_pair HX.out, rfl⟩
  cases a5 : (s0.toList == [38, 38])
  rotate_left
  · have HX : Hid (sigR (c :: r) = (2, 0)) := by rw [HE.out, if_pos (by simp only [sig2, a0, a1, a2, a3, a4, a5, Bool.or_true, Bool.true_or])]; exact rfl
    clear HE
    go_wp2
    go_ret2
    exact ⟨ret_pair HX.out, rfl⟩
  cases a6 : (s0.toList == [124, 124])
  rotate_left
  · have HX : Hid (sigR (c :: r) = (2, 0)) := by rw [HE.out, if_pos (by simp only [sig2, a0, a1, a2, a3, a4, a5, a6, Bool.or_true])]; exact rfl
    clear HE
    go_wp2
    go_ret2
    exact ⟨ret_pair HX.out, rfl⟩
  have HF : Hid (sigR (c :: r) = if sig1 c then (1, 0) else (0, 200)) := by rw [HE.out, if_neg (by simp only [sig2, a0, a1, a2, a3, a4, a5, a6, Bool.or_false]; decide)]; exact rfl
  clear HE
  cases c0 : ((c.toNat : Int) == 40)
  rotate_left
  · have HX : Hid (sigR (c :: r) = (1, 0)) := by rw [HF.out, if_pos ((sig1_iff c).2 (by have := beq_iff_eq.1 c0; omega))]; exact rfl
    clear HF
    go_wp2
    go_ret2
    exact ⟨ret_pair HX.out, rfl⟩
  cases c1 : ((c.toNat : Int) == 41)
  rotate_left
  · have HX : Hid (sigR (c :: r) = (1, 0)) := by rw [HF.out, if_pos ((sig1_iff c).2 (by have := beq_iff_eq.1 c1; omega))]; exact rfl
    clear HF
    go_wp2
    go_ret2
    exact ⟨ret_pair HX.out, rfl⟩
  cases c2 : ((c.toNat : Int) == 123)
  rotate_left
  · have HX : Hid (sigR (c :: r) = (1, 0)) := by rw [HF.out, if_pos ((sig1_iff c).2 (by have := beq_iff_eq.1 c2; omega))]; exact rfl
    clear HF
    go_wp2
    go_ret2
    exact ⟨ret_pair HX.out, rfl⟩
  cases c3 : ((c.toNat : Int) == 125)
  rotate_left
  · have HX : Hid (sigR (c :: r) = (1, 0)) := by rw [HF.out, if_pos ((sig1_iff c).2 (by have := beq_iff_eq.1 c3; omega))]; exact rfl
    clear HF
    go_wp2
    go_ret2
    exact ⟨ret_pair HX.out, rfl⟩
  cases c4 : ((c.toNat : Int) == 91)
  rotate_left
  · have HX : Hid (sigR (c :: r) = (1, 0)) := by rw [HF.out, if_pos ((sig1_iff c).2 (by have := beq_iff_eq.1 c4; omega))]; exact rfl
    clear HF
    go_wp2
    go_ret2
    exact ⟨ret_pair HX.out, rfl⟩
  cases c5 : ((c.toNat : Int) == 93)
  rotate_left
  · have HX : Hid (sigR (c :: r) = (1, 0)) := by rw [HF.out, if_pos ((sig1_iff c).2 (by have := beq_iff_eq.1 c5; omega))]; exact rfl
    clear HF
    go_wp2
    go_ret2
    exact ⟨ret_pair HX.out, rfl⟩
  cases c6 : ((c.toNat : Int) == 44)
  rotate_left
  · have HX : Hid (sigR (c :: r) = (1, 0)) := by rw [HF.out, if_pos ((sig1_iff c).2 (by have := beq_iff_eq.1 c6; omega))]; exact rfl
    clear HF
    go_wp2
    go_ret2
    exact ⟨ret_pair HX.out, rfl⟩
  cases c7 : ((c.toNat : Int) == 46)
  rotate_left
  · have HX : Hid (sigR (c :: r) = (1, 0)) := by rw [HF.out, if_pos ((sig1_iff c).2 (by have := beq_iff_eq.1 c7; omega))]; exact rfl
    clear HF
    go_wp2
    go_ret2
    exact ⟨ret_pair HX.out, rfl⟩
  cases c8 : ((c.toNat : Int) == 58)
  rotate_left
  · have HX : Hid (sigR (c :: r) = (1, 0)) := by rw [HF.out, if_pos ((sig1_iff c).2 (by have := beq_iff_eq.1 c8; omega))]; exact rfl
    clear HF
    go_wp2
    go_ret2
    exact ⟨ret_pair HX.out, rfl⟩
  cases c9 : ((c.toNat : Int) == 61)
  rotate_left
  · have HX : Hid (sigR (c :: r) = (1, 0)) := by rw [HF.out, if_pos ((sig1_iff c).2 (by have := beq_iff_eq.1 c9; omega))]; exact rfl
    clear HF
    go_wp2
    go_ret2
    exact ⟨ret_pair HX.out, rfl⟩
  cases c10 : ((c.toNat : Int) == 43)
  rotate_left
  · have HX : Hid (sigR (c :: r) = (1, 0)) := by rw [HF.out, if_pos ((sig1_iff c).2 (by have := beq_iff_eq.1 c10; omega))]; exact rfl
    clear HF
    go_wp2
    go_ret2
    exact ⟨ret_pair HX.out, rfl⟩
  cases c11 : ((c.toNat : Int) == 45)
  rotate_left
  · have HX : Hid (sigR (c :: r) = (1, 0)) := by rw [HF.out, if_pos ((sig1_iff c).2 (by have := beq_iff_eq.1 c11; omega))]; exact rfl
    clear HF
    go_wp2
    go_ret2
    exact ⟨ret_pair HX.out, rfl⟩
  cases c12 : ((c.toNat : Int) == 42)
  rotate_left
  · have HX : Hid (sigR (c :: r) = (1, 0)) := by rw [HF.out, if_pos ((sig1_iff c).2 (by have := beq_iff_eq.1 c12; omega))]; exact rfl
    clear HF
    go_wp2
    go_ret2
    exact ⟨ret_pair HX.out, rfl⟩
  cases c13 : ((c.toNat : Int) == 47)
  rotate_left
  · have HX : Hid (sigR (c :: r) = (1, 0)) := by rw [HF.out, if_pos ((sig1_iff c).2 (by have := beq_iff_eq.1 c13; omega))]; exact rfl
    clear HF
    go_wp2
    go_ret2
    exact ⟨ret_pair HX.out, rfl⟩
  cases c14 : ((c.toNat : Int) == 37)
  rotate_left
  · have HX : Hid (sigR (c :: r) = (1, 0)) := by rw [HF.out, if_pos ((sig1_iff c).2 (by have := beq_iff_eq.1 c14; omega))]; exact rfl
    clear HF
    go_wp2
    go_ret2
    exact ⟨ret_pair HX.out, rfl⟩
  cases c15 : ((c.toNat : Int) == 60)
  rotate_left
  · have HX : Hid (sigR (c :: r) = (1, 0)) := by rw [HF.out, if_pos ((sig1_iff c).2 (by have := beq_iff_eq.1 c15; omega))]; exact rfl
    clear HF
    go_wp2
    go_ret2
    exact ⟨ret_pair HX.out, rfl⟩
  cases c16 : ((c.toNat : Int) == 62)
  rotate_left
  · have HX : Hid (sigR (c :: r) = (1, 0)) := by rw [HF.out, if_pos ((sig1_iff c).2 (by have := beq_iff_eq.1 c16; omega))]; exact rfl
    clear HF
    go_wp2
    go_ret2
    exact ⟨ret_pair HX.out, rfl⟩
  cases c17 : ((c.toNat : Int) == 33)
  rotate_left
  · have HX : Hid (sigR (c :: r) = (1, 0)) := by rw [HF.out, if_pos ((sig1_iff c).2 (by have := beq_iff_eq.1 c17; omega))]; exact rfl
    clear HF
    go_wp2
    go_ret2
    exact ⟨ret_pair HX.out, rfl⟩
  have HX : Hid (sigR (c :: r) = (0, 200)) := by
    rw [HF.out, if_neg (by
      rw [sig1_iff]
      have d0 := beq_eq_false_iff_ne.1 c0
      have d1 := beq_eq_false_iff_ne.1 c1
      have d2 := beq_eq_false_iff_ne.1 c2
      have d3 := beq_eq_false_iff_ne.1 c3
      have d4 := beq_eq_false_iff_ne.1 c4
      have d5 := beq_eq_false_iff_ne.1 c5
      have d6 := beq_eq_false_iff_ne.1 c6
      have d7 := beq_eq_false_iff_ne.1 c7
      have d8 := beq_eq_false_iff_ne.1 c8
      have d9 := beq_eq_false_iff_ne.1 c9
      have d10 := beq_eq_false_iff_ne.1 c10
      have d11 := beq_eq_false_iff_ne.1 c11
      have d12 := beq_eq_false_iff_ne.1 c12
      have d13 := beq_eq_false_iff_ne.1 c13
      have d14 := beq_eq_false_iff_ne.1 c14
      have d15 := beq_eq_false_iff_ne.1 c15
      have d16 := beq_eq_false_iff_ne.1 c16
      have d17 := beq_eq_false_iff_ne.1 c17
      omega)]
    exact rfl
  clear HF
  go_wp2
  go_ret2
  exact ⟨ret_pair HX.out, rfl⟩
end Go.Proofs.Ytcbpnmdphmdemaa
