/- The contracts of lex's comment and number. -/
import Derived.Test.YtcbpnmdphmdemaaLxS
namespace Go.Proofs.Ytcbpnmdphmdemaa
open Go.RowKit

/-- The size of a comment. -/
def comN (L : List UInt8) : Nat := runN (fun c => c != 10) L
theorem index_ge (L : List UInt8) (c : UInt8) : Lib.indexByte L c = if runN (fun d => d != c) L < L.length then (runN (fun d => d != c) L : Int) else -1 := by
  induction L with
  | nil => rfl
  | cons a r ih =>
    rw [Lib.indexByte, runN_cons, List.length_cons]
    by_cases h : a = c
    · subst h
      simp
    · have h1 : (a == c) = false := by simpa using h
      have h2 : (a != c) = true := by simpa using h
      by_cases hlt : runN (fun d => d != c) r < r.length
      · have h3 : ((runN (fun d => d != c) r : Int) == -1) = false := by rw [beq_eq_false_iff_ne]; omega
        simp [h1, h2, ih, hlt, h3]
      · simp [h1, h2, ih, hlt]
set_option maxRecDepth 100000 in
set_option maxHeartbeats 1000000 in
theorem comment_any (sp : Option Addr) (cap : Nat) (L : List UInt8) (w : World) (h : BA w sp L) (hpos : 0 < L.length) :
    Calls Try.prog 58 #[.slice sp L.length cap] w fun e w' => e = .returned (.int .i64 (comN L)) ∧ w' = w := by
  obtain ⟨b, o, rfl, hc⟩ := h hpos
  have HI : Hid (Calls Try.prog 66 #[.slice (some ⟨b, o, none⟩) L.length cap, .int .u8 10] w fun e w' => e = .returned (.int .i64 (if runN (fun d => d != 10) L < L.length then (runN (fun d => d != 10) L : Int) else -1)) ∧ w' = w) := by
    have := Try.bytes_IndexByte_at ⟨b, o, none⟩ L.length cap (Lib.numsL L) 10 w (by simp [Lib.numsL]) (fun i hi => by
      rw [Addr.add_mid, hc i _ (List.getElem?_eq_getElem hi)]
      simp [Lib.numsL, hi])
    rw [Lib.bytesOf_numsL, index_ge] at this
    exact this
  have hle := runN_le (fun c => c != 10) L
  clear hc h
  go_enter Try.func58, Try.ntmps58
  by_cases hlt : runN (fun d => d != 10) L < L.length
  · have hn : ¬ ((runN (fun d => d != 10) L : Int) < 0) := by omega
    have HX : Hid (comN L = runN (fun d => d != 10) L) := rfl
    go_wp2_with (go_at_call 66; refine HI.out.mono ?_; rintro e W1 ⟨rfl, hW1⟩; subst hW1; rw [if_pos hlt])
    go_ret
    exact ⟨ret_int (by rw [HX.out]), rfl⟩
  · have HX : Hid (comN L = L.length) := by
      have : comN L = runN (fun d => d != 10) L := rfl
      rw [this]
      show runN (fun d => d != 10) L = L.length
      omega
    go_wp2_with (go_at_call 66; refine HI.out.mono ?_; rintro e W1 ⟨rfl, hW1⟩; subst hW1; rw [if_neg hlt])
    go_ret
    exact ⟨ret_int (by rw [HX.out]), rfl⟩
theorem num_some {L M : List UInt8} {n q k : Nat} (h : numR L = if (decO M).isSome = false ∨ 0 < k then (0, 201) else (n, 0)) (hd : decO M = some q) : numR L = if 0 < k then (0, 201) else (n, 0) := by
  rw [h, hd]
  simp
set_option maxRecDepth 100000 in
set_option maxHeartbeats 1000000 in
theorem number_any (sp : Option Addr) (cap : Nat) (L : List UInt8) (w : World) (h : BA w sp L) (hpos : 0 < L.length) (hl : L.length ≤ 100000) (hcap : L.length ≤ cap) :
    Calls Try.prog 55 #[.slice sp L.length cap] w fun e w' => e = .returned (pairV (numR L)) ∧ Below w.heap.size w w' := by
  obtain ⟨b, o, rfl, hc⟩ := h hpos
  have HL : Hid (BA w (some ⟨b, o, none⟩) L) := h
  clear h hc
  obtain ⟨n, HN⟩ : ∃ n, Hid (runN (inC [4]) L = n) := ⟨_, rfl⟩
  have hnl : n ≤ L.length := by rw [← HN.out]; exact runN_le _ _
  have HE : Hid (numR L = if (decO (L.take n)).isSome = false ∨ 0 < runN (inC [3]) (L.drop n) then (0, 201) else (n, 0)) := by unfold numR; rw [HN.out]; exact rfl
  have HR : Hid (Calls Try.prog 64 #[.slice (some ⟨b, o, none⟩) L.length cap, .slice (some ⟨w.heap.size, 0, none⟩) 1 1] (w.alloc (.cells #[.int .i64 4] 3)) fun e w' => e = .returned (.int .i64 n) ∧ Below w.heap.size w w') := by
    have b1 : Below w.heap.size w (w.alloc (.cells #[.int .i64 4] 3)) := (Below.refl _ _).alloc (Nat.le_refl _) _
    have := run_any _ cap L w.heap.size 0 1 [4] _ (HL.out.below b1) (by omega) (by simp) (ints_cells w [4] 3)
    rw [HN.out] at this
    exact this.mono fun e w' ⟨h1, h2⟩ => ⟨h1, h2 ▸ b1⟩
  go_enter Try.func55, Try.ntmps55
  go_wp2_with fail
  refine HR.out.mono ?_
  rintro e W1 ⟨rfl, b1⟩
  have htl : (L.take n).length = n := by rw [List.length_take]; omega
  have hcv := conv_str ((HL.out.below' b1).take n) cap
  rw [htl] at hcv
  have hnc : (n : Int) ≤ cap := by omega
  go_wp2_with fail
  refine (decimal_any (strU (L.take n)) W1).mono ?_
  rintro e W2 ⟨rfl, b2⟩
  rw [strU_data]
  have bw2 : Below w.heap.size w W2 := b1.trans (b2.mono b1.size)
  clear hcv htl HR
  cases hdo : decO (L.take n) with
  | none =>
    have HX : Hid (numR L = (0, 201)) := by rw [HE.out, hdo]; exact rfl
    clear HE hdo
    unfold decV
    go_wp2
    go_ret2
    exact ⟨ret_pair HX.out, bw2⟩
  | some q =>
    have HX : Hid (numR L = if 0 < runN (inC [3]) (L.drop n) then (0, 201) else (n, 0)) := num_some HE.out hdo
    clear HE hdo
    have b3 : Below w.heap.size w (W2.alloc (.cells #[.int .i64 3] 3)) := bw2.alloc bw2.size _
    have HR2 : Hid (Calls Try.prog 64 #[.slice (if cap = n then some ⟨b, o, none⟩ else some ⟨b, o + n, none⟩) (L.length - n) (cap - n), .slice (some ⟨W2.heap.size, 0, none⟩) 1 1] (W2.alloc (.cells #[.int .i64 3] 3)) fun e w' => e = .returned (.int .i64 (runN (inC [3]) (L.drop n))) ∧ w' = (W2.alloc (.cells #[.int .i64 3] 3))) := by
      have := run_any _ (cap - n) (L.drop n) W2.heap.size 0 1 [3] _ (BA.cut (HL.out.below' b3) n hcap) (by rw [List.length_drop]; omega) (by simp) (ints_cells W2 [3] 3)
      rw [List.length_drop] at this
      exact this
    unfold decV
    by_cases hr : 0 < runN (inC [3]) (L.drop n)
    · have hr' : ((runN (inC [3]) (L.drop n) : Nat) : Int) > 0 := by omega
      have HY : Hid (numR L = (0, 201)) := by rw [HX.out, if_pos hr]; exact rfl
      clear HX
      go_wp2_with (go_at_call 64; refine HR2.out.mono ?_; rintro e W3 ⟨rfl, rfl⟩)
      all_goals go_ret2
      all_goals exact ⟨ret_pair HY.out, b3⟩
    · have hr' : ¬ ((runN (inC [3]) (L.drop n) : Nat) : Int) > 0 := by omega
      have HY : Hid (numR L = (n, 0)) := by rw [HX.out, if_neg hr]; exact rfl
      clear HX
      go_wp2_with (go_at_call 64; refine HR2.out.mono ?_; rintro e W3 ⟨rfl, rfl⟩)
      all_goals go_ret2
      all_goals exact ⟨ret_pair HY.out, b3⟩
end Go.Proofs.Ytcbpnmdphmdemaa
