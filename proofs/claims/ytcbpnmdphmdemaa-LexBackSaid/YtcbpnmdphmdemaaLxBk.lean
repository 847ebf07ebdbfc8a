/- The law LexBack answers true. -/
import Derived.Test.YtcbpnmdphmdemaaLxZ
import Derived.Test.YtcbpnmdphmdemaaLxH
namespace Go.Proofs.Ytcbpnmdphmdemaa
open Go.RowKit

theorem chkO_cases (ts : List Tok) : chkO ts = 0 ∨ chkO ts = 2 := by
  unfold chkO
  split
  · exact .inr rfl
  · split
    · exact .inl rfl
    · exact .inr rfl
set_option maxRecDepth 100000 in
set_option maxHeartbeats 2000000 in
theorem lexBack_all (sp : Option Addr) (c1 : Nat) (xs : List Tok) (w : World) (h1 : RowsT w sp xs) :
    Calls Try.prog 7 #[.slice sp xs.length c1] w fun e w' => e = .returned (.bool true) ∧ Below w.heap.size w w' := by
  have H1 : Hid (RowsT w sp xs) := h1
  clear h1
  go_enter Try.func7, Try.ntmps7
  go_wp2_with fail
  refine (wakes_any w).mono ?_
  rintro e W1 ⟨rfl, b1⟩
  go_wp2_with fail
  refine (few_any sp c1 xs W1 (RowsAt.below H1.out b1)).mono ?_
  rintro e W2 ⟨⟨s1, k1, rfl, o1⟩, b2⟩
  have bw2 : Hid (Below w.heap.size w W2) := b1.trans (b2.mono b1.size)
  obtain ⟨r1, -, m1, a1, rfl⟩ := few_rows o1 rfl
  have R1 : Hid (RowsT W2 (some a1) (fewL xs)) := r1
  have l1 := fewL_small xs
  clear H1 b1 b2 o1 r1
  generalize fewL xs = us at R1 l1 ⊢
  go_wp2_with fail
  refine (print_any (some a1) k1 us W2 R1.out (by omega)).mono ?_
  rintro e W3 ⟨rfl, b3⟩
  have bw3 : Hid (Below w.heap.size w W3) := bw2.out.trans (b3.mono bw2.out.size)
  have R3 : Hid (RowsT W3 (some a1) us) := RowsAt.below R1.out b3
  clear R1 b3 bw2
  rcases chkO_cases us with hc | hc
  · by_cases h4 : 4096 < (prtF [] true us).length
    · have HP : prtO us = .tuple #[.string ⟨#[]⟩, .int .i64 3] := by unfold prtO; rw [if_neg (by rw [hc]; simp), if_pos h4]
      rw [HP]
      clear HP hc h4
      go_wp2
      go_ret
      exact ⟨rfl, bw3.out⟩
    · have HP : prtO us = .tuple #[.string (strU (prtF [] true us)), .int .i64 0] := by unfold prtO; rw [if_neg (by rw [hc]; simp), if_neg h4]
      obtain ⟨ms, g1, g2⟩ := print_back hc h4
      have G1 : Hid (lexO (strU (prtF [] true us)).data.toList = (ms, 0, 0)) := g1
      have G2 : Hid (eqAll tkEq us ms = true) := g2
      have G3 : ms.length ≤ 1024 := by have := eqAll_len g2; have := (chkO_zero hc).1; omega
      rw [HP]
      clear HP hc h4 g1 g2
      generalize strU (prtF [] true us) = st at G1 ⊢
      go_wp2_with fail
      refine (lex_any st W3).mono ?_
      rw [G1.out]
      rintro e W4 ⟨⟨v, rfl, o4⟩, b4⟩
      obtain ⟨s4, k4, rfl, R4, -, -, -⟩ := OwnG.rows elT o4
      have HR4 : Hid (RowsT W4 s4 ms) := R4
      have bw4 : Hid (Below w.heap.size w W4) := bw3.out.trans (b4.mono bw3.out.size)
      have R5 : Hid (RowsT W4 (some a1) us) := RowsAt.below R3.out b4
      clear o4 b4 bw3 R3 R4
      go_wp2_with fail
      have ba : Below W4.heap.size W4 (W4.alloc (.cells #[.int .i64 0, .int .i64 0] 27)) := (Below.refl _ _).alloc (Nat.le_refl _) _
      have ba' : Below w.heap.size w (W4.alloc (.cells #[.int .i64 0, .int .i64 0] 27)) := bw4.out.alloc bw4.out.size _
      refine (same_any (some a1) s4 k1 k4 us ms _ (RowsAt.below R5.out ba) (RowsAt.below HR4.out ba) (by omega) (by omega)).mono ?_
      rintro e W5 ⟨rfl, b5⟩
      rw [G2.out]
      go_wp2
      go_ret
      exact ⟨rfl, ba'.trans (b5.mono ba'.size)⟩
  · have HP : prtO us = .tuple #[.string ⟨#[]⟩, .int .i64 2] := by unfold prtO; rw [if_pos (by rw [hc]; decide), hc]
    rw [HP]
    clear HP hc
    go_wp2
    go_ret
    exact ⟨rfl, bw3.out⟩
end Go.Proofs.Ytcbpnmdphmdemaa
