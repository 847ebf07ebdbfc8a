/- The law MergeSelf answers true. -/
import Derived.Test.YtmbnbehlfbdpnaaMTwo
namespace Go.Proofs.Ytmbnbehlfbdpnaa
open Go.RowKit

set_option maxRecDepth 100000 in
set_option maxHeartbeats 4000000 in
theorem mergeSelf_all (a b : Sl) (w : World) (ha : InF w a) (hb : InF w b) :
    Calls Try.prog 7 #[.agg #[.slice a.sp a.fs.length a.cap], .agg #[.slice b.sp b.fs.length b.cap]] w fun e w' => e = .returned (.bool true) ∧ Below w.heap.size w w' := by
  have HA : Hid (InF w a) := ha
  have HB : Hid (InF w b) := hb
  clear ha hb
  go_enter Try.func7, Try.ntmps7
  go_wp2_with fail
  refine calls_gen (fun W1 => Below w.heap.size w W1 ∧ W1.heap[w.heap.size]? = some (.cells #[.slice a.sp a.fs.length a.cap] 24 (0, 0)) ∧ W1.heap[w.heap.size + 1]? = some (.cells #[.slice b.sp b.fs.length b.cap] 24 (0, 0))) ⟨((Below.refl _ _).alloc (Nat.le_refl _) _).alloc (by simp) _, (Below.heap_alloc _ _ _ (by simp)).trans (heap_alloc_new _ _), ?_⟩ ?_
  · have := heap_alloc_new (w.alloc (.cells #[.slice a.sp a.fs.length a.cap] 24)) (.cells #[.slice b.sp b.fs.length b.cap] 24)
    rw [World.size_alloc] at this
    exact this
  rintro W1 ⟨hB1, r1, r2⟩
  refine (wakes8_any W1).mono ?_
  rintro e W2 ⟨rfl, b2⟩
  have hB2 : Below w.heap.size w W2 := hB1.trans (b2.mono hB1.size)
  have q1 := (b2.block _ (lt_of_row r1)).trans r1
  have q2 := (b2.block _ (lt_of_row r2)).trans r2
  clear r1 r2 hB1 b2
  go_wp2
  refine wp_mono (Q := fun e a' W' => e = .normal ∧ ∃ (s1 s2 : Option Addr) (k1 k2 d1 d2 : Nat), a' = { tmps := #[.agg #[.slice a.sp a.fs.length a.cap], .agg #[.slice b.sp b.fs.length b.cap], .pointer (some ⟨w.heap.size, 0, none⟩), .pointer (some ⟨w.heap.size + 1, 0, none⟩), .bool false, undef, undef, undef, undef, undef, undef, undef, undef, undef, undef, undef, undef, .bool true, .bool false, .agg #[.slice a.sp a.fs.length a.cap], .agg #[.slice s1 k1 d1], .agg #[.slice b.sp b.fs.length b.cap], .agg #[.slice s2 k2 d2], undef, undef, undef, undef, undef, undef, undef, undef, undef, undef, undef, undef, undef, undef, undef, undef, undef, undef, undef, undef, undef, undef, undef, undef, undef, undef, undef, undef, undef, undef, undef, undef, undef, undef, undef, undef, undef, undef, undef, undef, undef, undef, undef, undef, undef, undef, undef, undef, undef, undef, undef, undef, undef, undef, undef, undef, undef, undef, undef, undef, undef, undef, undef, undef, undef, undef, undef, undef, undef, undef, undef, undef, undef, undef, undef, undef, undef, undef], defers := [] } ∧ OwnF w.heap.size W' (.slice s1 k1 d1) (shortL a.fs) ∧ OwnF w.heap.size W' (.slice s2 k2 d2) (shortL b.fs) ∧ W'.heap[w.heap.size]? = some (.cells #[.slice s1 k1 d1] 24 (0, 0)) ∧ W'.heap[w.heap.size + 1]? = some (.cells #[.slice s2 k2 d2] 24 (0, 0)) ∧ Below w.heap.size w W') ?_ ?_
  · refine wp_frm 101 rfl ?_
    refine two_shorts 101 2 3 19 20 21 22 _ w.heap.size W2 w a b rfl (by kernel_rfl) rfl rfl rfl rfl rfl rfl ⟨rfl, rfl, rfl⟩ ⟨rfl, rfl, rfl⟩ ⟨rfl, rfl, rfl⟩ ⟨rfl, rfl, rfl⟩ ⟨rfl, rfl, rfl⟩ ⟨rfl, rfl, rfl⟩ ⟨by kernel_rfl, by kernel_rfl, ⟨by kernel_rfl, by kernel_rfl⟩, by kernel_rfl, by kernel_rfl⟩ (by decide) rfl rfl (Nat.le_refl _) q1 q2 hB2 HA.out HB.out ?_
    intro s1 s2 k1 k2 d1 d2 W' o1 o2 e1 e2 hb
    exact ⟨rfl, s1, s2, k1, k2, d1, d2, congrArg (fun t => Act.mk t []) (by kernel_rfl), o1, o2, e1, e2, hb⟩
  · rintro e a' W3 ⟨rfl, s1, s2, k1, k2, d1, d2, rfl, o1, o2, r1, r2, hb⟩
    dsimp only
    obtain ⟨A, eA, fA, hA⟩ := own_sl o1 (by have := shortL_len a.fs; omega) (shortL_small _)
    obtain ⟨B, eB, fB, hB⟩ := own_sl o2 (by have := shortL_len b.fs; omega) (shortL_small _)
    injection eA with eA1 eA2 eA3
    injection eB with eB1 eB2 eB3
    subst eA1 eA2 eA3 eB1 eB2 eB3
    have hS : Hid (∀ W, Below W3.heap.size W3 W → SlS W A ∧ SlS W B) := fun W h => ⟨⟨hA.1.below h, hA.2⟩, ⟨hB.1.below h, hB.2⟩⟩
    have hR : Hid (∀ W, Below W3.heap.size W3 W → W.heap[w.heap.size]? = some (.cells #[.slice A.sp A.fs.length A.cap] 24 (0, 0)) ∧ W.heap[w.heap.size + 1]? = some (.cells #[.slice B.sp B.fs.length B.cap] 24 (0, 0)) ∧ Below w.heap.size w W) := fun W h => ⟨(h.block _ (lt_of_row r1)).trans r1, (h.block _ (lt_of_row r2)).trans r2, hb.trans (h.mono hb.size)⟩
    have c1 : W3.cell? ⟨w.heap.size, 0, none⟩ = some (.slice A.sp A.fs.length A.cap) := (cell_of_row _ _ _ _ _ _ r1).trans rfl
    clear o1 o2 fA fB hA hB hB2 q1 q2 HA HB
    go_wp2_with fail
    obtain ⟨hSA, hSB⟩ := hS.out W3 (Below.refl _ _)
    refine (tcheck_any A.sp A.cap A.fs W3 hSA.1.1 hSA.2.1 hSA.2.2).mono ?_
    clear hSA hSB
    rintro e W4 ⟨rfl, b4⟩
    obtain ⟨r1', r2', hb4⟩ := hR.out W4 b4
    have c1 : W4.cell? ⟨w.heap.size, 0, none⟩ = some (.slice A.sp A.fs.length A.cap) := (cell_of_row _ _ _ _ _ _ r1').trans rfl
    have c2 : W4.cell? ⟨w.heap.size + 1, 0, none⟩ = some (.slice B.sp B.fs.length B.cap) := (cell_of_row _ _ _ _ _ _ r2').trans rfl
    have l1 := lt_of_row r1'
    have l2 := lt_of_row r2'
    have hbad : Hid (right3 A.fs B.fs A.fs = false → ∀ W, Below W3.heap.size W3 W → Calls Try.prog 11 #[.agg #[.slice A.sp A.fs.length A.cap], .agg #[.slice B.sp B.fs.length B.cap], .agg #[.slice A.sp A.fs.length A.cap]] W fun e w' => e = .returned (.tuple #[.agg #[.slice none 0 0], .slice none 0 0, .int .i64 170]) ∧ Below W.heap.size W w') := fun h3 W hW => by
      obtain ⟨sA, sB⟩ := hS.out W hW
      refine (merge_any A B A W sA sB sA).mono ?_
      rintro e w' ⟨hm, hb'⟩
      rw [h3] at hm
      exact ⟨hm, hb'⟩
    clear r1' r2' r1 r2 hb
    cases hra : repoB A.fs with
    | false =>
      rw [show checkR A.fs = 170 by unfold checkR; rw [hra]; rfl]
      have h3 := hbad.out (by unfold right3; rw [hra]; rfl)
      clear hra hbad
      go_wp2_with fail
      refine (h3 W4 b4).mono ?_
      rintro e W5 ⟨rfl, b5⟩
      go_wp2
      go_ret
      exact ⟨rfl, (hb4.trans (b5.mono hb4.size)).alloc (by have := (hb4.trans (b5.mono hb4.size)).size; omega) _⟩
    | true =>
      rw [show checkR A.fs = 0 by unfold checkR; rw [hra]; rfl]
      go_wp2_with fail
      obtain ⟨hSA, hSB⟩ := hS.out W4 b4
      refine (tcheck_any B.sp B.cap B.fs W4 hSB.1.1 hSB.2.1 hSB.2.2).mono ?_
      clear hSA hSB
      rintro e W5 ⟨rfl, b45⟩
      have b5 : Below W3.heap.size W3 W5 := b4.trans (b45.mono b4.size)
      obtain ⟨r1', r2', hb5⟩ := hR.out W5 b5
      have d1 : W5.cell? ⟨w.heap.size, 0, none⟩ = some (.slice A.sp A.fs.length A.cap) := (cell_of_row _ _ _ _ _ _ r1').trans rfl
      have d2 : W5.cell? ⟨w.heap.size + 1, 0, none⟩ = some (.slice B.sp B.fs.length B.cap) := (cell_of_row _ _ _ _ _ _ r2').trans rfl
      have l1 := lt_of_row r1'
      have l2 := lt_of_row r2'
      clear r1' r2' b45 c1 c2
      cases hrb : repoB B.fs with
      | false =>
        rw [show checkR B.fs = 170 by unfold checkR; rw [hrb]; rfl]
        have h3 := hbad.out (by unfold right3; rw [hra, hrb]; rfl)
        clear hra hrb hbad
        go_wp2_with fail
        refine (h3 W5 b5).mono ?_
        rintro e W6 ⟨rfl, b6⟩
        go_wp2
        go_ret
        exact ⟨rfl, (hb5.trans (b6.mono hb5.size)).alloc (by have := (hb5.trans (b6.mono hb5.size)).size; omega) _⟩
      | true =>
        rw [show checkR B.fs = 0 by unfold checkR; rw [hrb]; rfl]
        -- each of the three mergings is ours
        have good : ∀ x y z : Sl, right3 x.fs y.fs z.fs = true → joinF (pathsA x.fs y.fs z.fs) = B.fs ∧ joinC (pathsA x.fs y.fs z.fs) = [] → ∀ W, SlS W x → SlS W y → SlS W z → Calls Try.prog 11 #[.agg #[.slice x.sp x.fs.length x.cap], .agg #[.slice y.sp y.fs.length y.cap], .agg #[.slice z.sp z.fs.length z.cap]] W fun e w' => (∃ (s : Option Addr) (d : Nat), e = .returned (.tuple #[.agg #[.slice s B.fs.length d], .slice none 0 0, .int .i64 0]) ∧ RowsAt w' 2 Fi.cells s B.fs) ∧ Below W.heap.size W w' := fun x y z h3 hj W hx hy hz => by
          refine (merge_any x y z W hx hy hz).mono ?_
          rintro e w' ⟨hm, hb'⟩
          rw [if_pos h3, if_pos hj.2, hj.1, if_pos hrb] at hm
          obtain ⟨vf, rfl, hof⟩ := hm
          obtain ⟨s, d, rfl, hr, -⟩ := hof.rows
          exact ⟨⟨s, d, rfl, hr⟩, hb'⟩
        have h1 : right3 A.fs B.fs A.fs = true := by unfold right3; rw [hra, hrb]; rfl
        have h2 : right3 A.fs A.fs B.fs = true := by unfold right3; rw [hra, hrb]; rfl
        have h3 : right3 A.fs B.fs B.fs = true := by unfold right3; rw [hra, hrb]; rfl
        have G1 : Hid _ := good A B A h1 (self_bt A.fs B.fs)
        have G2 : Hid _ := good A A B h2 (self_bo A.fs B.fs)
        have G3 : Hid _ := good A B B h3 (self_ot A.fs B.fs)
        clear good h1 h2 h3 hra hrb hbad
        go_wp2_with fail
        obtain ⟨hSA, hSB⟩ := hS.out W5 b5
        refine (G1.out W5 hSA hSB hSA).mono ?_
        clear hSA hSB
        rintro e W6 ⟨⟨t1, u1, rfl, rr1⟩, b56⟩
        have RR1 : Hid (RowsAt W6 2 Fi.cells t1 B.fs) := rr1
        have b6 : Below W3.heap.size W3 W6 := b5.trans (b56.mono b5.size)
        obtain ⟨r1', r2', hb6⟩ := hR.out W6 b6
        have e1 : W6.cell? ⟨w.heap.size, 0, none⟩ = some (.slice A.sp A.fs.length A.cap) := (cell_of_row _ _ _ _ _ _ r1').trans rfl
        have e2 : W6.cell? ⟨w.heap.size + 1, 0, none⟩ = some (.slice B.sp B.fs.length B.cap) := (cell_of_row _ _ _ _ _ _ r2').trans rfl
        have m1 := lt_of_row r1'
        have m2 := lt_of_row r2'
        clear r1' r2' b56 d1 d2 rr1 l1 l2 hb4 hb5 b4
        go_wp2_with fail
        refine calls_gen (fun W7 => Below W6.heap.size W6 W7 ∧ W7.heap[W6.heap.size]? = some (.cells #[.slice t1 B.fs.length u1] 24 (0, 0))) ⟨(Below.refl _ _).alloc (Nat.le_refl _) _, heap_alloc_new _ _⟩ ?_
        rintro W7 ⟨b67, g1⟩
        have b7 : Below W3.heap.size W3 W7 := b6.trans (b67.mono b6.size)
        have RR1' : Hid (RowsAt W7 2 Fi.cells t1 B.fs) := RR1.out.below b67
        clear RR1 e1 e2 hb6 b67
        obtain ⟨hSA, hSB⟩ := hS.out W7 b7
        refine (G2.out W7 hSA hSA hSB).mono ?_
        clear hSA hSB
        rintro e W8 ⟨⟨t2, u2, rfl, rr2⟩, b78⟩
        have RR2 : Hid (RowsAt W8 2 Fi.cells t2 B.fs) := rr2
        have RR1 : Hid (RowsAt W8 2 Fi.cells t1 B.fs) := RR1'.out.below b78
        have b8 : Below W3.heap.size W3 W8 := b7.trans (b78.mono b7.size)
        obtain ⟨r1', r2', hb8⟩ := hR.out W8 b8
        have e1 : W8.cell? ⟨w.heap.size, 0, none⟩ = some (.slice A.sp A.fs.length A.cap) := (cell_of_row _ _ _ _ _ _ r1').trans rfl
        have e2 : W8.cell? ⟨w.heap.size + 1, 0, none⟩ = some (.slice B.sp B.fs.length B.cap) := (cell_of_row _ _ _ _ _ _ r2').trans rfl
        have g1' := (b78.block _ (lt_of_row g1)).trans g1
        have m1 := lt_of_row r1'
        have m2 := lt_of_row r2'
        clear r1' r2' rr2 RR1' g1 b78 b7
        go_wp2_with fail
        refine calls_gen (fun W9 => Below W8.heap.size W8 W9 ∧ W9.heap[W8.heap.size]? = some (.cells #[.slice t2 B.fs.length u2] 24 (0, 0))) ⟨(Below.refl _ _).alloc (Nat.le_refl _) _, heap_alloc_new _ _⟩ ?_
        rintro W9 ⟨b89, g2⟩
        have b9 : Below W3.heap.size W3 W9 := b8.trans (b89.mono b8.size)
        have RR1' : Hid (RowsAt W9 2 Fi.cells t1 B.fs) := RR1.out.below b89
        have RR2' : Hid (RowsAt W9 2 Fi.cells t2 B.fs) := RR2.out.below b89
        have g1 := (b89.block _ (lt_of_row g1')).trans g1'
        clear RR1 RR2 e1 e2 hb8 b89 g1'
        obtain ⟨hSA, hSB⟩ := hS.out W9 b9
        refine (G3.out W9 hSA hSB hSB).mono ?_
        clear hSA hSB
        rintro e WA ⟨⟨t3, u3, rfl, rr3⟩, b9A⟩
        have bA : Below W3.heap.size W3 WA := b9.trans (b9A.mono b9.size)
        have g1A := (b9A.block _ (lt_of_row g1)).trans g1
        have g2A := (b9A.block _ (lt_of_row g2)).trans g2
        have RR1 : Hid (RowsAt WA 2 Fi.cells t1 B.fs) := RR1'.out.below b9A
        have RR2 : Hid (RowsAt WA 2 Fi.cells t2 B.fs) := RR2'.out.below b9A
        have RR3 : Hid (RowsAt WA 2 Fi.cells t3 B.fs) := rr3
        clear RR1' RR2' rr3 g1 g2 b9A b9
        obtain ⟨r1', r2', hbA⟩ := hR.out WA bA
        have f1 : WA.cell? ⟨w.heap.size, 0, none⟩ = some (.slice A.sp A.fs.length A.cap) := (cell_of_row _ _ _ _ _ _ r1').trans rfl
        have f2 : WA.cell? ⟨w.heap.size + 1, 0, none⟩ = some (.slice B.sp B.fs.length B.cap) := (cell_of_row _ _ _ _ _ _ r2').trans rfl
        have f3 : WA.cell? ⟨W6.heap.size, 0, none⟩ = some (.slice t1 B.fs.length u1) := (cell_of_row _ _ _ _ _ _ g1A).trans rfl
        have f4 : WA.cell? ⟨W8.heap.size, 0, none⟩ = some (.slice t2 B.fs.length u2) := (cell_of_row _ _ _ _ _ _ g2A).trans rfl
        have n1 := block_lt_of_cell f1
        have n2 := block_lt_of_cell f2
        have n3 := block_lt_of_cell f3
        have n4 := block_lt_of_cell f4
        clear r1' r2' g1A g2A
        go_wp2_with fail
        refine calls_gen (fun WB => Below WA.heap.size WA WB ∧ WB.heap[WA.heap.size]? = some (.cells #[.slice t3 B.fs.length u3] 24 (0, 0))) ⟨(Below.refl _ _).alloc (Nat.le_refl _) _, heap_alloc_new _ _⟩ ?_
        rintro WB ⟨bAB, g3⟩
        have bWB : Below W3.heap.size W3 WB := bA.trans (bAB.mono bA.size)
        have QB : Hid (∀ W, Below WB.heap.size WB W → (RowsAt W 2 Fi.cells t1 B.fs ∧ RowsAt W 2 Fi.cells t2 B.fs ∧ RowsAt W 2 Fi.cells t3 B.fs) ∧ W.cell? ⟨w.heap.size + 1, 0, none⟩ = some (.slice B.sp B.fs.length B.cap) ∧ W.cell? ⟨W8.heap.size, 0, none⟩ = some (.slice t2 B.fs.length u2) ∧ W.cell? ⟨WA.heap.size, 0, none⟩ = some (.slice t3 B.fs.length u3) ∧ Below W3.heap.size W3 W) := fun W h => by
          have hAW : Below WA.heap.size WA W := bAB.trans (h.mono bAB.size)
          have g3' := (h.block _ (lt_of_row g3)).trans g3
          exact ⟨⟨RR1.out.below hAW, RR2.out.below hAW, RR3.out.below hAW⟩, (hAW.cell (p := ⟨w.heap.size + 1, 0, none⟩) n2).trans f2, (hAW.cell (p := ⟨W8.heap.size, 0, none⟩) n4).trans f4, (cell_of_row _ _ _ _ _ _ g3').trans rfl, bA.trans (hAW.mono bA.size)⟩
        clear RR1 RR2 RR3 f1 f2 f3 f4 n1 n2 n3 n4 g3 hbA m1 m2 l1 l2 c1
        obtain ⟨⟨z1, -, -⟩, -, -, -, y1⟩ := QB.out WB (Below.refl _ _)
        refine (tsame_any t1 B.sp u1 B.cap B.fs B.fs WB z1 (hS.out WB y1).2.1.1 (by have := (hS.out WB y1).2.2.1; omega)).mono ?_
        clear z1 y1
        rintro e WC ⟨rfl, bBC⟩
        rw [eqAll_refl fiEq_refl B.fs]
        obtain ⟨⟨-, z2, -⟩, p1, p2, p3, y2⟩ := QB.out WC bBC
        have i1 := block_lt_of_cell p1
        go_wp2_with fail
        refine (tsame_any t2 B.sp u2 B.cap B.fs B.fs WC z2 (hS.out WC y2).2.1.1 (by have := (hS.out WC y2).2.2.1; omega)).mono ?_
        rintro e WD ⟨rfl, bCD⟩
        rw [eqAll_refl fiEq_refl B.fs]
        have bBD : Below WB.heap.size WB WD := bBC.trans (bCD.mono bBC.size)
        clear z2 p1 p2 p3 y2 i1
        obtain ⟨⟨-, -, z3⟩, p1, p2, p3, y3⟩ := QB.out WD bBD
        go_wp2_with fail
        refine (tsame_any t3 B.sp u3 B.cap B.fs B.fs WD z3 (hS.out WD y3).2.1.1 (by have := (hS.out WD y3).2.2.1; omega)).mono ?_
        rintro e WE ⟨rfl, bDE⟩
        rw [eqAll_refl fiEq_refl B.fs]
        clear p1 p2 p3
        obtain ⟨-, -, hbE⟩ := hR.out WE (y3.trans (bDE.mono y3.size))
        go_wp2
        go_ret
        exact ⟨rfl, hbE⟩
end Go.Proofs.Ytmbnbehlfbdpnaa
