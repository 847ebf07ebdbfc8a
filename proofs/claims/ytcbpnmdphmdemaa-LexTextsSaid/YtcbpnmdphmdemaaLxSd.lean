/- The law LexStands answers true. -/
import Derived.Test.YtcbpnmdphmdemaaLxSt
import Derived.Test.YtcbpnmdphmdemaaLxH
import Derived.Test.YtcbpnmdphmdemaaLxX
import Derived.BigQuiet
namespace Go.Proofs.Ytcbpnmdphmdemaa
open Go.RowKit

theorem extract_mid (s : ByteArray) (a b : Nat) : s.extract a b = strU ((s.data.toList.drop a).take (b - a)) := by
  apply ByteArray.ext
  rw [ByteArray.data_extract]
  unfold strU
  apply Array.ext'
  simp [List.extract_eq_take_drop]
set_option pp.deepTerms.threshold 2000 in
set_option maxRecDepth 100000 in
set_option maxHeartbeats 4000000 in
theorem lexStands_all (s0 : ByteArray) (w : World) : Calls Try.prog 8 #[.string s0] w fun e w' => e = .returned (.bool true) ∧ Below w.heap.size w w' := by
  have hmn : 0 ≤ min (s0.size : Int) 4096 ∧ min (s0.size : Int) 4096 ≤ s0.size := by omega
  obtain ⟨hmn0, hmn1⟩ := hmn
  have hcs : s0.extract 0 (min (s0.size : Int) 4096).toNat = strU (s0.data.toList.take 4096) := cut_strX s0 4096
  obtain ⟨s, hss, hs2⟩ : ∃ s : ByteArray, strU (s0.data.toList.take 4096) = s ∧ s.size ≤ 4096 := ⟨_, rfl, by rw [strU_size, List.length_take]; omega⟩
  rw [hss] at hcs
  have HSL : Hid (s.data.toList.length = s.size) := by show s.data.toList.length = s.size; simp
  go_enter Try.func8, Try.ntmps8
  go_wp2_with fail
  refine (wakes_any w).mono ?_
  rintro e W1 ⟨rfl, b1⟩
  go_wp2_with fail
  refine (lex_any s W1).mono ?_
  rintro e W2 ⟨⟨v, rfl, o2⟩, b2⟩
  have bw2 : Hid (Below w.heap.size w W2) := b1.trans (b2.mono b1.size)
  clear b1 b2 hcs hmn0 hmn1 hss
  obtain ⟨sp, cap, rfl, R2, -, -, -⟩ := OwnG.rows elT o2
  have R2' : Hid (RowsT W2 sp (lexO s.data.toList).1) := R2
  clear R2 o2
  rcases lexO_stands (L := s.data.toList) (by rw [HSL.out]; exact hs2) with ⟨er, q, g1, g2, g3⟩ | ⟨ms, g1, g2, g3, g4⟩
  · rw [HSL.out] at g3
    rw [g1] at R2' ⊢
    have g2' : (er != 0) = true := by simpa using g2
    clear g1 g2 R2'
    go_wp2
    go_ret
    refine ⟨?_, bw2.out.alloc bw2.out.size _⟩
    simp
  · have G2 : Hid (StL s.data.toList 0 ms) := g2
    have G3 : Hid (chkO ms = 0) := g3
    rw [g1] at R2' ⊢
    clear g1 g2 g3
    go_wp2
    obtain ⟨g, HG⟩ : ∃ g, Hid (W2.heap.size = g) := ⟨_, rfl⟩
    refine wp_gen (fun W => Below w.heap.size w W ∧ RowsT W sp ms ∧ W.heap[g]? = some (.cells #[.int .i64 0, .int .i64 0] 27 (0, 0))) ⟨bw2.out.alloc bw2.out.size _, RowsAt.below R2'.out ((Below.refl _ _).alloc (Nat.le_refl _) _), by rw [← HG.out]; exact heap_alloc_new _ _⟩ ?_
    rw [HG.out]
    clear HG bw2 R2'
    rintro W3 ⟨bw3, R3, r3⟩
    have BW3 : Hid (Below w.heap.size w W3) := bw3
    have RT3 : Hid (RowsT W3 sp ms) := R3
    have RW3 : Hid (W3.heap[g]? = some (.cells #[.int .i64 0, .int .i64 0] 27 (0, 0))) := r3
    clear bw3 R3 r3
    go_loopw [5, 47] (fun en i wr => ∃ t e : Nat, t ≤ ms.length ∧ en = .int .i64 e ∧ i = .int .i64 t ∧ e ≤ s.size ∧ StL s.data.toList e (ms.drop t) ∧ Below W3.heap.size W3 wr) (fun _ i _ => ms.length - (intOf i).toNat)
    case atStart => exact ⟨0, 0, Nat.zero_le _, rfl, rfl, Nat.zero_le _, G2.out, Below.refl _ _⟩
    case round =>
      clear G2
      obtain ⟨t, e, ht, rfl, rfl, he, hst, hB⟩ := hrel
      have HB : Hid (Below W3.heap.size W3 wr) := hB
      have HST : Hid (StL s.data.toList e (ms.drop t)) := hst
      clear hB hst
      by_cases hlt : t < ms.length
      · have hd : decide ((t : Int) < ms.length) = true := by simp; omega
        obtain ⟨b, o, rfl, -⟩ := RT3.out (by omega)
        obtain ⟨x, hx⟩ : ∃ x, ms[t]? = some x := ⟨_, List.getElem?_eq_getElem (by omega)⟩
        obtain ⟨k0, k1, k2⟩ := tok_cell (RowsAt.below RT3.out HB.out) hx
        have hD : ms.drop t = x :: ms.drop (t + 1) := by
          have hg := List.getElem?_eq_some_iff.1 hx
          rw [← List.getElem_cons_drop (h := hlt), hg.2]
        have hst := HST.out
        rw [hD] at hst
        obtain ⟨a, e1, e2, e3, e4, e5, e6⟩ := hst
        obtain ⟨xk, xt, xp⟩ := x
        simp only at e1 e3 e4 e5 e6 k0 k1 k2
        have hxt : xt.data.toList.length = xt.size := by simp
        rw [hxt] at e3 e4 e6
        rw [HSL.out] at e3
        subst e1
        have hex : s.extract a (a + xt.size) = xt := by rw [extract_mid, show a + xt.size - a = xt.size by omega, e4]; rfl
        have hgp : (s.extract e a).data.toList = (s.data.toList.drop e).take (a - e) := by rw [extract_mid]; rfl
        have HGP : Hid (lexO (s.extract e a).data.toList = ([], 0, 0)) := by
          show lexO (s.extract e a).data.toList = ([], 0, 0)
          rw [hgp]
          exact e5.lexO (by rw [List.length_take, List.length_drop, HSL.out]; omega)
        have E6 : Hid (StL s.data.toList (a + xt.size) (ms.drop (t + 1))) := e6
        clear hx hD HST e4 e5 e6 hxt hgp
        go_wp2
        refine wp_gen (fun W => Below W3.heap.size W3 W ∧ W.heap[wr.heap.size]? = some (.cells #[.int .i64 xk, .string xt, .int .i64 a] 32 (0, 0))) ⟨HB.out.alloc HB.out.size _, heap_alloc_new _ _⟩ ?_
        obtain ⟨M, HM⟩ : ∃ M, Hid (wr.heap.size = M) := ⟨_, rfl⟩
        rw [HM.out]
        rintro W4 ⟨b4, r4⟩
        have B4 : Hid (Below W3.heap.size W3 W4) := b4
        have R4 : Hid (W4.heap[M]? = some (.cells #[.int .i64 xk, .string xt, .int .i64 a] 32 (0, 0))) := r4
        have c0 : W4.cell? ⟨M, 0, none⟩ = some (.int .i64 xk) := (cell_of_row _ _ 0 _ _ _ r4).trans rfl
        have c1 : W4.cell? ⟨M, 1, none⟩ = some (.string xt) := (cell_of_row _ _ 1 _ _ _ r4).trans rfl
        have c2 : W4.cell? ⟨M, 2, none⟩ = some (.int .i64 a) := (cell_of_row _ _ 2 _ _ _ r4).trans rfl
        have hx2 : s.extract a ((a : Int) + (xt.size : Int)).toNat = xt := by rw [show ((a : Int) + (xt.size : Int)).toNat = a + xt.size by omega]; exact hex
        have d1 : decide ((a : Int) < (e : Int)) = false := by simp; omega
        have d1' : decide (a < e) = false := by simp; omega
        have d2 : decide ((s.size : Int) < (a : Int) + (xt.size : Int)) = false := by simp; omega
        have d2' : decide (s.size < a + xt.size) = false := by simp; omega
        have d3 : ¬ (a < e) := by omega
        have d4 : ¬ (s.size < a + xt.size) := by omega
        clear b4 r4 k0 k1 k2 HB HM
        go_quiet (fail)
        clear d1 d1' d2 d2' d3 d4 c0 c1 c2 hex hx2
        have B5 : Hid (Below W3.heap.size W3 (W4.drewN nq)) := B4.out.trans (below_drawn' _ nq)
        have R5 : Hid ((W4.drewN nq).heap[M]? = some (.cells #[.int .i64 xk, .string xt, .int .i64 a] 32 (0, 0))) := R4.out
        clear B4 R4
        generalize W4.drewN nq = W5 at B5 R5 ⊢
        have c1 : W5.cell? ⟨M, 1, none⟩ = some (.string xt) := (cell_of_row _ _ 1 _ _ _ R5.out).trans rfl
        have c2 : W5.cell? ⟨M, 2, none⟩ = some (.int .i64 a) := (cell_of_row _ _ 2 _ _ _ R5.out).trans rfl
        go_wp2_with fail
        refine (lex_any (s.extract e a) W5).mono ?_
        rw [HGP.out]
        rintro e' W6 ⟨⟨v, rfl, o6⟩, b6⟩
        obtain ⟨s6, k6, rfl, -, -, -, -⟩ := OwnG.rows elT o6
        have R6 : Hid (W6.heap[M]? = some (.cells #[.int .i64 xk, .string xt, .int .i64 a] 32 (0, 0))) := (b6.block _ (lt_of_row R5.out)).trans R5.out
        have B6 : Hid (Below W3.heap.size W3 W6) := B5.out.trans (b6.mono B5.out.size)
        clear c1 c2 o6 b6 B5 R5 HGP
        have c1 : W6.cell? ⟨M, 1, none⟩ = some (.string xt) := (cell_of_row _ _ 1 _ _ _ R6.out).trans rfl
        have c2 : W6.cell? ⟨M, 2, none⟩ = some (.int .i64 a) := (cell_of_row _ _ 2 _ _ _ R6.out).trans rfl
        have hM : M < W6.heap.size := lt_of_row R6.out
        have REL : Hid ((∃ t' e' : Nat, t' ≤ ms.length ∧ Value.int .i64 ((a : Int) + (xt.size : Int)) = .int .i64 e' ∧ Value.int .i64 ((t : Int) + 1) = .int .i64 t' ∧ e' ≤ s.size ∧ StL s.data.toList e' (ms.drop t') ∧ Below W3.heap.size W3 (W6.alloc (.cells #[.int .i64 0, .int .i64 0] 27))) ∧ ms.length - (intOf (.int .i64 ((t : Int) + 1))).toNat < ms.length - (intOf (.int .i64 (t : Int))).toNat) := by
          refine ⟨⟨t + 1, a + xt.size, by omega, by congr 1, by congr 1, e3, E6.out, B6.out.alloc B6.out.size _⟩, ?_⟩
          show ms.length - ((t : Int) + 1).toNat < ms.length - (t : Int).toNat
          omega
        clear E6
        go_wp2
        exact REL.out
      · have hd : decide ((t : Int) < ms.length) = false := by simp; omega
        have hdn : ms.drop t = [] := List.drop_eq_nil_iff.2 (by omega)
        have HGP : Hid (lexO (s.extract e s.size).data.toList = ([], 0, 0)) := by
          have hg : GapL (s.data.toList.drop e) := by have := HST.out; rw [hdn] at this; exact this
          show lexO (s.extract e s.size).data.toList = ([], 0, 0)
          have hgp : (s.extract e s.size).data.toList = s.data.toList.drop e := by
            rw [extract_mid, strU_data, List.take_of_length_le (by rw [List.length_drop, HSL.out]; omega)]
          rw [hgp]
          exact hg.lexO (by rw [List.length_drop, HSL.out]; omega)
        clear hdn HST
        have c0 : wr.cell? ⟨g, 0, none⟩ = some (.int .i64 0) := (cell_of_row _ _ 0 _ _ _ ((HB.out.block _ (lt_of_row RW3.out)).trans RW3.out)).trans rfl
        go_wp2_with fail
        refine (lex_any (s.extract e s.size) wr).mono ?_
        rw [HGP.out]
        rintro e' W6 ⟨⟨v, rfl, o6⟩, b6⟩
        obtain ⟨s6, k6, rfl, -, -, -, -⟩ := OwnG.rows elT o6
        have B6 : Hid (Below W3.heap.size W3 W6) := HB.out.trans (b6.mono HB.out.size)
        have r6 : W6.heap[g]? = some (.cells #[.int .i64 0, .int .i64 0] 27 (0, 0)) := (B6.out.block _ (lt_of_row RW3.out)).trans RW3.out
        have R6 : Hid (W6.heap[g]? = some (.cells #[.int .i64 0, .int .i64 0] 27 (0, 0))) := r6
        have g0 : W6.cell? ⟨g, 0, none⟩ = some (.int .i64 0) := (cell_of_row _ _ 0 _ _ _ r6).trans rfl
        have g1 : W6.cell? ⟨g, 1, none⟩ = some (.int .i64 0) := (cell_of_row _ _ 1 _ _ _ r6).trans rfl
        have hg : g < W6.heap.size := lt_of_row r6
        have hgn : ¬ g = W6.heap.size := by omega
        clear c0 o6 b6 HB HGP r6
        go_wp2_with fail
        obtain ⟨h, HH⟩ : ∃ h, Hid (W6.heap.size = h) := ⟨_, rfl⟩
        refine calls_gen (fun W => Below W3.heap.size W3 W ∧ W.heap[h]? = some (.cells #[.int .i64 0, .int .i64 0] 27 (0, 0))) ⟨B6.out.alloc B6.out.size _, by rw [← HH.out]; exact heap_alloc_new _ _⟩ ?_
        rw [HH.out]
        rw [HH.out] at hg hgn
        have hW3 : W3.heap.size ≤ h := by rw [← HH.out]; exact B6.out.size
        clear HH B6 R6 g0 g1
        rintro W7 ⟨b7, r7⟩
        refine (check_any sp cap ms W7 (RowsAt.below RT3.out b7) (by omega)).mono ?_
        rw [G3.out]
        rintro e' W8 ⟨rfl, b8⟩
        have B8 : Hid (Below W3.heap.size W3 W8) := b7.trans (b8.mono b7.size)
        have R8 : Hid (W8.heap[h]? = some (.cells #[.int .i64 0, .int .i64 0] 27 (0, 0))) := (b8.block _ (lt_of_row r7)).trans r7
        clear b7 r7 b8
        go_wp2_with fail
        refine (print_any sp cap ms W8 (RowsAt.below RT3.out B8.out) (by omega)).mono ?_
        rintro e' W9 ⟨rfl, b9⟩
        have B9 : Hid (Below W3.heap.size W3 W9) := B8.out.trans (b9.mono B8.out.size)
        have R9 : Hid (W9.heap[h]? = some (.cells #[.int .i64 0, .int .i64 0] 27 (0, 0))) := (b9.block _ (lt_of_row R8.out)).trans R8.out
        clear b9 B8 R8
        have BF : Hid (∀ W, Below W3.heap.size W3 W → Below w.heap.size w W) := fun W hW => BW3.out.trans (hW.mono BW3.out.size)
        by_cases h4 : 4096 < (prtF [] true ms).length
        · have HP : prtO ms = .tuple #[.string ⟨#[]⟩, .int .i64 3] := by unfold prtO; rw [if_neg (by rw [G3.out]; simp), if_pos h4]
          rw [HP]
          clear HP h4
          go_wp2
          go_ret
          exact ⟨rfl, BF.out _ B9.out⟩
        · have HP : prtO ms = .tuple #[.string (strU (prtF [] true ms)), .int .i64 0] := by unfold prtO; rw [if_neg (by rw [G3.out]; simp), if_neg h4]
          obtain ⟨ns, q1, q2⟩ := print_back G3.out h4
          have Q1 : Hid (lexO (strU (prtF [] true ms)).data.toList = (ns, 0, 0)) := q1
          have Q2 : Hid (eqAll tkEq ms ns = true) := q2
          have Q3 : ns.length ≤ 1024 := by have := eqAll_len q2; omega
          rw [HP]
          clear HP h4 q1 q2
          generalize strU (prtF [] true ms) = st at Q1 ⊢
          go_wp2_with fail
          refine (lex_any st W9).mono ?_
          rw [Q1.out]
          rintro e' W10 ⟨⟨v, rfl, o10⟩, b10⟩
          have hW9 : h < W9.heap.size := lt_of_row R9.out
          have o11 : OwnT W9.heap.size ((W10.setCell ⟨h, 0, none⟩ (.int .i64 0)).setCell ⟨h, 1, none⟩ (.int .i64 0)) v ns := OwnG.keep o10 (fun j hj => by
            have h1 := (OwnG.lt o10 hj).1
            have hne : j ≠ h := by omega
            exact (heap_setCell_other _ _ _ _ hne).trans (heap_setCell_other _ _ _ _ hne))
          obtain ⟨s10, k10, rfl, R10, -, -, -⟩ := OwnG.rows elT o11
          have HN : Hid (RowsT ((W10.setCell ⟨h, 0, none⟩ (.int .i64 0)).setCell ⟨h, 1, none⟩ (.int .i64 0)) s10 ns) := R10
          have B10 : Hid (Below W3.heap.size W3 W10) := B9.out.trans (b10.mono B9.out.size)
          have r10 : W10.heap[h]? = some (.cells #[.int .i64 0, .int .i64 0] 27 (0, 0)) := (b10.block _ (lt_of_row R9.out)).trans R9.out
          have hh0 : W10.cell? ⟨h, 0, none⟩ = some (.int .i64 0) := (cell_of_row _ _ 0 _ _ _ r10).trans rfl
          have hh1 : W10.cell? ⟨h, 1, none⟩ = some (.int .i64 0) := (cell_of_row _ _ 1 _ _ _ r10).trans rfl
          have hz : ∀ j, W10.frozen? ⟨h, j, none⟩ = false := fun j => frozen_of_row _ _ _ _ _ r10
          have B11 : Hid (Below W3.heap.size W3 ((W10.setCell ⟨h, 0, none⟩ (.int .i64 0)).setCell ⟨h, 1, none⟩ (.int .i64 0))) := (B10.out.setCell (p := ⟨h, 0, none⟩) hW3 _).setCell (p := ⟨h, 1, none⟩) hW3 _
          clear o10 b10 R10 B9 R9 o11 B10
          go_wp2_with fail
          refine (same_any sp s10 cap k10 ms ns _ (RowsAt.below RT3.out B11.out) HN.out (by omega) (by omega)).mono ?_
          rintro e' W12 ⟨rfl, b12⟩
          rw [Q2.out]
          go_wp2
          go_ret
          exact ⟨rfl, BF.out _ (B11.out.trans (b12.mono B11.out.size))⟩
end Go.Proofs.Ytcbpnmdphmdemaa
