/- The law MergeChanged answers true. -/
import Derived.Test.YtmbnbehlfbdpnaaRDf8
import Derived.Test.YtmbnbehlfbdpnaaMrgB
import Derived.Test.YtmbnbehlfbdpnaaMTwo
namespace Go.Proofs.Ytmbnbehlfbdpnaa
open Go.RowKit

theorem cut_twice (s : ByteArray) (n : Nat) : (s.extract 0 (min s.size n)).extract 0 (min (s.extract 0 (min s.size n)).size n) = s.extract 0 (min s.size n) := by
  have h : (s.extract 0 (min s.size n)).size = min s.size n := by simp
  rw [h]
  apply ByteArray.ext
  simp only [ByteArray.data_extract]
  rw [Array.extract_extract]
  congr 1
  omega
theorem shortL_twice (l : List Fi) : shortL (shortL l) = shortL l := by
  have hf : ∀ f, shortF (shortF f) = shortF f := fun f => by
    unfold shortF cutS
    simp only [cut_twice]
  unfold shortL
  rw [List.take_of_length_le (by simp; omega), List.map_map]
  exact List.map_congr_left fun f _ => hf f
theorem eqAll_self (l : List Fi) : eqAll fiEq l l = true := by
  rw [eqAll_iff rfl]
  intro i a b ha hb
  obtain rfl := Option.some.inj (ha.symm.trans hb)
  simp [fiEq]
def chgB (a b : List Fi) (q : List UInt8) : Bool := deltaB (deltaOf a b q)
theorem changed_filter (a b : List Fi) : changedL a b = (allPs (a ++ b)).filter (chgB a b) := by
  rw [allPs_diff]
  unfold changedL diffL
  rw [List.filter_map, List.map_map]
  have : ((fun d : De => d.path.data.toList) ∘ deltaOf a b) = id := funext fun q => rfl
  rw [this, List.map_id]
  rfl
set_option maxRecDepth 100000 in
set_option maxHeartbeats 4000000 in
theorem mergeChanged_all (a b : Sl) (w : World) (ha : InF w a) (hb : InF w b) :
    Calls Try.prog 5 #[.agg #[.slice a.sp a.fs.length a.cap], .agg #[.slice b.sp b.fs.length b.cap]] w fun e w' => e = .returned (.bool true) ∧ Below w.heap.size w w' := by
  have HA : Hid (InF w a) := ha
  have HB : Hid (InF w b) := hb
  clear ha hb
  go_enter Try.func5, Try.ntmps5
  go_wp2_with fail
  refine calls_gen (fun W1 => Below w.heap.size w W1 ∧ W1.heap[w.heap.size]? = some (.cells #[.slice a.sp a.fs.length a.cap] 24 (0, 0)) ∧ W1.heap[w.heap.size + 1]? = some (.cells #[.slice b.sp b.fs.length b.cap] 24 (0, 0))) ⟨((Below.refl _ _).alloc (Nat.le_refl _) _).alloc (by simp) _, (Below.heap_alloc _ _ _ (by simp)).trans (heap_alloc_new _ _), ?_⟩ ?_
  · have := heap_alloc_new (w.alloc (.cells #[.slice a.sp a.fs.length a.cap] 24)) (.cells #[.slice b.sp b.fs.length b.cap] 24)
    rw [World.size_alloc] at this
    exact this
  rintro W1 ⟨hB1, r1, r2⟩
  refine (wakes8_any W1).mono ?_
  rintro e W2 ⟨rfl, b2⟩
  have hB2 : Below w.heap.size w W2 := hB1.trans (b2.mono hB1.size)
  have q1 := (b2.block _ (lt_of_row r1)).trans r1
  have q2 := (b2.block _ (lt_of_row r2)).trans r2
  clear r1 r2 hB1 b2
  go_wp2
  refine wp_mono (Q := fun e a' W' => e = .normal ∧ ∃ (s1 s2 : Option Addr) (k1 k2 d1 d2 : Nat), a' = { tmps := #[.agg #[.slice a.sp a.fs.length a.cap], .agg #[.slice b.sp b.fs.length b.cap], .pointer (some ⟨w.heap.size, 0, none⟩), .pointer (some ⟨w.heap.size + 1, 0, none⟩), .bool false, undef, undef, undef, undef, undef, undef, undef, undef, undef, undef, undef, undef, .bool true, .bool false, .agg #[.slice a.sp a.fs.length a.cap], .agg #[.slice s1 k1 d1], .agg #[.slice b.sp b.fs.length b.cap], .agg #[.slice s2 k2 d2], undef, undef, undef, undef, undef, undef, undef, undef, undef, undef, undef, undef, undef, undef, undef, undef, undef, undef, undef, undef, undef, undef, undef, undef, undef, undef, undef, undef, undef, undef, undef, undef, undef, undef, undef, undef, undef, undef, undef, undef, undef, undef, undef, undef, undef, undef, undef, undef, undef, undef, undef, undef, undef, undef, undef, undef, undef, undef, undef, undef, undef, undef, undef, undef, undef, undef, undef, undef, undef, undef, undef, undef, undef, undef, undef, undef, undef, undef, undef, undef, undef, undef, undef, undef], defers := [] } ∧ OwnF w.heap.size W' (.slice s1 k1 d1) (shortL a.fs) ∧ OwnF w.heap.size W' (.slice s2 k2 d2) (shortL b.fs) ∧ W'.heap[w.heap.size]? = some (.cells #[.slice s1 k1 d1] 24 (0, 0)) ∧ W'.heap[w.heap.size + 1]? = some (.cells #[.slice s2 k2 d2] 24 (0, 0)) ∧ Below w.heap.size w W') ?_ ?_
  · refine wp_frm 107 rfl ?_
    refine two_shorts 107 2 3 19 20 21 22 _ w.heap.size W2 w a b rfl (by kernel_rfl) rfl rfl rfl rfl rfl rfl ⟨rfl, rfl, rfl⟩ ⟨rfl, rfl, rfl⟩ ⟨rfl, rfl, rfl⟩ ⟨rfl, rfl, rfl⟩ ⟨rfl, rfl, rfl⟩ ⟨rfl, rfl, rfl⟩ ⟨by kernel_rfl, by kernel_rfl, ⟨by kernel_rfl, by kernel_rfl⟩, by kernel_rfl, by kernel_rfl⟩ (by decide) rfl rfl (Nat.le_refl _) q1 q2 hB2 HA.out HB.out ?_
    intro s1 s2 k1 k2 d1 d2 W' o1 o2 e1 e2 hb
    exact ⟨rfl, s1, s2, k1, k2, d1, d2, congrArg (fun t => Act.mk t []) (by kernel_rfl), o1, o2, e1, e2, hb⟩
  rintro e a' W3 ⟨rfl, s1, s2, k1, k2, d1, d2, rfl, o1, o2, r1, r2, hb⟩
  dsimp only
  obtain ⟨A, eA, fA, hA, iA⟩ := own_in o1 (by have := shortL_len a.fs; omega) (shortL_small _)
  obtain ⟨B, eB, fB, hB, iB⟩ := own_in o2 (by have := shortL_len b.fs; omega) (shortL_small _)
  injection eA with eA1 eA2 eA3
  injection eB with eB1 eB2 eB3
  subst eA1 eA2 eA3 eB1 eB2 eB3
  have c1 : W3.cell? ⟨w.heap.size, 0, none⟩ = some (.slice A.sp A.fs.length A.cap) := (cell_of_row _ _ _ _ _ _ r1).trans rfl
  have c2 : W3.cell? ⟨w.heap.size + 1, 0, none⟩ = some (.slice B.sp B.fs.length B.cap) := (cell_of_row _ _ _ _ _ _ r2).trans rfl
  have HS : Hid (∀ W, Below W3.heap.size W3 W → (SlS W A ∧ SlS W B) ∧ (InF W A ∧ InF W B)) := fun W h => ⟨⟨⟨hA.1.below h, hA.2⟩, ⟨hB.1.below h, hB.2⟩⟩, ⟨iA.below h, iB.below h⟩⟩
  have HC : Hid (∀ W, Below W3.heap.size W3 W → W.cell? ⟨w.heap.size, 0, none⟩ = some (.slice A.sp A.fs.length A.cap) ∧ W.cell? ⟨w.heap.size + 1, 0, none⟩ = some (.slice B.sp B.fs.length B.cap) ∧ Below w.heap.size w W) := fun W h => ⟨(cell_of_row _ _ _ _ _ _ ((h.block _ (lt_of_row r1)).trans r1)).trans rfl, (cell_of_row _ _ _ _ _ _ ((h.block _ (lt_of_row r2)).trans r2)).trans rfl, hb.trans (h.mono hb.size)⟩
  have HNA : Hid ((A.sp = none → A.fs.length = 0 ∧ A.cap = 0) ∧ (B.sp = none → B.fs.length = 0 ∧ B.cap = 0)) := ⟨iA.2.2.2, iB.2.2.2⟩
  have HLA : Hid (A.fs = shortL a.fs ∧ B.fs = shortL b.fs) := ⟨fA, fB⟩
  clear hA hB iA iB fA fB o1 o2 r1 r2 hb hB2 q1 q2 HA HB
  go_wp2_with fail
  refine calls_gen (fun W4 => Below W3.heap.size W3 W4 ∧ W4.heap[W3.heap.size]? = some (.cells (row3 A B B) 26 (0, 0))) ⟨(Below.refl _ _).alloc (Nat.le_refl _) _, heap_alloc_new _ _⟩ ?_
  rintro W4 ⟨b4, g4⟩
  refine (few_any A B B W4 (HS.out W4 b4).2.1 (HS.out W4 b4).2.2 (HS.out W4 b4).2.2).mono ?_
  rintro e W5 ⟨⟨X, Y, Z, he, ⟨fX, fY, fZ⟩, ⟨sX, sY, sZ⟩, -⟩, b45⟩
  unfold row3 at he
  subst he
  have HXY : Hid (X.fs = A.fs ∧ Y.fs = B.fs ∧ Z.fs = B.fs) := by
    show X.fs = A.fs ∧ Y.fs = B.fs ∧ Z.fs = B.fs
    rw [fX, fY, fZ, HLA.out.1, HLA.out.2, shortL_twice, shortL_twice]
    exact ⟨rfl, rfl, rfl⟩
  clear fX fY fZ
  have l1 : w.heap.size + 1 < W5.heap.size := by
    have h1 := block_lt_of_cell c2
    have h2 := b4.size
    have h3 := b45.size
    simp only at h1
    omega
  have l2 : w.heap.size < W5.heap.size := by omega
  have b5 : Below W3.heap.size W3 W5 := b4.trans (b45.mono b4.size)
  have g5 := (b45.block _ (lt_of_row g4)).trans g4
  obtain ⟨c1, c2, -⟩ := HC.out W5 b5
  have l5 := lt_of_row g5
  have HNX : Hid (∀ W, Below W5.heap.size W5 W → SlS W X ∧ SlS W Y ∧ SlS W Z) := fun W h => ⟨⟨sX.1.below h, sX.2⟩, ⟨sY.1.below h, sY.2⟩, ⟨sZ.1.below h, sZ.2⟩⟩
  clear sX sY sZ
  go_wp2_with fail
  refine calls_gen (fun W6 => Below W5.heap.size W5 W6 ∧ W6.heap[W5.heap.size]? = some (.cells (row3 X Y Z) 26 (0, 0))) ⟨(Below.refl _ _).alloc (Nat.le_refl _) _, heap_alloc_new _ _⟩ ?_
  rintro W6 ⟨b56, g6⟩
  have b6 : Below W3.heap.size W3 W6 := b5.trans (b56.mono b5.size)
  obtain ⟨⟨sA, sB⟩, -⟩ := HS.out W6 b6
  refine (changed_any A B W6 sA sB HNA.out.1 HNA.out.2).mono ?_
  clear sA sB c1 c2
  rintro e W7 ⟨hch, b67⟩
  have b7 : Below W3.heap.size W3 W7 := b6.trans (b67.mono b6.size)
  have HT : Hid (∀ W, Below W7.heap.size W7 W → W.heap[W3.heap.size]? = some (.cells (row3 A B B) 26 (0, 0)) ∧ W.heap[W5.heap.size]? = some (.cells (row3 X Y Z) 26 (0, 0)) ∧ (SlS W X ∧ SlS W Y ∧ SlS W Z) ∧ Below W3.heap.size W3 W) := fun W h =>
    have h6 := b67.trans (h.mono b67.size)
    have h5 := b56.trans (h6.mono b56.size)
    ⟨(h5.block _ (lt_of_row g5)).trans g5, (h6.block _ (lt_of_row g6)).trans g6, HNX.out W h5, b7.trans (h.mono b7.size)⟩
  have HRB : Hid ((repoB X.fs && repoB Y.fs && repoB Z.fs) = (repoB A.fs && repoB B.fs)) := by
    show _ = _
    rw [HXY.out.1, HXY.out.2.1, HXY.out.2.2]
    cases repoB A.fs <;> cases repoB B.fs <;> rfl
  have HWH : Hid ((eqAll fiEq A.fs X.fs && eqAll fiEq B.fs Y.fs && eqAll fiEq B.fs Z.fs) = true) := by
    show _ = _
    rw [HXY.out.1, HXY.out.2.1, HXY.out.2.2, eqAll_self, eqAll_self]
    rfl
  obtain ⟨g3, g7, -, -⟩ := HT.out W7 (Below.refl _ _)
  have d0 : W7.cell? ⟨W3.heap.size, 0, none⟩ = some (.slice A.sp A.fs.length A.cap) := (cell_of_row _ _ _ _ _ _ g3).trans rfl
  have d1 : W7.cell? ⟨W3.heap.size, 1, none⟩ = some (.slice B.sp B.fs.length B.cap) := (cell_of_row _ _ _ _ _ _ g3).trans rfl
  have d2 : W7.cell? ⟨W3.heap.size, 2, none⟩ = some (.slice B.sp B.fs.length B.cap) := (cell_of_row _ _ _ _ _ _ g3).trans rfl
  have e0 : W7.cell? ⟨W5.heap.size, 0, none⟩ = some (.slice X.sp X.fs.length X.cap) := (cell_of_row _ _ _ _ _ _ g7).trans rfl
  have e1 : W7.cell? ⟨W5.heap.size, 1, none⟩ = some (.slice Y.sp Y.fs.length Y.cap) := (cell_of_row _ _ _ _ _ _ g7).trans rfl
  have e2 : W7.cell? ⟨W5.heap.size, 2, none⟩ = some (.slice Z.sp Z.fs.length Z.cap) := (cell_of_row _ _ _ _ _ _ g7).trans rfl
  have HWC : Hid (∀ W, Below W7.heap.size W7 W → Calls Try.prog 13 #[.agg #[.slice A.sp A.fs.length A.cap, .slice B.sp B.fs.length B.cap, .slice B.sp B.fs.length B.cap], .agg #[.slice X.sp X.fs.length X.cap, .slice Y.sp Y.fs.length Y.cap, .slice Z.sp Z.fs.length Z.cap]] W fun e w' => e = .returned (.bool true) ∧ Below W.heap.size W w') := fun W h => by
    obtain ⟨-, -, ⟨tX, tY, tZ⟩, hb3⟩ := HT.out W h
    obtain ⟨⟨tA, tB⟩, -⟩ := HS.out W hb3
    refine (whole8_any A B B X Y Z W tA tB tB tX tY tZ).mono ?_
    rintro e w' ⟨he, hw⟩
    rw [HWH.out] at he
    exact ⟨he, hw⟩
  have HRC : Hid (∀ W, Below W7.heap.size W7 W → Calls Try.prog 14 #[.agg #[.slice X.sp X.fs.length X.cap, .slice Y.sp Y.fs.length Y.cap, .slice Z.sp Z.fs.length Z.cap]] W fun e w' => e = .returned (.bool (repoB A.fs && repoB B.fs)) ∧ Below W.heap.size W w') := fun W h => by
    obtain ⟨-, -, ⟨tX, tY, tZ⟩, hb3⟩ := HT.out W h
    refine (right8_any X Y Z W tX tY tZ).mono ?_
    rintro e w' ⟨he, hw⟩
    rw [HRB.out] at he
    exact ⟨he, hw⟩
  clear g3 g4 g5 g6 g7 HNX HXY
  cases hr : (repoB A.fs && repoB B.fs) with
  | false =>
    rw [hr] at hch HRC
    obtain rfl : e = _ := hch
    clear hr HRB
    go_wp2_with fail
    refine (HWC.out W7 (Below.refl _ _)).mono ?_
    rintro e W8 ⟨rfl, b8⟩
    obtain ⟨-, g7, -, -⟩ := HT.out W8 b8
    have e0 : W8.cell? ⟨W5.heap.size, 0, none⟩ = some (.slice X.sp X.fs.length X.cap) := (cell_of_row _ _ _ _ _ _ g7).trans rfl
    have e1 : W8.cell? ⟨W5.heap.size, 1, none⟩ = some (.slice Y.sp Y.fs.length Y.cap) := (cell_of_row _ _ _ _ _ _ g7).trans rfl
    have e2 : W8.cell? ⟨W5.heap.size, 2, none⟩ = some (.slice Z.sp Z.fs.length Z.cap) := (cell_of_row _ _ _ _ _ _ g7).trans rfl
    go_wp2_with fail
    refine (HRC.out W8 b8).mono ?_
    rintro e W9 ⟨rfl, b9⟩
    have HB9 : Hid (Below w.heap.size w W9) := (HC.out W9 ((HT.out W9 (b8.trans (b9.mono b8.size))).2.2.2)).2.2
    clear e0 e1 e2 d0 d1 d2 b9 g7
    go_wp2
    go_ret
    exact ⟨rfl, HB9.out⟩
  | true =>
    rw [hr] at hch HRC
    obtain ⟨v, rfl, hov⟩ := hch
    obtain ⟨sq, cq, rfl, hcq⟩ := hov.shape
    have HCQ : Hid (∀ W, Below W7.heap.size W7 W → ∀ i q, (changedL A.fs B.fs)[i]? = some q → ∃ b, sq = some ⟨b, 0, none⟩ ∧ W.cell? ⟨b, i, none⟩ = some (.string ⟨q.toArray⟩)) := fun W h i q hq => by
      obtain ⟨b, e, hc⟩ := hcq i q hq
      exact ⟨b, e, (h.cell (p := ⟨b, i, none⟩) (block_lt_of_cell hc)).trans hc⟩
    clear hcq hov
    go_wp2_with fail
    refine (HWC.out W7 (Below.refl _ _)).mono ?_
    rintro e W8 ⟨rfl, b8⟩
    obtain ⟨-, g7, -, -⟩ := HT.out W8 b8
    have e0 : W8.cell? ⟨W5.heap.size, 0, none⟩ = some (.slice X.sp X.fs.length X.cap) := (cell_of_row _ _ _ _ _ _ g7).trans rfl
    have e1 : W8.cell? ⟨W5.heap.size, 1, none⟩ = some (.slice Y.sp Y.fs.length Y.cap) := (cell_of_row _ _ _ _ _ _ g7).trans rfl
    have e2 : W8.cell? ⟨W5.heap.size, 2, none⟩ = some (.slice Z.sp Z.fs.length Z.cap) := (cell_of_row _ _ _ _ _ _ g7).trans rfl
    go_wp2_with fail
    refine (HRC.out W8 b8).mono ?_
    rintro e W9 ⟨rfl, b89⟩
    have b9 : Below W7.heap.size W7 W9 := b8.trans (b89.mono b8.size)
    obtain ⟨c1, c2, -⟩ := HC.out W9 ((HT.out W9 b9).2.2.2)
    clear e0 e1 e2 d0 d1 d2 b89 g7
    go_wp2_with fail
    have b9a : Below W9.heap.size W9 (W9.alloc (.cells #[.slice A.sp A.fs.length A.cap, .slice B.sp B.fs.length B.cap] 24)) := (Below.refl _ _).alloc (Nat.le_refl _) _
    have gA := heap_alloc_new W9 (.cells #[.slice A.sp A.fs.length A.cap, .slice B.sp B.fs.length B.cap] 24)
    generalize W9.alloc (.cells #[.slice A.sp A.fs.length A.cap, .slice B.sp B.fs.length B.cap] 24) = WA at b9a gA ⊢
    have bA : Below W7.heap.size W7 WA := b9.trans (b9a.mono b9.size)
    obtain ⟨⟨tA, tB⟩, -⟩ := HS.out WA (HT.out WA bA).2.2.2
    have hRA : RowsAt WA 1 Pt.cells (some ⟨W9.heap.size, 0, none⟩) [⟨A.sp, A.fs, A.cap⟩, ⟨B.sp, B.fs, B.cap⟩] := fun _ => by
      refine ⟨W9.heap.size, 0, rfl, fun i z hz j u hu => ?_⟩
      rw [cell_of_row _ _ _ _ _ _ gA]
      match i with
      | 0 =>
        obtain rfl : _ = z := by simpa using hz
        match j with
        | 0 => simpa [Pt.cells] using hu
        | j + 1 => simp [Pt.cells] at hu
      | 1 =>
        obtain rfl : _ = z := by simpa using hz
        match j with
        | 0 => simpa [Pt.cells] using hu
        | j + 1 => simp [Pt.cells] at hu
      | i + 2 => simp at hz
    have hPA : PtsAt WA [⟨A.sp, A.fs, A.cap⟩, ⟨B.sp, B.fs, B.cap⟩] := fun p hp => by
      rcases List.mem_cons.1 hp with rfl | hp
      · exact ⟨tA.1.1, HNA.out.1⟩
      · obtain rfl : p = _ := by simpa using hp
        exact ⟨tB.1.1, HNA.out.2⟩
    have hlA : A.fs.length ≤ 18 := by rw [HLA.out.1]; exact shortL_len _
    have hlB : B.fs.length ≤ 18 := by rw [HLA.out.2]; exact shortL_len _
    refine (r8paths_any (some ⟨W9.heap.size, 0, none⟩) 2 [⟨A.sp, A.fs, A.cap⟩, ⟨B.sp, B.fs, B.cap⟩] WA hRA hPA (by simp) (fun p hp => by
      rcases List.mem_cons.1 hp with rfl | hp
      · exact hlA
      · obtain rfl : p = _ := by simpa using hp
        exact hlB)).mono ?_
    clear hRA hPA tA tB gA
    rintro e WB ⟨⟨v', rfl, hov⟩, bAB⟩
    rw [show flatP [⟨A.sp, A.fs, A.cap⟩, ⟨B.sp, B.fs, B.cap⟩] = A.fs ++ B.fs by simp [flatP]] at hov
    have bB : Below W7.heap.size W7 WB := bA.trans (bAB.mono bA.size)
    have hlq : (allPs (A.fs ++ B.fs)).length ≤ 36 := by
      have := allPs_len (A.fs ++ B.fs)
      rw [List.length_append] at this
      omega
    have HCF : Hid (changedL A.fs B.fs = (allPs (A.fs ++ B.fs)).filter (chgB A.fs B.fs)) := changed_filter _ _
    generalize allPs (A.fs ++ B.fs) = qs at hov hlq HCF
    obtain ⟨sp', cp', rfl, hcp⟩ := hov.shape
    have HCP : Hid (∀ W, Below WB.heap.size WB W → ∀ i q, qs[i]? = some q → ∃ b, sp' = some ⟨b, 0, none⟩ ∧ W.cell? ⟨b, i, none⟩ = some (.string ⟨q.toArray⟩)) := fun W h i q hq => by
      obtain ⟨b, e, hc⟩ := hcp i q hq
      exact ⟨b, e, (h.cell (p := ⟨b, i, none⟩) (block_lt_of_cell hc)).trans hc⟩
    have HW : Hid (∀ W, Below WB.heap.size WB W → Below W7.heap.size W7 W ∧ W.cell? ⟨w.heap.size, 0, none⟩ = some (.slice A.sp A.fs.length A.cap) ∧ W.cell? ⟨w.heap.size + 1, 0, none⟩ = some (.slice B.sp B.fs.length B.cap) ∧ Below w.heap.size w W ∧ SlS W A ∧ SlS W B) := fun W h =>
      have h7 := bB.trans (h.mono bB.size)
      have h3 := (HT.out W h7).2.2.2
      ⟨h7, (HC.out W h3).1, (HC.out W h3).2.1, (HC.out W h3).2.2, (HS.out W h3).1.1, (HS.out W h3).1.2⟩
    clear hov hcp c1 c2 b9a bA bAB b9 b8
    go_wp2
    have HRS : Hid (OwnS W6.heap.size W7 (.slice sq (changedL A.fs B.fs).length cq) (changedL A.fs B.fs) → True) := fun _ => trivial
    generalize changedL A.fs B.fs = rs at *
    go_loopw [9, 54] (fun l i wr => ∃ t : Nat, t ≤ qs.length ∧ i = .int .i64 t ∧ OwnS WB.heap.size wr l ((qs.take t).filter (chgB A.fs B.fs)) ∧ Below WB.heap.size WB wr) (fun _ i _ => qs.length - (intOf i).toNat)
    case atStart => exact ⟨0, Nat.zero_le _, rfl, ownS_nil _ _, Below.refl _ _⟩
    case round =>
      obtain ⟨t, ht, rfl, hos, hB⟩ := hrel
      have HOS : Hid (OwnS WB.heap.size wr _ ((qs.take t).filter (chgB A.fs B.fs))) := hos
      clear hos
      by_cases hlt : t < qs.length
      · have hd : decide ((t : Int) < qs.length) = true := by simp; omega
        obtain ⟨q, hq⟩ : ∃ q, qs[t]? = some q := ⟨_, List.getElem?_eq_getElem hlt⟩
        obtain ⟨bq, rfl, k0⟩ := HCP.out wr hB t q hq
        have HST : Hid ((qs.take (t + 1)).filter (chgB A.fs B.fs) = (qs.take t).filter (chgB A.fs B.fs) ++ (if chgB A.fs B.fs q then [q] else [])) := by
          show _ = _
          rw [List.take_add_one, hq, Option.toList_some, List.filter_append]
          congr 1
          simp only [List.filter_cons, List.filter_nil]
        have HLN : Hid (((qs.take t).filter (chgB A.fs B.fs)).length + 1 ≤ 100000) := by
          show ((qs.take t).filter (chgB A.fs B.fs)).length + 1 ≤ 100000
          have := List.length_filter_le (chgB A.fs B.fs) (qs.take t)
          rw [List.length_take] at this
          omega
        obtain ⟨P, hP⟩ : ∃ P : ByteArray, P = ⟨q.toArray⟩ := ⟨_, rfl⟩
        have HCH : Hid (chgB A.fs B.fs q = (((findB A.fs P).2 != (findB B.fs P).2) || !((findB A.fs P).1.toList == (findB B.fs P).1.toList))) := by
          show _ = _
          rw [hP]
          rfl
        have HPQ : Hid (P.data.toList = q) := by show _ = _; rw [hP]
        rw [← hP] at k0
        clear hP hq
        obtain ⟨-, k1, -, -, sA, -⟩ := HW.out wr hB
        go_wp2_with fail
        refine (r8at_any A.sp A.cap A.fs P wr sA.1.1 sA.2.1).mono ?_
        rintro e Wc ⟨rfl, bc⟩
        clear sA k1 k0
        generalize findB A.fs P = fa at HCH ⊢
        obtain ⟨o, ws⟩ := fa
        dsimp only at HCH ⊢
        have hBc : Below WB.heap.size WB Wc := hB.trans (bc.mono hB.size)
        obtain ⟨-, -, k2, -, -, sB⟩ := HW.out Wc hBc
        go_wp2_with fail
        refine (r8at_any B.sp B.cap B.fs P Wc sB.1.1 sB.2.1).mono ?_
        rintro e Wd ⟨rfl, bcd⟩
        clear sB k2
        generalize findB B.fs P = fb at HCH ⊢
        obtain ⟨nw, is⟩ := fb
        dsimp only at HCH ⊢
        have bd : Below wr.heap.size wr Wd := bc.trans (bcd.mono bc.size)
        clear bc bcd hBc
        cases ws <;> cases is
        case false.false =>
          cases hon : (o.toList == nw.toList) with
          | true =>
            rw [hon] at HCH
            rw [HCH.out, if_neg (by decide)] at HST
            rw [List.append_nil] at HST
            have HO9 : Hid (OwnS WB.heap.size Wd _ _) := HOS.out.below bd
            rw [← HST.out] at HO9
            have HB9 : Hid (Below WB.heap.size WB Wd) := hB.trans (bd.mono hB.size)
            go_wp2
            go_roundw
            case rel => exact ⟨t + 1, by omega, by go_num, HO9.out, HB9.out⟩
            case measure => simp [intOf]; omega
          | false =>
            rw [hon] at HCH
            rw [HCH.out, if_pos (by rfl)] at HST
            have B2 : Below Wd.heap.size Wd (Wd.alloc (.cells #[.string P] 9)) := (Below.refl _ _).alloc (Nat.le_refl _) _
            have g2 := heap_alloc_new Wd (.cells #[.string P] 9)
            obtain ⟨v9, W9', hr9, ho9, hg9⟩ := text_run 33 ((HOS.out.below bd).below B2) g2 HLN.out (Nat.le_trans (hB.trans (bd.mono hB.size)).size B2.size)
            have HB9 : Hid (Below WB.heap.size WB W9') := OwnS.grown ((HOS.out.below bd).below B2) (Nat.le_refl _) (Nat.le_trans (hB.trans (bd.mono hB.size)).size B2.size) ((hB.trans (bd.mono hB.size)).trans (B2.mono (hB.trans (bd.mono hB.size)).size)) hg9
            rw [HPQ.out, ← HST.out] at ho9
            have HO9 : Hid (OwnS WB.heap.size W9' v9 _) := ho9
            clear g2 B2 ho9 hg9
            go_wp2_with (refine list_append (by rfl) (.tmp 78) (.tmp 80) 33 (by rfl) (by rfl) (by rfl) hr9 ?_)
            go_roundw
            case rel => exact ⟨t + 1, by omega, by go_num, HO9.out, HB9.out⟩
            case measure => simp [intOf]; omega
        case false.true =>
          cases hon : (o.toList == nw.toList) with
          | true =>
            rw [hon] at HCH
            rw [HCH.out, if_pos (by rfl)] at HST
            have B2 : Below Wd.heap.size Wd (Wd.alloc (.cells #[.string P] 9)) := (Below.refl _ _).alloc (Nat.le_refl _) _
            have g2 := heap_alloc_new Wd (.cells #[.string P] 9)
            obtain ⟨v9, W9', hr9, ho9, hg9⟩ := text_run 33 ((HOS.out.below bd).below B2) g2 HLN.out (Nat.le_trans (hB.trans (bd.mono hB.size)).size B2.size)
            have HB9 : Hid (Below WB.heap.size WB W9') := OwnS.grown ((HOS.out.below bd).below B2) (Nat.le_refl _) (Nat.le_trans (hB.trans (bd.mono hB.size)).size B2.size) ((hB.trans (bd.mono hB.size)).trans (B2.mono (hB.trans (bd.mono hB.size)).size)) hg9
            rw [HPQ.out, ← HST.out] at ho9
            have HO9 : Hid (OwnS WB.heap.size W9' v9 _) := ho9
            clear g2 B2 ho9 hg9
            go_wp2_with (refine list_append (by rfl) (.tmp 78) (.tmp 80) 33 (by rfl) (by rfl) (by rfl) hr9 ?_)
            go_roundw
            case rel => exact ⟨t + 1, by omega, by go_num, HO9.out, HB9.out⟩
            case measure => simp [intOf]; omega
          | false =>
            rw [hon] at HCH
            rw [HCH.out, if_pos (by rfl)] at HST
            have B2 : Below Wd.heap.size Wd (Wd.alloc (.cells #[.string P] 9)) := (Below.refl _ _).alloc (Nat.le_refl _) _
            have g2 := heap_alloc_new Wd (.cells #[.string P] 9)
            obtain ⟨v9, W9', hr9, ho9, hg9⟩ := text_run 33 ((HOS.out.below bd).below B2) g2 HLN.out (Nat.le_trans (hB.trans (bd.mono hB.size)).size B2.size)
            have HB9 : Hid (Below WB.heap.size WB W9') := OwnS.grown ((HOS.out.below bd).below B2) (Nat.le_refl _) (Nat.le_trans (hB.trans (bd.mono hB.size)).size B2.size) ((hB.trans (bd.mono hB.size)).trans (B2.mono (hB.trans (bd.mono hB.size)).size)) hg9
            rw [HPQ.out, ← HST.out] at ho9
            have HO9 : Hid (OwnS WB.heap.size W9' v9 _) := ho9
            clear g2 B2 ho9 hg9
            go_wp2_with (refine list_append (by rfl) (.tmp 78) (.tmp 80) 33 (by rfl) (by rfl) (by rfl) hr9 ?_)
            go_roundw
            case rel => exact ⟨t + 1, by omega, by go_num, HO9.out, HB9.out⟩
            case measure => simp [intOf]; omega
        case true.false =>
          cases hon : (o.toList == nw.toList) with
          | true =>
            rw [hon] at HCH
            rw [HCH.out, if_pos (by rfl)] at HST
            have B2 : Below Wd.heap.size Wd (Wd.alloc (.cells #[.string P] 9)) := (Below.refl _ _).alloc (Nat.le_refl _) _
            have g2 := heap_alloc_new Wd (.cells #[.string P] 9)
            obtain ⟨v9, W9', hr9, ho9, hg9⟩ := text_run 33 ((HOS.out.below bd).below B2) g2 HLN.out (Nat.le_trans (hB.trans (bd.mono hB.size)).size B2.size)
            have HB9 : Hid (Below WB.heap.size WB W9') := OwnS.grown ((HOS.out.below bd).below B2) (Nat.le_refl _) (Nat.le_trans (hB.trans (bd.mono hB.size)).size B2.size) ((hB.trans (bd.mono hB.size)).trans (B2.mono (hB.trans (bd.mono hB.size)).size)) hg9
            rw [HPQ.out, ← HST.out] at ho9
            have HO9 : Hid (OwnS WB.heap.size W9' v9 _) := ho9
            clear g2 B2 ho9 hg9
            go_wp2_with (refine list_append (by rfl) (.tmp 78) (.tmp 80) 33 (by rfl) (by rfl) (by rfl) hr9 ?_)
            go_roundw
            case rel => exact ⟨t + 1, by omega, by go_num, HO9.out, HB9.out⟩
            case measure => simp [intOf]; omega
          | false =>
            rw [hon] at HCH
            rw [HCH.out, if_pos (by rfl)] at HST
            have B2 : Below Wd.heap.size Wd (Wd.alloc (.cells #[.string P] 9)) := (Below.refl _ _).alloc (Nat.le_refl _) _
            have g2 := heap_alloc_new Wd (.cells #[.string P] 9)
            obtain ⟨v9, W9', hr9, ho9, hg9⟩ := text_run 33 ((HOS.out.below bd).below B2) g2 HLN.out (Nat.le_trans (hB.trans (bd.mono hB.size)).size B2.size)
            have HB9 : Hid (Below WB.heap.size WB W9') := OwnS.grown ((HOS.out.below bd).below B2) (Nat.le_refl _) (Nat.le_trans (hB.trans (bd.mono hB.size)).size B2.size) ((hB.trans (bd.mono hB.size)).trans (B2.mono (hB.trans (bd.mono hB.size)).size)) hg9
            rw [HPQ.out, ← HST.out] at ho9
            have HO9 : Hid (OwnS WB.heap.size W9' v9 _) := ho9
            clear g2 B2 ho9 hg9
            go_wp2_with (refine list_append (by rfl) (.tmp 78) (.tmp 80) 33 (by rfl) (by rfl) (by rfl) hr9 ?_)
            go_roundw
            case rel => exact ⟨t + 1, by omega, by go_num, HO9.out, HB9.out⟩
            case measure => simp [intOf]; omega
        case true.true =>
          cases hon : (o.toList == nw.toList) with
          | true =>
            rw [hon] at HCH
            rw [HCH.out, if_neg (by decide)] at HST
            rw [List.append_nil] at HST
            have HO9 : Hid (OwnS WB.heap.size Wd _ _) := HOS.out.below bd
            rw [← HST.out] at HO9
            have HB9 : Hid (Below WB.heap.size WB Wd) := hB.trans (bd.mono hB.size)
            go_wp2
            go_roundw
            case rel => exact ⟨t + 1, by omega, by go_num, HO9.out, HB9.out⟩
            case measure => simp [intOf]; omega
          | false =>
            rw [hon] at HCH
            rw [HCH.out, if_pos (by rfl)] at HST
            have B2 : Below Wd.heap.size Wd (Wd.alloc (.cells #[.string P] 9)) := (Below.refl _ _).alloc (Nat.le_refl _) _
            have g2 := heap_alloc_new Wd (.cells #[.string P] 9)
            obtain ⟨v9, W9', hr9, ho9, hg9⟩ := text_run 33 ((HOS.out.below bd).below B2) g2 HLN.out (Nat.le_trans (hB.trans (bd.mono hB.size)).size B2.size)
            have HB9 : Hid (Below WB.heap.size WB W9') := OwnS.grown ((HOS.out.below bd).below B2) (Nat.le_refl _) (Nat.le_trans (hB.trans (bd.mono hB.size)).size B2.size) ((hB.trans (bd.mono hB.size)).trans (B2.mono (hB.trans (bd.mono hB.size)).size)) hg9
            rw [HPQ.out, ← HST.out] at ho9
            have HO9 : Hid (OwnS WB.heap.size W9' v9 _) := ho9
            clear g2 B2 ho9 hg9
            go_wp2_with (refine list_append (by rfl) (.tmp 78) (.tmp 80) 33 (by rfl) (by rfl) (by rfl) hr9 ?_)
            go_roundw
            case rel => exact ⟨t + 1, by omega, by go_num, HO9.out, HB9.out⟩
            case measure => simp [intOf]; omega
      · have hd : decide ((t : Int) < qs.length) = false := by simp; omega
        obtain rfl : t = qs.length := by omega
        rw [List.take_length, ← HCF.out] at HOS
        obtain ⟨sw, cw, rfl, hcw⟩ := HOS.out.shape
        have HCW : Hid (∀ i q, rs[i]? = some q → ∃ b, sw = some ⟨b, 0, none⟩ ∧ wr.cell? ⟨b, i, none⟩ = some (.string ⟨q.toArray⟩)) := hcw
        have HBW : Hid (Below w.heap.size w wr) := (HW.out wr hB).2.2.2.1
        have hB7 := (HW.out wr hB).1
        have hlr : rs.length ≤ 36 := by
          rw [HCF.out]
          have := List.length_filter_le (chgB A.fs B.fs) qs
          omega
        have HQ7 : Hid (∀ i q, rs[i]? = some q → ∃ b, sq = some ⟨b, 0, none⟩ ∧ wr.cell? ⟨b, i, none⟩ = some (.string ⟨q.toArray⟩)) := HCQ.out wr hB7
        clear hcw HOS hlt ht hd HCF hB7
        go_wp2
        go_loopw [94] (fun i wx => ∃ k n : Nat, k ≤ rs.length ∧ i = .int .i64 k ∧ wx = wr.drewN n) (fun i _ => rs.length - (intOf i).toNat)
        case atStart => exact ⟨0, 0, Nat.zero_le _, rfl, rfl⟩
        case round =>
          obtain ⟨k, n, hk, rfl, rfl⟩ := hrel
          by_cases hlt : k < rs.length
          · have hd : decide ((k : Int) < rs.length) = true := by simp; omega
            obtain ⟨q, hq⟩ : ∃ q, rs[k]? = some q := ⟨_, List.getElem?_eq_getElem hlt⟩
            obtain ⟨b1, rfl, k1⟩ := HQ7.out k q hq
            obtain ⟨b2, rfl, k2⟩ := HCW.out k q hq
            generalize (⟨q.toArray⟩ : ByteArray) = P at k1 k2
            clear hq
            go_wp2
            go_quiet (fail)
            go_wp2
            go_roundw
            case rel => exact ⟨k + 1, n + nq, by omega, by go_num, rfl⟩
            case measure => simp [intOf]; omega
          · have hd : decide ((k : Int) < rs.length) = false := by simp; omega
            go_wp2
            go_ret
            exact ⟨rfl, HBW.out.trans (below_drawn' _ _)⟩
end Go.Proofs.Ytmbnbehlfbdpnaa
