/- The contracts of the reader's rules that do not call themselves. -/
import Derived.Test.YthnoiohganknnabDoorMrgF
namespace Go.Proofs.YthnoiohganknnabDoor
open Go.RowKit

section
variable {T : Nat} {w : World} {g : Nat} {st : Option Addr} {cap : Nat} {ts : List Tok} {p : Nat}
set_option maxRecDepth 100000 in
set_option maxHeartbeats 4000000 in
theorem qword_any (k : Int) (hR : Rdr T w g st cap ts p) : Calls Tryd.prog 78 #[.pointer (some ⟨g, 0, none⟩), .int .i64 k] w (PtP T w g st cap ts (worP ts k p)) := by
  have HR0 : Hid (Rdr T w g st cap ts p) := hR
  have hT := hR.hT
  have hgT := hR.hg
  have HG0 : Hid (w.grownBy w (some g)) := gr_refl _ _
  clear hR
  obtain ⟨r, hX⟩ : ∃ r, worP ts k p = r := ⟨_, rfl⟩
  rw [hX]
  have HX0 : Hid (worP ts k p = r) := hX
  clear hX
  unfold worP at HX0
  go_enter Tryd.func78, Tryd.ntmps78
  go_wp2_with fail
  refine (named_any HR0.out).mono ?_
  rintro e W1 ⟨rfl, b1⟩
  have HR1 : Hid (Rdr T W1 g st cap ts p) := HR0.out.low b1
  have HB1 : Hid (Below w.heap.size w W1) := b1
  clear b1 HR0
  unfold Rs.need at HX0
  obtain ⟨bb, hb⟩ : ∃ bb, namB ts p = bb := ⟨_, rfl⟩
  rw [hb] at HX0 ⊢
  cases bb
  · go_wp2_with fail
    refine (wrong_any HR1.out).mono ?_
    rintro e W2 ⟨rfl, b2⟩
    have HP : Hid (PtP T w g st cap ts r (wroE (herI ts p)) W2) := ptp_bad (gr_below (HB1.out.trans (b2.mono HB1.out.size))) HX0.out.symm
    clear HX0 HR1 HB1 b2
    go_wp2
    exact ⟨rfl, HP.out⟩
  have hp := nam_lt hb
  go_wp2_with fail
  refine (leaf_any k HR1.out hp).mono ?_
  rintro e W2 ⟨g2, b, v, rfl, hM, r2⟩
  have HP : Hid (PtP T w g st cap ts r (.returned (.pointer (some ⟨b, 0, none⟩))) W2) := ptp_ok (gr_trans (gr_below HB1.out) g2) HX0.out (hM.mono HB1.out.size).fin r2
  clear HX0 HR1 HB1 g2 hM r2
  go_wp2
  go_ret
  exact HP.out
set_option maxRecDepth 100000 in
set_option maxHeartbeats 4000000 in
theorem qtyp_any (hR : Rdr T w g st cap ts p) : Calls Tryd.prog 67 #[.pointer (some ⟨g, 0, none⟩)] w (PtP T w g st cap ts (typP ts p)) := by
  have HR0 : Hid (Rdr T w g st cap ts p) := hR
  have hT := hR.hT
  have hgT := hR.hg
  have HG0 : Hid (w.grownBy w (some g)) := gr_refl _ _
  clear hR
  obtain ⟨r, hX⟩ : ∃ r, typP ts p = r := ⟨_, rfl⟩
  rw [hX]
  have HX0 : Hid (typP ts p = r) := hX
  clear hX
  unfold typP at HX0
  go_enter Tryd.func67, Tryd.ntmps67
  have hfd : ∀ (a b c : Value) (W : World), (Instr.field 35 (.agg #[a, b, c]) 1).run Tryd.prog W = .ok b W := fun _ _ _ _ => rfl
  have HE : Hid (∀ q (s : List UInt8), ((nxT ts q).text.toList == s) = isT ts q s) := fun q s => by unfold isT; rw [ByteArray.toList_eq]
  go_wp2_with fail
  refine (next_any HR0.out).mono ?_
  rintro e W1 ⟨rfl, b1⟩
  have HR1 : Hid (Rdr T W1 g st cap ts p) := HR0.out.low b1
  have HG1 : Hid (w.grownBy W1 (some g)) := gr_below b1
  clear b1 HR0 HG0
  obtain ⟨bb, hb⟩ : ∃ bb, (isT ts p [105, 110, 116] || isT ts p [98, 111, 111, 108] || isT ts p [115, 116, 114, 105, 110, 103]) = bb := ⟨_, rfl⟩
  rw [hb] at HX0
  cases bb
  rotate_left
  · have hp : p < ts.length := by
      rw [Bool.or_eq_true, Bool.or_eq_true] at hb
      rcases hb with (hb | hb) | hb <;> exact is_lt hb (by simp)
    have HLF : Hid (∀ W', Below W1.heap.size W1 W' → Calls Tryd.prog 77 #[.pointer (some ⟨g, 0, none⟩), .int .i64 10] W' fun e W2 => PtP T w g st cap ts r e W2 ∧ ∃ b, e = .returned (.pointer (some ⟨b, 0, none⟩))) := fun W' hb' => (leaf_any 10 (HR1.out.low hb') hp).mono fun e W2 ⟨g2, b, v, he, hM, r2⟩ => by
      subst he
      exact ⟨ptp_ok (gr_trans (gr_trans HG1.out (gr_below hb')) g2) (ite_yes rfl HX0.out) (hM.mono (Nat.le_trans HG1.out.size hb'.size)).fin r2, b, rfl⟩
    have hb3 : ((nxT ts p).text.toList == [105, 110, 116]) = true ∨ ((nxT ts p).text.toList == [105, 110, 116]) = false ∧ (((nxT ts p).text.toList == [98, 111, 111, 108]) = true ∨ ((nxT ts p).text.toList == [98, 111, 111, 108]) = false ∧ ((nxT ts p).text.toList == [115, 116, 114, 105, 110, 103]) = true) := by
      rw [HE.out, HE.out, HE.out]
      cases h1 : isT ts p [105, 110, 116]
      · cases h2 : isT ts p [98, 111, 111, 108]
        · rw [h1, h2] at hb
          exact .inr ⟨rfl, .inr ⟨rfl, hb⟩⟩
        · exact .inr ⟨rfl, .inl rfl⟩
      · exact .inl rfl
    clear hb HX0 HE HR1 HG1
    unfold Tok.cells
    rcases hb3 with h1 | ⟨h1, h2 | ⟨h2, h3⟩⟩
    · go_wp2_with fail
      refine (HLF.out _ (Below.refl _ _)).mono ?_
      rintro e W2 ⟨hP, b, rfl⟩
      have HP : Hid _ := hP
      clear hP
      go_wp2
      go_ret
      exact HP.out
    · go_wp2_with fail
      refine (HLF.out _ (Below.refl _ _)).mono ?_
      rintro e W2 ⟨hP, b, rfl⟩
      have HP : Hid _ := hP
      clear hP
      go_wp2
      go_ret
      exact HP.out
    · go_wp2_with fail
      refine (HLF.out _ (Below.refl _ _)).mono ?_
      rintro e W2 ⟨hP, b, rfl⟩
      have HP : Hid _ := hP
      clear hP
      go_wp2
      go_ret
      exact HP.out
  have HX1 : Hid _ := ite_no rfl HX0.out
  obtain ⟨h1, h2, h3⟩ : ((nxT ts p).text.toList == [105, 110, 116]) = false ∧ ((nxT ts p).text.toList == [98, 111, 111, 108]) = false ∧ ((nxT ts p).text.toList == [115, 116, 114, 105, 110, 103]) = false := by
    rw [HE.out, HE.out, HE.out]
    rw [Bool.or_eq_false_iff, Bool.or_eq_false_iff] at hb
    exact ⟨hb.1.1, hb.1.2, hb.2⟩
  clear hb HX0
  unfold Tok.cells
  go_wp2_with fail
  clear h1 h2 h3
  refine (peek_any 1 (Nat.le_refl _) HR1.out).mono ?_
  rintro e W2 ⟨rfl, b2⟩
  have HR2 : Hid (Rdr T W2 g st cap ts p) := HR1.out.low b2
  have HG2 : Hid (w.grownBy W2 (some g)) := gr_trans HG1.out (gr_below b2)
  clear b2 HR1 HG1
  have HE1 : Hid _ := HE.out (p + 1) [46]
  obtain ⟨bb, hb⟩ : ∃ bb, isT ts (p + 1) [46] = bb := ⟨_, rfl⟩
  rw [hb] at HX1 HE1
  unfold Tok.cells
  cases bb
  · have hne : ((nxT ts (p + 1)).text.toList == [46]) = false := HE1.out
    have HX2 : Hid _ := ite_no rfl HX1.out
    clear HX1 hb
    go_wp2_with fail
    refine (qword_any 11 HR2.out).mono ?_
    rintro e W3 ⟨g1, hm⟩
    rcases hx : worP ts 11 p with ⟨t3, q3⟩ | s3 | _
    rotate_left
    · rw [hx] at hm
      have hm' : e = wroE s3 := hm
      subst hm'
      have HP : Hid (PtP T w g st cap ts r (wroE s3) W3) := ptp_bad (gr_trans HG2.out g1) (HX2.out.symm.trans hx)
      clear HX2 HR2 HG2 g1 hm
      unfold wroE
      go_wp2
      exact ⟨rfl, HP.out⟩
    · rw [hx] at hm
      exact hm.elim
    rw [hx] at hm
    obtain ⟨b3, rfl, hpt, r3⟩ := hm
    have HP : Hid (PtP T w g st cap ts r (.returned (.pointer (some ⟨b3, 0, none⟩))) W3) := ptp_ok (gr_trans HG2.out g1) (hx.symm.trans HX2.out) (hpt.wide HG2.out.size (Nat.le_refl _)) r3
    clear HX2 HR2 HG2 g1 hpt r3 hx
    go_wp2
    go_ret
    exact HP.out
  have heq : ((nxT ts (p + 1)).text.toList == [46]) = true := HE1.out
  have HX2 : Hid _ := ite_yes rfl HX1.out
  clear HX1 hb HE1 HE
  go_wp2_with fail
  refine (begin_any 12 HR2.out).mono ?_
  rintro e W11 ⟨bk11, rfl, hM, b1⟩
  have HM11 : Hid (Mk w.heap.size W11 bk11 12 ⟨#[]⟩ 0 (herI ts p) (herI ts p) 0 (.slice none 0 0) []) := hM.mono HG2.out.size
  have HG11 : Hid (w.grownBy W11 (some g)) := gr_trans HG2.out (gr_below b1)
  have HR11 : Hid (Rdr T W11 g st cap ts p) := HR2.out.low b1
  clear hM b1 HG2 HR2
  clear heq
  have HL12 : Hid ((bk11 < W11.heap.size ∧ ∀ q, ((.slice none 0 0) : Value).ownBlock = some q → q < W11.heap.size) ∧ w.heap.size ≤ W11.heap.size ∧ g < W11.heap.size) := ⟨HM11.out.at, HG11.out.size, HR11.out.lt⟩
  go_wp2_with fail
  refine (qword_any 23 HR11.out).mono ?_
  rintro e W12 ⟨g1, hm⟩
  rcases hx : worP ts 23 p with ⟨t12, q12⟩ | s12 | _
  rotate_left
  · rw [hx] at hm
    have hm' : e = wroE s12 := hm
    subst hm'
    have HP : Hid (PtP T w g st cap ts r (wroE (s12)) W12) := ptp_bad (gr_trans HG11.out g1) (bind_bad hx HX2.out)
    clear HG11 HR11 HX2 HM11 HL12
    unfold wroE
    go_wp2
    exact ⟨rfl, HP.out⟩
  · rw [hx] at hm
    exact hm.elim
  rw [hx] at hm
  obtain ⟨bk12, rfl, hpt, r1⟩ := hm
  have HX12 : Hid _ := bind_ok hx HX2.out
  have hsz12 := g1.size
  have HG13 : Hid (w.grownBy W12 (some g)) := gr_trans HG11.out g1
  have HM13 : Hid (Mk w.heap.size W12 bk11 12 ⟨#[]⟩ 0 (herI ts p) (herI ts p) 0 (.slice none 0 0) []) := HM11.out.grow (Nat.lt_of_lt_of_le hgT hT) g1
  have HK12 : Hid (PtAt W12 (fun j => W11.heap.size ≤ j ∧ j < W12.heap.size) bk12 t12) := hpt
  have HR12 : Hid (Rdr T W12 g st cap ts q12) := r1
  clear g1 r1 hpt hx HX2 HR11 HG11 HM11
  go_wp2_with fail
  refine calls_gen (fun W => Below W12.heap.size W12 W ∧ W.heap[W12.heap.size]? = some (.cells #[.pointer (some ⟨bk12, 0, none⟩)] 67 (0, 0))) ⟨(Below.refl _ _).alloc (Nat.le_refl _) _, heap_alloc_new _ _⟩ ?_
  rintro Wa14 ⟨ba, ra⟩
  refine (add_any (bs2 := [bk12]) (l2 := [t12]) (S2 := fun j => W11.heap.size ≤ j ∧ j < W12.heap.size) (HM13.out.below ba) (oneG_rows ra) (fun h => by cases h) (PsAt.one (HK12.out.low (Nat.le_refl _) ba)) (kid_in HL12.out.1 HL12.out.2.1 ba.size) (by simp)).mono ?_
  rintro e W14 ⟨rfl, ⟨v14, hM⟩, b1⟩
  have HM14 : Hid (Mk w.heap.size W14 bk11 12 ⟨#[]⟩ 0 (herI ts p) (herI ts p) 0 v14 ([] ++ [t12])) := hM
  have HGa14 : Hid (w.grownBy Wa14 (some g)) := gr_trans HG13.out (gr_below ba)
  have HRa14 : Hid (Rdr T Wa14 g st cap ts q12) := HR12.out.low ba
  have HG15 : Hid (w.grownBy W14 (some g)) := gr_on HGa14.out b1
  have HR15 : Hid (Rdr T W14 g st cap ts q12) := HRa14.out.below hT b1
  clear hM b1 ba ra HM13 HL12 HG13 HR12 HGa14 HRa14 HK12
  go_wp2_with fail
  refine (expect_any ⟨#[46]⟩ (by simp) HR15.out).mono ?_
  rintro e W16 ⟨g1, hm0⟩
  have hm : (if isT ts q12 [46] then e = .returned (.tuple #[]) ∧ Rdr T W16 g st cap ts (q12 + 1) else e = wroE (herI ts q12)) := hm0
  clear hm0
  obtain ⟨bb, hb⟩ : ∃ bb, isT ts q12 [46] = bb := ⟨_, rfl⟩
  rw [hb] at hm
  cases bb
  · simp only [Bool.false_eq_true, if_false] at hm
    subst hm
    have HP : Hid (PtP T w g st cap ts r (wroE (herI ts q12)) W16) := ptp_bad (gr_trans HG15.out g1) (exp_no hb HX12.out)
    clear HG15 HR15 HX12 HM14
    unfold wroE
    go_wp2
    exact ⟨rfl, HP.out⟩
  simp only [if_true] at hm
  obtain ⟨rfl, r1⟩ := hm
  have HX16 : Hid _ := exp_yes hb HX12.out
  have HG17 : Hid (w.grownBy W16 (some g)) := gr_trans HG15.out g1
  have HM17 : Hid (Mk w.heap.size W16 bk11 12 ⟨#[]⟩ 0 (herI ts p) (herI ts p) 0 v14 ([] ++ [t12])) := HM14.out.grow (Nat.lt_of_lt_of_le hgT hT) g1
  have HR16 : Hid (Rdr T W16 g st cap ts (q12 + 1)) := r1
  clear g1 r1 hb HX12 HR15 HG15 HM14
  go_wp2_with fail
  refine (name_any HR16.out).mono ?_
  rintro e W18 ⟨g1, hm⟩
  obtain ⟨bb, hb⟩ : ∃ bb, namB ts (q12 + 1) = bb := ⟨_, rfl⟩
  rw [hb] at hm
  cases bb
  · simp only [Bool.false_eq_true, if_false] at hm
    subst hm
    have HP : Hid (PtP T w g st cap ts r (wroE (herI ts (q12 + 1))) W18) := ptp_bad (gr_trans HG17.out g1) (nam_no hb HX16.out)
    clear HG17 HR16 HX16 HM17
    unfold wroE
    go_wp2
    exact ⟨rfl, HP.out⟩
  simp only [if_true] at hm
  obtain ⟨rfl, r1⟩ := hm
  have HX18 : Hid _ := nam_yes hb HX16.out
  have HG19 : Hid (w.grownBy W18 (some g)) := gr_trans HG17.out g1
  have HM19 : Hid (Mk w.heap.size W18 bk11 12 ⟨#[]⟩ 0 (herI ts p) (herI ts p) 0 v14 ([] ++ [t12])) := HM17.out.grow (Nat.lt_of_lt_of_le hgT hT) g1
  have HR18 : Hid (Rdr T W18 g st cap ts ((q12 + 1) + 1)) := r1
  clear g1 r1 hb HX16 HR16 HG17 HM17
  go_wp2_with fail
  refine (says_any (nxT ts (q12 + 1)) HM19.out).mono ?_
  rintro e W20 ⟨rfl, hM, b1⟩
  have HM20 : Hid (Mk w.heap.size W20 bk11 12 (nxT ts (q12 + 1)).text 0 (nxT ts (q12 + 1)).pos (herI ts p) 0 v14 ([] ++ [t12])) := hM
  have HG21 : Hid (w.grownBy W20 (some g)) := gr_on HG19.out b1
  have HR21 : Hid (Rdr T W20 g st cap ts ((q12 + 1) + 1)) := HR18.out.below hT b1
  clear hM b1 HM19 HG19 HR18
  go_wp2_with fail
  refine (done_any (bs2 := []) (l2 := []) (S2 := fun _ => False) HR21.out hT HM20.out RowsAt.none (fun _ => ⟨rfl, rfl⟩) (PsAt.nil _ _) (fun _ h => h.elim) (by simp)).mono ?_
  rintro e W22 ⟨rfl, ⟨v22, hM⟩, b1⟩
  have HM22 : Hid (Mk w.heap.size W22 bk11 12 (nxT ts (q12 + 1)).text 0 (nxT ts (q12 + 1)).pos (herI ts p) (behI ts ((q12 + 1) + 1)) v22 (([] ++ [t12]) ++ [])) := hM
  have HG23 : Hid (w.grownBy W22 (some g)) := gr_on HG21.out b1
  have HR23 : Hid (Rdr T W22 g st cap ts ((q12 + 1) + 1)) := HR21.out.below hT b1
  clear hM b1 HM20 HG21 HR21
  go_wp2
  go_ret
  exact ptp_ok HG23.out HX18.out HM22.out.fin HR23.out
set_option maxRecDepth 100000 in
set_option maxHeartbeats 4000000 in
theorem qtyped_any (k : Int) (hR : Rdr T w g st cap ts p) : Calls Tryd.prog 80 #[.pointer (some ⟨g, 0, none⟩), .int .i64 k] w (PtP T w g st cap ts (tydP ts k p)) := by
  have HR0 : Hid (Rdr T w g st cap ts p) := hR
  have hT := hR.hT
  have hgT := hR.hg
  have HG0 : Hid (w.grownBy w (some g)) := gr_refl _ _
  clear hR
  obtain ⟨r, hX⟩ : ∃ r, tydP ts k p = r := ⟨_, rfl⟩
  rw [hX]
  have HX0 : Hid (tydP ts k p = r) := hX
  clear hX
  unfold tydP at HX0
  go_enter Tryd.func80, Tryd.ntmps80
  go_wp2_with fail
  refine (begin_any k HR0.out).mono ?_
  rintro e W1 ⟨bk1, rfl, hM, b1⟩
  have HM1 : Hid (Mk w.heap.size W1 bk1 k ⟨#[]⟩ 0 (herI ts p) (herI ts p) 0 (.slice none 0 0) []) := hM.mono HG0.out.size
  have HG1 : Hid (w.grownBy W1 (some g)) := gr_trans HG0.out (gr_below b1)
  have HR1 : Hid (Rdr T W1 g st cap ts p) := HR0.out.low b1
  clear hM b1 HG0 HR0
  go_wp2_with fail
  refine (name_any HR1.out).mono ?_
  rintro e W2 ⟨g1, hm⟩
  obtain ⟨bb, hb⟩ : ∃ bb, namB ts p = bb := ⟨_, rfl⟩
  rw [hb] at hm
  cases bb
  · simp only [Bool.false_eq_true, if_false] at hm
    subst hm
    have HP : Hid (PtP T w g st cap ts r (wroE (herI ts p)) W2) := ptp_bad (gr_trans HG1.out g1) (nam_no hb HX0.out)
    clear HG1 HR1 HX0 HM1
    unfold wroE
    go_wp2
    exact ⟨rfl, HP.out⟩
  simp only [if_true] at hm
  obtain ⟨rfl, r1⟩ := hm
  have HX2 : Hid _ := nam_yes hb HX0.out
  have HG3 : Hid (w.grownBy W2 (some g)) := gr_trans HG1.out g1
  have HM3 : Hid (Mk w.heap.size W2 bk1 k ⟨#[]⟩ 0 (herI ts p) (herI ts p) 0 (.slice none 0 0) []) := HM1.out.grow (Nat.lt_of_lt_of_le hgT hT) g1
  have HR2 : Hid (Rdr T W2 g st cap ts (p + 1)) := r1
  clear g1 r1 hb HX0 HR1 HG1 HM1
  go_wp2_with fail
  refine (says_any (nxT ts p) HM3.out).mono ?_
  rintro e W4 ⟨rfl, hM, b1⟩
  have HM4 : Hid (Mk w.heap.size W4 bk1 k (nxT ts p).text 0 (nxT ts p).pos (herI ts p) 0 (.slice none 0 0) []) := hM
  have HG5 : Hid (w.grownBy W4 (some g)) := gr_on HG3.out b1
  have HR5 : Hid (Rdr T W4 g st cap ts (p + 1)) := HR2.out.below hT b1
  clear hM b1 HM3 HG3 HR2
  have HL6 : Hid ((bk1 < W4.heap.size ∧ ∀ q, ((.slice none 0 0) : Value).ownBlock = some q → q < W4.heap.size) ∧ w.heap.size ≤ W4.heap.size ∧ g < W4.heap.size) := ⟨HM4.out.at, HG5.out.size, HR5.out.lt⟩
  go_wp2_with fail
  refine (qtyp_any HR5.out).mono ?_
  rintro e W6 ⟨g1, hm⟩
  rcases hx : typP ts (p + 1) with ⟨t6, q6⟩ | s6 | _
  rotate_left
  · rw [hx] at hm
    have hm' : e = wroE s6 := hm
    subst hm'
    have HP : Hid (PtP T w g st cap ts r (wroE (s6)) W6) := ptp_bad (gr_trans HG5.out g1) (bind_bad hx HX2.out)
    clear HG5 HR5 HX2 HM4 HL6
    unfold wroE
    go_wp2
    exact ⟨rfl, HP.out⟩
  · rw [hx] at hm
    exact hm.elim
  rw [hx] at hm
  obtain ⟨bk6, rfl, hpt, r1⟩ := hm
  have HX6 : Hid _ := bind_ok hx HX2.out
  have hsz6 := g1.size
  have HG7 : Hid (w.grownBy W6 (some g)) := gr_trans HG5.out g1
  have HM7 : Hid (Mk w.heap.size W6 bk1 k (nxT ts p).text 0 (nxT ts p).pos (herI ts p) 0 (.slice none 0 0) []) := HM4.out.grow (Nat.lt_of_lt_of_le hgT hT) g1
  have HK6 : Hid (PtAt W6 (fun j => W4.heap.size ≤ j ∧ j < W6.heap.size) bk6 t6) := hpt
  have HR6 : Hid (Rdr T W6 g st cap ts q6) := r1
  clear g1 r1 hpt hx HX2 HR5 HG5 HM4
  go_wp2_with fail
  refine calls_gen (fun W => Below W6.heap.size W6 W ∧ W.heap[W6.heap.size]? = some (.cells #[.pointer (some ⟨bk6, 0, none⟩)] 67 (0, 0))) ⟨(Below.refl _ _).alloc (Nat.le_refl _) _, heap_alloc_new _ _⟩ ?_
  rintro Wa8 ⟨ba, ra⟩
  refine (done_any (bs2 := [bk6]) (l2 := [t6]) (S2 := fun j => W4.heap.size ≤ j ∧ j < W6.heap.size) (HR6.out.low ba) hT (HM7.out.below ba) (oneG_rows ra) (fun h => by cases h) (PsAt.one (HK6.out.low (Nat.le_refl _) ba)) (kid_in HL6.out.1 HL6.out.2.1 ba.size) (by simp)).mono ?_
  rintro e W8 ⟨rfl, ⟨v8, hM⟩, b1⟩
  have HM8 : Hid (Mk w.heap.size W8 bk1 k (nxT ts p).text 0 (nxT ts p).pos (herI ts p) (behI ts q6) v8 ([] ++ [t6])) := hM
  have HGa8 : Hid (w.grownBy Wa8 (some g)) := gr_trans HG7.out (gr_below ba)
  have HRa8 : Hid (Rdr T Wa8 g st cap ts q6) := HR6.out.low ba
  have HG9 : Hid (w.grownBy W8 (some g)) := gr_on HGa8.out b1
  have HR9 : Hid (Rdr T W8 g st cap ts q6) := HRa8.out.below hT b1
  clear hM b1 ba ra HM7 HL6 HG7 HR6 HGa8 HRa8 HK6
  go_wp2
  go_ret
  exact ptp_ok HG9.out HX6.out HM8.out.fin HR9.out
set_option maxRecDepth 100000 in
set_option maxHeartbeats 1000000 in
theorem qfield_any (hR : Rdr T w g st cap ts p) : Calls Tryd.prog 71 #[.pointer (some ⟨g, 0, none⟩)] w (PtP T w g st cap ts (tydP ts 6 p)) := by
  have HR0 : Hid (Rdr T w g st cap ts p) := hR
  clear hR
  have hC := qtyped_any 6 HR0.out
  obtain ⟨r, hX⟩ : ∃ r, tydP ts 6 p = r := ⟨_, rfl⟩
  rw [hX] at hC ⊢
  go_enter Tryd.func71, Tryd.ntmps71
  go_wp2_with fail
  refine hC.mono ?_
  clear hC hX
  rintro e W1 hm
  have HP : Hid (PtP T w g st cap ts r e W1) := hm
  rcases r with ⟨t3, q3⟩ | s3 | _
  · obtain ⟨-, b3, rfl, -⟩ := hm
    go_wp2
    go_ret
    exact HP.out
  · obtain ⟨-, hm'⟩ := hm
    have hm2 : e = wroE s3 := hm'
    subst hm2
    clear hm'
    unfold wroE at HP ⊢
    go_wp2
    exact ⟨rfl, HP.out⟩
  · exact hm.2.elim
set_option maxRecDepth 100000 in
set_option maxHeartbeats 1000000 in
theorem qparam_any (hR : Rdr T w g st cap ts p) : Calls Tryd.prog 74 #[.pointer (some ⟨g, 0, none⟩)] w (PtP T w g st cap ts (tydP ts 9 p)) := by
  have HR0 : Hid (Rdr T w g st cap ts p) := hR
  clear hR
  have hC := qtyped_any 9 HR0.out
  obtain ⟨r, hX⟩ : ∃ r, tydP ts 9 p = r := ⟨_, rfl⟩
  rw [hX] at hC ⊢
  go_enter Tryd.func74, Tryd.ntmps74
  go_wp2_with fail
  refine hC.mono ?_
  clear hC hX
  rintro e W1 hm
  have HP : Hid (PtP T w g st cap ts r e W1) := hm
  rcases r with ⟨t3, q3⟩ | s3 | _
  · obtain ⟨-, b3, rfl, -⟩ := hm
    go_wp2
    go_ret
    exact HP.out
  · obtain ⟨-, hm'⟩ := hm
    have hm2 : e = wroE s3 := hm'
    subst hm2
    clear hm'
    unfold wroE at HP ⊢
    go_wp2
    exact ⟨rfl, HP.out⟩
  · exact hm.2.elim
set_option maxRecDepth 100000 in
set_option maxHeartbeats 4000000 in
theorem qreceiver_any (hR : Rdr T w g st cap ts p) : Calls Tryd.prog 72 #[.pointer (some ⟨g, 0, none⟩)] w (PtP T w g st cap ts (recP ts p)) := by
  have HR0 : Hid (Rdr T w g st cap ts p) := hR
  have hT := hR.hT
  have hgT := hR.hg
  have HG0 : Hid (w.grownBy w (some g)) := gr_refl _ _
  clear hR
  obtain ⟨r, hX⟩ : ∃ r, recP ts p = r := ⟨_, rfl⟩
  rw [hX]
  have HX0 : Hid (recP ts p = r) := hX
  clear hX
  unfold recP at HX0
  go_enter Tryd.func72, Tryd.ntmps72
  go_wp2_with fail
  refine (begin_any 8 HR0.out).mono ?_
  rintro e W1 ⟨bk1, rfl, hM, b1⟩
  have HM1 : Hid (Mk w.heap.size W1 bk1 8 ⟨#[]⟩ 0 (herI ts p) (herI ts p) 0 (.slice none 0 0) []) := hM.mono HG0.out.size
  have HG1 : Hid (w.grownBy W1 (some g)) := gr_trans HG0.out (gr_below b1)
  have HR1 : Hid (Rdr T W1 g st cap ts p) := HR0.out.low b1
  clear hM b1 HG0 HR0
  go_wp2_with fail
  refine (name_any HR1.out).mono ?_
  rintro e W2 ⟨g1, hm⟩
  obtain ⟨bb, hb⟩ : ∃ bb, namB ts p = bb := ⟨_, rfl⟩
  rw [hb] at hm
  cases bb
  · simp only [Bool.false_eq_true, if_false] at hm
    subst hm
    have HP : Hid (PtP T w g st cap ts r (wroE (herI ts p)) W2) := ptp_bad (gr_trans HG1.out g1) (nam_no hb HX0.out)
    clear HG1 HR1 HX0 HM1
    unfold wroE
    go_wp2
    exact ⟨rfl, HP.out⟩
  simp only [if_true] at hm
  obtain ⟨rfl, r1⟩ := hm
  have HX2 : Hid _ := nam_yes hb HX0.out
  have HG3 : Hid (w.grownBy W2 (some g)) := gr_trans HG1.out g1
  have HM3 : Hid (Mk w.heap.size W2 bk1 8 ⟨#[]⟩ 0 (herI ts p) (herI ts p) 0 (.slice none 0 0) []) := HM1.out.grow (Nat.lt_of_lt_of_le hgT hT) g1
  have HR2 : Hid (Rdr T W2 g st cap ts (p + 1)) := r1
  clear g1 r1 hb HX0 HR1 HG1 HM1
  go_wp2_with fail
  refine (says_any (nxT ts p) HM3.out).mono ?_
  rintro e W4 ⟨rfl, hM, b1⟩
  have HM4 : Hid (Mk w.heap.size W4 bk1 8 (nxT ts p).text 0 (nxT ts p).pos (herI ts p) 0 (.slice none 0 0) []) := hM
  have HG5 : Hid (w.grownBy W4 (some g)) := gr_on HG3.out b1
  have HR5 : Hid (Rdr T W4 g st cap ts (p + 1)) := HR2.out.below hT b1
  clear hM b1 HM3 HG3 HR2
  have HL6 : Hid ((bk1 < W4.heap.size ∧ ∀ q, ((.slice none 0 0) : Value).ownBlock = some q → q < W4.heap.size) ∧ w.heap.size ≤ W4.heap.size ∧ g < W4.heap.size) := ⟨HM4.out.at, HG5.out.size, HR5.out.lt⟩
  go_wp2_with fail
  refine (qword_any 11 HR5.out).mono ?_
  rintro e W6 ⟨g1, hm⟩
  rcases hx : worP ts 11 (p + 1) with ⟨t6, q6⟩ | s6 | _
  rotate_left
  · rw [hx] at hm
    have hm' : e = wroE s6 := hm
    subst hm'
    have HP : Hid (PtP T w g st cap ts r (wroE (s6)) W6) := ptp_bad (gr_trans HG5.out g1) (bind_bad hx HX2.out)
    clear HG5 HR5 HX2 HM4 HL6
    unfold wroE
    go_wp2
    exact ⟨rfl, HP.out⟩
  · rw [hx] at hm
    exact hm.elim
  rw [hx] at hm
  obtain ⟨bk6, rfl, hpt, r1⟩ := hm
  have HX6 : Hid _ := bind_ok hx HX2.out
  have hsz6 := g1.size
  have HG7 : Hid (w.grownBy W6 (some g)) := gr_trans HG5.out g1
  have HM7 : Hid (Mk w.heap.size W6 bk1 8 (nxT ts p).text 0 (nxT ts p).pos (herI ts p) 0 (.slice none 0 0) []) := HM4.out.grow (Nat.lt_of_lt_of_le hgT hT) g1
  have HK6 : Hid (PtAt W6 (fun j => W4.heap.size ≤ j ∧ j < W6.heap.size) bk6 t6) := hpt
  have HR6 : Hid (Rdr T W6 g st cap ts q6) := r1
  clear g1 r1 hpt hx HX2 HR5 HG5 HM4
  go_wp2_with fail
  refine calls_gen (fun W => Below W6.heap.size W6 W ∧ W.heap[W6.heap.size]? = some (.cells #[.pointer (some ⟨bk6, 0, none⟩)] 67 (0, 0))) ⟨(Below.refl _ _).alloc (Nat.le_refl _) _, heap_alloc_new _ _⟩ ?_
  rintro Wa8 ⟨ba, ra⟩
  refine (done_any (bs2 := [bk6]) (l2 := [t6]) (S2 := fun j => W4.heap.size ≤ j ∧ j < W6.heap.size) (HR6.out.low ba) hT (HM7.out.below ba) (oneG_rows ra) (fun h => by cases h) (PsAt.one (HK6.out.low (Nat.le_refl _) ba)) (kid_in HL6.out.1 HL6.out.2.1 ba.size) (by simp)).mono ?_
  rintro e W8 ⟨rfl, ⟨v8, hM⟩, b1⟩
  have HM8 : Hid (Mk w.heap.size W8 bk1 8 (nxT ts p).text 0 (nxT ts p).pos (herI ts p) (behI ts q6) v8 ([] ++ [t6])) := hM
  have HGa8 : Hid (w.grownBy Wa8 (some g)) := gr_trans HG7.out (gr_below ba)
  have HRa8 : Hid (Rdr T Wa8 g st cap ts q6) := HR6.out.low ba
  have HG9 : Hid (w.grownBy W8 (some g)) := gr_on HGa8.out b1
  have HR9 : Hid (Rdr T W8 g st cap ts q6) := HRa8.out.below hT b1
  clear hM b1 ba ra HM7 HL6 HG7 HR6 HGa8 HRa8 HK6
  go_wp2
  go_ret
  exact ptp_ok HG9.out HX6.out HM8.out.fin HR9.out
end
end Go.Proofs.YthnoiohganknnabDoor
