/- The contracts of the rules of plain statements, for every round. -/
import Derived.Test.YthnoiohganknnabDoorMrgG
namespace Go.Proofs.YthnoiohganknnabDoor
open Go.RowKit

section
variable {T : Nat} {w : World} {g : Nat} {st : Option Addr} {cap : Nat} {ts : List Tok} {p : Nat}
set_option maxRecDepth 100000 in
set_option maxHeartbeats 4000000 in
theorem qvariable_of (n : Nat) (hR : Rdr T w g st cap ts p) (ho : varP ts (fns ts n) p ≠ .out) : Calls Tryd.prog 58 #[.pointer (some ⟨g, 0, none⟩)] w (PtP T w g st cap ts (varP ts (fns ts n) p)) := by
  have HR0 : Hid (Rdr T w g st cap ts p) := hR
  have hT := hR.hT
  have hgT := hR.hg
  have HG0 : Hid (w.grownBy w (some g)) := gr_refl _ _
  clear hR
  obtain ⟨r, hX⟩ : ∃ r, varP ts (fns ts n) p = r := ⟨_, rfl⟩
  rw [hX] at ho ⊢
  have HX0 : Hid (varP ts (fns ts n) p = r) := hX
  have HO : Hid (r ≠ .out) := ho
  clear hX ho
  unfold varP at HX0
  go_enter Tryd.func58, Tryd.ntmps58
  go_wp2_with fail
  refine (begin_any 4 HR0.out).mono ?_
  rintro e W1 ⟨bk1, rfl, hM, b1⟩
  have HM1 : Hid (Mk w.heap.size W1 bk1 4 ⟨#[]⟩ 0 (herI ts p) (herI ts p) 0 (.slice none 0 0) []) := hM.mono HG0.out.size
  have HG1 : Hid (w.grownBy W1 (some g)) := gr_trans HG0.out (gr_below b1)
  have HR1 : Hid (Rdr T W1 g st cap ts p) := HR0.out.low b1
  clear hM b1 HG0 HR0
  go_wp2_with fail
  refine (expect_any ⟨#[118, 97, 114]⟩ (by simp) HR1.out).mono ?_
  rintro e W2 ⟨g1, hm0⟩
  have hm : (if isT ts p [118, 97, 114] then e = .returned (.tuple #[]) ∧ Rdr T W2 g st cap ts (p + 1) else e = wroE (herI ts p)) := hm0
  clear hm0
  obtain ⟨bb, hb⟩ : ∃ bb, isT ts p [118, 97, 114] = bb := ⟨_, rfl⟩
  rw [hb] at hm
  cases bb
  · simp only [Bool.false_eq_true, if_false] at hm
    subst hm
    have HP : Hid (PtP T w g st cap ts r (wroE (herI ts p)) W2) := ptp_bad (gr_trans HG1.out g1) (exp_no hb HX0.out)
    clear HG1 HR1 HX0 HM1
    unfold wroE
    go_wp2
    exact ⟨rfl, HP.out⟩
  simp only [if_true] at hm
  obtain ⟨rfl, r1⟩ := hm
  have HX2 : Hid _ := exp_yes hb HX0.out
  have HG3 : Hid (w.grownBy W2 (some g)) := gr_trans HG1.out g1
  have HM3 : Hid (Mk w.heap.size W2 bk1 4 ⟨#[]⟩ 0 (herI ts p) (herI ts p) 0 (.slice none 0 0) []) := HM1.out.grow (Nat.lt_of_lt_of_le hgT hT) g1
  have HR2 : Hid (Rdr T W2 g st cap ts (p + 1)) := r1
  clear g1 r1 hb HX0 HR1 HG1 HM1
  go_wp2_with fail
  refine (name_any HR2.out).mono ?_
  rintro e W4 ⟨g1, hm⟩
  obtain ⟨bb, hb⟩ : ∃ bb, namB ts (p + 1) = bb := ⟨_, rfl⟩
  rw [hb] at hm
  cases bb
  · simp only [Bool.false_eq_true, if_false] at hm
    subst hm
    have HP : Hid (PtP T w g st cap ts r (wroE (herI ts (p + 1))) W4) := ptp_bad (gr_trans HG3.out g1) (nam_no hb HX2.out)
    clear HG3 HR2 HX2 HM3
    unfold wroE
    go_wp2
    exact ⟨rfl, HP.out⟩
  simp only [if_true] at hm
  obtain ⟨rfl, r1⟩ := hm
  have HX4 : Hid _ := nam_yes hb HX2.out
  have HG5 : Hid (w.grownBy W4 (some g)) := gr_trans HG3.out g1
  have HM5 : Hid (Mk w.heap.size W4 bk1 4 ⟨#[]⟩ 0 (herI ts p) (herI ts p) 0 (.slice none 0 0) []) := HM3.out.grow (Nat.lt_of_lt_of_le hgT hT) g1
  have HR4 : Hid (Rdr T W4 g st cap ts ((p + 1) + 1)) := r1
  clear g1 r1 hb HX2 HR2 HG3 HM3
  go_wp2_with fail
  refine (says_any (nxT ts (p + 1)) HM5.out).mono ?_
  rintro e W6 ⟨rfl, hM, b1⟩
  have HM6 : Hid (Mk w.heap.size W6 bk1 4 (nxT ts (p + 1)).text 0 (nxT ts (p + 1)).pos (herI ts p) 0 (.slice none 0 0) []) := hM
  have HG7 : Hid (w.grownBy W6 (some g)) := gr_on HG5.out b1
  have HR7 : Hid (Rdr T W6 g st cap ts ((p + 1) + 1)) := HR4.out.below hT b1
  clear hM b1 HM5 HG5 HR4
  have HL8 : Hid ((bk1 < W6.heap.size ∧ ∀ q, ((.slice none 0 0) : Value).ownBlock = some q → q < W6.heap.size) ∧ w.heap.size ≤ W6.heap.size ∧ g < W6.heap.size) := ⟨HM6.out.at, HG7.out.size, HR7.out.lt⟩
  go_wp2_with fail
  refine (qtyp_any HR7.out).mono ?_
  rintro e W8 ⟨g1, hm⟩
  rcases hx : typP ts ((p + 1) + 1) with ⟨t8, q8⟩ | s8 | _
  rotate_left
  · rw [hx] at hm
    have hm' : e = wroE s8 := hm
    subst hm'
    have HP : Hid (PtP T w g st cap ts r (wroE (s8)) W8) := ptp_bad (gr_trans HG7.out g1) (bind_bad hx HX4.out)
    clear HG7 HR7 HX4 HM6 HL8
    unfold wroE
    go_wp2
    exact ⟨rfl, HP.out⟩
  · rw [hx] at hm
    exact hm.elim
  rw [hx] at hm
  obtain ⟨bk8, rfl, hpt, r1⟩ := hm
  have HX8 : Hid _ := bind_ok hx HX4.out
  have hsz8 := g1.size
  have HG9 : Hid (w.grownBy W8 (some g)) := gr_trans HG7.out g1
  have HM9 : Hid (Mk w.heap.size W8 bk1 4 (nxT ts (p + 1)).text 0 (nxT ts (p + 1)).pos (herI ts p) 0 (.slice none 0 0) []) := HM6.out.grow (Nat.lt_of_lt_of_le hgT hT) g1
  have HK8 : Hid (PtAt W8 (fun j => W6.heap.size ≤ j ∧ j < W8.heap.size) bk8 t8) := hpt
  have HR8 : Hid (Rdr T W8 g st cap ts q8) := r1
  clear g1 r1 hpt hx HX4 HR7 HG7 HM6
  go_wp2_with fail
  refine calls_gen (fun W => Below W8.heap.size W8 W ∧ W.heap[W8.heap.size]? = some (.cells #[.pointer (some ⟨bk8, 0, none⟩)] 67 (0, 0))) ⟨(Below.refl _ _).alloc (Nat.le_refl _) _, heap_alloc_new _ _⟩ ?_
  rintro Wa10 ⟨ba, ra⟩
  refine (add_any (bs2 := [bk8]) (l2 := [t8]) (S2 := fun j => W6.heap.size ≤ j ∧ j < W8.heap.size) (HM9.out.below ba) (oneG_rows ra) (fun h => by cases h) (PsAt.one (HK8.out.low (Nat.le_refl _) ba)) (kid_in HL8.out.1 HL8.out.2.1 ba.size) (by simp)).mono ?_
  rintro e W10 ⟨rfl, ⟨v10, hM⟩, b1⟩
  have HM10 : Hid (Mk w.heap.size W10 bk1 4 (nxT ts (p + 1)).text 0 (nxT ts (p + 1)).pos (herI ts p) 0 v10 ([] ++ [t8])) := hM
  have HGa10 : Hid (w.grownBy Wa10 (some g)) := gr_trans HG9.out (gr_below ba)
  have HRa10 : Hid (Rdr T Wa10 g st cap ts q8) := HR8.out.low ba
  have HG11 : Hid (w.grownBy W10 (some g)) := gr_on HGa10.out b1
  have HR11 : Hid (Rdr T W10 g st cap ts q8) := HRa10.out.below hT b1
  clear hM b1 ba ra HM9 HL8 HG9 HR8 HGa10 HRa10 HK8
  go_wp2_with fail
  refine (skip_any ⟨#[61]⟩ (by simp) HR11.out).mono ?_
  rintro e W12 ⟨he, g1, r1⟩
  obtain ⟨bb, hb⟩ : ∃ bb, isT ts q8 [61] = bb := ⟨_, rfl⟩
  rw [show isT ts q8 (⟨#[61]⟩ : ByteArray).data.toList = bb from hb] at he r1
  subst he
  rw [hb] at HX8
  have HG13 : Hid (w.grownBy W12 (some g)) := gr_trans HG11.out g1
  have HM13 : Hid (Mk w.heap.size W12 bk1 4 (nxT ts (p + 1)).text 0 (nxT ts (p + 1)).pos (herI ts p) 0 v10 ([] ++ [t8])) := HM10.out.grow (Nat.lt_of_lt_of_le hgT hT) g1
  clear g1 hb HR11 HG11 HM10
  cases bb
  rotate_left
  · skip
    have HX12 : Hid _ := ite_yes rfl HX8.out
    have HR12 : Hid (Rdr T W12 g st cap ts (q8 + 1)) := r1
    clear r1 HX8
    have HL14 : Hid ((bk1 < W12.heap.size ∧ ∀ q, (v10 : Value).ownBlock = some q → q < W12.heap.size) ∧ w.heap.size ≤ W12.heap.size ∧ g < W12.heap.size) := ⟨HM13.out.at, HG13.out.size, HR12.out.lt⟩
    go_wp2_with fail
    refine (expr_of (exp_all n) HR12.out (bind_out HX12.out HO.out)).mono ?_
    rintro e W14 ⟨g1, hm⟩
    rcases hx : (fns ts n).bin 0 (q8 + 1) with ⟨t14, q14⟩ | s14 | _
    rotate_left
    · rw [hx] at hm
      have hm' : e = wroE s14 := hm
      subst hm'
      have HP : Hid (PtP T w g st cap ts r (wroE (s14)) W14) := ptp_bad (gr_trans HG13.out g1) (bind_bad hx HX12.out)
      clear HG13 HR12 HX12 HM13 HL14
      unfold wroE
      go_wp2
      exact ⟨rfl, HP.out⟩
    · rw [hx] at hm
      exact hm.elim
    rw [hx] at hm
    obtain ⟨bk14, rfl, hpt, r1⟩ := hm
    have HX14 : Hid _ := bind_ok hx HX12.out
    have hsz14 := g1.size
    have HG15 : Hid (w.grownBy W14 (some g)) := gr_trans HG13.out g1
    have HM15 : Hid (Mk w.heap.size W14 bk1 4 (nxT ts (p + 1)).text 0 (nxT ts (p + 1)).pos (herI ts p) 0 v10 ([] ++ [t8])) := HM13.out.grow (Nat.lt_of_lt_of_le hgT hT) g1
    have HK14 : Hid (PtAt W14 (fun j => W12.heap.size ≤ j ∧ j < W14.heap.size) bk14 t14) := hpt
    have HR14 : Hid (Rdr T W14 g st cap ts q14) := r1
    clear g1 r1 hpt hx HX12 HR12 HG13 HM13
    go_wp2_with fail
    refine calls_gen (fun W => Below W14.heap.size W14 W ∧ W.heap[W14.heap.size]? = some (.cells #[.pointer (some ⟨bk14, 0, none⟩)] 67 (0, 0))) ⟨(Below.refl _ _).alloc (Nat.le_refl _) _, heap_alloc_new _ _⟩ ?_
    rintro Wa16 ⟨ba, ra⟩
    refine (add_any (bs2 := [bk14]) (l2 := [t14]) (S2 := fun j => W12.heap.size ≤ j ∧ j < W14.heap.size) (HM15.out.below ba) (oneG_rows ra) (fun h => by cases h) (PsAt.one (HK14.out.low (Nat.le_refl _) ba)) (kid_in HL14.out.1 HL14.out.2.1 ba.size) (by simp)).mono ?_
    rintro e W16 ⟨rfl, ⟨v16, hM⟩, b1⟩
    have HM16 : Hid (Mk w.heap.size W16 bk1 4 (nxT ts (p + 1)).text 0 (nxT ts (p + 1)).pos (herI ts p) 0 v16 (([] ++ [t8]) ++ [t14])) := hM
    have HGa16 : Hid (w.grownBy Wa16 (some g)) := gr_trans HG15.out (gr_below ba)
    have HRa16 : Hid (Rdr T Wa16 g st cap ts q14) := HR14.out.low ba
    have HG17 : Hid (w.grownBy W16 (some g)) := gr_on HGa16.out b1
    have HR17 : Hid (Rdr T W16 g st cap ts q14) := HRa16.out.below hT b1
    clear hM b1 ba ra HM15 HL14 HG15 HR14 HGa16 HRa16 HK14
    go_wp2_with fail
    refine (done_any (bs2 := []) (l2 := []) (S2 := fun _ => False) HR17.out hT HM16.out RowsAt.none (fun _ => ⟨rfl, rfl⟩) (PsAt.nil _ _) (fun _ h => h.elim) (by simp)).mono ?_
    rintro e W18 ⟨rfl, ⟨v18, hM⟩, b1⟩
    have HM18 : Hid (Mk w.heap.size W18 bk1 4 (nxT ts (p + 1)).text 0 (nxT ts (p + 1)).pos (herI ts p) (behI ts q14) v18 ((([] ++ [t8]) ++ [t14]) ++ [])) := hM
    have HG19 : Hid (w.grownBy W18 (some g)) := gr_on HG17.out b1
    have HR19 : Hid (Rdr T W18 g st cap ts q14) := HR17.out.below hT b1
    clear hM b1 HM16 HG17 HR17
    go_wp2
    go_ret
    exact ptp_ok HG19.out HX14.out HM18.out.fin HR19.out
  have HX12 : Hid _ := ite_no rfl HX8.out
  have HR12 : Hid (Rdr T W12 g st cap ts q8) := r1
  clear r1 HX8
  go_wp2_with fail
  refine (done_any (bs2 := []) (l2 := []) (S2 := fun _ => False) HR12.out hT HM13.out RowsAt.none (fun _ => ⟨rfl, rfl⟩) (PsAt.nil _ _) (fun _ h => h.elim) (by simp)).mono ?_
  rintro e W20 ⟨rfl, ⟨v20, hM⟩, b1⟩
  have HM20 : Hid (Mk w.heap.size W20 bk1 4 (nxT ts (p + 1)).text 0 (nxT ts (p + 1)).pos (herI ts p) (behI ts q8) v20 (([] ++ [t8]) ++ [])) := hM
  have HG21 : Hid (w.grownBy W20 (some g)) := gr_on HG13.out b1
  have HR21 : Hid (Rdr T W20 g st cap ts q8) := HR12.out.below hT b1
  clear hM b1 HM13 HG13 HR12
  go_wp2
  go_ret
  exact ptp_ok HG21.out HX12.out HM20.out.fin HR21.out
set_option maxRecDepth 100000 in
set_option maxHeartbeats 4000000 in
theorem qshort_of (n : Nat) (hR : Rdr T w g st cap ts p) (ho : shoP ts (fns ts n) p ≠ .out) : Calls Tryd.prog 88 #[.pointer (some ⟨g, 0, none⟩)] w (PtP T w g st cap ts (shoP ts (fns ts n) p)) := by
  have HR0 : Hid (Rdr T w g st cap ts p) := hR
  have hT := hR.hT
  have hgT := hR.hg
  have HG0 : Hid (w.grownBy w (some g)) := gr_refl _ _
  clear hR
  obtain ⟨r, hX⟩ : ∃ r, shoP ts (fns ts n) p = r := ⟨_, rfl⟩
  rw [hX] at ho ⊢
  have HX0 : Hid (shoP ts (fns ts n) p = r) := hX
  have HO : Hid (r ≠ .out) := ho
  clear hX ho
  unfold shoP at HX0
  go_enter Tryd.func88, Tryd.ntmps88
  go_wp2_with fail
  refine (begin_any 17 HR0.out).mono ?_
  rintro e W1 ⟨bk1, rfl, hM, b1⟩
  have HM1 : Hid (Mk w.heap.size W1 bk1 17 ⟨#[]⟩ 0 (herI ts p) (herI ts p) 0 (.slice none 0 0) []) := hM.mono HG0.out.size
  have HG1 : Hid (w.grownBy W1 (some g)) := gr_trans HG0.out (gr_below b1)
  have HR1 : Hid (Rdr T W1 g st cap ts p) := HR0.out.low b1
  clear hM b1 HG0 HR0
  go_wp2_with fail
  refine (name_any HR1.out).mono ?_
  rintro e W2 ⟨g1, hm⟩
  obtain ⟨bb, hb⟩ : ∃ bb, namB ts p = bb := ⟨_, rfl⟩
  rw [hb] at hm
  cases bb
  · simp only [Bool.false_eq_true, if_false] at hm
    subst hm
    have HP : Hid (PtP T w g st cap ts r (wroE (herI ts p)) W2) := ptp_bad (gr_trans HG1.out g1) (nam_no hb HX0.out)
    clear HG1 HR1 HX0 HM1
    unfold wroE
    go_wp2
    exact ⟨rfl, HP.out⟩
  simp only [if_true] at hm
  obtain ⟨rfl, r1⟩ := hm
  have HX2 : Hid _ := nam_yes hb HX0.out
  have HG3 : Hid (w.grownBy W2 (some g)) := gr_trans HG1.out g1
  have HM3 : Hid (Mk w.heap.size W2 bk1 17 ⟨#[]⟩ 0 (herI ts p) (herI ts p) 0 (.slice none 0 0) []) := HM1.out.grow (Nat.lt_of_lt_of_le hgT hT) g1
  have HR2 : Hid (Rdr T W2 g st cap ts (p + 1)) := r1
  clear g1 r1 hb HX0 HR1 HG1 HM1
  go_wp2_with fail
  refine (says_any (nxT ts p) HM3.out).mono ?_
  rintro e W4 ⟨rfl, hM, b1⟩
  have HM4 : Hid (Mk w.heap.size W4 bk1 17 (nxT ts p).text 0 (nxT ts p).pos (herI ts p) 0 (.slice none 0 0) []) := hM
  have HG5 : Hid (w.grownBy W4 (some g)) := gr_on HG3.out b1
  have HR5 : Hid (Rdr T W4 g st cap ts (p + 1)) := HR2.out.below hT b1
  clear hM b1 HM3 HG3 HR2
  go_wp2_with fail
  refine (expect_any ⟨#[58, 61]⟩ (by simp) HR5.out).mono ?_
  rintro e W6 ⟨g1, hm0⟩
  have hm : (if isT ts (p + 1) [58, 61] then e = .returned (.tuple #[]) ∧ Rdr T W6 g st cap ts ((p + 1) + 1) else e = wroE (herI ts (p + 1))) := hm0
  clear hm0
  obtain ⟨bb, hb⟩ : ∃ bb, isT ts (p + 1) [58, 61] = bb := ⟨_, rfl⟩
  rw [hb] at hm
  cases bb
  · simp only [Bool.false_eq_true, if_false] at hm
    subst hm
    have HP : Hid (PtP T w g st cap ts r (wroE (herI ts (p + 1))) W6) := ptp_bad (gr_trans HG5.out g1) (exp_no hb HX2.out)
    clear HG5 HR5 HX2 HM4
    unfold wroE
    go_wp2
    exact ⟨rfl, HP.out⟩
  simp only [if_true] at hm
  obtain ⟨rfl, r1⟩ := hm
  have HX6 : Hid _ := exp_yes hb HX2.out
  have HG7 : Hid (w.grownBy W6 (some g)) := gr_trans HG5.out g1
  have HM7 : Hid (Mk w.heap.size W6 bk1 17 (nxT ts p).text 0 (nxT ts p).pos (herI ts p) 0 (.slice none 0 0) []) := HM4.out.grow (Nat.lt_of_lt_of_le hgT hT) g1
  have HR6 : Hid (Rdr T W6 g st cap ts ((p + 1) + 1)) := r1
  clear g1 r1 hb HX2 HR5 HG5 HM4
  have HL8 : Hid ((bk1 < W6.heap.size ∧ ∀ q, ((.slice none 0 0) : Value).ownBlock = some q → q < W6.heap.size) ∧ w.heap.size ≤ W6.heap.size ∧ g < W6.heap.size) := ⟨HM7.out.at, HG7.out.size, HR6.out.lt⟩
  go_wp2_with fail
  refine (expr_of (exp_all n) HR6.out (bind_out HX6.out HO.out)).mono ?_
  rintro e W8 ⟨g1, hm⟩
  rcases hx : (fns ts n).bin 0 ((p + 1) + 1) with ⟨t8, q8⟩ | s8 | _
  rotate_left
  · rw [hx] at hm
    have hm' : e = wroE s8 := hm
    subst hm'
    have HP : Hid (PtP T w g st cap ts r (wroE (s8)) W8) := ptp_bad (gr_trans HG7.out g1) (bind_bad hx HX6.out)
    clear HG7 HR6 HX6 HM7 HL8
    unfold wroE
    go_wp2
    exact ⟨rfl, HP.out⟩
  · rw [hx] at hm
    exact hm.elim
  rw [hx] at hm
  obtain ⟨bk8, rfl, hpt, r1⟩ := hm
  have HX8 : Hid _ := bind_ok hx HX6.out
  have hsz8 := g1.size
  have HG9 : Hid (w.grownBy W8 (some g)) := gr_trans HG7.out g1
  have HM9 : Hid (Mk w.heap.size W8 bk1 17 (nxT ts p).text 0 (nxT ts p).pos (herI ts p) 0 (.slice none 0 0) []) := HM7.out.grow (Nat.lt_of_lt_of_le hgT hT) g1
  have HK8 : Hid (PtAt W8 (fun j => W6.heap.size ≤ j ∧ j < W8.heap.size) bk8 t8) := hpt
  have HR8 : Hid (Rdr T W8 g st cap ts q8) := r1
  clear g1 r1 hpt hx HX6 HR6 HG7 HM7
  go_wp2_with fail
  refine calls_gen (fun W => Below W8.heap.size W8 W ∧ W.heap[W8.heap.size]? = some (.cells #[.pointer (some ⟨bk8, 0, none⟩)] 67 (0, 0))) ⟨(Below.refl _ _).alloc (Nat.le_refl _) _, heap_alloc_new _ _⟩ ?_
  rintro Wa10 ⟨ba, ra⟩
  refine (done_any (bs2 := [bk8]) (l2 := [t8]) (S2 := fun j => W6.heap.size ≤ j ∧ j < W8.heap.size) (HR8.out.low ba) hT (HM9.out.below ba) (oneG_rows ra) (fun h => by cases h) (PsAt.one (HK8.out.low (Nat.le_refl _) ba)) (kid_in HL8.out.1 HL8.out.2.1 ba.size) (by simp)).mono ?_
  rintro e W10 ⟨rfl, ⟨v10, hM⟩, b1⟩
  have HM10 : Hid (Mk w.heap.size W10 bk1 17 (nxT ts p).text 0 (nxT ts p).pos (herI ts p) (behI ts q8) v10 ([] ++ [t8])) := hM
  have HGa10 : Hid (w.grownBy Wa10 (some g)) := gr_trans HG9.out (gr_below ba)
  have HRa10 : Hid (Rdr T Wa10 g st cap ts q8) := HR8.out.low ba
  have HG11 : Hid (w.grownBy W10 (some g)) := gr_on HGa10.out b1
  have HR11 : Hid (Rdr T W10 g st cap ts q8) := HRa10.out.below hT b1
  clear hM b1 ba ra HM9 HL8 HG9 HR8 HGa10 HRa10 HK8
  go_wp2
  go_ret
  exact ptp_ok HG11.out HX8.out HM10.out.fin HR11.out
set_option maxRecDepth 100000 in
set_option maxHeartbeats 4000000 in
theorem qsimple_of (n : Nat) (hR : Rdr T w g st cap ts p) (ho : simP ts (fns ts n) p ≠ .out) : Calls Tryd.prog 89 #[.pointer (some ⟨g, 0, none⟩)] w (PtP T w g st cap ts (simP ts (fns ts n) p)) := by
  have HR0 : Hid (Rdr T w g st cap ts p) := hR
  have hT := hR.hT
  have hgT := hR.hg
  have HG0 : Hid (w.grownBy w (some g)) := gr_refl _ _
  clear hR
  obtain ⟨r, hX⟩ : ∃ r, simP ts (fns ts n) p = r := ⟨_, rfl⟩
  rw [hX] at ho ⊢
  have HX0 : Hid (simP ts (fns ts n) p = r) := hX
  have HO : Hid (r ≠ .out) := ho
  clear hX ho
  unfold simP at HX0
  go_enter Tryd.func89, Tryd.ntmps89
  go_wp2_with fail
  refine (begin_any 19 HR0.out).mono ?_
  rintro e W1 ⟨bk1, rfl, hM, b1⟩
  have HM1 : Hid (Mk w.heap.size W1 bk1 19 ⟨#[]⟩ 0 (herI ts p) (herI ts p) 0 (.slice none 0 0) []) := hM.mono HG0.out.size
  have HG1 : Hid (w.grownBy W1 (some g)) := gr_trans HG0.out (gr_below b1)
  have HR1 : Hid (Rdr T W1 g st cap ts p) := HR0.out.low b1
  clear hM b1 HG0 HR0
  have HL2 : Hid ((bk1 < W1.heap.size ∧ ∀ q, ((.slice none 0 0) : Value).ownBlock = some q → q < W1.heap.size) ∧ w.heap.size ≤ W1.heap.size ∧ g < W1.heap.size) := ⟨HM1.out.at, HG1.out.size, HR1.out.lt⟩
  go_wp2_with fail
  refine (expr_of (exp_all n) HR1.out (bind_out HX0.out HO.out)).mono ?_
  rintro e W2 ⟨g1, hm⟩
  rcases hx : (fns ts n).bin 0 p with ⟨t2, q2⟩ | s2 | _
  rotate_left
  · rw [hx] at hm
    have hm' : e = wroE s2 := hm
    subst hm'
    have HP : Hid (PtP T w g st cap ts r (wroE (s2)) W2) := ptp_bad (gr_trans HG1.out g1) (bind_bad hx HX0.out)
    clear HG1 HR1 HX0 HM1 HL2
    unfold wroE
    go_wp2
    exact ⟨rfl, HP.out⟩
  · rw [hx] at hm
    exact hm.elim
  rw [hx] at hm
  obtain ⟨bk2, rfl, hpt, r1⟩ := hm
  have HX2 : Hid _ := bind_ok hx HX0.out
  have hsz2 := g1.size
  have HG3 : Hid (w.grownBy W2 (some g)) := gr_trans HG1.out g1
  have HM3 : Hid (Mk w.heap.size W2 bk1 19 ⟨#[]⟩ 0 (herI ts p) (herI ts p) 0 (.slice none 0 0) []) := HM1.out.grow (Nat.lt_of_lt_of_le hgT hT) g1
  have HK2 : Hid (PtAt W2 (fun j => W1.heap.size ≤ j ∧ j < W2.heap.size) bk2 t2) := hpt
  have HR2 : Hid (Rdr T W2 g st cap ts q2) := r1
  clear g1 r1 hpt hx HX0 HR1 HG1 HM1
  go_wp2_with fail
  refine calls_gen (fun W => Below W2.heap.size W2 W ∧ W.heap[W2.heap.size]? = some (.cells #[.pointer (some ⟨bk2, 0, none⟩)] 67 (0, 0))) ⟨(Below.refl _ _).alloc (Nat.le_refl _) _, heap_alloc_new _ _⟩ ?_
  rintro Wa4 ⟨ba, ra⟩
  refine (add_any (bs2 := [bk2]) (l2 := [t2]) (S2 := fun j => W1.heap.size ≤ j ∧ j < W2.heap.size) (HM3.out.below ba) (oneG_rows ra) (fun h => by cases h) (PsAt.one (HK2.out.low (Nat.le_refl _) ba)) (kid_in HL2.out.1 HL2.out.2.1 ba.size) (by simp)).mono ?_
  rintro e W4 ⟨rfl, ⟨v4, hM⟩, b1⟩
  have HM4 : Hid (Mk w.heap.size W4 bk1 19 ⟨#[]⟩ 0 (herI ts p) (herI ts p) 0 v4 ([] ++ [t2])) := hM
  have HGa4 : Hid (w.grownBy Wa4 (some g)) := gr_trans HG3.out (gr_below ba)
  have HRa4 : Hid (Rdr T Wa4 g st cap ts q2) := HR2.out.low ba
  have HG5 : Hid (w.grownBy W4 (some g)) := gr_on HGa4.out b1
  have HR5 : Hid (Rdr T W4 g st cap ts q2) := HRa4.out.below hT b1
  clear hM b1 ba ra HM3 HL2 HG3 HR2 HGa4 HRa4 HK2
  go_wp2_with fail
  refine (skip_any ⟨#[61]⟩ (by simp) HR5.out).mono ?_
  rintro e W6 ⟨he, g1, r1⟩
  obtain ⟨bb, hb⟩ : ∃ bb, isT ts q2 [61] = bb := ⟨_, rfl⟩
  rw [show isT ts q2 (⟨#[61]⟩ : ByteArray).data.toList = bb from hb] at he r1
  subst he
  rw [hb] at HX2
  have HG7 : Hid (w.grownBy W6 (some g)) := gr_trans HG5.out g1
  have HM7 : Hid (Mk w.heap.size W6 bk1 19 ⟨#[]⟩ 0 (herI ts p) (herI ts p) 0 v4 ([] ++ [t2])) := HM4.out.grow (Nat.lt_of_lt_of_le hgT hT) g1
  clear g1 hb HR5 HG5 HM4
  cases bb
  rotate_left
  · skip
    have HX6 : Hid _ := ite_yes rfl HX2.out
    have HR6 : Hid (Rdr T W6 g st cap ts (q2 + 1)) := r1
    clear r1 HX2
    obtain ⟨hM0, b0, c0, z0⟩ := HM7.out.kind 18
    have HMa8 : Hid _ := hM0
    have HBa8 : Hid _ := b0
    clear hM0 b0
    go_wp2_with fail
    refine calls_gen (fun W => (Mk w.heap.size W bk1 18 ⟨#[]⟩ 0 (herI ts p) (herI ts p) 0 v4 ([] ++ [t2])) ∧ w.grownBy W (some g) ∧ Rdr T W g st cap ts (q2 + 1)) ⟨HMa8.out, gr_on HG7.out HBa8.out, HR6.out.below hT HBa8.out⟩ ?_
    clear HMa8 HBa8 c0 z0 HM7 HG7 HR6
    rintro W8 ⟨hM0, hG0, hR0⟩
    have HM8 : Hid (Mk w.heap.size W8 bk1 18 ⟨#[]⟩ 0 (herI ts p) (herI ts p) 0 v4 ([] ++ [t2])) := hM0
    have HG8 : Hid (w.grownBy W8 (some g)) := hG0
    have HR8 : Hid (Rdr T W8 g st cap ts (q2 + 1)) := hR0
    clear hM0 hG0 hR0
    have HL9 : Hid ((bk1 < W8.heap.size ∧ ∀ q, (v4 : Value).ownBlock = some q → q < W8.heap.size) ∧ w.heap.size ≤ W8.heap.size ∧ g < W8.heap.size) := ⟨HM8.out.at, HG8.out.size, HR8.out.lt⟩
    refine (expr_of (exp_all n) HR8.out (bind_out HX6.out HO.out)).mono ?_
    rintro e W9 ⟨g1, hm⟩
    rcases hx : (fns ts n).bin 0 (q2 + 1) with ⟨t9, q9⟩ | s9 | _
    rotate_left
    · rw [hx] at hm
      have hm' : e = wroE s9 := hm
      subst hm'
      have HP : Hid (PtP T w g st cap ts r (wroE (s9)) W9) := ptp_bad (gr_trans HG8.out g1) (bind_bad hx HX6.out)
      clear HG8 HR8 HX6 HM8 HL9
      unfold wroE
      go_wp2
      exact ⟨rfl, HP.out⟩
    · rw [hx] at hm
      exact hm.elim
    rw [hx] at hm
    obtain ⟨bk9, rfl, hpt, r1⟩ := hm
    have HX9 : Hid _ := bind_ok hx HX6.out
    have hsz9 := g1.size
    have HG10 : Hid (w.grownBy W9 (some g)) := gr_trans HG8.out g1
    have HM10 : Hid (Mk w.heap.size W9 bk1 18 ⟨#[]⟩ 0 (herI ts p) (herI ts p) 0 v4 ([] ++ [t2])) := HM8.out.grow (Nat.lt_of_lt_of_le hgT hT) g1
    have HK9 : Hid (PtAt W9 (fun j => W8.heap.size ≤ j ∧ j < W9.heap.size) bk9 t9) := hpt
    have HR9 : Hid (Rdr T W9 g st cap ts q9) := r1
    clear g1 r1 hpt hx HX6 HR8 HG8 HM8
    go_wp2_with fail
    refine calls_gen (fun W => Below W9.heap.size W9 W ∧ W.heap[W9.heap.size]? = some (.cells #[.pointer (some ⟨bk9, 0, none⟩)] 67 (0, 0))) ⟨(Below.refl _ _).alloc (Nat.le_refl _) _, heap_alloc_new _ _⟩ ?_
    rintro Wa11 ⟨ba, ra⟩
    refine (add_any (bs2 := [bk9]) (l2 := [t9]) (S2 := fun j => W8.heap.size ≤ j ∧ j < W9.heap.size) (HM10.out.below ba) (oneG_rows ra) (fun h => by cases h) (PsAt.one (HK9.out.low (Nat.le_refl _) ba)) (kid_in HL9.out.1 HL9.out.2.1 ba.size) (by simp)).mono ?_
    rintro e W11 ⟨rfl, ⟨v11, hM⟩, b1⟩
    have HM11 : Hid (Mk w.heap.size W11 bk1 18 ⟨#[]⟩ 0 (herI ts p) (herI ts p) 0 v11 (([] ++ [t2]) ++ [t9])) := hM
    have HGa11 : Hid (w.grownBy Wa11 (some g)) := gr_trans HG10.out (gr_below ba)
    have HRa11 : Hid (Rdr T Wa11 g st cap ts q9) := HR9.out.low ba
    have HG12 : Hid (w.grownBy W11 (some g)) := gr_on HGa11.out b1
    have HR12 : Hid (Rdr T W11 g st cap ts q9) := HRa11.out.below hT b1
    clear hM b1 ba ra HM10 HL9 HG10 HR9 HGa11 HRa11 HK9
    go_wp2_with fail
    refine (done_any (bs2 := []) (l2 := []) (S2 := fun _ => False) HR12.out hT HM11.out RowsAt.none (fun _ => ⟨rfl, rfl⟩) (PsAt.nil _ _) (fun _ h => h.elim) (by simp)).mono ?_
    rintro e W13 ⟨rfl, ⟨v13, hM⟩, b1⟩
    have HM13 : Hid (Mk w.heap.size W13 bk1 18 ⟨#[]⟩ 0 (herI ts p) (herI ts p) (behI ts q9) v13 ((([] ++ [t2]) ++ [t9]) ++ [])) := hM
    have HG14 : Hid (w.grownBy W13 (some g)) := gr_on HG12.out b1
    have HR14 : Hid (Rdr T W13 g st cap ts q9) := HR12.out.below hT b1
    clear hM b1 HM11 HG12 HR12
    go_wp2
    go_ret
    exact ptp_ok HG14.out HX9.out HM13.out.fin HR14.out
  have HX6 : Hid _ := ite_no rfl HX2.out
  have HR6 : Hid (Rdr T W6 g st cap ts q2) := r1
  clear r1 HX2
  go_wp2_with fail
  refine (done_any (bs2 := []) (l2 := []) (S2 := fun _ => False) HR6.out hT HM7.out RowsAt.none (fun _ => ⟨rfl, rfl⟩) (PsAt.nil _ _) (fun _ h => h.elim) (by simp)).mono ?_
  rintro e W15 ⟨rfl, ⟨v15, hM⟩, b1⟩
  have HM15 : Hid (Mk w.heap.size W15 bk1 19 ⟨#[]⟩ 0 (herI ts p) (herI ts p) (behI ts q2) v15 (([] ++ [t2]) ++ [])) := hM
  have HG16 : Hid (w.grownBy W15 (some g)) := gr_on HG7.out b1
  have HR16 : Hid (Rdr T W15 g st cap ts q2) := HR6.out.below hT b1
  clear hM b1 HM7 HG7 HR6
  go_wp2
  go_ret
  exact ptp_ok HG16.out HX6.out HM15.out.fin HR16.out
set_option maxRecDepth 100000 in
set_option maxHeartbeats 4000000 in
theorem qresult_of (n : Nat) (hR : Rdr T w g st cap ts p) (ho : resP ts (fns ts n) p ≠ .out) : Calls Tryd.prog 87 #[.pointer (some ⟨g, 0, none⟩)] w (PtP T w g st cap ts (resP ts (fns ts n) p)) := by
  have HR0 : Hid (Rdr T w g st cap ts p) := hR
  have hT := hR.hT
  have hgT := hR.hg
  have HG0 : Hid (w.grownBy w (some g)) := gr_refl _ _
  clear hR
  obtain ⟨r, hX⟩ : ∃ r, resP ts (fns ts n) p = r := ⟨_, rfl⟩
  rw [hX] at ho ⊢
  have HX0 : Hid (resP ts (fns ts n) p = r) := hX
  have HO : Hid (r ≠ .out) := ho
  clear hX ho
  unfold resP at HX0
  go_enter Tryd.func87, Tryd.ntmps87
  have hfd : ∀ (a b c : Value) (W : World), (Instr.field 35 (.agg #[a, b, c]) 0).run Tryd.prog W = .ok a W := fun _ _ _ _ => rfl
  go_wp2_with fail
  refine (begin_any 16 HR0.out).mono ?_
  rintro e W1 ⟨bk1, rfl, hM, b1⟩
  have HM1 : Hid (Mk w.heap.size W1 bk1 16 ⟨#[]⟩ 0 (herI ts p) (herI ts p) 0 (.slice none 0 0) []) := hM.mono HG0.out.size
  have HG1 : Hid (w.grownBy W1 (some g)) := gr_trans HG0.out (gr_below b1)
  have HR1 : Hid (Rdr T W1 g st cap ts p) := HR0.out.low b1
  clear hM b1 HG0 HR0
  go_wp2_with fail
  refine (expect_any ⟨#[114, 101, 116, 117, 114, 110]⟩ (by simp) HR1.out).mono ?_
  rintro e W2 ⟨g1, hm0⟩
  have hm : (if isT ts p [114, 101, 116, 117, 114, 110] then e = .returned (.tuple #[]) ∧ Rdr T W2 g st cap ts (p + 1) else e = wroE (herI ts p)) := hm0
  clear hm0
  obtain ⟨bb, hb⟩ : ∃ bb, isT ts p [114, 101, 116, 117, 114, 110] = bb := ⟨_, rfl⟩
  rw [hb] at hm
  cases bb
  · simp only [Bool.false_eq_true, if_false] at hm
    subst hm
    have HP : Hid (PtP T w g st cap ts r (wroE (herI ts p)) W2) := ptp_bad (gr_trans HG1.out g1) (exp_no hb HX0.out)
    clear HG1 HR1 HX0 HM1
    unfold wroE
    go_wp2
    exact ⟨rfl, HP.out⟩
  simp only [if_true] at hm
  obtain ⟨rfl, r1⟩ := hm
  have HX2 : Hid _ := exp_yes hb HX0.out
  have HG3 : Hid (w.grownBy W2 (some g)) := gr_trans HG1.out g1
  have HM3 : Hid (Mk w.heap.size W2 bk1 16 ⟨#[]⟩ 0 (herI ts p) (herI ts p) 0 (.slice none 0 0) []) := HM1.out.grow (Nat.lt_of_lt_of_le hgT hT) g1
  have HR2 : Hid (Rdr T W2 g st cap ts (p + 1)) := r1
  clear g1 r1 hb HX0 HR1 HG1 HM1
  go_wp2_with fail
  refine (next_any HR2.out).mono ?_
  rintro e W4 ⟨rfl, b1⟩
  have g1 : W2.grownBy W4 (some g) := gr_below b1
  have HR4 : Hid (Rdr T W4 g st cap ts (p + 1)) := HR2.out.low b1
  have HG5 : Hid (w.grownBy W4 (some g)) := gr_trans HG3.out g1
  have HM5 : Hid (Mk w.heap.size W4 bk1 16 ⟨#[]⟩ 0 (herI ts p) (herI ts p) 0 (.slice none 0 0) []) := HM3.out.grow (Nat.lt_of_lt_of_le hgT hT) g1
  clear g1 b1 HR2 HG3 HM3
  unfold Tok.cells
  by_cases hk5 : (nxT ts (p + 1)).kind = 5
  · have hk5' : ((nxT ts (p + 1)).kind != 5) = false := by rw [hk5]; rfl
    have hk6 : ((nxT ts (p + 1)).kind == 5) = true := by rw [hk5]; rfl
    rw [hk6] at HX2
    have HX4 : Hid _ := ite_no (by rfl) HX2.out
    clear HX2 hk6
    go_wp2_with fail
    refine (done_any (bs2 := []) (l2 := []) (S2 := fun _ => False) HR4.out hT HM5.out RowsAt.none (fun _ => ⟨rfl, rfl⟩) (PsAt.nil _ _) (fun _ h => h.elim) (by simp)).mono ?_
    rintro e W6 ⟨rfl, ⟨v6, hM⟩, b1⟩
    have HM6 : Hid (Mk w.heap.size W6 bk1 16 ⟨#[]⟩ 0 (herI ts p) (herI ts p) (behI ts (p + 1)) v6 ([] ++ [])) := hM
    have HG7 : Hid (w.grownBy W6 (some g)) := gr_on HG5.out b1
    have HR7 : Hid (Rdr T W6 g st cap ts (p + 1)) := HR4.out.below hT b1
    clear hM b1 HM5 HG5 HR4
    go_wp2
    go_ret
    exact ptp_ok HG7.out HX4.out HM6.out.fin HR7.out
  have hk5' : ((nxT ts (p + 1)).kind != 5) = true := by rw [bne, beq_eq_false_iff_ne.2 hk5]; rfl
  have hk6 : ((nxT ts (p + 1)).kind == 5) = false := by rw [beq_eq_false_iff_ne]; exact hk5
  rw [hk6] at HX2
  clear hk6
  go_wp2_with fail
  refine (is_any ⟨#[125]⟩ HR4.out).mono ?_
  rintro e W8 ⟨he, b1⟩
  obtain ⟨bb, hb⟩ : ∃ bb, isT ts (p + 1) [125] = bb := ⟨_, rfl⟩
  rw [show isT ts (p + 1) (⟨#[125]⟩ : ByteArray).data.toList = bb from hb] at he
  subst he
  rw [hb] at HX2
  have g1 : W4.grownBy W8 (some g) := gr_below b1
  have HR8 : Hid (Rdr T W8 g st cap ts (p + 1)) := HR4.out.low b1
  have HG9 : Hid (w.grownBy W8 (some g)) := gr_trans HG5.out g1
  have HM9 : Hid (Mk w.heap.size W8 bk1 16 ⟨#[]⟩ 0 (herI ts p) (herI ts p) 0 (.slice none 0 0) []) := HM5.out.grow (Nat.lt_of_lt_of_le hgT hT) g1
  clear g1 b1 hb HR4 HG5 HM5
  cases bb
  · have HX8 : Hid _ := ite_yes (by rfl) HX2.out
    clear HX2
    have HL10 : Hid ((bk1 < W8.heap.size ∧ ∀ q, ((.slice none 0 0) : Value).ownBlock = some q → q < W8.heap.size) ∧ w.heap.size ≤ W8.heap.size ∧ g < W8.heap.size) := ⟨HM9.out.at, HG9.out.size, HR8.out.lt⟩
    go_wp2_with fail
    refine (expr_of (exp_all n) HR8.out (bind_out HX8.out HO.out)).mono ?_
    rintro e W10 ⟨g1, hm⟩
    rcases hx : (fns ts n).bin 0 (p + 1) with ⟨t10, q10⟩ | s10 | _
    rotate_left
    · rw [hx] at hm
      have hm' : e = wroE s10 := hm
      subst hm'
      have HP : Hid (PtP T w g st cap ts r (wroE (s10)) W10) := ptp_bad (gr_trans HG9.out g1) (bind_bad hx HX8.out)
      clear HG9 HR8 HX8 HM9 HL10
      unfold wroE
      go_wp2
      exact ⟨rfl, HP.out⟩
    · rw [hx] at hm
      exact hm.elim
    rw [hx] at hm
    obtain ⟨bk10, rfl, hpt, r1⟩ := hm
    have HX10 : Hid _ := bind_ok hx HX8.out
    have hsz10 := g1.size
    have HG11 : Hid (w.grownBy W10 (some g)) := gr_trans HG9.out g1
    have HM11 : Hid (Mk w.heap.size W10 bk1 16 ⟨#[]⟩ 0 (herI ts p) (herI ts p) 0 (.slice none 0 0) []) := HM9.out.grow (Nat.lt_of_lt_of_le hgT hT) g1
    have HK10 : Hid (PtAt W10 (fun j => W8.heap.size ≤ j ∧ j < W10.heap.size) bk10 t10) := hpt
    have HR10 : Hid (Rdr T W10 g st cap ts q10) := r1
    clear g1 r1 hpt hx HX8 HR8 HG9 HM9
    go_wp2_with fail
    refine calls_gen (fun W => Below W10.heap.size W10 W ∧ W.heap[W10.heap.size]? = some (.cells #[.pointer (some ⟨bk10, 0, none⟩)] 67 (0, 0))) ⟨(Below.refl _ _).alloc (Nat.le_refl _) _, heap_alloc_new _ _⟩ ?_
    rintro Wa12 ⟨ba, ra⟩
    refine (add_any (bs2 := [bk10]) (l2 := [t10]) (S2 := fun j => W8.heap.size ≤ j ∧ j < W10.heap.size) (HM11.out.below ba) (oneG_rows ra) (fun h => by cases h) (PsAt.one (HK10.out.low (Nat.le_refl _) ba)) (kid_in HL10.out.1 HL10.out.2.1 ba.size) (by simp)).mono ?_
    rintro e W12 ⟨rfl, ⟨v12, hM⟩, b1⟩
    have HM12 : Hid (Mk w.heap.size W12 bk1 16 ⟨#[]⟩ 0 (herI ts p) (herI ts p) 0 v12 ([] ++ [t10])) := hM
    have HGa12 : Hid (w.grownBy Wa12 (some g)) := gr_trans HG11.out (gr_below ba)
    have HRa12 : Hid (Rdr T Wa12 g st cap ts q10) := HR10.out.low ba
    have HG13 : Hid (w.grownBy W12 (some g)) := gr_on HGa12.out b1
    have HR13 : Hid (Rdr T W12 g st cap ts q10) := HRa12.out.below hT b1
    clear hM b1 ba ra HM11 HL10 HG11 HR10 HGa12 HRa12 HK10
    go_wp2_with fail
    refine (done_any (bs2 := []) (l2 := []) (S2 := fun _ => False) HR13.out hT HM12.out RowsAt.none (fun _ => ⟨rfl, rfl⟩) (PsAt.nil _ _) (fun _ h => h.elim) (by simp)).mono ?_
    rintro e W14 ⟨rfl, ⟨v14, hM⟩, b1⟩
    have HM14 : Hid (Mk w.heap.size W14 bk1 16 ⟨#[]⟩ 0 (herI ts p) (herI ts p) (behI ts q10) v14 (([] ++ [t10]) ++ [])) := hM
    have HG15 : Hid (w.grownBy W14 (some g)) := gr_on HG13.out b1
    have HR15 : Hid (Rdr T W14 g st cap ts q10) := HR13.out.below hT b1
    clear hM b1 HM12 HG13 HR13
    go_wp2
    go_ret
    exact ptp_ok HG15.out HX10.out HM14.out.fin HR15.out
  have HX8 : Hid _ := ite_no (by rfl) HX2.out
  clear HX2
  go_wp2_with fail
  refine (done_any (bs2 := []) (l2 := []) (S2 := fun _ => False) HR8.out hT HM9.out RowsAt.none (fun _ => ⟨rfl, rfl⟩) (PsAt.nil _ _) (fun _ h => h.elim) (by simp)).mono ?_
  rintro e W16 ⟨rfl, ⟨v16, hM⟩, b1⟩
  have HM16 : Hid (Mk w.heap.size W16 bk1 16 ⟨#[]⟩ 0 (herI ts p) (herI ts p) (behI ts (p + 1)) v16 ([] ++ [])) := hM
  have HG17 : Hid (w.grownBy W16 (some g)) := gr_on HG9.out b1
  have HR17 : Hid (Rdr T W16 g st cap ts (p + 1)) := HR8.out.below hT b1
  clear hM b1 HM9 HG9 HR8
  go_wp2
  go_ret
  exact ptp_ok HG17.out HX8.out HM16.out.fin HR17.out
end
end Go.Proofs.YthnoiohganknnabDoor
