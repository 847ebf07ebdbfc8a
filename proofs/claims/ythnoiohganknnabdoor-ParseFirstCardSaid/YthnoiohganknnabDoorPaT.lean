/- The contract of the rule of a file. -/
import Derived.Test.YthnoiohganknnabDoorPaS
namespace Go.Proofs.YthnoiohganknnabDoor
open Go.RowKit

section
variable {T : Nat} {w : World} {g : Nat} {st : Option Addr} {cap : Nat} {ts : List Tok} {p : Nat}
theorem impL_more (m : Nat) (l : List Pt) (q : Nat) : (fns ts (m + 1)).impL l q = (if isT ts q [105, 109, 112, 111, 114, 116] then (impP ts q).bind fun t q => kinP ts 5 q fun _ q => (fns ts m).impL (l ++ [t]) q else .ok l q) := rfl
theorem decL_more (m : Nat) (l : List Pt) (q : Nat) : (fns ts (m + 1)).decL l q = (if q < ts.length then (decP ts (fns ts m) q).bind fun t q => kinP ts 5 q fun _ q => (fns ts m).decL (l ++ [t]) q else .ok l q) := rfl
set_option maxRecDepth 100000 in
set_option maxHeartbeats 8000000 in
theorem qfile_of (n : Nat) (hR : Rdr T w g st cap ts p) (ho : filP ts n p ≠ .out) : Calls Tryd.prog 27 #[.pointer (some ⟨g, 0, none⟩)] w (PtP T w g st cap ts (filP ts n p)) := by
  have HR0 : Hid (Rdr T w g st cap ts p) := hR
  have hT := hR.hT
  have hgT := hR.hg
  have HG0 : Hid (w.grownBy w (some g)) := gr_refl _ _
  clear hR
  obtain ⟨r, hX⟩ : ∃ r, filP ts n p = r := ⟨_, rfl⟩
  rw [hX] at ho ⊢
  have HX0 : Hid (filP ts n p = r) := hX
  have HO : Hid (r ≠ .out) := ho
  clear hX ho
  unfold filP at HX0
  go_enter Tryd.func27, Tryd.ntmps27
  go_wp2_with fail
  refine (begin_any 1 HR0.out).mono ?_
  rintro e W1 ⟨bk1, rfl, hM, b1⟩
  have HM1 : Hid (Mk w.heap.size W1 bk1 1 ⟨#[]⟩ 0 (herI ts p) (herI ts p) 0 (.slice none 0 0) []) := hM.mono HG0.out.size
  have HG1 : Hid (w.grownBy W1 (some g)) := gr_trans HG0.out (gr_below b1)
  have HR1 : Hid (Rdr T W1 g st cap ts p) := HR0.out.low b1
  clear hM b1 HG0 HR0
  go_wp2_with fail
  refine (expect_any ⟨#[112, 97, 99, 107, 97, 103, 101]⟩ (by simp) HR1.out).mono ?_
  rintro e W2 ⟨g1, hm0⟩
  have hm : (if isT ts p [112, 97, 99, 107, 97, 103, 101] then e = .returned (.tuple #[]) ∧ Rdr T W2 g st cap ts (p + 1) else e = wroE (herI ts p)) := hm0
  clear hm0
  obtain ⟨bb, hb⟩ : ∃ bb, isT ts p [112, 97, 99, 107, 97, 103, 101] = bb := ⟨_, rfl⟩
  rw [hb] at hm
  cases bb
  · simp only [Bool.false_eq_true, if_false] at hm
    subst hm
    have HP : Hid (PtP T w g st cap ts r (wroE (herI ts p)) W2) := ptp_bad (gr_trans HG1.out g1) (exp_no hb HX0.out)
    clear HG1 HR1 HX0 HM1
    unfold wroE
    go_wp2
    exact ⟨rfl, HP.out⟩
  simp only [if_true] at hm
  obtain ⟨rfl, r1⟩ := hm
  have HX2 : Hid _ := exp_yes hb HX0.out
  have HG3 : Hid (w.grownBy W2 (some g)) := gr_trans HG1.out g1
  have HM3 : Hid (Mk w.heap.size W2 bk1 1 ⟨#[]⟩ 0 (herI ts p) (herI ts p) 0 (.slice none 0 0) []) := HM1.out.grow (Nat.lt_of_lt_of_le hgT hT) g1
  have HR2 : Hid (Rdr T W2 g st cap ts (p + 1)) := r1
  clear g1 r1 hb HX0 HR1 HG1 HM1
  go_wp2_with fail
  refine (name_any HR2.out).mono ?_
  rintro e W4 ⟨g1, hm⟩
  obtain ⟨bb, hb⟩ : ∃ bb, namB ts (p + 1) = bb := ⟨_, rfl⟩
  rw [hb] at hm
  cases bb
  · simp only [Bool.false_eq_true, if_false] at hm
    subst hm
    have HP : Hid (PtP T w g st cap ts r (wroE (herI ts (p + 1))) W4) := ptp_bad (gr_trans HG3.out g1) (nam_no hb HX2.out)
    clear HG3 HR2 HX2 HM3
    unfold wroE
    go_wp2
    exact ⟨rfl, HP.out⟩
  simp only [if_true] at hm
  obtain ⟨rfl, r1⟩ := hm
  have HX4 : Hid _ := nam_yes hb HX2.out
  have HG5 : Hid (w.grownBy W4 (some g)) := gr_trans HG3.out g1
  have HM5 : Hid (Mk w.heap.size W4 bk1 1 ⟨#[]⟩ 0 (herI ts p) (herI ts p) 0 (.slice none 0 0) []) := HM3.out.grow (Nat.lt_of_lt_of_le hgT hT) g1
  have HR4 : Hid (Rdr T W4 g st cap ts ((p + 1) + 1)) := r1
  clear g1 r1 hb HX2 HR2 HG3 HM3
  go_wp2_with fail
  refine (says_any (nxT ts (p + 1)) HM5.out).mono ?_
  rintro e W6 ⟨rfl, hM, b1⟩
  have HM6 : Hid (Mk w.heap.size W6 bk1 1 (nxT ts (p + 1)).text 0 (nxT ts (p + 1)).pos (herI ts p) 0 (.slice none 0 0) []) := hM
  have HG7 : Hid (w.grownBy W6 (some g)) := gr_on HG5.out b1
  have HR7 : Hid (Rdr T W6 g st cap ts ((p + 1) + 1)) := HR4.out.below hT b1
  clear hM b1 HM5 HG5 HR4
  go_wp2_with fail
  refine (kind_any 5 (by decide) HR7.out).mono ?_
  rintro e W8 ⟨g1, hm⟩
  obtain ⟨bb, hb⟩ : ∃ bb, ((nxT ts ((p + 1) + 1)).kind == 5) = bb := ⟨_, rfl⟩
  rw [hb] at hm
  cases bb
  · simp only [Bool.false_eq_true, if_false] at hm
    subst hm
    have HP : Hid (PtP T w g st cap ts r (wroE (herI ts ((p + 1) + 1))) W8) := ptp_bad (gr_trans HG7.out g1) (kin_no hb HX4.out)
    clear HG7 HR7 HX4 HM6
    unfold wroE
    go_wp2
    exact ⟨rfl, HP.out⟩
  simp only [if_true] at hm
  obtain ⟨rfl, r1⟩ := hm
  have HX8 : Hid _ := kin_yes hb HX4.out
  have HG9 : Hid (w.grownBy W8 (some g)) := gr_trans HG7.out g1
  have HM9 : Hid (Mk w.heap.size W8 bk1 1 (nxT ts (p + 1)).text 0 (nxT ts (p + 1)).pos (herI ts p) 0 (.slice none 0 0) []) := HM6.out.grow (Nat.lt_of_lt_of_le hgT hT) g1
  have HR8 : Hid (Rdr T W8 g st cap ts (((p + 1) + 1) + 1)) := r1
  clear g1 r1 hb HX4 HR7 HG7 HM6
  obtain ⟨rm, hrm⟩ : ∃ rm, (fns ts n).impL [] (((p + 1) + 1) + 1) = rm := ⟨_, rfl⟩
  obtain ⟨K, hK⟩ : ∃ K : List Pt → Nat → Rs Pt, (fun l q => ((fns ts n).decL l q).bind fun l q => .ok (.mk 1 (nxT ts (p + 1)).text 0 (nxT ts (p + 1)).pos (herI ts p) (behI ts q) l) q) = K := ⟨_, rfl⟩
  have HK : Hid ((fun l q => ((fns ts n).decL l q).bind fun l q => .ok (.mk 1 (nxT ts (p + 1)).text 0 (nxT ts (p + 1)).pos (herI ts p) (behI ts q) l) q) = K) := hK
  have HRM : Hid (rm.bind K = r) := by show _ = _; rw [← hrm, ← hK]; exact HX8.out
  have HRN : Hid ((fns ts n).impL [] (((p + 1) + 1) + 1) = rm) := hrm
  have HOM : Hid (rm ≠ .out) := bind_out HRM.out HO.out
  have hfe := HR8.out.few
  clear hrm hK HX8
  go_wp2
  go_loopw [] (fun wr => ∃ (l : List Pt) (q m : Nat) (v : Value), Mk w.heap.size wr bk1 1 (nxT ts (p + 1)).text 0 (nxT ts (p + 1)).pos (herI ts p) 0 v l ∧ w.grownBy wr (some g) ∧ Rdr T wr g st cap ts q ∧ (fns ts m).impL l q = rm ∧ m ≤ n ∧ l.length ≤ q) (fun wr => ts.length - posW g wr)
  case atStart => exact ⟨[], _, n, _, HM9.out, HG9.out, HR8.out, HRN.out, Nat.le_refl _, by simp⟩
  case round =>
    obtain ⟨l, q, m, v, hM, hG, hR, hm, hmn, hlq⟩ := hrel
    have HM1 : Hid (Mk w.heap.size wr bk1 1 (nxT ts (p + 1)).text 0 (nxT ts (p + 1)).pos (herI ts p) 0 v l) := hM
    have HG1 : Hid (w.grownBy wr (some g)) := hG
    have HR1 : Hid (Rdr T wr g st cap ts q) := hR
    have hle := hR.le
    have HPQ : Hid (posW g wr = q) := hR.pos
    clear HM9 HG9 HR8 HRN
    cases m with
    | zero => exact (HOM.out hm.symm).elim
    | succ m =>
    have HX1 : Hid _ := (impL_more m l q).symm.trans hm
    clear hM hG hR hm
    go_wp2_with fail
    refine (is_any ⟨#[105, 109, 112, 111, 114, 116]⟩ HR1.out).mono ?_
    rintro e W10 ⟨he, b1⟩
    obtain ⟨bb, hb⟩ : ∃ bb, isT ts q [105, 109, 112, 111, 114, 116] = bb := ⟨_, rfl⟩
    rw [show isT ts q (⟨#[105, 109, 112, 111, 114, 116]⟩ : ByteArray).data.toList = bb from hb] at he
    subst he
    rw [hb] at HX1
    have g1 : wr.grownBy W10 (some g) := gr_below b1
    have HR10 : Hid (Rdr T W10 g st cap ts q) := HR1.out.low b1
    have HG11 : Hid (w.grownBy W10 (some g)) := gr_trans HG1.out g1
    have HM11 : Hid (Mk w.heap.size W10 bk1 1 (nxT ts (p + 1)).text 0 (nxT ts (p + 1)).pos (herI ts p) 0 v l) := HM1.out.grow (Nat.lt_of_lt_of_le hgT hT) g1
    clear g1 b1 hb HR1 HG1 HM1
    cases bb
    rotate_left
    · skip
      have HX10 : Hid _ := ite_yes rfl HX1.out
      clear HX1 HK
      have HL13 : Hid ((bk1 < W10.heap.size ∧ ∀ q, (v : Value).ownBlock = some q → q < W10.heap.size) ∧ w.heap.size ≤ W10.heap.size ∧ g < W10.heap.size) := ⟨HM11.out.at, HG11.out.size, HR10.out.lt⟩
      go_wp2_with fail
      refine (qimported_any HR10.out).mono ?_
      rintro e W13 ⟨g1, hm⟩
      have hadv := ad_imp (ts := ts) q
      rcases hx : impP ts q with ⟨t13, q13⟩ | s13 | _
      rotate_left
      · rw [hx] at hm
        have hm' : e = wroE s13 := hm
        subst hm'
        have HP : Hid (PtP T w g st cap ts r (wroE (s13)) W13) := ptp_bad (gr_trans HG11.out g1) (bind_bad (bind_bad hx HX10.out) HRM.out)
        clear HG11 HR10 HX10 HM11 HL13
        unfold wroE
        go_wp2
        exact ⟨rfl, HP.out⟩
      · rw [hx] at hm
        exact hm.elim
      rw [hx] at hm
      obtain ⟨bk13, rfl, hpt, r1⟩ := hm
      have HX13 : Hid _ := bind_ok hx HX10.out
      rw [hx] at hadv
      have hadv2 : q + 1 ≤ q13 := by have h : _ ≤ q13 := hadv; omega
      clear hadv
      have hsz13 := g1.size
      have HG14 : Hid (w.grownBy W13 (some g)) := gr_trans HG11.out g1
      have HM14 : Hid (Mk w.heap.size W13 bk1 1 (nxT ts (p + 1)).text 0 (nxT ts (p + 1)).pos (herI ts p) 0 v l) := HM11.out.grow (Nat.lt_of_lt_of_le hgT hT) g1
      have HK13 : Hid (PtAt W13 (fun j => W10.heap.size ≤ j ∧ j < W13.heap.size) bk13 t13) := hpt
      have HR13 : Hid (Rdr T W13 g st cap ts q13) := r1
      clear g1 r1 hpt hx HX10 HR10 HG11 HM11
      have hle13 := HR13.out.le
      go_wp2_with fail
      refine calls_gen (fun W => Below W13.heap.size W13 W ∧ W.heap[W13.heap.size]? = some (.cells #[.pointer (some ⟨bk13, 0, none⟩)] 67 (0, 0))) ⟨(Below.refl _ _).alloc (Nat.le_refl _) _, heap_alloc_new _ _⟩ ?_
      rintro Wa15 ⟨ba, ra⟩
      refine (add_any (bs2 := [bk13]) (l2 := [t13]) (S2 := fun j => W10.heap.size ≤ j ∧ j < W13.heap.size) (HM14.out.below ba) (oneG_rows ra) (fun h => by cases h) (PsAt.one (HK13.out.low (Nat.le_refl _) ba)) (kid_in HL13.out.1 HL13.out.2.1 ba.size) (by simp; omega)).mono ?_
      rintro e W15 ⟨rfl, ⟨v15, hM⟩, b1⟩
      have HM15 : Hid (Mk w.heap.size W15 bk1 1 (nxT ts (p + 1)).text 0 (nxT ts (p + 1)).pos (herI ts p) 0 v15 (l ++ [t13])) := hM
      have HGa15 : Hid (w.grownBy Wa15 (some g)) := gr_trans HG14.out (gr_below ba)
      have HRa15 : Hid (Rdr T Wa15 g st cap ts q13) := HR13.out.low ba
      have HG16 : Hid (w.grownBy W15 (some g)) := gr_on HGa15.out b1
      have HR16 : Hid (Rdr T W15 g st cap ts q13) := HRa15.out.below hT b1
      clear hM b1 ba ra HM14 HL13 HG14 HR13 HGa15 HRa15 HK13
      go_wp2_with fail
      refine (kind_any 5 (by decide) HR16.out).mono ?_
      rintro e W17 ⟨g1, hm⟩
      obtain ⟨bb, hb⟩ : ∃ bb, ((nxT ts q13).kind == 5) = bb := ⟨_, rfl⟩
      rw [hb] at hm
      cases bb
      · simp only [Bool.false_eq_true, if_false] at hm
        subst hm
        have HP : Hid (PtP T w g st cap ts r (wroE (herI ts q13)) W17) := ptp_bad (gr_trans HG16.out g1) (bind_bad (kin_no hb HX13.out) HRM.out)
        clear HG16 HR16 HX13 HM15
        unfold wroE
        go_wp2
        exact ⟨rfl, HP.out⟩
      simp only [if_true] at hm
      obtain ⟨rfl, r1⟩ := hm
      have HX17 : Hid _ := kin_yes hb HX13.out
      have HG18 : Hid (w.grownBy W17 (some g)) := gr_trans HG16.out g1
      have HM18 : Hid (Mk w.heap.size W17 bk1 1 (nxT ts (p + 1)).text 0 (nxT ts (p + 1)).pos (herI ts p) 0 v15 (l ++ [t13])) := HM15.out.grow (Nat.lt_of_lt_of_le hgT hT) g1
      have HR17 : Hid (Rdr T W17 g st cap ts (q13 + 1)) := r1
      clear g1 r1 hb HX13 HR16 HG16 HM15
      have hle9 := HR17.out.le
      go_wp2
      exact ⟨⟨l ++ [t13], (q13 + 1), m, _, HM18.out, HG18.out, HR17.out, HX17.out, by omega, by simp; omega⟩, by rw [HR17.out.pos, HPQ.out]; omega⟩
    have HX10 : Hid _ := ite_no rfl HX1.out
    clear HX1
    have HRK : Hid (K l q = r) := by
      show _ = _
      have h := HRM.out
      rw [← HX10.out] at h
      exact h
    clear HX10 HRM HOM
    rw [← HK.out] at HRK
    obtain ⟨rd, hrd⟩ : ∃ rd, (fns ts n).decL l q = rd := ⟨_, rfl⟩
    have HRD : Hid ((rd.bind fun l q => .ok (.mk 1 (nxT ts (p + 1)).text 0 (nxT ts (p + 1)).pos (herI ts p) (behI ts q) l) q) = r) := by show _ = _; rw [← hrd]; exact HRK.out
    have HRE : Hid ((fns ts n).decL l q = rd) := hrd
    have HOD : Hid (rd ≠ .out) := bind_out HRD.out HO.out
    clear hrd HRK HK
    go_wp2
    go_loopw [] (fun wr => ∃ (l : List Pt) (q m : Nat) (v : Value), Mk w.heap.size wr bk1 1 (nxT ts (p + 1)).text 0 (nxT ts (p + 1)).pos (herI ts p) 0 v l ∧ w.grownBy wr (some g) ∧ Rdr T wr g st cap ts q ∧ (fns ts m).decL l q = rd ∧ m ≤ n ∧ l.length ≤ q) (fun wr => ts.length - posW g wr)
    case atStart => exact ⟨l, q, n, v, HM11.out, HG11.out, HR10.out, HRE.out, Nat.le_refl _, hlq⟩
    case round =>
      clear HM11 HG11 HR10 HRE hlq hle HPQ hmn
      obtain ⟨l, q, m, v, hM, hG, hR, hm, hmn, hlq⟩ := hrel
      have HM2 : Hid (Mk w.heap.size wr bk1 1 (nxT ts (p + 1)).text 0 (nxT ts (p + 1)).pos (herI ts p) 0 v l) := hM
      have HG2 : Hid (w.grownBy wr (some g)) := hG
      have HR2 : Hid (Rdr T wr g st cap ts q) := hR
      have hle := hR.le
      have HPQ : Hid (posW g wr = q) := hR.pos
      cases m with
      | zero => exact (HOD.out hm.symm).elim
      | succ m =>
      have HX2 : Hid _ := (decL_more m l q).symm.trans hm
      clear hM hG hR hm
      have c0 := HR2.out.c0
      have c1 := HR2.out.c1
      by_cases hql : q < ts.length
      rotate_left
      · have hd : decide ((q : Int) < ts.length) = false := by simp; omega
        have HX3 : Hid _ := (if_neg hql).symm.trans HX2.out
        have HX4 : Hid (Rs.ok (.mk 1 (nxT ts (p + 1)).text 0 (nxT ts (p + 1)).pos (herI ts p) (behI ts q) l) q = r) := by
          show _ = _
          have h := HRD.out
          rw [← HX3.out] at h
          exact h
        clear HX2 HX3 HRD HOD
        go_wp2
        go_region
        go_wp2_with fail
        refine calls_gen (fun W => Below wr.heap.size wr W) (Below.refl _ _).drew ?_
        intro Wd bd
        clear c0 c1
        refine (done_any (bs2 := []) (l2 := []) (S2 := fun _ => False) (HR2.out.low bd) hT (HM2.out.below bd) RowsAt.none (fun _ => ⟨rfl, rfl⟩) (PsAt.nil _ _) (fun _ h => h.elim) (by simp; omega)).mono ?_
        rintro e We ⟨rfl, ⟨ve, hMe⟩, be⟩
        have HP : Hid (PtP T w g st cap ts r (.returned (.pointer (some ⟨bk1, 0, none⟩))) We) := ptp_ok (gr_on (gr_trans HG2.out (gr_below bd)) be) HX4.out (by have h := hMe.fin; rw [List.append_nil] at h; exact h) ((HR2.out.low bd).below hT be)
        clear HX4 HM2 HG2 HR2 hMe be bd HO
        go_wp2
        go_ret
        exact HP.out
      have hd : decide ((q : Int) < ts.length) = true := by simp; omega
      have HX3 : Hid _ := (if_pos hql).symm.trans HX2.out
      clear HX2
      go_wp2
      go_region
      go_wp2_with fail
      refine calls_gen (fun W => Below wr.heap.size wr W) (Below.refl _ _).drew ?_
      intro Wd bd
      have HMd : Hid (Mk w.heap.size Wd bk1 1 (nxT ts (p + 1)).text 0 (nxT ts (p + 1)).pos (herI ts p) 0 v l) := HM2.out.below bd
      have HGd : Hid (w.grownBy Wd (some g)) := gr_trans HG2.out (gr_below bd)
      have HRd : Hid (Rdr T Wd g st cap ts q) := HR2.out.low bd
      clear c0 c1 bd HM2 HG2 HR2 hd
      have HL20 : Hid ((bk1 < Wd.heap.size ∧ ∀ q, (v : Value).ownBlock = some q → q < Wd.heap.size) ∧ w.heap.size ≤ Wd.heap.size ∧ g < Wd.heap.size) := ⟨HMd.out.at, HGd.out.size, HRd.out.lt⟩
      refine (qdecl_of m HRd.out (bind_out HX3.out HOD.out)).mono ?_
      rintro e W20 ⟨g1, hm⟩
      have hadv := ad_decP (ts := ts) m q
      rcases hx : decP ts (fns ts m) q with ⟨t20, q20⟩ | s20 | _
      rotate_left
      · rw [hx] at hm
        have hm' : e = wroE s20 := hm
        subst hm'
        have HP : Hid (PtP T w g st cap ts r (wroE (s20)) W20) := ptp_bad (gr_trans HGd.out g1) (bind_bad (bind_bad hx HX3.out) HRD.out)
        clear HGd HRd HX3 HMd HL20
        unfold wroE
        go_wp2
        exact ⟨rfl, HP.out⟩
      · rw [hx] at hm
        exact hm.elim
      rw [hx] at hm
      obtain ⟨bk20, rfl, hpt, r1⟩ := hm
      have HX20 : Hid _ := bind_ok hx HX3.out
      rw [hx] at hadv
      have hadv2 : q + 1 ≤ q20 := by have h : _ ≤ q20 := hadv; omega
      clear hadv
      have hsz20 := g1.size
      have HG21 : Hid (w.grownBy W20 (some g)) := gr_trans HGd.out g1
      have HM21 : Hid (Mk w.heap.size W20 bk1 1 (nxT ts (p + 1)).text 0 (nxT ts (p + 1)).pos (herI ts p) 0 v l) := HMd.out.grow (Nat.lt_of_lt_of_le hgT hT) g1
      have HK20 : Hid (PtAt W20 (fun j => Wd.heap.size ≤ j ∧ j < W20.heap.size) bk20 t20) := hpt
      have HR20 : Hid (Rdr T W20 g st cap ts q20) := r1
      clear g1 r1 hpt hx HX3 HRd HGd HMd
      have hle20 := HR20.out.le
      go_wp2_with fail
      refine calls_gen (fun W => Below W20.heap.size W20 W ∧ W.heap[W20.heap.size]? = some (.cells #[.pointer (some ⟨bk20, 0, none⟩)] 67 (0, 0))) ⟨(Below.refl _ _).alloc (Nat.le_refl _) _, heap_alloc_new _ _⟩ ?_
      rintro Wa22 ⟨ba, ra⟩
      refine (add_any (bs2 := [bk20]) (l2 := [t20]) (S2 := fun j => Wd.heap.size ≤ j ∧ j < W20.heap.size) (HM21.out.below ba) (oneG_rows ra) (fun h => by cases h) (PsAt.one (HK20.out.low (Nat.le_refl _) ba)) (kid_in HL20.out.1 HL20.out.2.1 ba.size) (by simp; omega)).mono ?_
      rintro e W22 ⟨rfl, ⟨v22, hM⟩, b1⟩
      have HM22 : Hid (Mk w.heap.size W22 bk1 1 (nxT ts (p + 1)).text 0 (nxT ts (p + 1)).pos (herI ts p) 0 v22 (l ++ [t20])) := hM
      have HGa22 : Hid (w.grownBy Wa22 (some g)) := gr_trans HG21.out (gr_below ba)
      have HRa22 : Hid (Rdr T Wa22 g st cap ts q20) := HR20.out.low ba
      have HG23 : Hid (w.grownBy W22 (some g)) := gr_on HGa22.out b1
      have HR23 : Hid (Rdr T W22 g st cap ts q20) := HRa22.out.below hT b1
      clear hM b1 ba ra HM21 HL20 HG21 HR20 HGa22 HRa22 HK20
      go_wp2_with fail
      refine (kind_any 5 (by decide) HR23.out).mono ?_
      rintro e W24 ⟨g1, hm⟩
      obtain ⟨bb, hb⟩ : ∃ bb, ((nxT ts q20).kind == 5) = bb := ⟨_, rfl⟩
      rw [hb] at hm
      cases bb
      · simp only [Bool.false_eq_true, if_false] at hm
        subst hm
        have HP : Hid (PtP T w g st cap ts r (wroE (herI ts q20)) W24) := ptp_bad (gr_trans HG23.out g1) (bind_bad (kin_no hb HX20.out) HRD.out)
        clear HG23 HR23 HX20 HM22
        unfold wroE
        go_wp2
        exact ⟨rfl, HP.out⟩
      simp only [if_true] at hm
      obtain ⟨rfl, r1⟩ := hm
      have HX24 : Hid _ := kin_yes hb HX20.out
      have HG25 : Hid (w.grownBy W24 (some g)) := gr_trans HG23.out g1
      have HM25 : Hid (Mk w.heap.size W24 bk1 1 (nxT ts (p + 1)).text 0 (nxT ts (p + 1)).pos (herI ts p) 0 v22 (l ++ [t20])) := HM22.out.grow (Nat.lt_of_lt_of_le hgT hT) g1
      have HR24 : Hid (Rdr T W24 g st cap ts (q20 + 1)) := r1
      clear g1 r1 hb HX20 HR23 HG23 HM22
      have hle9 := HR24.out.le
      go_wp2
      exact ⟨⟨l ++ [t20], (q20 + 1), m, _, HM25.out, HG25.out, HR24.out, HX24.out, by omega, by simp; omega⟩, by rw [HR24.out.pos, HPQ.out]; omega⟩
end
end Go.Proofs.YthnoiohganknnabDoor
