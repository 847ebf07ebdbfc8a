import Derived.Test.YtbadafkfjfbnlaaGreatDoorTwX
import Derived.Test.YtbadafkfjfbnlaaGreatDoorTwa
namespace Go.Proofs.YtbadafkfjfbnlaaGreatDoor
set_option maxRecDepth 100000
set_option maxHeartbeats 4000000
open Go.RowKit
theorem TrP.w {t : Pt} (h : TrP t) : TrW t := by
 have ha := ok_aT t h.o
 refine ⟨by rw [<- lay_cnt t 0]; exact h.n, h.d, ok_gd t h.o, ?_, fun u hu => ?_, ?_⟩
 ·rw [List.any_eq_false]
  intro u hu
  rw [(ha u hu).1]
  simp
 ·have := ha u hu
  rw [this.2.2]
  exact ⟨by decide, by decide, by have := this.2.1; omega⟩
 ·obtain ⟨t', e1, e2⟩ := file_back h.f (wrP t) (hs_self _) rfl
  refine ⟨t', _, e1, ?_⟩
  have := sm_lay t t' 0 e2
  rw [eqAll_iff (eqAll_len this)] at this
  rw [eqAll_iff (by have := eqAll_len (sm_lay t t' 0 e2); omega)]
  intro i a b ha hb
  have := this i b a hb ha
  unfold ndEq at this ⊢
  simp only [Bool.and_eq_true, beq_iff_eq] at this ⊢
  exact ⟨⟨⟨this.1.1.1.symm, this.1.1.2.symm⟩, this.1.2.symm⟩, this.2.symm⟩
theorem emb_self (t : Pt) : Emb (layP 0 t) 0 t := fun j d hd => by rw [Nat.zero_add]; exact hd
theorem print_any12 {w : World} {sn : Option Addr} {cn : Nat} {t : Pt} (h : TrP t) (hP : TabP w) (hE : EnW w (.slice sn (layP 0 t).length cn) (layP 0 t)) :
  Calls Tryz.prog 15 #[.agg #[.slice sn (layP 0 t).length cn]] w fun e w' => e = .returned (.tuple #[.string (strU (prnO t).1), .int .i64 (prnO t).2]) ∧ Below w.heap.size w w' := by
 have HTX : Hid (∀ W, Below w.heap.size w W -> Calls Tryz.prog 33 #[.agg #[.slice sn (layP 0 t).length cn], .int .i64 0] W fun e w' => e = .returned (.string (strU (rn (prP 0 t)))) ∧ Below W.heap.size W w') := fun W hb =>
  textOf_any (w := W) (L := layP 0 t) 0 t (hP.low hb) (hE.low hb) (emb_self t) h.ar (by have := h.len.2; omega) h.len.1 h.ne
 have HTW : Hid (TrW t) := h.w
 have HE : Hid (EnW w (.slice sn (layP 0 t).length cn) (layP 0 t)) := hE
 have HP : Hid (TabP w) := hP
 have HPR : Hid (prnO t = if 1024 < (wrP t).length then ([], 3) else if 4096 < (rn (prP 0 t)).length then ([], 3) else (rn (prP 0 t), 0)) := rfl
 generalize prnO t = pr at HPR ⊢
 by_cases hl : (wrP t).length <= 1024
 rotate_left
 ·have HTL := tokens_long (w := w.alloc (.cells #[.slice sn (layP 0 t).length cn] 25)) (TabP.low HP.out ((Below.refl _ _).alloc (Nat.le_refl _) _)) (HE.out.low ((Below.refl _ _).alloc (Nat.le_refl _) _)) HTW.out (by omega)
  have hb0 : Below w.heap.size w (w.alloc (.cells #[.slice sn (layP 0 t).length cn] 25)) := (Below.refl _ _).alloc (Nat.le_refl _) _
  have HB0 : Hid _ := hb0
  clear hb0
  have HQ : Hid (pr = ([], 3)) := by show _ = _; rw [HPR.out, if_pos (by omega)]
  clear h hP hE hl
  generalize (layP 0 t).length = nl at *
  rw [HQ.out]
  go_enter Tryz.func15, Tryz.ntmps15
  go_wp2_with fail
  refine HTL.mono ?_
  rintro e W ⟨rfl, hb⟩
  have HB : Hid (Below w.heap.size w W) := HB0.out.trans (hb.mono HB0.out.size)
  clear hb HTL
  go_wp2
  go_ret2
  exact ⟨rfl, HB.out⟩
 ·have HTL := tokens_any (w := w.alloc (.cells #[.slice sn (layP 0 t).length cn] 25)) (TabP.low HP.out ((Below.refl _ _).alloc (Nat.le_refl _) _)) (HE.out.low ((Below.refl _ _).alloc (Nat.le_refl _) _)) HTW.out hl
  have hb0 : Below w.heap.size w (w.alloc (.cells #[.slice sn (layP 0 t).length cn] 25)) := (Below.refl _ _).alloc (Nat.le_refl _) _
  have HB0 : Hid _ := hb0
  have HR0 : Hid _ := heap_alloc_new w (.cells #[.slice sn (layP 0 t).length cn] 25)
  clear hb0
  have HQ : Hid (pr = if 4096 < (rn (prP 0 t)).length then ([], 3) else (rn (prP 0 t), 0)) := by show _ = _; rw [HPR.out, if_neg (by omega)]
  have hsz : (rn (prP 0 t)).length <= 1000000000000 := h.len.1
  clear h hP hE hl HTW HE HP
  generalize (layP 0 t).length = nl at *
  generalize hR : rn (prP 0 t) = R at *
  have hRs : (strU R).size = R.length := strU_size R
  have HRS : Hid _ := hRs
  generalize hSR : strU R = SR at *
  have HSR : Hid _ := hSR
  clear hSR hRs hR
  go_enter Tryz.func15, Tryz.ntmps15
  go_wp2_with fail
  refine HTL.mono ?_
  rintro e W ⟨v', rfl, -, hb⟩
  have hbW : Below w.heap.size w W := HB0.out.trans (hb.mono HB0.out.size)
  have r1 : W.heap[w.heap.size]? = some (.cells #[.slice sn nl cn] 25 (0, 0)) := (hb.block _ (lt_of_row HR0.out)).trans HR0.out
  have c1 : W.cell? ⟨w.heap.size, 0, none⟩ = some (.slice sn nl cn) := (cell_of_row _ _ 0 _ _ _ r1).trans rfl
  have HC := HTX.out W hbW
  have HBW : Hid _ := hbW
  clear hb hbW r1 HTL
  go_wp2_with fail
  refine HC.mono ?_
  rintro e W2 ⟨rfl, hb⟩
  have HB2 : Hid (Below w.heap.size w W2) := HBW.out.trans (hb.mono HBW.out.size)
  clear hb HC
  cases hz : decide (4096 < R.length)
  ·have hz' : decide ((4096 : Int) < (SR.size : Int)) = false := by rw [HRS.out]; simp at hz ⊢; omega
   have HQ2 : Hid (pr = (R, 0)) := by show _ = _; rw [HQ.out, if_neg (by simpa using hz)]
   clear hz
   go_wp2
   go_ret2
   exact ⟨by rw [HQ2.out]; show _ = Ending.returned (.tuple #[.string (strU R), _]); rw [HSR.out]; rfl, HB2.out⟩
  ·have hz' : decide ((4096 : Int) < (SR.size : Int)) = true := by rw [HRS.out]; simp at hz ⊢; omega
   have HQ2 : Hid (pr = ([], 3)) := by show _ = _; rw [HQ.out, if_pos (by simpa using hz)]
   clear hz
   go_wp2
   go_ret2
   exact ⟨by rw [HQ2.out]; rfl, HB2.out⟩
theorem spot_set {w W : World} {a b e p : Int} (hb : Below w.heap.size w W) (hr : W.heap[w.heap.size]? = some (.cells #[.int .i64 a, .int .i64 b] 28 (0, 0))) :
  Below w.heap.size w ((W.setCell ⟨w.heap.size, 0, none⟩ (.int .i64 e)).setCell ⟨w.heap.size, 1, none⟩ (.int .i64 p)) ∧ ((W.setCell ⟨w.heap.size, 0, none⟩ (.int .i64 e)).setCell ⟨w.heap.size, 1, none⟩ (.int .i64 p)).heap[w.heap.size]? = some (.cells #[.int .i64 e, .int .i64 p] 28 (0, 0)) := by
 have r1 : (W.setCell ⟨w.heap.size, 0, none⟩ (.int .i64 e)).heap[w.heap.size]? = some (.cells #[.int .i64 e, .int .i64 b] 28 (0, 0)) := heap_setCell_same _ _ 0 _ _ _ hr
 have r2 : ((W.setCell ⟨w.heap.size, 0, none⟩ (.int .i64 e)).setCell ⟨w.heap.size, 1, none⟩ (.int .i64 p)).heap[w.heap.size]? = some (.cells #[.int .i64 e, .int .i64 p] 28 (0, 0)) := heap_setCell_same _ _ 1 _ _ _ r1
 exact ⟨(hb.setCell (p := ⟨w.heap.size, 0, none⟩) (Nat.le_refl _) _).setCell (p := ⟨w.heap.size, 1, none⟩) (Nat.le_refl _) _, r2⟩
theorem form_any (s : ByteArray) (w : World) (hT : Tabl w) (hP : TabP w) : Calls Tryz.prog 17 #[.string s] w fun e w' => e = .returned (.tuple #[.string (strU (fmO s.data.toList).1), .agg #[.int .i64 (fmO s.data.toList).2.1, .int .i64 (fmO s.data.toList).2.2]]) ∧ Below w.heap.size w w' := by
 have HT : Hid (∀ W, Below w.heap.size w W -> Tabl W) := fun W hb => tabl_agree hb.block hT
 have HP : Hid (∀ W, Below w.heap.size w W -> TabP W) := fun W hb => hP.low hb
 have HF : Hid (fmO s.data.toList = match txtO s.data.toList with | .inl p => ([], p.1, p.2) | .inr t => ((prnO t).1, (prnO t).2, 0)) := rfl
 have hb0 : Below w.heap.size w (w.alloc (.cells #[.int .i64 0, .int .i64 0] 28)) := (Below.refl _ _).alloc (Nat.le_refl _) _
 have HB0 : Hid _ := hb0
 have HR0 : Hid _ := heap_alloc_new w (.cells #[.int .i64 0, .int .i64 0] 28)
 have HC := text_all (w.alloc (.cells #[.int .i64 0, .int .i64 0] 28)) s (HT.out _ hb0)
 clear hT hP hb0
 generalize fmO s.data.toList = F at HF ⊢
 go_enter Tryz.func17, Tryz.ntmps17
 go_wp2_with fail
 refine HC.mono ?_
 rintro e W2 h2
 obtain ⟨b2, v2, rfl, t2⟩ := prp_tr h2
 obtain ⟨s2, c2, rfl⟩ := t2.shape
 have HB2 : Hid (Below w.heap.size w W2) := HB0.out.trans (b2.mono HB0.out.size)
 have HR2 : Hid (W2.heap[w.heap.size]? = some (.cells #[.int .i64 0, .int .i64 0] 28 (0, 0))) := (b2.block _ (lt_of_row HR0.out)).trans HR0.out
 have T2 : Hid (TrAt (w.alloc (.cells #[.int .i64 0, .int .i64 0] 28)).heap.size W2 (.slice s2 (trO (txtO s.data.toList)).length c2) (trO (txtO s.data.toList))) := t2
 clear h2 b2 t2 HC HB0 HR0
 cases ht : txtO s.data.toList with
 | inl p =>
  have hne := (txt_inl ht).1
  have HF2 : Hid (F = ([], p.1, p.2)) := by show _ = _; rw [HF.out, ht]
  clear T2 HF ht
  obtain ⟨er, pe⟩ := p
  have z4 : (er == 0) = false := by simpa using hne
  have z5 : (er != 0) = true := by simp [bne, z4]
  simp only [spO, trO]
  clear hne
  have hlt := lt_of_row HR2.out
  go_wp2
  refine wp_gen (fun W => Below w.heap.size w W ∧ W.heap[w.heap.size]? = some (.cells #[.int .i64 0, .int .i64 0] 28 (0, 0)) ∧ W.heap[W2.heap.size + 1]? = some (.cells #[.int .i64 er, .int .i64 pe] 28 (0, 0))) ?_ ?_
  ·have n1 := heap_alloc_new (W2.alloc (.cells #[.slice s2 0 c2] 25)) (.cells #[.int .i64 er, .int .i64 pe] 28)
   simp only [World.size_alloc] at n1
   have hb3 : Below W2.heap.size W2 ((W2.alloc (.cells #[.slice s2 0 c2] 25)).alloc (.cells #[.int .i64 er, .int .i64 pe] 28)) := ((Below.refl _ _).alloc (Nat.le_refl _) _).alloc (by simp) _
   exact ⟨HB2.out.trans (hb3.mono HB2.out.size), (hb3.block _ hlt).trans HR2.out, n1⟩
  rintro W3 ⟨b3, r3, q3⟩
  have d0 : W3.cell? ⟨W2.heap.size + 1, 0, none⟩ = some (.int .i64 er) := (cell_of_row _ _ 0 _ _ _ q3).trans rfl
  have d1 : W3.cell? ⟨W2.heap.size + 1, 1, none⟩ = some (.int .i64 pe) := (cell_of_row _ _ 1 _ _ _ q3).trans rfl
  have e0 : W3.cell? ⟨w.heap.size, 0, none⟩ = some (.int .i64 0) := (cell_of_row _ _ 0 _ _ _ r3).trans rfl
  have e1 : W3.cell? ⟨w.heap.size, 1, none⟩ = some (.int .i64 0) := (cell_of_row _ _ 1 _ _ _ r3).trans rfl
  have f0 : W3.frozen? ⟨w.heap.size, 0, none⟩ = false := frozen_of_row _ _ _ _ _ r3
  have f1 : W3.frozen? ⟨w.heap.size, 1, none⟩ = false := frozen_of_row _ _ _ _ _ r3
  have HDN : Hid _ := spot_set (e := er) (p := pe) b3 r3
  clear b3 r3 q3
  go_region
  all_goals go_wp2
  all_goals (generalize ((W3.setCell ⟨w.heap.size, 0, none⟩ (.int .i64 er)).setCell ⟨w.heap.size, 1, none⟩ (.int .i64 pe)) = Y at HDN ⊢)
  all_goals (exact bodyPost_ret (results_tmp_cell Tryz.results17 _ Y.drew w.heap.size 28 _ (0, 0) _ _ rfl rfl HDN.out.2 Tryz.underlying28 rfl (by kernel_rfl)) rfl (by rw [HF2.out]; exact ⟨rfl, HDN.out.1.drew⟩))
 | inr t =>
  have HF2 : Hid (F = ((prnO t).1, (prnO t).2, 0)) := by show _ = _; rw [HF.out, ht]
  have htp := txt_trp ht
  have T3 : Hid (TrAt (w.alloc (.cells #[.int .i64 0, .int .i64 0] 28)).heap.size W2 (.slice s2 (layP 0 t).length c2) (layP 0 t)) := by have := T2.out; rw [ht] at this; exact this
  have HE : Hid (∀ W, Below W2.heap.size W2 W -> EnW W (.slice s2 (layP 0 t).length c2) (layP 0 t)) := fun W hb => TrAt.env (T3.out.below hb) (HT.out W (HB2.out.trans (hb.mono HB2.out.size))) (by have := htp.n; omega)
  have HPW : Hid (∀ W, Below W2.heap.size W2 W -> TabP W) := fun W hb => HP.out W (HB2.out.trans (hb.mono HB2.out.size))
  have HPR : Hid (∀ W, Below W2.heap.size W2 W -> Calls Tryz.prog 15 #[.agg #[.slice s2 (layP 0 t).length c2]] W fun e w' => e = .returned (.tuple #[.string (strU (prnO t).1), .int .i64 (prnO t).2]) ∧ Below W.heap.size W w') := fun W hb => print_any12 htp (HPW.out W hb) (HE.out W hb)
  clear T2 T3 HE HPW HF ht htp
  simp only [spO, trO]
  generalize (layP 0 t).length = nl at *
  generalize prnO t = pr at *
  obtain ⟨ps, pe⟩ := pr
  have hlt := lt_of_row HR2.out
  go_wp2_with fail
  have hb3 : Below W2.heap.size W2 ((W2.alloc (.cells #[.slice s2 nl c2] 25)).alloc (.cells #[.int .i64 0, .int .i64 0] 28)) := ((Below.refl _ _).alloc (Nat.le_refl _) _).alloc (by simp) _
  refine (HPR.out _ hb3).mono ?_
  rintro e W3 ⟨rfl, b4⟩
  have b5 : Below W2.heap.size W2 W3 := hb3.trans (b4.mono hb3.size)
  have b6 : Below w.heap.size w W3 := HB2.out.trans (b5.mono HB2.out.size)
  have r6 : W3.heap[w.heap.size]? = some (.cells #[.int .i64 0, .int .i64 0] 28 (0, 0)) := (b5.block _ hlt).trans HR2.out
  have e0 : W3.cell? ⟨w.heap.size, 0, none⟩ = some (.int .i64 0) := (cell_of_row _ _ 0 _ _ _ r6).trans rfl
  have e1 : W3.cell? ⟨w.heap.size, 1, none⟩ = some (.int .i64 0) := (cell_of_row _ _ 1 _ _ _ r6).trans rfl
  have f0 : W3.frozen? ⟨w.heap.size, 0, none⟩ = false := frozen_of_row _ _ _ _ _ r6
  have f1 : W3.frozen? ⟨w.heap.size, 1, none⟩ = false := frozen_of_row _ _ _ _ _ r6
  have HDN : Hid _ := spot_set (e := pe) (p := 0) b6 r6
  clear hb3 b4 b5 b6 r6 HPR
  go_wp2
  generalize ((W3.setCell ⟨w.heap.size, 0, none⟩ (.int .i64 pe)).setCell ⟨w.heap.size, 1, none⟩ (.int .i64 0)) = Y at HDN ⊢
  exact bodyPost_ret (results_tmp_cell Tryz.results17 _ Y w.heap.size 28 _ (0, 0) _ _ rfl rfl HDN.out.2 Tryz.underlying28 rfl (by kernel_rfl)) rfl (by rw [HF2.out]; exact ⟨rfl, HDN.out.1⟩)
theorem formed_any (s : ByteArray) (w : World) (hT : Tabl w) (hP : TabP w) : Calls Tryz.prog 16 #[.string s] w fun e w' => e = .returned (.bool (fdB s.data.toList)) ∧ Below w.heap.size w w' := by
 have HC := form_any s w hT hP
 have HX : Hid (fdB s.data.toList = (((fmO s.data.toList).2.1 == 0) && ((strU (fmO s.data.toList).1).toList == s.toList))) := by
  show _ = _
  unfold fdB
  rw [strU_list, ByteArray.toList_eq]
 generalize fmO s.data.toList = F at *
 generalize fdB s.data.toList = B at *
 obtain ⟨fs, fe1, fp⟩ := F
 generalize strU fs = S at *
 clear hT hP
 go_enter Tryz.func16, Tryz.ntmps16
 go_wp2_with fail
 refine HC.mono ?_
 rintro e W ⟨rfl, hb⟩
 have HB : Hid (Below w.heap.size w (W.alloc (.cells #[.int .i64 fe1, .int .i64 fp] 28))) := hb.alloc hb.size _
 clear hb HC
 cases z1 : (fe1 == 0)
 ·rw [z1] at HX
  go_wp2
  go_ret
  exact ⟨ret_bool (by rw [HX.out]; rfl), HB.out⟩
 ·rw [z1] at HX
  go_wp2
  go_ret
  exact ⟨ret_bool (by rw [HX.out]; simp), HB.out⟩
def wkPa : List UInt8 := [112, 97, 99, 107, 97, 103, 101, 32, 97, 59, 102, 117, 110, 99, 32, 102, 40, 120, 32, 105, 110, 116, 41, 105, 110, 116, 123, 114, 101, 116, 117, 114, 110, 32, 40, 120, 41, 43, 49, 125]
def wkPb : List UInt8 := [112, 97, 99, 107, 97, 103, 101, 32, 97, 10, 10, 102, 117, 110, 99, 32, 102, 40, 120, 32, 105, 110, 116, 41, 32, 105, 110, 116, 32, 123, 10, 9, 114, 101, 116, 117, 114, 110, 32, 120, 32, 43, 32, 49, 10, 125, 10]
def wkPc : List UInt8 := [112, 97, 99, 107, 97, 103, 101, 32, 97, 59]
theorem wk_form : fmO wkPa = (wkPb, 0, 0) := by kernel_rfl
theorem wk_pb : fdB wkPb = true := by kernel_rfl
theorem wk_pc : fdB wkPc = false := by kernel_rfl
theorem wakes12_any (w : World) (hT : Tabl w) (hP : TabP w) : Calls Tryz.prog 13 #[] w fun e w' => e = .returned (.bool true) ∧ Below w.heap.size w w' := by
 have HT : Hid (∀ W, Below w.heap.size w W -> Tabl W) := fun W hb => tabl_agree hb.block hT
 have HP : Hid (∀ W, Below w.heap.size w W -> TabP W) := fun W hb => hP.low hb
 have HC : Calls Tryz.prog 17 #[.string (strU wkPa)] w fun e w' => e = .returned (.tuple #[.string (strU wkPb), .agg #[.int .i64 0, .int .i64 0]]) ∧ Below w.heap.size w w' := by
  have := form_any (strU wkPa) w hT hP
  rw [strU_data, wk_form] at this
  exact this
 have HB1 : Hid (∀ W, Below w.heap.size w W -> Calls Tryz.prog 16 #[.string (strU wkPb)] W fun e w' => e = .returned (.bool true) ∧ Below W.heap.size W w') := fun W hb => by
  have := formed_any (strU wkPb) W (HT.out W hb) (HP.out W hb)
  rw [strU_data, wk_pb] at this
  exact this
 have HC1 : Hid (∀ W, Below w.heap.size w W -> Calls Tryz.prog 16 #[.string (strU wkPc)] W fun e w' => e = .returned (.bool false) ∧ Below W.heap.size W w') := fun W hb => by
  have := formed_any (strU wkPc) W (HT.out W hb) (HP.out W hb)
  rw [strU_data, wk_pc] at this
  exact this
 clear hT hP
 go_enter Tryz.func13, Tryz.ntmps13
 go_wp2_with fail
 refine HC.mono ?_
 rintro e W ⟨rfl, hb⟩
 have hsw : (strU wkPb).toList = [112, 97, 99, 107, 97, 103, 101, 32, 97, 10, 10, 102, 117, 110, 99, 32, 102, 40, 120, 32, 105, 110, 116, 41, 32, 105, 110, 116, 32, 123, 10, 9, 114, 101, 116, 117, 114, 110, 32, 120, 32, 43, 32, 49, 10, 125, 10] := strU_list _
 have HW : Hid (Below w.heap.size w W) := hb
 clear hb HC
 have HW2 : Hid (Below w.heap.size w (W.alloc (.cells #[.int .i64 0, .int .i64 0] 28))) := HW.out.alloc HW.out.size _
 go_wp2_with fail
 refine (HB1.out _ HW2.out).mono ?_
 rintro e W3 ⟨rfl, hb⟩
 have HW3 : Hid (Below w.heap.size w W3) := HW2.out.trans (hb.mono HW2.out.size)
 clear hb
 go_wp2_with fail
 refine (HC1.out _ HW3.out).mono ?_
 rintro e W4 ⟨rfl, hb⟩
 have HW4 : Hid (Below w.heap.size w W4) := HW3.out.trans (hb.mono HW3.out.size)
 clear hb
 go_wp2
 go_ret
 exact ⟨rfl, HW4.out⟩
theorem elS : El 44 9 1 strC := by
 have h : (Tryz.prog.info? 9).map (fun i => (i.zero, i.size, i.bytes)) = some (some (.string ⟨#[]⟩), 1, 16) := by kernel_rfl
 refine ⟨Tryz.underlying44, ?_, fun _ => rfl, fun _ => by simp [strC, Value.oneCell'], by omega⟩
 cases hi : Tryz.prog.info? 9 with
 | none => rw [hi] at h; cases h
 | some i =>
  rw [hi] at h
  simp only [Option.map_some, Option.some.injEq, Prod.mk.injEq] at h
  exact ⟨i, _, rfl, h.1, h.2.1, by omega, rfl⟩
abbrev OwnS := OwnG 9 1 strC
theorem wds_len : ∀ l : List Tok, (wds l).length <= l.length
 | [] => Nat.le_refl _
 | t :: r => by
  have h := wds_len r
  have h1 : (wdO t).length <= 1 := by
   unfold wdO wdX
   repeat' split
   all_goals simp
  rw [wds_cons, List.length_append, List.length_cons]
  omega
theorem wds_take {ts : List Tok} {q : Nat} {t : Tok} (h : ts[q]? = some t) : wds (ts.take (q + 1)) = wds (ts.take q) ++ wdO t := by
 rw [List.take_add_one, h, wds_app]
 show _ ++ wds [t] = _
 rw [wds_cons, wds_nil, List.append_nil]
theorem words_any (s : ByteArray) (w : World) : Calls Tryz.prog 18 #[.string s] w fun e w' => ∃ v, e = .returned v ∧ OwnS w.heap.size w' v (wds (lexO s.data.toList).1) ∧ Below w.heap.size w w' := by
 have hbd := lexO_bnd s.data.toList
 generalize hlx : lexO s.data.toList = lx at *
 have HLX : Hid _ := hlx
 obtain ⟨ts, er, pe⟩ := lx
 have hlen : ts.length <= 1024 := by have := hbd.1; omega
 have HC := lex_any s w
 clear hbd hlx
 go_enter Tryz.func18, Tryz.ntmps18
 go_wp2_with fail
 refine HC.mono ?_
 rintro e W ⟨hP, hb⟩
 rw [HLX.out] at hP
 obtain ⟨v, rfl, hT⟩ := hP
 obtain ⟨sp, cap, rfl, hR, -, -⟩ := OwnG.rows elT hT
 have hb1 : Below W.heap.size W (W.alloc (.cells #[.int .i64 er, .int .i64 pe] 28)) := (Below.refl _ _).alloc (Nat.le_refl _) _
 have hbw : Below w.heap.size w (W.alloc (.cells #[.int .i64 er, .int .i64 pe] 28)) := hb.alloc hb.size _
 have HBW : Hid _ := hbw
 have HR1 : Hid (RowsT (W.alloc (.cells #[.int .i64 er, .int .i64 pe] 28)) sp ts) := hR.below hb1
 clear hT hR hb1 hbw HC
 go_wp2_with fail
 have hns := ownG_nil (e := 9) (m := 1) (f := strC) (W.alloc (.cells #[.int .i64 er, .int .i64 pe] 28)).heap.size (W.alloc (.cells #[.int .i64 er, .int .i64 pe] 28))
 have HNS : Hid _ := hns
 clear hns hb
 generalize W.alloc (.cells #[.int .i64 er, .int .i64 pe] 28) = W1 at *
 go_loopw [5, 15] (fun u i wr => ∃ q : Nat, q <= ts.length ∧ i = .int .i64 q ∧ OwnS W1.heap.size wr u (wds (ts.take q)) ∧ Below W1.heap.size W1 wr) (fun _ i _ => ts.length - (intOf i).toNat)
 case atStart => exact ⟨0, Nat.zero_le _, rfl, HNS.out, Below.refl _ _⟩
 case round =>
  obtain ⟨q, hq, rfl, ho, hb⟩ := hrel
  have HO : Hid (OwnS W1.heap.size wr u5 (wds (ts.take q))) := ho
  have HB : Hid (Below W1.heap.size W1 wr) := hb
  clear ho hb
  by_cases hlt : q < ts.length
  ·have hd : decide ((q : Int) < ts.length) = true := by simp; omega
   obtain ⟨t, ht⟩ : ∃ t, ts[q]? = some t := ⟨_, List.getElem?_eq_getElem hlt⟩
   have hrt := HR1.out.below HB.out
   obtain ⟨b, o, rfl, -⟩ := hrt (by omega)
   obtain ⟨k0, k1, k2⟩ := tok_cell hrt ht
   have ltb := block_lt_of_cell k0
   have HTK : Hid _ := wds_take ht
   have hbt : Below wr.heap.size wr (wr.alloc (.cells t.cells 60)) := (Below.refl _ _).alloc (Nat.le_refl _) _
   have htc : t.cells = #[.int .i64 t.kind, .string t.text, .int .i64 t.pos] := rfl
   clear ht hrt
   cases z1 : (t.kind == 5)
   rotate_left
   focus (
    have HWD : Hid (wdO t = []) := if_pos (by simpa using z1)
    have z1' : (t.kind != 5) = false := by simp [bne, z1]
    have HN : Hid (OwnS W1.heap.size (wr.alloc (.cells t.cells 60)) u5 (wds (ts.take (q + 1)))) := by
     show OwnG _ _ _ _ _ _ _
     rw [HTK.out, HWD.out, List.append_nil]
     exact HO.out.below hbt
    have HB2 : Hid (Below W1.heap.size W1 (wr.alloc (.cells t.cells 60))) := HB.out.trans (hbt.mono HB.out.size)
    rw [htc] at HN HB2
    clear hbt htc
    go_wp2
    exact ⟨⟨q + 1, by omega, by go_num, HN.out, HB2.out⟩, by simp [intOf]; omega⟩)
   have z1' : (t.kind != 5) = true := by simp [bne, z1]
   cases z2 : (t.text.toList == [40])
   rotate_left
   focus (
    have HWD : Hid (wdO t = []) := by
     show _ = _
     unfold wdO wdX
     rw [if_neg (by simpa using z1), if_pos (.inl (by rw [ByteArray.toList_eq] at z2; simpa using z2))]
    have z2' : (t.text.toList != [40]) = false := by simp [bne, z2]
    have z2e : t.text.toList = [40] := by simpa using z2
    have HN : Hid (OwnS W1.heap.size (wr.alloc (.cells t.cells 60)) u5 (wds (ts.take (q + 1)))) := by
     show OwnG _ _ _ _ _ _ _
     rw [HTK.out, HWD.out, List.append_nil]
     exact HO.out.below hbt
    have HB2 : Hid (Below W1.heap.size W1 (wr.alloc (.cells t.cells 60))) := HB.out.trans (hbt.mono HB.out.size)
    rw [htc] at HN HB2
    clear hbt htc
    go_wp2
    exact ⟨⟨q + 1, by omega, by go_num, HN.out, HB2.out⟩, by simp [intOf]; omega⟩)
   have z2' : (t.text.toList != [40]) = true := by simp [bne, z2]
   have z2e : ¬ t.text.toList = [40] := by simpa using z2
   cases z3 : (t.text.toList == [41])
   rotate_left
   focus (
    have HWD : Hid (wdO t = []) := by
     show _ = _
     unfold wdO wdX
     rw [if_neg (by simpa using z1), if_pos (.inr (by rw [ByteArray.toList_eq] at z3; simpa using z3))]
    have z3' : (t.text.toList != [41]) = false := by simp [bne, z3]
    have z3e : t.text.toList = [41] := by simpa using z3
    have HN : Hid (OwnS W1.heap.size (wr.alloc (.cells t.cells 60)) u5 (wds (ts.take (q + 1)))) := by
     show OwnG _ _ _ _ _ _ _
     rw [HTK.out, HWD.out, List.append_nil]
     exact HO.out.below hbt
    have HB2 : Hid (Below W1.heap.size W1 (wr.alloc (.cells t.cells 60))) := HB.out.trans (hbt.mono HB.out.size)
    rw [htc] at HN HB2
    clear hbt htc
    go_wp2
    exact ⟨⟨q + 1, by omega, by go_num, HN.out, HB2.out⟩, by simp [intOf]; omega⟩)
   have z3' : (t.text.toList != [41]) = true := by simp [bne, z3]
   have z3e : ¬ t.text.toList = [41] := by simpa using z3
   have HWD : Hid (wdO t = [t.text]) := by
    show _ = _
    unfold wdO wdX
    rw [if_neg (by simpa using z1), if_neg]
    intro h
    rw [ByteArray.toList_eq] at z2e z3e
    exact h.elim z2e z3e
   have hwl : (wds (ts.take q)).length <= 1024 := by have := wds_len (ts.take q); rw [List.length_take] at this; omega
   have hbs : Below wr.heap.size wr ((wr.alloc (.cells t.cells 60)).alloc (.cells #[.string t.text] 9)) := hbt.alloc hbt.size _
   have hrow := heap_alloc_new (wr.alloc (.cells t.cells 60)) (.cells #[.string t.text] 9)
   simp only [World.size_alloc] at hrow
   have hbz := HB.out.size
   obtain ⟨v', X, hrun, ho2, hg2, -⟩ := own_run (ys := [t.text]) (cap := 1) elS 44 (HO.out.below hbs) (fun e => by cases e) (oneG_rows (x := t.text) hrow) (by simp; omega) (by simp; omega)
   obtain ⟨s1, c1, hv1⟩ := OwnG.shape ho2
   have HN : Hid (OwnS W1.heap.size X v' (wds (ts.take (q + 1)))) := by
    show OwnG _ _ _ _ _ _ _
    rw [HTK.out, HWD.out]
    exact ho2
   have HB2 : Hid (Below W1.heap.size W1 X) := OwnG.grown (HO.out.below hbs) (Nat.le_refl _) (by simp; omega) (HB.out.trans (hbs.mono HB.out.size)) hg2
   obtain ⟨s0, c0, hv0⟩ := OwnG.shape HO.out
   rw [htc] at hrun
   have HVE : Hid _ := hv1
   clear hbt htc hbs hrow ho2 hg2 hv1
   subst hv0
   go_wp2_with (at_builtin; refine list_appendg (.tmp 32) (.tmp 35) 44 (by rfl) (by rfl) (by rfl) (by rfl) hrun ?_)
   exact ⟨⟨q + 1, by omega, by go_num, HN.out, HB2.out⟩, by simp [intOf]; omega⟩
  ·have hd : decide ((q : Int) < ts.length) = false := by simp; omega
   have HN : Hid (OwnS w.heap.size wr u5 (wds ts)) := by
    have := HO.out
    rw [List.take_of_length_le (by omega)] at this
    exact OwnG.mono this HBW.out.size
   have HB2 : Hid (Below w.heap.size w wr) := HBW.out.trans (HB.out.mono HBW.out.size)
   go_wp2
   go_ret
   exact ⟨_, rfl, HN.out, HB2.out⟩
theorem fm_bad {s : List UInt8} (h : (fmO s).2.1 ≠ 0) : (fmO s).1 = [] ∧ 0 <= (fmO s).2.2 ∧ (fmO s).2.2 <= s.length := by
 cases ht : txtO s with
 | inl p =>
  have e : fmO s = ([], p.1, p.2) := by unfold fmO; rw [ht]
  rw [e]
  exact ⟨rfl, (txt_inl ht).2⟩
 | inr t =>
  have e : fmO s = ((prnO t).1, (prnO t).2, 0) := by unfold fmO; rw [ht]
  rw [e] at h ⊢
  have h0 : (prnO t).2 ≠ 0 := h
  refine ⟨?_, Int.le_refl _, by show (0 : Int) <= _; omega⟩
  show (prnO t).1 = []
  unfold prnO at h0 ⊢
  split at h0
  ·rename_i h1; rw [if_pos h1]
  rename_i h1
  rw [if_neg h1]
  split at h0
  ·rename_i h2; rw [if_pos h2]
  ·exact absurd rfl h0
theorem printTwice_all (s0 : ByteArray) (w : World) (hT : Tabl w) (hP : TabP w) : Calls Tryz.prog 5 #[.string s0] w fun e w' => e = .returned (.bool true) ∧ Below w.heap.size w w' := by
 have HT : Hid (∀ W, Below w.heap.size w W -> Tabl W) := fun W hb => tabl_agree hb.block hT
 have HP : Hid (∀ W, Below w.heap.size w W -> TabP W) := fun W hb => hP.low hb
 have HC := wakes12_any w hT hP
 have hmn : 0 <= min (s0.size : Int) 4096 ∧ min (s0.size : Int) 4096 <= s0.size := by omega
 obtain ⟨hmn0, hmn1⟩ := hmn
 have hcs : s0.extract 0 (min (s0.size : Int) 4096).toNat = strU (s0.data.toList.take 4096) := cut_strX s0 4096
 obtain ⟨s, hss, HSD⟩ : ∃ s : ByteArray, strU (s0.data.toList.take 4096) = s ∧ Hid (s.data.toList.length = s.size) := ⟨_, rfl, by show _ = _; simp⟩
 rw [hss] at hcs
 clear hT hP
 go_enter Tryz.func5, Tryz.ntmps5
 go_wp2_with fail
 refine HC.mono ?_
 rintro e W1 ⟨rfl, b1⟩
 have HB1 : Hid (Below w.heap.size w W1) := b1
 clear b1 HC hss
 go_wp2_with fail
 refine (form_any s W1 (HT.out _ HB1.out) (HP.out _ HB1.out)).mono ?_
 rintro e W2 ⟨rfl, b2⟩
 have HB2 : Hid (Below w.heap.size w W2) := HB1.out.trans (b2.mono HB1.out.size)
 clear b2
 by_cases he : (fmO s.data.toList).2.1 = 0
 rotate_left
 focus (
  obtain ⟨h1, h2, h3⟩ := fm_bad he
  rw [h1]
  generalize hF : fmO s.data.toList = F at *
  clear hF h1
  obtain ⟨fs, fe1, fp⟩ := F
  have z1 : (fe1 == 0) = false := by simpa using he
  have z1' : (fe1 != 0) = true := by simp [bne, z1]
  have z2 : decide ((0 : Int) <= fp) = true := by simpa using h2
  have z3 : decide (fp <= (s.size : Int)) = true := by rw [HSD.out] at h3; simpa using h3
  have HB3 : Hid (Below w.heap.size w (W2.alloc (.cells #[.int .i64 fe1, .int .i64 fp] 28))) := HB2.out.alloc HB2.out.size _
  clear he h2 h3 hcs hmn0 hmn1
  have hem : (strU []).toList.isEmpty = true := by rw [strU_list]; rfl
  go_wp2
  go_ret
  exact ⟨rfl, HB3.out⟩)
 obtain ⟨t, ht, htp, hp0, hfm⟩ := fm_again he
 obtain ⟨hf1, hf2⟩ := prn_formed htp hp0
 obtain ⟨ts, ms, hl1, hl2, hwd⟩ := fm_words ht hp0
 rw [hfm]
 obtain ⟨S, hS⟩ : ∃ S : ByteArray, strU (rn (prP 0 t)) = S := ⟨_, rfl⟩
 have hSd : S.data.toList = rn (prP 0 t) := by rw [<- hS]; rfl
 rw [<- hSd] at hf1 hf2 hl2
 have HFM : Hid (∀ W, Below w.heap.size w W -> Calls Tryz.prog 17 #[.string S] W fun e w' => e = .returned (.tuple #[.string S, .agg #[.int .i64 0, .int .i64 0]]) ∧ Below W.heap.size W w') := fun W hb => by
  have := form_any S W (HT.out W hb) (HP.out W hb)
  rw [hf1] at this
  exact this
 have HFD : Hid (∀ W, Below w.heap.size w W -> Calls Tryz.prog 16 #[.string S] W fun e w' => e = .returned (.bool true) ∧ Below W.heap.size W w') := fun W hb => by
  have := formed_any S W (HT.out W hb) (HP.out W hb)
  rw [hf2] at this
  exact this
 have HWA : Hid (∀ W, Calls Tryz.prog 18 #[.string s] W fun e w' => ∃ v, e = .returned v ∧ OwnS W.heap.size w' v (wds ts) ∧ Below W.heap.size W w') := fun W => by
  have := words_any s W
  rw [hl1] at this
  exact this
 have HWB : Hid (∀ W, Calls Tryz.prog 18 #[.string S] W fun e w' => ∃ v, e = .returned v ∧ OwnS W.heap.size w' v (wds ts) ∧ Below W.heap.size W w') := fun W => by
  have := words_any S W
  rw [hl2, <- hwd] at this
  exact this
 have hwl : (wds ts).length <= 1024 := by
  have h1 := wds_len ts
  have h2 : ts.length <= 1024 := by
   have := (lexO_bnd s.data.toList).1
   rw [hl1] at this
   exact this
  omega
 rw [hS]
 have HB3 : Hid (Below w.heap.size w (W2.alloc (.cells #[.int .i64 0, .int .i64 0] 28))) := HB2.out.alloc HB2.out.size _
 generalize wds ts = WS at *
 clear he ht htp hp0 hfm hf1 hf2 hl1 hl2 hwd hS hSd hcs hmn0 hmn1
 go_wp2_with fail
 refine (HFM.out _ HB3.out).mono ?_
 rintro e W3 ⟨rfl, b3⟩
 have HB4 : Hid (Below w.heap.size w W3) := HB3.out.trans (b3.mono HB3.out.size)
 have HR3 : Hid (W3.heap[W2.heap.size]? = some (.cells #[.int .i64 0, .int .i64 0] 28 (0, 0))) := (b3.block _ (by simp)).trans (heap_alloc_new _ _)
 clear b3
 have c0 : W3.cell? ⟨W2.heap.size, 0, none⟩ = some (.int .i64 0) := (cell_of_row _ _ 0 _ _ _ HR3.out).trans rfl
 have c1 : W3.cell? ⟨W2.heap.size, 1, none⟩ = some (.int .i64 0) := (cell_of_row _ _ 1 _ _ _ HR3.out).trans rfl
 have f0 : W3.frozen? ⟨W2.heap.size, 0, none⟩ = false := frozen_of_row _ _ _ _ _ HR3.out
 have f1 : W3.frozen? ⟨W2.heap.size, 1, none⟩ = false := frozen_of_row _ _ _ _ _ HR3.out
 go_wp2_with fail
 rw [setCell_id HR3.out rfl, setCell_id HR3.out rfl]
 refine (HWA.out W3).mono ?_
 rintro e W4 ⟨va, rfl, oa, b4⟩
 have HB5 : Hid (Below w.heap.size w W4) := HB4.out.trans (b4.mono HB4.out.size)
 have HR4 : Hid (W4.heap[W2.heap.size]? = some (.cells #[.int .i64 0, .int .i64 0] 28 (0, 0))) := (b4.block _ (lt_of_row HR3.out)).trans HR3.out
 obtain ⟨sa, ca, rfl, hra, -, -⟩ := OwnG.rows elS oa
 have HRA : Hid (RowsAt W4 1 strC sa WS) := hra
 clear b4 oa hra c0 c1 f0 f1
 go_wp2_with fail
 refine (HWB.out W4).mono ?_
 rintro e W5 ⟨vb, rfl, ob, b5⟩
 have HB6 : Hid (Below w.heap.size w W5) := HB5.out.trans (b5.mono HB5.out.size)
 have HR5 : Hid (W5.heap[W2.heap.size]? = some (.cells #[.int .i64 0, .int .i64 0] 28 (0, 0))) := (b5.block _ (lt_of_row HR4.out)).trans HR4.out
 have HRA5 : Hid (RowsAt W5 1 strC sa WS) := HRA.out.below b5
 obtain ⟨sb, cb, rfl, hrb, -, -⟩ := OwnG.rows elS ob
 have HRB : Hid (RowsAt W5 1 strC sb WS) := hrb
 have c0 : W5.cell? ⟨W2.heap.size, 0, none⟩ = some (.int .i64 0) := (cell_of_row _ _ 0 _ _ _ HR5.out).trans rfl
 have c1 : W5.cell? ⟨W2.heap.size, 1, none⟩ = some (.int .i64 0) := (cell_of_row _ _ 1 _ _ _ HR5.out).trans rfl
 clear b5 ob hrb HRA
 go_wp2_with fail
 refine (HFD.out W5 HB6.out).mono ?_
 rintro e W6 ⟨rfl, b6⟩
 have HB7 : Hid (Below w.heap.size w W6) := HB6.out.trans (b6.mono HB6.out.size)
 have HA6 : Hid (RowsAt W6 1 strC sa WS) := HRA5.out.below b6
 have HB8 : Hid (RowsAt W6 1 strC sb WS) := HRB.out.below b6
 clear b6 c0 c1 HRA5 HRB HR3 HR4 HR5
 go_wp2
 go_loopw [69] (fun i wr => ∃ q n : Nat, q <= WS.length ∧ i = .int .i64 q ∧ wr = W6.drewN n) (fun i _ => WS.length - (intOf i).toNat)
 case atStart => exact ⟨0, 0, Nat.zero_le _, rfl, rfl⟩
 case round =>
  obtain ⟨q, n, hq, rfl, rfl⟩ := hrel
  by_cases hlt : q < WS.length
  ·have hd : decide ((q : Int) < WS.length) = true := by simp; omega
   obtain ⟨y, hy⟩ : ∃ y, WS[q]? = some y := ⟨_, List.getElem?_eq_getElem hlt⟩
   obtain ⟨ba, oa, ea, ka⟩ := HA6.out (by omega)
   obtain ⟨bb, ob, eb, kb⟩ := HB8.out (by omega)
   have ka' := ka q y hy 0 (.string y) rfl
   have kb' := kb q y hy 0 (.string y) rfl
   simp only [Nat.mul_one, Nat.add_zero] at ka' kb'
   clear ka kb hy
   have HEA : Hid _ := ea
   have HEB : Hid _ := eb
   clear ea eb
   rw [HEA.out, HEB.out]
   go_wp2_with fail
   go_quiet (fail)
   go_wp2
   exact ⟨⟨q + 1, n + nq, by omega, by go_num, rfl⟩, by simp [intOf]; omega⟩
  ·have hd : decide ((q : Int) < WS.length) = false := by simp; omega
   have HB9 : Hid (Below w.heap.size w (W6.drewN n)) := HB7.out.trans ((below_dN W6 n).mono HB7.out.size)
   go_wp2
   go_ret
   exact ⟨rfl, HB9.out⟩
end Go.Proofs.YtbadafkfjfbnlaaGreatDoor
