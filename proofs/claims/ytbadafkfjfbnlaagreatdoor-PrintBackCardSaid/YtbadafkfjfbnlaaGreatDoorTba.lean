import Derived.Test.YtbadafkfjfbnlaaGreatDoorTbX
import Derived.Test.YtbadafkfjfbnlaaGreatDoorTbZ
import Derived.Test.YtbadafkfjfbnlaaGreatDoorTbR
namespace Go.Proofs.YtbadafkfjfbnlaaGreatDoor
set_option maxRecDepth 100000
set_option maxHeartbeats 4000000
open Go.RowKit
theorem TrP.w {t : Pt} (h : TrP t) : TrW t := by
 have ha := zys t h.o
 refine ⟨by rw [<- zb1 t 0]; exact h.n, h.d, zyt t h.o, ?_, fun u hu => ?_, ?_⟩
 ·rw [List.any_eq_false]
  intro u hu
  rw [(ha u hu).1]
  simp
 ·have := ha u hu
  rw [this.2.2]
  exact ⟨by decide, by decide, by have := this.2.1; omega⟩
 ·obtain ⟨t', e1, e2⟩ := zk7 h.f (wrP t) (zze _) rfl
  refine ⟨t', _, e1, ?_⟩
  have := zk4 t t' 0 e2
  rw [zc2 (zcr this)] at this
  rw [zc2 (by have := zcr (zk4 t t' 0 e2); omega)]
  intro i a b ha hb
  have := this i b a hb ha
  unfold ndEq at this ⊢
  simp only [Bool.and_eq_true, beq_iff_eq] at this ⊢
  exact ⟨⟨⟨this.1.1.1.symm, this.1.1.2.symm⟩, this.1.2.symm⟩, this.2.symm⟩
theorem zn7 (t : Pt) : Emb (layP 0 t) 0 t := fun j d hd => by rw [Nat.zero_add]; exact hd
theorem zmo {w : World} {sn : Option Addr} {cn : Nat} {t : Pt} (h : TrP t) (hP : TabP w) (hE : EnW w (.slice sn (layP 0 t).length cn) (layP 0 t)) :
  Calls Tryz.prog 15 #[.agg #[.slice sn (layP 0 t).length cn]] w fun e w' => e = .returned (.tuple #[.string (strU (prnO t).1), .int .i64 (prnO t).2]) ∧ Below w.heap.size w w' := by
 have HTX : Hid (∀ W, Below w.heap.size w W -> Calls Tryz.prog 33 #[.agg #[.slice sn (layP 0 t).length cn], .int .i64 0] W fun e w' => e = .returned (.string (strU (rn (prP 0 t)))) ∧ Below W.heap.size W w') := fun W hb =>
  zit (w := W) (L := layP 0 t) 0 t (hP.low hb) (hE.low hb) (zn7 t) h.ar (by have := h.len.2; omega) h.len.1 h.ne
 have HTW : Hid (TrW t) := h.w
 have HE : Hid (EnW w (.slice sn (layP 0 t).length cn) (layP 0 t)) := hE
 have HP : Hid (TabP w) := hP
 have HPR : Hid (prnO t = if 1024 < (wrP t).length then ([], 3) else if 4096 < (rn (prP 0 t)).length then ([], 3) else (rn (prP 0 t), 0)) := rfl
 generalize prnO t = pr at HPR ⊢
 by_cases hl : (wrP t).length <= 1024
 rotate_left
 ·have HTL := zhk (w := w.alloc (.cells #[.slice sn (layP 0 t).length cn] 25)) (TabP.low HP.out ((Below.refl _ _).alloc (Nat.le_refl _) _)) (HE.out.low ((Below.refl _ _).alloc (Nat.le_refl _) _)) HTW.out (by omega)
  have hb0 : Below w.heap.size w (w.alloc (.cells #[.slice sn (layP 0 t).length cn] 25)) := (Below.refl _ _).alloc (Nat.le_refl _) _
  have HB0 : Hid _ := hb0
  clear hb0
  have HQ : Hid (pr = ([], 3)) := by show _ = _; rw [HPR.out, if_pos (by omega)]
  clear h hP hE hl
  generalize (layP 0 t).length = nl at *
  rw [HQ.out]
  go_enter Tryz.func15, Tryz.ntmps15
  go_wp2_with fail
  refine HTL.mono ?_
  rintro e W ⟨rfl, hb⟩
  have HB : Hid (Below w.heap.size w W) := HB0.out.trans (hb.mono HB0.out.size)
  clear hb HTL
  go_wp2
  go_ret2
  exact ⟨rfl, HB.out⟩
 ·have HTL := zii (w := w.alloc (.cells #[.slice sn (layP 0 t).length cn] 25)) (TabP.low HP.out ((Below.refl _ _).alloc (Nat.le_refl _) _)) (HE.out.low ((Below.refl _ _).alloc (Nat.le_refl _) _)) HTW.out hl
  have hb0 : Below w.heap.size w (w.alloc (.cells #[.slice sn (layP 0 t).length cn] 25)) := (Below.refl _ _).alloc (Nat.le_refl _) _
  have HB0 : Hid _ := hb0
  have HR0 : Hid _ := heap_alloc_new w (.cells #[.slice sn (layP 0 t).length cn] 25)
  clear hb0
  have HQ : Hid (pr = if 4096 < (rn (prP 0 t)).length then ([], 3) else (rn (prP 0 t), 0)) := by show _ = _; rw [HPR.out, if_neg (by omega)]
  have hsz : (rn (prP 0 t)).length <= 1000000000000 := h.len.1
  clear h hP hE hl HTW HE HP
  generalize (layP 0 t).length = nl at *
  generalize hR : rn (prP 0 t) = R at *
  have hRs : (strU R).size = R.length := zee R
  have HRS : Hid _ := hRs
  generalize hSR : strU R = SR at *
  have HSR : Hid _ := hSR
  clear hSR hRs hR
  go_enter Tryz.func15, Tryz.ntmps15
  go_wp2_with fail
  refine HTL.mono ?_
  rintro e W ⟨v', rfl, -, hb⟩
  have hbW : Below w.heap.size w W := HB0.out.trans (hb.mono HB0.out.size)
  have r1 : W.heap[w.heap.size]? = some (.cells #[.slice sn nl cn] 25 (0, 0)) := (hb.block _ (zab HR0.out)).trans HR0.out
  have c1 : W.cell? ⟨w.heap.size, 0, none⟩ = some (.slice sn nl cn) := (cell_of_row _ _ 0 _ _ _ r1).trans rfl
  have HC := HTX.out W hbW
  have HBW : Hid _ := hbW
  clear hb hbW r1 HTL
  go_wp2_with fail
  refine HC.mono ?_
  rintro e W2 ⟨rfl, hb⟩
  have HB2 : Hid (Below w.heap.size w W2) := HBW.out.trans (hb.mono HBW.out.size)
  clear hb HC
  cases hz : decide (4096 < R.length)
  ·have hz' : decide ((4096 : Int) < (SR.size : Int)) = false := by rw [HRS.out]; simp at hz ⊢; omega
   have HQ2 : Hid (pr = (R, 0)) := by show _ = _; rw [HQ.out, if_neg (by simpa using hz)]
   clear hz
   go_wp2
   go_ret2
   exact ⟨by rw [HQ2.out]; show _ = Ending.returned (.tuple #[.string (strU R), _]); rw [HSR.out]; rfl, HB2.out⟩
  ·have hz' : decide ((4096 : Int) < (SR.size : Int)) = true := by rw [HRS.out]; simp at hz ⊢; omega
   have HQ2 : Hid (pr = ([], 3)) := by show _ = _; rw [HQ.out, if_pos (by simpa using hz)]
   clear hz
   go_wp2
   go_ret2
   exact ⟨by rw [HQ2.out]; rfl, HB2.out⟩
theorem zn8 {w W : World} {a b e p : Int} (hb : Below w.heap.size w W) (hr : W.heap[w.heap.size]? = some (.cells #[.int .i64 a, .int .i64 b] 28 (0, 0))) :
  Below w.heap.size w ((W.setCell ⟨w.heap.size, 0, none⟩ (.int .i64 e)).setCell ⟨w.heap.size, 1, none⟩ (.int .i64 p)) ∧ ((W.setCell ⟨w.heap.size, 0, none⟩ (.int .i64 e)).setCell ⟨w.heap.size, 1, none⟩ (.int .i64 p)).heap[w.heap.size]? = some (.cells #[.int .i64 e, .int .i64 p] 28 (0, 0)) := by
 have r1 : (W.setCell ⟨w.heap.size, 0, none⟩ (.int .i64 e)).heap[w.heap.size]? = some (.cells #[.int .i64 e, .int .i64 b] 28 (0, 0)) := heap_setCell_same _ _ 0 _ _ _ hr
 have r2 : ((W.setCell ⟨w.heap.size, 0, none⟩ (.int .i64 e)).setCell ⟨w.heap.size, 1, none⟩ (.int .i64 p)).heap[w.heap.size]? = some (.cells #[.int .i64 e, .int .i64 p] 28 (0, 0)) := heap_setCell_same _ _ 1 _ _ _ r1
 exact ⟨(hb.setCell (p := ⟨w.heap.size, 0, none⟩) (Nat.le_refl _) _).setCell (p := ⟨w.heap.size, 1, none⟩) (Nat.le_refl _) _, r2⟩
theorem zn9 (s : ByteArray) (w : World) (hT : Tabl w) (hP : TabP w) : Calls Tryz.prog 17 #[.string s] w fun e w' => e = .returned (.tuple #[.string (strU (fmO s.data.toList).1), .agg #[.int .i64 (fmO s.data.toList).2.1, .int .i64 (fmO s.data.toList).2.2]]) ∧ Below w.heap.size w w' := by
 have HT : Hid (∀ W, Below w.heap.size w W -> Tabl W) := fun W hb => zbx hb.block hT
 have HP : Hid (∀ W, Below w.heap.size w W -> TabP W) := fun W hb => hP.low hb
 have HF : Hid (fmO s.data.toList = match txtO s.data.toList with | .inl p => ([], p.1, p.2) | .inr t => ((prnO t).1, (prnO t).2, 0)) := rfl
 have hb0 : Below w.heap.size w (w.alloc (.cells #[.int .i64 0, .int .i64 0] 28)) := (Below.refl _ _).alloc (Nat.le_refl _) _
 have HB0 : Hid _ := hb0
 have HR0 : Hid _ := heap_alloc_new w (.cells #[.int .i64 0, .int .i64 0] 28)
 have HC := znb (w.alloc (.cells #[.int .i64 0, .int .i64 0] 28)) s (HT.out _ hb0)
 clear hT hP hb0
 generalize fmO s.data.toList = F at HF ⊢
 go_enter Tryz.func17, Tryz.ntmps17
 go_wp2_with fail
 refine HC.mono ?_
 rintro e W2 h2
 obtain ⟨b2, v2, rfl, t2⟩ := zz1 h2
 obtain ⟨s2, c2, rfl⟩ := t2.shape
 have HB2 : Hid (Below w.heap.size w W2) := HB0.out.trans (b2.mono HB0.out.size)
 have HR2 : Hid (W2.heap[w.heap.size]? = some (.cells #[.int .i64 0, .int .i64 0] 28 (0, 0))) := (b2.block _ (zab HR0.out)).trans HR0.out
 have T2 : Hid (TrAt (w.alloc (.cells #[.int .i64 0, .int .i64 0] 28)).heap.size W2 (.slice s2 (trO (txtO s.data.toList)).length c2) (trO (txtO s.data.toList))) := t2
 clear h2 b2 t2 HC HB0 HR0
 cases ht : txtO s.data.toList with
 | inl p =>
  have hne := (zzb ht).1
  have HF2 : Hid (F = ([], p.1, p.2)) := by show _ = _; rw [HF.out, ht]
  clear T2 HF ht
  obtain ⟨er, pe⟩ := p
  have z4 : (er == 0) = false := by simpa using hne
  have z5 : (er != 0) = true := by simp [bne, z4]
  simp only [spO, trO]
  clear hne
  have hlt := zab HR2.out
  go_wp2
  refine zeu (fun W => Below w.heap.size w W ∧ W.heap[w.heap.size]? = some (.cells #[.int .i64 0, .int .i64 0] 28 (0, 0)) ∧ W.heap[W2.heap.size + 1]? = some (.cells #[.int .i64 er, .int .i64 pe] 28 (0, 0))) ?_ ?_
  ·have n1 := heap_alloc_new (W2.alloc (.cells #[.slice s2 0 c2] 25)) (.cells #[.int .i64 er, .int .i64 pe] 28)
   simp only [World.size_alloc] at n1
   have hb3 : Below W2.heap.size W2 ((W2.alloc (.cells #[.slice s2 0 c2] 25)).alloc (.cells #[.int .i64 er, .int .i64 pe] 28)) := ((Below.refl _ _).alloc (Nat.le_refl _) _).alloc (by simp) _
   exact ⟨HB2.out.trans (hb3.mono HB2.out.size), (hb3.block _ hlt).trans HR2.out, n1⟩
  rintro W3 ⟨b3, r3, q3⟩
  have d0 : W3.cell? ⟨W2.heap.size + 1, 0, none⟩ = some (.int .i64 er) := (cell_of_row _ _ 0 _ _ _ q3).trans rfl
  have d1 : W3.cell? ⟨W2.heap.size + 1, 1, none⟩ = some (.int .i64 pe) := (cell_of_row _ _ 1 _ _ _ q3).trans rfl
  have e0 : W3.cell? ⟨w.heap.size, 0, none⟩ = some (.int .i64 0) := (cell_of_row _ _ 0 _ _ _ r3).trans rfl
  have e1 : W3.cell? ⟨w.heap.size, 1, none⟩ = some (.int .i64 0) := (cell_of_row _ _ 1 _ _ _ r3).trans rfl
  have f0 : W3.frozen? ⟨w.heap.size, 0, none⟩ = false := frozen_of_row _ _ _ _ _ r3
  have f1 : W3.frozen? ⟨w.heap.size, 1, none⟩ = false := frozen_of_row _ _ _ _ _ r3
  have HDN : Hid _ := zn8 (e := er) (p := pe) b3 r3
  clear b3 r3 q3
  go_region
  all_goals go_wp2
  all_goals (generalize ((W3.setCell ⟨w.heap.size, 0, none⟩ (.int .i64 er)).setCell ⟨w.heap.size, 1, none⟩ (.int .i64 pe)) = Y at HDN ⊢)
  all_goals (exact bodyPost_ret (zcw Tryz.results17 _ Y.drew w.heap.size 28 _ (0, 0) _ _ rfl rfl HDN.out.2 Tryz.underlying28 rfl (by kernel_rfl)) rfl (by rw [HF2.out]; exact ⟨rfl, HDN.out.1.drew⟩))
 | inr t =>
  have HF2 : Hid (F = ((prnO t).1, (prnO t).2, 0)) := by show _ = _; rw [HF.out, ht]
  have htp := zzj ht
  have T3 : Hid (TrAt (w.alloc (.cells #[.int .i64 0, .int .i64 0] 28)).heap.size W2 (.slice s2 (layP 0 t).length c2) (layP 0 t)) := by have := T2.out; rw [ht] at this; exact this
  have HE : Hid (∀ W, Below W2.heap.size W2 W -> EnW W (.slice s2 (layP 0 t).length c2) (layP 0 t)) := fun W hb => TrAt.env (T3.out.below hb) (HT.out W (HB2.out.trans (hb.mono HB2.out.size))) (by have := htp.n; omega)
  have HPW : Hid (∀ W, Below W2.heap.size W2 W -> TabP W) := fun W hb => HP.out W (HB2.out.trans (hb.mono HB2.out.size))
  have HPR : Hid (∀ W, Below W2.heap.size W2 W -> Calls Tryz.prog 15 #[.agg #[.slice s2 (layP 0 t).length c2]] W fun e w' => e = .returned (.tuple #[.string (strU (prnO t).1), .int .i64 (prnO t).2]) ∧ Below W.heap.size W w') := fun W hb => zmo htp (HPW.out W hb) (HE.out W hb)
  clear T2 T3 HE HPW HF ht htp
  simp only [spO, trO]
  generalize (layP 0 t).length = nl at *
  generalize prnO t = pr at *
  obtain ⟨ps, pe⟩ := pr
  have hlt := zab HR2.out
  go_wp2_with fail
  have hb3 : Below W2.heap.size W2 ((W2.alloc (.cells #[.slice s2 nl c2] 25)).alloc (.cells #[.int .i64 0, .int .i64 0] 28)) := ((Below.refl _ _).alloc (Nat.le_refl _) _).alloc (by simp) _
  refine (HPR.out _ hb3).mono ?_
  rintro e W3 ⟨rfl, b4⟩
  have b5 : Below W2.heap.size W2 W3 := hb3.trans (b4.mono hb3.size)
  have b6 : Below w.heap.size w W3 := HB2.out.trans (b5.mono HB2.out.size)
  have r6 : W3.heap[w.heap.size]? = some (.cells #[.int .i64 0, .int .i64 0] 28 (0, 0)) := (b5.block _ hlt).trans HR2.out
  have e0 : W3.cell? ⟨w.heap.size, 0, none⟩ = some (.int .i64 0) := (cell_of_row _ _ 0 _ _ _ r6).trans rfl
  have e1 : W3.cell? ⟨w.heap.size, 1, none⟩ = some (.int .i64 0) := (cell_of_row _ _ 1 _ _ _ r6).trans rfl
  have f0 : W3.frozen? ⟨w.heap.size, 0, none⟩ = false := frozen_of_row _ _ _ _ _ r6
  have f1 : W3.frozen? ⟨w.heap.size, 1, none⟩ = false := frozen_of_row _ _ _ _ _ r6
  have HDN : Hid _ := zn8 (e := pe) (p := 0) b6 r6
  clear hb3 b4 b5 b6 r6 HPR
  go_wp2
  generalize ((W3.setCell ⟨w.heap.size, 0, none⟩ (.int .i64 pe)).setCell ⟨w.heap.size, 1, none⟩ (.int .i64 0)) = Y at HDN ⊢
  exact bodyPost_ret (zcw Tryz.results17 _ Y w.heap.size 28 _ (0, 0) _ _ rfl rfl HDN.out.2 Tryz.underlying28 rfl (by kernel_rfl)) rfl (by rw [HF2.out]; exact ⟨rfl, HDN.out.1⟩)
theorem zgh (s : ByteArray) (w : World) (hT : Tabl w) (hP : TabP w) : Calls Tryz.prog 16 #[.string s] w fun e w' => e = .returned (.bool (fdB s.data.toList)) ∧ Below w.heap.size w w' := by
 have HC := zn9 s w hT hP
 have HX : Hid (fdB s.data.toList = (((fmO s.data.toList).2.1 == 0) && ((strU (fmO s.data.toList).1).toList == s.toList))) := by
  show _ = _
  unfold fdB
  rw [zby, ByteArray.toList_eq]
 generalize fmO s.data.toList = F at *
 generalize fdB s.data.toList = B at *
 obtain ⟨fs, fe1, fp⟩ := F
 generalize strU fs = S at *
 clear hT hP
 go_enter Tryz.func16, Tryz.ntmps16
 go_wp2_with fail
 refine HC.mono ?_
 rintro e W ⟨rfl, hb⟩
 have HB : Hid (Below w.heap.size w (W.alloc (.cells #[.int .i64 fe1, .int .i64 fp] 28))) := hb.alloc hb.size _
 clear hb HC
 cases z1 : (fe1 == 0)
 ·rw [z1] at HX
  go_wp2
  go_ret
  exact ⟨zam (by rw [HX.out]; rfl), HB.out⟩
 ·rw [z1] at HX
  go_wp2
  go_ret
  exact ⟨zam (by rw [HX.out]; simp), HB.out⟩
def wkPa : List UInt8 := [112, 97, 99, 107, 97, 103, 101, 32, 97, 59, 102, 117, 110, 99, 32, 102, 40, 120, 32, 105, 110, 116, 41, 105, 110, 116, 123, 114, 101, 116, 117, 114, 110, 32, 40, 120, 41, 43, 49, 125]
def wkPb : List UInt8 := [112, 97, 99, 107, 97, 103, 101, 32, 97, 10, 10, 102, 117, 110, 99, 32, 102, 40, 120, 32, 105, 110, 116, 41, 32, 105, 110, 116, 32, 123, 10, 9, 114, 101, 116, 117, 114, 110, 32, 120, 32, 43, 32, 49, 10, 125, 10]
def wkPc : List UInt8 := [112, 97, 99, 107, 97, 103, 101, 32, 97, 59]
theorem zzk : fmO wkPa = (wkPb, 0, 0) := by kernel_rfl
theorem z3f : fdB wkPb = true := by kernel_rfl
theorem z3g : fdB wkPc = false := by kernel_rfl
theorem zmp (w : World) (hT : Tabl w) (hP : TabP w) : Calls Tryz.prog 13 #[] w fun e w' => e = .returned (.bool true) ∧ Below w.heap.size w w' := by
 have HT : Hid (∀ W, Below w.heap.size w W -> Tabl W) := fun W hb => zbx hb.block hT
 have HP : Hid (∀ W, Below w.heap.size w W -> TabP W) := fun W hb => hP.low hb
 have HC : Calls Tryz.prog 17 #[.string (strU wkPa)] w fun e w' => e = .returned (.tuple #[.string (strU wkPb), .agg #[.int .i64 0, .int .i64 0]]) ∧ Below w.heap.size w w' := by
  have := zn9 (strU wkPa) w hT hP
  rw [zdi, zzk] at this
  exact this
 have HB1 : Hid (∀ W, Below w.heap.size w W -> Calls Tryz.prog 16 #[.string (strU wkPb)] W fun e w' => e = .returned (.bool true) ∧ Below W.heap.size W w') := fun W hb => by
  have := zgh (strU wkPb) W (HT.out W hb) (HP.out W hb)
  rw [zdi, z3f] at this
  exact this
 have HC1 : Hid (∀ W, Below w.heap.size w W -> Calls Tryz.prog 16 #[.string (strU wkPc)] W fun e w' => e = .returned (.bool false) ∧ Below W.heap.size W w') := fun W hb => by
  have := zgh (strU wkPc) W (HT.out W hb) (HP.out W hb)
  rw [zdi, z3g] at this
  exact this
 clear hT hP
 go_enter Tryz.func13, Tryz.ntmps13
 go_wp2_with fail
 refine HC.mono ?_
 rintro e W ⟨rfl, hb⟩
 have hsw : (strU wkPb).toList = [112, 97, 99, 107, 97, 103, 101, 32, 97, 10, 10, 102, 117, 110, 99, 32, 102, 40, 120, 32, 105, 110, 116, 41, 32, 105, 110, 116, 32, 123, 10, 9, 114, 101, 116, 117, 114, 110, 32, 120, 32, 43, 32, 49, 10, 125, 10] := zby _
 have HW : Hid (Below w.heap.size w W) := hb
 clear hb HC
 have HW2 : Hid (Below w.heap.size w (W.alloc (.cells #[.int .i64 0, .int .i64 0] 28))) := HW.out.alloc HW.out.size _
 go_wp2_with fail
 refine (HB1.out _ HW2.out).mono ?_
 rintro e W3 ⟨rfl, hb⟩
 have HW3 : Hid (Below w.heap.size w W3) := HW2.out.trans (hb.mono HW2.out.size)
 clear hb
 go_wp2_with fail
 refine (HC1.out _ HW3.out).mono ?_
 rintro e W4 ⟨rfl, hb⟩
 have HW4 : Hid (Below w.heap.size w W4) := HW3.out.trans (hb.mono HW3.out.size)
 clear hb
 go_wp2
 go_ret
 exact ⟨rfl, HW4.out⟩
theorem zhz {α : Type} {eq : α -> α -> Bool} : ∀ {a c b d : List α}, a.length = c.length -> eqAll eq (a ++ b) (c ++ d) = true -> eqAll eq a c = true ∧ eqAll eq b d = true
 | [], [], b, d, _, h => ⟨rfl, h⟩
 | [], _ :: _, _, _, h, _ => by simp at h
 | _ :: _, [], _, _, h, _ => by simp at h
 | x :: a, y :: c, b, d, hl, h => by
  rw [List.cons_append, List.cons_append, eqAll, Bool.and_eq_true] at h
  have := zhz (by simpa using hl) h.2
  exact ⟨by rw [eqAll, Bool.and_eq_true]; exact ⟨h.1, this.1⟩, this.2⟩
theorem z3h {a b : Nd} (h : ndEq a b = true) : a.kind = b.kind ∧ a.text = b.text ∧ a.num = b.num ∧ a.kids = b.kids := by
 unfold ndEq at h
 simp only [Bool.and_eq_true, beq_iff_eq] at h
 refine ⟨h.1.1.1, ?_, h.1.2, h.2⟩
 have := h.1.1.2
 first | exact this | (rw [ByteArray.toList_eq, ByteArray.toList_eq] at this; exact ByteArray.ext (Array.toList_inj.1 this))
mutual
theorem zxb : ∀ (t t' : Pt) (i : Nat), eqAll ndEq (layP i t) (layP i t') = true -> smP t t'
 | .mk k x n a f e l, .mk k' x' n' a' f' e' l', i, h => by
  rw [layP, layP, eqAll, Bool.and_eq_true] at h
  obtain ⟨h1, h2, h3, h4⟩ := z3h h.1
  have e1 : k = k' := h1
  have e2 : x = x' := h2
  have e3 : n = n' := h3
  subst e1 e2 e3
  exact zbf (ztr l l' (i + 1) h4 h.2)
theorem ztr : ∀ (l l' : List Pt) (i : Nat), kidI i l = kidI i l' -> eqAll ndEq (layL i l) (layL i l') = true -> smL l l'
 | [], [], _, _, _ => zbo
 | [], _ :: _, _, h, _ => by rw [kidI, kidI] at h; cases h
 | _ :: _, [], _, h, _ => by rw [kidI, kidI] at h; cases h
 | t :: r, t' :: r', i, h, h' => by
  rw [kidI, kidI] at h
  injection h with _ h
  rw [layL, layL] at h'
  have hc : cntP t = cntP t' := by
   cases r with
   | nil =>
    cases r' with
    | nil =>
     have hl := zcr h'
     rw [layL, layL, List.append_nil, List.append_nil, zb1, zb1] at hl
     exact hl
    | cons u s => rw [kidI, kidI] at h; cases h
   | cons u s =>
    cases r' with
    | nil => rw [kidI, kidI] at h; cases h
    | cons u' s' =>
     rw [kidI, kidI] at h
     injection h with h _
     omega
  obtain ⟨g1, g2⟩ := zhz (by rw [zb1, zb1, hc]) h'
  rw [hc] at h g2
  exact zbm (zxb t t' i g1) (ztr r r' _ h g2)
end
mutual
theorem z2c : ∀ (t t' : Pt), smP t t' -> arP t' -> arP t
 | .mk k x n a f e l, .mk k' x' n' a' f' e' l', h, h' => by
  unfold smP at h
  obtain ⟨rfl, rfl, rfl, h4⟩ := h
  rw [arP] at h' ⊢
  exact ⟨by rw [zxc l l' h4]; exact h'.1, h'.2.1, zxd l l' h4 h'.2.2⟩
theorem zxc : ∀ (l l' : List Pt), smL l l' -> l.length = l'.length
 | [], [], _ => rfl
 | [], _ :: _, h => by unfold smL smP.go at h; exact h.elim
 | _ :: _, [], h => by unfold smL smP.go at h; exact h.elim
 | t :: r, t' :: r', h => by
  unfold smL smP.go at h
  rw [List.length_cons, List.length_cons, zxc r r' h.2]
theorem zxd : ∀ (l l' : List Pt), smL l l' -> arL l' -> arL l
 | [], [], _, _ => by rw [arL]; trivial
 | [], _ :: _, h, _ => by unfold smL smP.go at h; exact h.elim
 | _ :: _, [], h, _ => by unfold smL smP.go at h; exact h.elim
 | t :: r, t' :: r', h, h' => by
  unfold smL smP.go at h
  rw [arL] at h' ⊢
  exact ⟨z2c t t' h.1 h'.1, zxd r r' h.2 h'.2⟩
end
theorem zzl {a b : List Nd} (h : eqAll ndEq a b = true) : eqAll ndEq b a = true := by
 have hl := zcr h
 rw [zc2 hl] at h
 rw [zc2 hl.symm]
 intro i x y hx hy
 have := h i y x hy hx
 unfold ndEq at this ⊢
 simp only [Bool.and_eq_true, beq_iff_eq] at this ⊢
 exact ⟨⟨⟨this.1.1.1.symm, this.1.1.2.symm⟩, this.1.2.symm⟩, this.2.symm⟩
theorem TrW.trp {t : Pt} (h : TrW t) : ∃ t', smP t t' ∧ TrP t' := by
 obtain ⟨t', p, hf, he⟩ := h.f
 have hG : ∀ q, tgood (nxT (wrP t) q) := fun q => by
  by_cases hq : q < (wrP t).length
  ·have hm : nxT (wrP t) q ∈ wrP t := by unfold nxT; rw [List.getD_eq_getElem?_getD, List.getElem?_eq_getElem hq]; simp
   have := List.any_eq_false.1 h.a _ hm
   exact znv (zzf (by simpa using this)).2
  ·have : nxT (wrP t) q = tokZ := by unfold nxT; rw [List.getD_eq_getElem?_getD, List.getElem?_eq_none (by omega)]; rfl
   rw [this]
   exact ⟨fun e => absurd e (by decide), fun e => absurd e (by decide), fun e => absurd e (by decide)⟩
 obtain ⟨h1, h2⟩ := zns hG hf
 have hs := zzl he
 refine ⟨t', zxb t t' 0 hs, h1, h2, ?_, ?_⟩
 ·have := zcr he
  have := h.n
  rw [<- zb1 t 0] at this
  omega
 ·rw [zzd _ _ _ _ _ he]
  exact h.d
theorem zmq {w : World} {sn : Option Addr} {cn : Nat} {t : Pt} (hW : TrW t) (ha : arP t) (hln : (rn (prP 0 t)).length <= 1000000000000 ∧ cntP t <= 2048) (hne : rn (prP 0 t) ≠ []) (hP : TabP w) (hE : EnW w (.slice sn (layP 0 t).length cn) (layP 0 t)) :
  Calls Tryz.prog 15 #[.agg #[.slice sn (layP 0 t).length cn]] w fun e w' => e = .returned (.tuple #[.string (strU (prnO t).1), .int .i64 (prnO t).2]) ∧ Below w.heap.size w w' := by
 have HTX : Hid (∀ W, Below w.heap.size w W -> Calls Tryz.prog 33 #[.agg #[.slice sn (layP 0 t).length cn], .int .i64 0] W fun e w' => e = .returned (.string (strU (rn (prP 0 t)))) ∧ Below W.heap.size W w') := fun W hb =>
  zit (w := W) (L := layP 0 t) 0 t (hP.low hb) (hE.low hb) (zn7 t) ha (by have := hln.2; omega) hln.1 hne
 have HTW : Hid (TrW t) := hW
 have HE : Hid (EnW w (.slice sn (layP 0 t).length cn) (layP 0 t)) := hE
 have HP : Hid (TabP w) := hP
 have HPR : Hid (prnO t = if 1024 < (wrP t).length then ([], 3) else if 4096 < (rn (prP 0 t)).length then ([], 3) else (rn (prP 0 t), 0)) := rfl
 generalize prnO t = pr at HPR ⊢
 by_cases hl : (wrP t).length <= 1024
 rotate_left
 ·have HTL := zhk (w := w.alloc (.cells #[.slice sn (layP 0 t).length cn] 25)) (TabP.low HP.out ((Below.refl _ _).alloc (Nat.le_refl _) _)) (HE.out.low ((Below.refl _ _).alloc (Nat.le_refl _) _)) HTW.out (by omega)
  have hb0 : Below w.heap.size w (w.alloc (.cells #[.slice sn (layP 0 t).length cn] 25)) := (Below.refl _ _).alloc (Nat.le_refl _) _
  have HB0 : Hid _ := hb0
  clear hb0
  have HQ : Hid (pr = ([], 3)) := by show _ = _; rw [HPR.out, if_pos (by omega)]
  clear hW ha hln hne hP hE hl
  generalize (layP 0 t).length = nl at *
  rw [HQ.out]
  go_enter Tryz.func15, Tryz.ntmps15
  go_wp2_with fail
  refine HTL.mono ?_
  rintro e W ⟨rfl, hb⟩
  have HB : Hid (Below w.heap.size w W) := HB0.out.trans (hb.mono HB0.out.size)
  clear hb HTL
  go_wp2
  go_ret2
  exact ⟨rfl, HB.out⟩
 ·have HTL := zii (w := w.alloc (.cells #[.slice sn (layP 0 t).length cn] 25)) (TabP.low HP.out ((Below.refl _ _).alloc (Nat.le_refl _) _)) (HE.out.low ((Below.refl _ _).alloc (Nat.le_refl _) _)) HTW.out hl
  have hb0 : Below w.heap.size w (w.alloc (.cells #[.slice sn (layP 0 t).length cn] 25)) := (Below.refl _ _).alloc (Nat.le_refl _) _
  have HB0 : Hid _ := hb0
  have HR0 : Hid _ := heap_alloc_new w (.cells #[.slice sn (layP 0 t).length cn] 25)
  clear hb0
  have HQ : Hid (pr = if 4096 < (rn (prP 0 t)).length then ([], 3) else (rn (prP 0 t), 0)) := by show _ = _; rw [HPR.out, if_neg (by omega)]
  have hsz : (rn (prP 0 t)).length <= 1000000000000 := hln.1
  clear hW ha hln hne hP hE hl HTW HE HP
  generalize (layP 0 t).length = nl at *
  generalize hR : rn (prP 0 t) = R at *
  have hRs : (strU R).size = R.length := zee R
  have HRS : Hid _ := hRs
  generalize hSR : strU R = SR at *
  have HSR : Hid _ := hSR
  clear hSR hRs hR
  go_enter Tryz.func15, Tryz.ntmps15
  go_wp2_with fail
  refine HTL.mono ?_
  rintro e W ⟨v', rfl, -, hb⟩
  have hbW : Below w.heap.size w W := HB0.out.trans (hb.mono HB0.out.size)
  have r1 : W.heap[w.heap.size]? = some (.cells #[.slice sn nl cn] 25 (0, 0)) := (hb.block _ (zab HR0.out)).trans HR0.out
  have c1 : W.cell? ⟨w.heap.size, 0, none⟩ = some (.slice sn nl cn) := (cell_of_row _ _ 0 _ _ _ r1).trans rfl
  have HC := HTX.out W hbW
  have HBW : Hid _ := hbW
  clear hb hbW r1 HTL
  go_wp2_with fail
  refine HC.mono ?_
  rintro e W2 ⟨rfl, hb⟩
  have HB2 : Hid (Below w.heap.size w W2) := HBW.out.trans (hb.mono HBW.out.size)
  clear hb HC
  cases hz : decide (4096 < R.length)
  ·have hz' : decide ((4096 : Int) < (SR.size : Int)) = false := by rw [HRS.out]; simp at hz ⊢; omega
   have HQ2 : Hid (pr = (R, 0)) := by show _ = _; rw [HQ.out, if_neg (by simpa using hz)]
   clear hz
   go_wp2
   go_ret2
   exact ⟨by rw [HQ2.out]; show _ = Ending.returned (.tuple #[.string (strU R), _]); rw [HSR.out]; rfl, HB2.out⟩
  ·have hz' : decide ((4096 : Int) < (SR.size : Int)) = true := by rw [HRS.out]; simp at hz ⊢; omega
   have HQ2 : Hid (pr = ([], 3)) := by show _ = _; rw [HQ.out, if_pos (by simpa using hz)]
   clear hz
   go_wp2
   go_ret2
   exact ⟨by rw [HQ2.out]; rfl, HB2.out⟩
theorem zpn {w : World} {sn : Option Addr} {cn : Nat} {t t' : Pt} (hW : TrW t) (hs : smP t t') (hp : TrP t') (hP : TabP w) (hE : EnW w (.slice sn (layP 0 t).length cn) (layP 0 t)) :
  Calls Tryz.prog 15 #[.agg #[.slice sn (layP 0 t).length cn]] w fun e w' => e = .returned (.tuple #[.string (strU (prnO t').1), .int .i64 (prnO t').2]) ∧ Below w.heap.size w w' := by
 have e := zzi t t' 0 hs
 have := zmq hW (z2c t t' hs hp.ar) (by rw [e, zij t t' hs]; exact hp.len) (by rw [e]; exact hp.ne) hP hE
 rw [zxa hs] at this
 exact this
theorem zts {w : World} {sn : Option Addr} {cn : Nat} {Z : List NdZ} (hT : Tabl w) (hP : TabP w) (hE : EnZ w (.slice sn Z.length cn) Z) (hs : SmZ Z) (hb : ∀ t, Z = (layP 0 t).map toZ -> ¬ TrW t) :
  Calls Tryz.prog 15 #[.agg #[.slice sn Z.length cn]] w fun e w' => e = .returned (.tuple #[.string ⟨#[]⟩, .int .i64 211]) ∧ Below w.heap.size w w' := by
 have hb0 : Below w.heap.size w (w.alloc (.cells #[.slice sn Z.length cn] 25)) := (Below.refl _ _).alloc (Nat.le_refl _) _
 have HC := zo9 (zbx hb0.block hT) (hP.low hb0) (hE.below hb0) hs hb
 have HB0 : Hid _ := hb0
 clear hT hP hE hs hb hb0
 generalize Z.length = nl at *
 go_enter Tryz.func15, Tryz.ntmps15
 go_wp2_with fail
 refine HC.mono ?_
 rintro e W1 ⟨rfl, b1⟩
 have HB1 : Hid (Below w.heap.size w W1) := HB0.out.trans (b1.mono HB0.out.size)
 clear b1 HC
 go_wp2
 go_ret2
 exact ⟨rfl, HB1.out⟩
theorem elZ : El 47 3 1 intZ := by
 have h : (Tryz.prog.info? 3).map (fun i => (i.zero, i.size, i.bytes)) = some (some (.int .i64 0), 1, 8) := by kernel_rfl
 refine ⟨Tryz.underlying47, ?_, fun _ => rfl, fun _ => by simp [intZ, Value.oneCell'], by omega⟩
 cases hi : Tryz.prog.info? 3 with
 | none => rw [hi] at h; cases h
 | some i =>
  rw [hi] at h
  simp only [Option.map_some, Option.some.injEq, Prod.mk.injEq] at h
  exact ⟨i, _, rfl, h.1, h.2.1, by omega, rfl⟩
abbrev OwnZ := OwnG 3 1 intZ
def RepI (w : World) (N : List NdM) (Z : List NdZ) : Prop := N.length = Z.length ∧ ∀ (i : Nat) (m : NdM) (d : NdZ), N[i]? = some m -> Z[i]? = some d ->
 (m.k = d.kind ∧ m.x = d.text ∧ m.n = d.num ∧ m.a = d.pos ∧ m.f = d.frm ∧ m.t = d.to) ∧ m.kn = d.kids.length ∧ RowsAt w 1 intZ m.ks d.kids ∧ (m.ks = none -> m.kn = 0 ∧ m.kc = 0) ∧ m.kn <= m.kc ∧ m.kc <= maxLen
theorem RepI.below {w w' : World} {N : List NdM} {Z : List NdZ} (h : RepI w N Z) (hb : Below w.heap.size w w') : RepI w' N Z :=
 ⟨h.1, fun i m d h1 h2 => by
  obtain ⟨a, b, c, e⟩ := h.2 i m d h1 h2
  exact ⟨a, b, c.below hb, e⟩⟩
def RepO (B : Nat) (w : World) (N : List NdM) (Z : List NdZ) : Prop := N.length = Z.length ∧ ∀ (i : Nat) (m : NdM) (d : NdZ), N[i]? = some m -> Z[i]? = some d ->
 (m.k = d.kind ∧ m.x = d.text ∧ m.n = d.num ∧ m.a = d.pos ∧ m.f = d.frm ∧ m.t = d.to) ∧ m.kn = d.kids.length ∧ OwnZ B w (.slice m.ks m.kn m.kc) d.kids ∧ d.kids.length <= 300
theorem RepO.keep {B : Nat} {w w' : World} {N : List NdM} {Z : List NdZ} (h : RepO B w N Z) (hh : ∀ (k : Nat) (cs : Array Value) (fr : Nat × Nat), w.heap[k]? = some (.cells cs 3 fr) -> w'.heap[k]? = w.heap[k]?) : RepO B w' N Z :=
 ⟨h.1, fun i m d h1 h2 => by
  obtain ⟨a, b, c, e⟩ := h.2 i m d h1 h2
  refine ⟨a, b, OwnG.keep c fun k hk => ?_, e⟩
  rcases c.2 with ⟨e1, _⟩ | ⟨g', cap, cur, e1, _, hg, _⟩
  ·rw [e1] at hk; cases hk
  ·rw [e1] at hk
   have : g' = k := by simpa [Value.ownBlock] using hk
   subst this
   exact hh _ _ _ hg⟩
theorem RepO.below {B : Nat} {w w' : World} {N : List NdM} {Z : List NdZ} (h : RepO B w N Z) (hb : Below w.heap.size w w') : RepO B w' N Z := h.keep fun k _ _ hk => hb.block k (lt_of_block hk)
theorem RepO.snoc {B : Nat} {w : World} {N : List NdM} {Z : List NdZ} {m : NdM} {d : NdZ} (h : RepO B w N Z) (hd : (m.k = d.kind ∧ m.x = d.text ∧ m.n = d.num ∧ m.a = d.pos ∧ m.f = d.frm ∧ m.t = d.to) ∧ m.kn = d.kids.length ∧ OwnZ B w (.slice m.ks m.kn m.kc) d.kids ∧ d.kids.length <= 300) : RepO B w (N ++ [m]) (Z ++ [d]) :=
 ⟨by simp [h.1], fun i m' d' e1 e2 => by
  by_cases hi : i < N.length
  ·rw [List.getElem?_append_left hi] at e1
   rw [List.getElem?_append_left (by rw [<- h.1]; exact hi)] at e2
   exact h.2 i m' d' e1 e2
  ·rw [List.getElem?_append_right (by omega)] at e1
   rw [List.getElem?_append_right (by rw [<- h.1]; omega), <- h.1] at e2
   have h0 : i - N.length = 0 := by have := (List.getElem?_eq_some_iff.1 e1).1; simp at this; omega
   rw [h0] at e1 e2
   obtain rfl : m = m' := by simpa using e1
   obtain rfl : d = d' := by simpa using e2
   exact hd⟩
theorem RepO.z {B : Nat} {w : World} {N : List NdM} {Z : List NdZ} (h : RepO B w N Z) : RepZ w N Z :=
 ⟨h.1, fun i m d h1 h2 => by
  obtain ⟨a, b, c, e⟩ := h.2 i m d h1 h2
  obtain ⟨s, c', e1, hr, hz, hc, hm⟩ := OwnG.rows elZ c
  injection e1 with e1 e2 e3
  subst e1 e3
  exact ⟨a, b, hr, ⟨fun h => ⟨by rw [b]; exact (hz h).1, (hz h).2⟩, by rw [b]; exact hc, hm⟩, by omega⟩⟩
def cutZ (d : NdZ) : NdZ := ⟨d.kind, strU (d.text.data.toList.take 4096), d.num, d.kids.take 300, d.pos, d.frm, d.to⟩
def fewZ (Z : List NdZ) : List NdZ := (Z.take 2049).map cutZ
theorem zjy (Z : List NdZ) : (fewZ Z).length = min Z.length 2049 := by simp [fewZ, Nat.min_comm]
theorem z2d {Z : List NdZ} {q : Nat} {d : NdZ} (h : Z[q]? = some d) (hq : q < 2049) : (fewZ Z).take (q + 1) = (fewZ Z).take q ++ [cutZ d] := by
 rw [List.take_add_one]
 congr 1
 unfold fewZ
 rw [List.getElem?_map, List.getElem?_take, if_pos hq, h]
 rfl
theorem zpo {w : World} {sp : Option Addr} {ks : List Int} (h : RowsAt w 1 intZ sp ks) (n : Nat) : RowsAt w 1 intZ sp (ks.take n) := fun hl => by
 obtain ⟨b, o, e, hc⟩ := h (by rw [List.length_take] at hl; omega)
 refine ⟨b, o, e, fun i x hx => hc i x ?_⟩
 rw [List.getElem?_take] at hx
 split at hx
 ·exact hx
 ·cases hx
theorem zvz {B : Nat} {W0 wr : World} {s3 : Option Addr} {n3 c3 : Nat} {M : List NdM} {Y : List NdZ} {m : NdM} {d : NdZ} {T : ByteArray} (ho : OwnN B wr (.slice s3 n3 c3) M) (hr : RepO B wr M Y) (hb : Below B W0 wr) (hBs : B <= wr.heap.size) (hY : Y.length <= 2049)
  (hn : m.ks = none -> m.kn = 0 ∧ m.kc = 0) (hk : m.kn = d.kids.length) (hR : RowsAt wr 1 intZ m.ks d.kids) (hT : T = strU (d.text.data.toList.take 4096)) :
  ∃ ks kn kc X v2 X2, (Builtin.append_ #[47, 47] 47 #[.slice (some ⟨wr.heap.size + 1, 0, none⟩) 0 0, .slice m.ks (min (d.kids.length : Int) 300).toNat m.kc]).run Tryz.prog ((wr.alloc (.cells #[.int .i64 d.kind, .string T, .int .i64 d.num, .slice m.ks d.kids.length m.kc, .int .i64 d.pos, .int .i64 d.frm, .int .i64 d.to] 49)).alloc (.cells #[] 3)) = .ok (.slice ks kn kc) X ∧
   X.cell? ⟨wr.heap.size, 3, none⟩ = some (.slice m.ks d.kids.length m.kc) ∧ X.frozen? ⟨wr.heap.size, 3, none⟩ = false ∧
   (X.setCell ⟨wr.heap.size, 3, none⟩ (.slice ks kn kc)).heap[wr.heap.size]? = some (.cells (NdM.cells ⟨d.kind, T, d.num, ks, kn, kc, d.pos, d.frm, d.to⟩) 49 (0, 0)) ∧
   (Builtin.append_ #[23, 23] 23 #[.slice s3 n3 c3, .slice (some ⟨X.heap.size, 0, none⟩) 1 1]).run Tryz.prog ((X.setCell ⟨wr.heap.size, 3, none⟩ (.slice ks kn kc)).alloc (.cells (NdM.cells ⟨d.kind, T, d.num, ks, kn, kc, d.pos, d.frm, d.to⟩) 49)) = .ok v2 X2 ∧
   OwnN B X2 v2 (M ++ [⟨d.kind, T, d.num, ks, kn, kc, d.pos, d.frm, d.to⟩]) ∧ RepO B X2 (M ++ [⟨d.kind, T, d.num, ks, kn, kc, d.pos, d.frm, d.to⟩]) (Y ++ [cutZ d]) ∧ Below B W0 X2 := by
 obtain ⟨W2, hW2⟩ : ∃ W2, (wr.alloc (.cells #[.int .i64 d.kind, .string T, .int .i64 d.num, .slice m.ks d.kids.length m.kc, .int .i64 d.pos, .int .i64 d.frm, .int .i64 d.to] 49)).alloc (.cells #[] 3) = W2 := ⟨_, rfl⟩
 have hb2 : Below wr.heap.size wr W2 := by rw [<- hW2]; exact ((Below.refl _ _).alloc (Nat.le_refl _) _).alloc (by simp) _
 have hs2 : W2.heap.size = wr.heap.size + 2 := by rw [<- hW2]; simp
 have n0 : W2.heap[wr.heap.size]? = some (.cells #[.int .i64 d.kind, .string T, .int .i64 d.num, .slice m.ks d.kids.length m.kc, .int .i64 d.pos, .int .i64 d.frm, .int .i64 d.to] 49 (0, 0)) := by rw [<- hW2]; exact (Below.heap_alloc _ _ _ (by simp)).trans (heap_alloc_new _ _)
 have n1 : W2.heap[wr.heap.size + 1]? = some (.cells #[] 3 (0, 0)) := by
  have := heap_alloc_new (wr.alloc (.cells #[.int .i64 d.kind, .string T, .int .i64 d.num, .slice m.ks d.kids.length m.kc, .int .i64 d.pos, .int .i64 d.frm, .int .i64 d.to] 49)) (.cells #[] 3)
  rw [World.size_alloc, hW2] at this
  exact this
 rw [hW2]
 have o1 : OwnZ wr.heap.size W2 (.slice (some ⟨wr.heap.size + 1, 0, none⟩) 0 0) [] := ⟨rfl, .inr ⟨wr.heap.size + 1, 0, #[], rfl, by omega, n1, Nat.le_refl _, Nat.zero_le _, rfl, rfl⟩⟩
 have hl : (d.kids.take 300).length = (min (d.kids.length : Int) 300).toNat := by rw [List.length_take]; omega
 obtain ⟨v1, X, q1, q2, q3, q4⟩ := zdm (ys := d.kids.take 300) (cap := m.kc) elZ 47 o1 (fun e => by have := hn e; rw [List.length_take]; omega) (zpo (hR.below hb2) 300) (by rw [List.length_take]; simp; omega) (by omega)
 rw [hl] at q1
 rw [List.nil_append] at q2
 obtain ⟨ks, kc, rfl⟩ := OwnG.shape q2
 have hbX : Below wr.heap.size wr X := OwnG.grown o1 (Nat.le_refl _) (by omega) hb2 q3
 have r0 := (q3.block wr.heap.size (by omega) (by simp [Value.ownBlock])).trans n0
 obtain ⟨X1, hX1⟩ : ∃ X1, X.setCell ⟨wr.heap.size, 3, none⟩ (.slice ks (d.kids.take 300).length kc) = X1 := ⟨_, rfl⟩
 have r1 : X1.heap[wr.heap.size]? = some (.cells (NdM.cells ⟨d.kind, T, d.num, ks, (d.kids.take 300).length, kc, d.pos, d.frm, d.to⟩) 49 (0, 0)) := by rw [<- hX1]; exact heap_setCell_same _ _ 3 _ _ _ r0
 have hs1 : X1.heap.size = X.heap.size := by rw [<- hX1]; simp
 have hb1 : Below wr.heap.size wr X1 := by rw [<- hX1]; exact hbX.setCell (p := ⟨wr.heap.size, 3, none⟩) (Nat.le_refl _) _
 have k1 : OwnZ wr.heap.size X1 (.slice ks (d.kids.take 300).length kc) (d.kids.take 300) := by
  rw [<- hX1]
  refine q2.keep fun k hk => heap_setCell_other _ _ _ _ fun e => ?_
  have e' : k = wr.heap.size := e
  rcases q4 with h | h
  ·rw [hk, e'] at h; simp [Value.ownBlock] at h
  ·rw [hk, e'] at h; simp at h; omega
 refine ⟨ks, (d.kids.take 300).length, kc, X, ?_⟩
 rw [hX1]
 obtain ⟨m', hm'⟩ : ∃ m' : NdM, (⟨d.kind, T, d.num, ks, (d.kids.take 300).length, kc, d.pos, d.frm, d.to⟩ : NdM) = m' := ⟨_, rfl⟩
 have hb5 : Below wr.heap.size wr (X1.alloc (.cells m'.cells 49)) := hb1.alloc hb1.size _
 have hb6 : Below X1.heap.size X1 (X1.alloc (.cells m'.cells 49)) := (Below.refl _ _).alloc (Nat.le_refl _) _
 have hrow := heap_alloc_new X1 (.cells m'.cells 49)
 have hMl := hr.1
 have hxs := hb1.size
 obtain ⟨v2, X2, p1, p2, p3, -⟩ := zdm (ys := [m']) (cap := 1) elN 23 (ho.below hb5) (fun e => by cases e) (zai (x := m') hrow) (by simp; omega) (by simp; omega)
 rw [hs1] at p1
 have hk5 : OwnZ B (X1.alloc (.cells m'.cells 49)) (.slice ks (d.kids.take 300).length kc) (d.kids.take 300) := OwnG.mono (k1.below hb6) hBs
 have hro : RepO B (X1.alloc (.cells m'.cells 49)) (M ++ [m']) (Y ++ [cutZ d]) := by
  refine (hr.below hb5).snoc ?_
  rw [<- hm'] at hk5 ⊢
  exact ⟨⟨rfl, hT, rfl, rfl, rfl, rfl⟩, rfl, hk5, by show (d.kids.take 300).length <= 300; rw [List.length_take]; omega⟩
 refine ⟨v2, X2, q1, ?_⟩
 rw [hm']
 refine ⟨(cell_of_row _ _ _ _ _ _ r0).trans rfl, frozen_of_row _ _ _ _ _ r0, by rw [<- hm']; exact r1, p1, p2, hro.keep fun k cs fr hk => ?_, OwnG.grown (ho.below hb5) (Nat.le_refl _) (by simp; omega) (hb.trans (hb5.mono hBs)) p3⟩
 exact p3.block k (lt_of_block hk) (fun e => OwnG.ne (ho.below hb5) hk (by decide) e.symm)
theorem ztt {w W : World} {v : Value} {M : List NdM} {Z : List NdZ} (h1 : OwnN w.heap.size W v M) (h2 : RepO w.heap.size W M Z) (hb : Below w.heap.size w W) (hz : W.heap[w.heap.size + 1]? = some (.cells #[.slice none 0 0] 25 (0, 0))) :
  OwnN w.heap.size (W.setCell ⟨w.heap.size + 1, 0, none⟩ v) v M ∧ RepO w.heap.size (W.setCell ⟨w.heap.size + 1, 0, none⟩ v) M Z ∧ Below w.heap.size w (W.setCell ⟨w.heap.size + 1, 0, none⟩ v) ∧ (W.setCell ⟨w.heap.size + 1, 0, none⟩ v).heap[w.heap.size + 1]? = some (.cells #[v] 25 (0, 0)) := by
 refine ⟨h1.keep fun q hq => heap_setCell_other _ _ _ _ fun e => h1.ne hz (by decide) (by rw [hq, show q = w.heap.size + 1 from e]), h2.keep fun k cs fr hk => heap_setCell_other _ _ _ _ fun e => ?_, hb.setCell (p := ⟨w.heap.size + 1, 0, none⟩) (by simp) _, heap_setCell_same _ _ 0 _ _ _ hz⟩
 have e' : k = w.heap.size + 1 := e
 rw [e', hz] at hk
 simp at hk
set_option maxHeartbeats 8000000 in
theorem ztu (sp : Option Addr) (cap : Nat) (N : List NdM) (Z : List NdZ) (w : World) (hr : RowsAt w 7 NdM.cells sp N) (hi : RepI w N Z) (hlm : N.length <= maxLen) : Calls Tryz.prog 14 #[.agg #[.slice sp N.length cap]] w fun e w' =>
  ∃ v M, e = .returned (.agg #[v]) ∧ OwnN w.heap.size w' v M ∧ RepO w.heap.size w' M (fewZ Z) ∧ Below w.heap.size w w' := by
 have HRW : Hid (RowsAt w 7 NdM.cells sp N) := hr
 have HIW : Hid (RepI w N Z) := hi
 have hNm : N.length <= 9223372036854775807 := hlm
 have HNZ : Hid (N.length = Z.length) := hi.1
 clear hr hi hlm
 go_enter Tryz.func14, Tryz.ntmps14
 go_wp2_with fail
 have hb0 : Below w.heap.size w ((w.alloc (.cells #[.slice sp N.length cap] 25)).alloc (.cells #[.slice none 0 0] 25)) := ((Below.refl _ _).alloc (Nat.le_refl _) _).alloc (by simp) _
 have hrr := heap_alloc_new (w.alloc (.cells #[.slice sp N.length cap] 25)) (.cells #[.slice none 0 0] 25)
 simp only [World.size_alloc] at hrr
 have hns := zcp (e := 49) (m := 7) (f := NdM.cells) ((w.alloc (.cells #[.slice sp N.length cap] 25)).alloc (.cells #[.slice none 0 0] 25)).heap.size ((w.alloc (.cells #[.slice sp N.length cap] 25)).alloc (.cells #[.slice none 0 0] 25))
 have HB0 : Hid _ := hb0
 have HRR : Hid _ := hrr
 have HNS : Hid _ := hns
 clear hb0 hrr hns
 generalize ((w.alloc (.cells #[.slice sp N.length cap] 25)).alloc (.cells #[.slice none 0 0] 25)) = W1 at *
 go_loopw [3, 9] (fun u i wr => ∃ (q : Nat) (M : List NdM), q <= N.length ∧ q <= 2049 ∧ i = .int .i64 q ∧ OwnN W1.heap.size wr u M ∧ RepO W1.heap.size wr M ((fewZ Z).take q) ∧ Below W1.heap.size W1 wr) (fun _ i _ => N.length - (intOf i).toNat)
 case atStart => exact ⟨0, [], Nat.zero_le _, Nat.zero_le _, rfl, HNS.out, ⟨rfl, fun i m d h => by simp at h⟩, Below.refl _ _⟩
 case round =>
  obtain ⟨q, M, hq, hq2, rfl, ho, hro, hb⟩ := hrel
  have HO : Hid (OwnN W1.heap.size wr u3 M) := ho
  have HRO : Hid (RepO W1.heap.size wr M ((fewZ Z).take q)) := hro
  have HB : Hid (Below W1.heap.size W1 wr) := hb
  clear ho hro hb
  have fin : ∀ (_ : (fewZ Z).length <= q), ∃ v M, OwnN w.heap.size wr v M ∧ RepO w.heap.size wr M (fewZ Z) ∧ v = u3 := fun h => by
   have h2 := HRO.out
   rw [List.take_of_length_le h] at h2
   have hs := HB0.out.size
   refine ⟨u3, M, OwnG.mono HO.out hs, ⟨h2.1, fun i m d e1 e2 => ?_⟩, rfl⟩
   obtain ⟨a, b, c, e⟩ := h2.2 i m d e1 e2
   exact ⟨a, b, OwnG.mono c hs, e⟩
  by_cases z : q < N.length
  ·have hd : decide ((q : Int) < N.length) = true := by simp; omega
   obtain ⟨m, hm⟩ : ∃ m, N[q]? = some m := ⟨_, List.getElem?_eq_getElem z⟩
   obtain ⟨d, hdz⟩ : ∃ d, Z[q]? = some d := ⟨_, List.getElem?_eq_getElem (by have := HNZ.out; omega)⟩
   obtain ⟨hie, hik, hir, hin, hic, hix⟩ := (HIW.out.below (HB0.out.trans (HB.out.mono HB0.out.size))).2 q m d hm hdz
   have hnr := HRW.out.below (HB0.out.trans (HB.out.mono HB0.out.size))
   obtain ⟨b, o, rfl, -⟩ := hnr (by omega)
   obtain ⟨k0, k1, k2, k3, k4, k5, k6⟩ := zag hnr hm
   have ltb := block_lt_of_cell k0
   have HIR : Hid (RowsAt wr 1 intZ m.ks d.kids) := hir
   clear hnr hm hir
   cases z1 : (q == 2049)
   rotate_left
   focus (
    have z1' : ((q : Int) == 2049) = true := by have h0 : q = 2049 := (by simpa using z1); simp; omega
    obtain ⟨v, M2, f1, f2, rfl⟩ := fin (by have h0 : q = 2049 := (by simpa using z1); rw [zjy]; omega)
    obtain ⟨s1, c1, rfl⟩ := OwnG.shape f1
    have hrr1 : wr.heap[w.heap.size + 1]? = some (.cells #[.slice none 0 0] 25) := (HB.out.block _ (lt_of_block HRR.out)).trans HRR.out
    have hx : w.heap.size + 1 < wr.heap.size := lt_of_block hrr1
    obtain ⟨W2, HW2⟩ : ∃ W2, Hid (wr.alloc (.cells #[.int .i64 d.kind, .string d.text, .int .i64 d.num, .slice m.ks d.kids.length m.kc, .int .i64 d.pos, .int .i64 d.frm, .int .i64 d.to] 49) = W2) := ⟨_, rfl⟩
    have hb2 : Below wr.heap.size wr W2 := by rw [<- HW2.out]; exact (Below.refl _ _).alloc (Nat.le_refl _) _
    have hrr2 := (hb2.block _ hx).trans hrr1
    have FE : Hid _ := ztt (f1.below hb2) (RepO.below f2 hb2) ((HB0.out.trans (HB.out.mono HB0.out.size)).trans (hb2.mono (Nat.le_trans HB0.out.size HB.out.size))) hrr2
    have cz : W2.cell? ⟨w.heap.size + 1, 0, none⟩ = some (.slice none 0 0) := (cell_of_row _ _ _ _ _ _ hrr2).trans rfl
    have fz : W2.frozen? ⟨w.heap.size + 1, 0, none⟩ = false := frozen_of_row _ _ _ _ _ hrr2
    clear z1 f1 f2 fin hb2 hrr2 hrr1 hx
    go_wp2_with (rw [HW2.out])
    exact bodyPost_ret (v := .agg #[.slice s1 M2.length c1]) (zdj Tryz.results14 _ _ (w.heap.size + 1) 25 #[.slice s1 M2.length c1] (0, 0) _ rfl FE.out.2.2.2 Tryz.underlying25 rfl (by kernel_rfl)) rfl (by first | exact ⟨_, rfl, _, FE.out.1, FE.out.2.1, FE.out.2.2.1⟩ | exact ⟨_, _, rfl, FE.out.1, FE.out.2.1, FE.out.2.2.1⟩))
   have z1' : ((q : Int) == 2049) = false := by have h0 : ¬ q = 2049 := (by simpa using z1); simp; omega
   clear z1
   clear fin
   obtain ⟨s3, c3, rfl⟩ := OwnG.shape HO.out
   obtain ⟨T, hT⟩ : ∃ T, strU (d.text.data.toList.take 4096) = T := ⟨_, rfl⟩
   have hcs : d.text.extract 0 (min (d.text.size : Int) 4096).toNat = T := (zu3 d.text 4096).trans hT
   have hq9 : q < 2049 := by have : ¬ ((q : Int) = 2049) := (by simpa using z1'); omega
   obtain ⟨ks, kn, kc, X, v2, X2, e1, e2, e3, e4, e5, e6, e7, e8⟩ := zvz (T := T) HO.out HRO.out HB.out HB.out.size (by rw [List.length_take, zjy]; omega) hin hik HIR.out hT.symm
   rw [<- z2d hdz hq9] at e7
   obtain ⟨X1, HX1⟩ : ∃ X1, Hid (X.setCell ⟨wr.heap.size, 3, none⟩ (.slice ks kn kc) = X1) := ⟨_, rfl⟩
   rw [HX1.out] at e4 e5
   have y0 : X1.cell? ⟨wr.heap.size, 0, none⟩ = some (.int .i64 d.kind) := (cell_of_row _ _ _ _ _ _ e4).trans rfl
   have y1 : X1.cell? ⟨wr.heap.size, 1, none⟩ = some (.string T) := (cell_of_row _ _ _ _ _ _ e4).trans rfl
   have y2 : X1.cell? ⟨wr.heap.size, 2, none⟩ = some (.int .i64 d.num) := (cell_of_row _ _ _ _ _ _ e4).trans rfl
   have y3 : X1.cell? ⟨wr.heap.size, 3, none⟩ = some (.slice ks kn kc) := (cell_of_row _ _ _ _ _ _ e4).trans rfl
   have y4 : X1.cell? ⟨wr.heap.size, 4, none⟩ = some (.int .i64 d.pos) := (cell_of_row _ _ _ _ _ _ e4).trans rfl
   have y5 : X1.cell? ⟨wr.heap.size, 5, none⟩ = some (.int .i64 d.frm) := (cell_of_row _ _ _ _ _ _ e4).trans rfl
   have y6 : X1.cell? ⟨wr.heap.size, 6, none⟩ = some (.int .i64 d.to) := (cell_of_row _ _ _ _ _ _ e4).trans rfl
   have hs1 : X1.heap.size = X.heap.size := by rw [<- HX1.out]; simp
   have E6 : Hid _ := e6
   have E7 : Hid _ := e7
   have E8 : Hid _ := e8
   rw [<- hs1] at e5
   clear e4 e6 e7 e8 hT HO HRO HB hdz hs1
   go_wp2_with (first | rw [HX1.out] | (at_builtin; refine zbc (.tmp 24) (.tmp 31) 47 (by rfl) (by rfl) (by rfl) (by rfl) e1 ?_) | (at_builtin; refine zbc (.tmp 34) (.tmp 36) 23 (by rfl) (by rfl) (by rfl) (by rfl) e5 ?_))
   exact ⟨⟨q + 1, _, by omega, by omega, by go_num, E6.out, E7.out, E8.out⟩, by simp [intOf]; omega⟩
  ·have hd : decide ((q : Int) < N.length) = false := by simp; omega
   obtain ⟨v, M2, f1, f2, rfl⟩ := fin (by have := HNZ.out; rw [zjy]; omega)
   obtain ⟨s1, c1, rfl⟩ := OwnG.shape f1
   have hrr1 : wr.heap[w.heap.size + 1]? = some (.cells #[.slice none 0 0] 25) := (HB.out.block _ (lt_of_block HRR.out)).trans HRR.out
   have FE : Hid _ := ztt f1 f2 (HB0.out.trans (HB.out.mono HB0.out.size)) hrr1
   have cz : wr.cell? ⟨w.heap.size + 1, 0, none⟩ = some (.slice none 0 0) := (cell_of_row _ _ _ _ _ _ hrr1).trans rfl
   have fz : wr.frozen? ⟨w.heap.size + 1, 0, none⟩ = false := frozen_of_row _ _ _ _ _ hrr1
   clear f1 f2 fin hrr1
   go_wp2
   exact bodyPost_ret (v := .agg #[.slice s1 M2.length c1]) (zdj Tryz.results14 _ _ (w.heap.size + 1) 25 #[.slice s1 M2.length c1] (0, 0) _ rfl FE.out.2.2.2 Tryz.underlying25 rfl (by kernel_rfl)) rfl (by first | exact ⟨_, rfl, _, FE.out.1, FE.out.2.1, FE.out.2.2.1⟩ | exact ⟨_, _, rfl, FE.out.1, FE.out.2.1, FE.out.2.2.1⟩)
mutual
theorem z2e : ∀ (a b c : Pt), smP a b -> smP b c -> smP a c
 | .mk _ _ _ _ _ _ l, .mk _ _ _ _ _ _ l', .mk _ _ _ _ _ _ l'', h, g => by
  unfold smP at h g ⊢
  obtain ⟨rfl, rfl, rfl, h4⟩ := h
  obtain ⟨rfl, rfl, rfl, g4⟩ := g
  exact ⟨rfl, rfl, rfl, zxe l l' l'' h4 g4⟩
theorem zxe : ∀ (a b c : List Pt), smL a b -> smL b c -> smL a c
 | [], [], [], _, _ => zbo
 | [], _ :: _, _, h, _ => by unfold smL smP.go at h; exact h.elim
 | _ :: _, [], _, h, _ => by unfold smL smP.go at h; exact h.elim
 | [], [], _ :: _, _, h => by unfold smL smP.go at h; exact h.elim
 | _ :: _, _ :: _, [], _, h => by unfold smL smP.go at h; exact h.elim
 | t :: r, t' :: r', t'' :: r'', h, g => by
  unfold smL smP.go at h g
  exact zbm (z2e t t' t'' h.1 g.1) (zxe r r' r'' h.2 g.2)
end
theorem z2f {Z : List NdZ} (h : ∀ d ∈ Z, -9223372036854775808 <= d.num ∧ d.num <= 9223372036854775807) : SmZ (fewZ Z) := fun d hd => by
 unfold fewZ at hd
 obtain ⟨d0, h0, rfl⟩ := List.mem_map.1 hd
 refine ⟨?_, h d0 (List.mem_of_mem_take h0)⟩
 show (strU (d0.text.data.toList.take 4096)).size <= 40000
 rw [zee, List.length_take]
 omega
theorem z2g {B : Nat} {w : World} {v : Value} {M : List NdM} {Z : List NdZ} (h : OwnN B w v M) (hr : RepO B w M (fewZ Z)) : ∃ sn cn, v = .slice sn (fewZ Z).length cn ∧ EnZ w v (fewZ Z) := by
 obtain ⟨s, c, rfl, h1, -⟩ := OwnG.rows elN h
 rw [hr.1]
 exact ⟨s, c, rfl, ⟨s, c, M, rfl, h1, hr.z⟩, by rw [zjy]; omega⟩
theorem zzm {t : Pt} (h : (prnO t).2 ≠ 0) : (prnO t).1 = [] := by
 unfold prnO at h ⊢
 split at h
 ·rename_i h1; rw [if_pos h1]
 rename_i h1
 rw [if_neg h1]
 split at h
 ·rename_i h2; rw [if_pos h2]
 ·exact absurd rfl h
theorem ztv {Z : List NdZ} (hs : SmZ Z) : (∃ er : Int, er ≠ 0 ∧ ∀ (w : World) (sn : Option Addr) (cn : Nat), Tabl w -> TabP w -> EnZ w (.slice sn Z.length cn) Z -> Calls Tryz.prog 15 #[.agg #[.slice sn Z.length cn]] w fun e w' => e = .returned (.tuple #[.string ⟨#[]⟩, .int .i64 er]) ∧ Below w.heap.size w w') ∨
  ∃ (t u : Pt) (S : ByteArray), Z = (layP 0 t).map toZ ∧ cntP t <= 2048 ∧ cntP u <= 2048 ∧ txtO S.data.toList = .inr u ∧ eqAll ndEq (layP 0 t) (layP 0 u) = true ∧ fdB S.data.toList = true ∧
   ∀ (w : World) (sn : Option Addr) (cn : Nat), Tabl w -> TabP w -> EnZ w (.slice sn Z.length cn) Z -> Calls Tryz.prog 15 #[.agg #[.slice sn Z.length cn]] w fun e w' => e = .returned (.tuple #[.string S, .int .i64 0]) ∧ Below w.heap.size w w' := by
 by_cases hb : ∃ t, Z = (layP 0 t).map toZ ∧ TrW t
 ·obtain ⟨t, hz, hW⟩ := hb
  obtain ⟨t', hsm, hp⟩ := hW.trp
  have hpr : ∀ (w : World) (sn : Option Addr) (cn : Nat), Tabl w -> TabP w -> EnZ w (.slice sn Z.length cn) Z -> Calls Tryz.prog 15 #[.agg #[.slice sn Z.length cn]] w fun e w' => e = .returned (.tuple #[.string (strU (prnO t').1), .int .i64 (prnO t').2]) ∧ Below w.heap.size w w' := fun w sn cn hT hP hE => by
   have hE' := hE.enw hz hT
   have hl : Z.length = (layP 0 t).length := by rw [hz, List.length_map]
   rw [hl] at hE' ⊢
   exact zpn hW hsm hp hP hE'
  by_cases h0 : (prnO t').2 = 0
  ·obtain ⟨e1, u, ms, e2, e3, -, -⟩ := zn4 hp h0
   have e4 := (zpd hp h0).2
   refine .inr ⟨t, u, strU (rn (prP 0 t')), hz, hW.n, ?_, ?_, zk4 t u 0 (z2e _ _ _ hsm e3), ?_, fun w sn cn hT hP hE => ?_⟩
   ·rw [<- zij _ _ e3, <- zij _ _ hsm]; exact hW.n
   ·exact e2
   ·exact e4
   ·have := hpr w sn cn hT hP hE
    rw [e1, h0] at this
    exact this
  ·refine .inl ⟨(prnO t').2, h0, fun w sn cn hT hP hE => ?_⟩
   have := hpr w sn cn hT hP hE
   rw [zzm h0] at this
   exact this
 ·exact .inl ⟨211, by decide, fun w sn cn hT hP hE => zts hT hP hE hs fun t h h2 => hb ⟨t, h, h2⟩⟩
theorem zjz (sp : Option Addr) (cap : Nat) (N : List NdM) (Z : List NdZ) (w : World) (hr : RowsAt w 7 NdM.cells sp N) (hi : RepI w N Z) (hlm : N.length <= maxLen) (hz : ∀ d ∈ Z, -9223372036854775808 <= d.num ∧ d.num <= 9223372036854775807) (hT : Tabl w) (hP : TabP w) : Calls Tryz.prog 4 #[.agg #[.slice sp N.length cap]] w fun e w' => e = .returned (.bool true) ∧ Below w.heap.size w w' := by
 have HT : Hid (∀ W, Below w.heap.size w W -> Tabl W) := fun W hb => zbx hb.block hT
 have HP : Hid (∀ W, Below w.heap.size w W -> TabP W) := fun W hb => hP.low hb
 have HWK : Hid (∀ W, Below w.heap.size w W -> Calls Tryz.prog 13 #[] W fun e w' => e = .returned (.bool true) ∧ Below W.heap.size W w') := fun W hb => zmp W (HT.out W hb) (HP.out W hb)
 have HFW : Hid (∀ W, Below w.heap.size w W -> Calls Tryz.prog 14 #[.agg #[.slice sp N.length cap]] W fun e w' => ∃ sn cn, e = .returned (.agg #[.slice sn (fewZ Z).length cn]) ∧ EnZ w' (.slice sn (fewZ Z).length cn) (fewZ Z) ∧ Below W.heap.size W w') := fun W hb => by
  refine (ztu sp cap N Z W (hr.below hb) (hi.below hb) hlm).mono ?_
  rintro e W' ⟨v, M, rfl, h1, h2, h3⟩
  obtain ⟨sn, cn, rfl, h4⟩ := z2g h1 h2
  exact ⟨sn, cn, rfl, h4, h3⟩
 have HPR := ztv (z2f hz)
 clear hr hi hz hlm hT hP
 generalize fewZ Z = Y at *
 go_enter Tryz.func4, Tryz.ntmps4
 go_wp2_with fail
 have HB0 : Hid (Below w.heap.size w (w.alloc (.cells #[.slice sp N.length cap] 25))) := (Below.refl _ _).alloc (Nat.le_refl _) _
 have HR0 : Hid _ := heap_alloc_new w (.cells #[.slice sp N.length cap] 25)
 refine (HWK.out _ HB0.out).mono ?_
 rintro e W1 ⟨rfl, b1⟩
 have HB1 : Hid (Below w.heap.size w W1) := HB0.out.trans (b1.mono HB0.out.size)
 have r1 := (b1.block _ (by simp)).trans HR0.out
 have c1 : W1.cell? ⟨w.heap.size, 0, none⟩ = some (.slice sp N.length cap) := (cell_of_row _ _ 0 _ _ _ r1).trans rfl
 clear b1 r1 HR0 HB0 HWK
 go_wp2_with fail
 refine (HFW.out _ HB1.out).mono ?_
 rintro e W2 ⟨sn, cn, rfl, hE, b2⟩
 have HB2 : Hid (Below w.heap.size w W2) := HB1.out.trans (b2.mono HB1.out.size)
 have HE2 : Hid (EnZ W2 (.slice sn Y.length cn) Y) := hE
 have HB3 : Hid (Below w.heap.size w (W2.alloc (.cells #[.slice sn Y.length cn] 25))) := HB2.out.alloc HB2.out.size _
 have hbt : Below W2.heap.size W2 (W2.alloc (.cells #[.slice sn Y.length cn] 25)) := (Below.refl _ _).alloc (Nat.le_refl _) _
 have HE3 : Hid (EnZ (W2.alloc (.cells #[.slice sn Y.length cn] 25)) (.slice sn Y.length cn) Y) := hE.below hbt
 have HR2 : Hid _ := heap_alloc_new W2 (.cells #[.slice sn Y.length cn] 25)
 clear b2 hE c1 HFW hbt
 rcases HPR with ⟨er, her, hpr⟩ | ⟨t, u, S, hY, ht, hu, htx, heq, hfd, hpr⟩
 ·have HC := hpr _ sn cn (HT.out _ HB3.out) (HP.out _ HB3.out) HE3.out
  have z1 : (er == 0) = false := by simpa using her
  have z2 : (er != 0) = true := by simp [bne, z1]
  clear hpr her HE2 HE3 HR2
  go_wp2_with fail
  refine HC.mono ?_
  rintro e W3 ⟨rfl, b3⟩
  have HB4 : Hid (Below w.heap.size w W3) := HB3.out.trans (b3.mono HB3.out.size)
  clear b3 HC
  go_wp2
  go_ret
  exact ⟨rfl, HB4.out⟩
 ·have HC := hpr _ sn cn (HT.out _ HB3.out) (HP.out _ HB3.out) HE3.out
  have HY : Hid (Y = (layP 0 t).map toZ ∧ cntP t <= 2048 ∧ cntP u <= 2048 ∧ eqAll ndEq (layP 0 t) (layP 0 u) = true) := ⟨hY, ht, hu, heq⟩
  have HTX : Hid (∀ W, Below w.heap.size w W -> Calls Tryz.prog 8 #[.string S] W (PrP W (.inr u))) := fun W hb => by
   have := znb W S (HT.out W hb)
   rw [htx] at this
   exact this
  have HFD : Hid (∀ W, Below w.heap.size w W -> Calls Tryz.prog 16 #[.string S] W fun e w' => e = .returned (.bool true) ∧ Below W.heap.size W w') := fun W hb => by
   have := zgh S W (HT.out W hb) (HP.out W hb)
   rw [hfd] at this
   exact this
  clear hpr HE2 hY ht hu heq htx hfd
  go_wp2_with fail
  refine HC.mono ?_
  rintro e W3 ⟨rfl, b3⟩
  have HB4 : Hid (Below w.heap.size w W3) := HB3.out.trans (b3.mono HB3.out.size)
  have HE4 : Hid (EnZ W3 (.slice sn Y.length cn) Y) := HE3.out.below b3
  have HR3 : Hid (W3.heap[W2.heap.size]? = some (.cells #[.slice sn Y.length cn] 25 (0, 0))) := (b3.block _ (by simp)).trans HR2.out
  clear b3 HC HE3 HR2
  go_wp2_with fail
  refine (HTX.out _ HB4.out).mono ?_
  rintro e W4 ⟨b4, v4, rfl, t4⟩
  obtain ⟨s4, c4, rfl⟩ := t4.shape
  have HB5 : Hid (Below w.heap.size w W4) := HB4.out.trans (b4.mono HB4.out.size)
  have hE5 := HE4.out.below b4
  have r5 := (b4.block _ (zab HR3.out)).trans HR3.out
  have hlt := zab r5
  have c5 : W4.cell? ⟨W2.heap.size, 0, none⟩ = some (.slice sn Y.length cn) := (cell_of_row _ _ 0 _ _ _ r5).trans rfl
  clear r5
  have HSA : Hid (∀ W, Below W4.heap.size W4 W -> Calls Tryz.prog 12 #[.agg #[.slice sn Y.length cn], .agg #[.slice s4 (layP 0 u).length c4]] W fun e w' => e = .returned (.bool true) ∧ Below W.heap.size W w') := fun W hb => by
   obtain ⟨hY, ht, hu, heq⟩ := HY.out
   obtain ⟨sn', cn', N1, e1, g1, g2⟩ := (hE5.below hb).x
   injection e1 with e1 _ e2
   subst e1 e2 hY
   obtain ⟨N2, T2, o2, p2, -⟩ := t4.below hb
   obtain ⟨s4', c4', e3, g3, -⟩ := OwnG.rows elN o2
   have hn2 := p2.1
   injection e3 with e3 _ e4
   subst e3 e4
   have := zhe sn s4 cn c4 N1 N2 _ T2 (layP 0 t) (layP 0 u) W g1 g2.rep g3 p2 (by rw [zb1]; omega) (by rw [zb1]; omega) (fun d hd => by have := (ze1 t 0 d hd).2; omega) (fun d hd => by have := (ze1 u 0 d hd).2; omega)
   rw [heq] at this
   rw [List.length_map]
   exact this
  clear b4 t4 hE5 HE4 HR3 HTX HY
  generalize (layP 0 u).length = nu at *
  have hb6 : Below W4.heap.size W4 ((W4.alloc (.cells #[.slice s4 nu c4] 25)).alloc (.cells #[.int .i64 0, .int .i64 0] 28)) := ((Below.refl _ _).alloc (Nat.le_refl _) _).alloc (by simp) _
  have HB6 : Hid (Below W4.heap.size W4 ((W4.alloc (.cells #[.slice s4 nu c4] 25)).alloc (.cells #[.int .i64 0, .int .i64 0] 28))) := hb6
  have HB7 : Hid (Below w.heap.size w ((W4.alloc (.cells #[.slice s4 nu c4] 25)).alloc (.cells #[.int .i64 0, .int .i64 0] 28))) := HB5.out.trans (hb6.mono HB5.out.size)
  clear hb6
  go_wp2_with fail
  refine (HSA.out _ HB6.out).mono ?_
  rintro e W5 ⟨rfl, b5⟩
  have HB8 : Hid (Below w.heap.size w W5) := HB7.out.trans (b5.mono HB7.out.size)
  clear b5 HB6 HB7 HSA c5 hlt
  go_wp2_with fail
  refine (HFD.out _ HB8.out).mono ?_
  rintro e W6 ⟨rfl, b6⟩
  have HB9 : Hid (Below w.heap.size w W6) := HB8.out.trans (b6.mono HB8.out.size)
  clear b6
  go_wp2
  go_ret
  exact ⟨rfl, HB9.out⟩
end Go.Proofs.YtbadafkfjfbnlaaGreatDoor
