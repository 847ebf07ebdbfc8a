import Derived.Test.YtbadafkfjfbnlaaGreatDoorTwX
namespace Go.Proofs.YtbadafkfjfbnlaaGreatDoor
set_option maxRecDepth 100000
set_option maxHeartbeats 4000000
open Go.RowKit
section
variable {w0 w : World} {g d : Nat} {nv v : Value} {out : List UInt8} {L : List Nd}
theorem pparted_one (sb : ByteArray) (b kk : Nat) (t : Pt) (hn : NodP w0 g nv L t) (he : Emb L kk t) (hr : w.heap[b]? = some (.cells #[.int .i64 kk] 3 (0, 0))) (hbg : b ≠ g) (h : Pw w0 g nv d w v out) (hd1 : d + cntP t <= 100000) (hl : out.length + (rn (prP d t)).length <= 1000000000000) :
  Calls Tryz.prog 66 #[.pointer (some ⟨g, 0, none⟩), .string sb, .slice (some ⟨b, 0, none⟩) 1 1] w fun e w' => e = .returned (.tuple #[]) ∧ Pp w0 g nv d w v (out ++ rn (prP d t)) w' := by
 have HW : Hid (Pw w0 g nv d w v out) := h
 have HR : Hid _ := hr
 have HC := hn d kk w v out he h hd1 hl
 have HNC : Hid (NodP w0 g nv L t) := hn
 have HEM : Hid (Emb L kk t) := he
 have HL : Hid _ := hl
 have HD : Hid _ := hd1
 clear h hn he hr hl hd1
 go_enter Tryz.func66, Tryz.ntmps66
 go_wp2
 go_loopw [10] (fun i wr => ∃ q : Nat, q <= 1 ∧ i = .int .i64 q ∧ Pp w0 g nv d w v (out ++ rn (if q = 0 then [] else prP d t)) wr) (fun i _ => 1 - (intOf i).toNat)
 case atStart => exact ⟨0, Nat.zero_le _, rfl, by simpa [rn] using Pp.start HW.out⟩
 case round =>
  obtain ⟨q, hq, rfl, v1, h1, o1, q1⟩ := hrel
  by_cases hq0 : q = 0
  ·subst hq0
   rw [if_pos rfl, rn_nil, List.append_nil] at h1
   have rb := Pp.row HW.out o1 HR.out hbg (by decide)
   have kc : wr.cell? ⟨b, 0, none⟩ = some (.int .i64 kk) := (cell_of_row _ _ 0 _ _ _ rb).trans rfl
   have HC := HNC.out d kk wr v1 _ HEM.out h1 HD.out HL.out
   have HO : Hid _ := o1
   have HQ : Hid _ := q1
   clear h1 o1 q1 rb
   go_wp2_with fail
   refine HC.mono ?_
   rintro e W ⟨rfl, hp⟩
   have HN : Hid (Pp w0 g nv d w v (out ++ rn (prP d t)) W) := Pp.trans HO.out HQ.out hp
   clear hp HC
   go_wp2
   exact ⟨⟨1, by omega, by go_num, HN.out⟩, by simp [intOf]⟩
  ·have hq1 : q = 1 := by omega
   subst hq1
   have HP : Hid (Pp w0 g nv d w v (out ++ rn (prP d t)) wr) := ⟨v1, h1, o1, q1⟩
   clear h1 o1 q1
   go_wp2
   go_end0
   exact ⟨rfl, HP.out⟩
theorem plist_one (b kk : Nat) (t : Pt) (hn : NodP w0 g nv L t) (he : Emb L kk t) (hr : w.heap[b]? = some (.cells #[.int .i64 kk] 3 (0, 0))) (hbg : b ≠ g) (h : Pw w0 g nv d w v out) (hd1 : d + cntP t <= 100000) (hl : out.length + (rn (pBrk [prP d t])).length <= 1000000000000) :
  Calls Tryz.prog 102 #[.pointer (some ⟨g, 0, none⟩), .slice (some ⟨b, 0, none⟩) 1 1] w fun e w' => e = .returned (.tuple #[]) ∧ Pp w0 g nv d w v (out ++ rn (pBrk [prP d t])) w' := by
 have HNC : Hid (NodP w0 g nv L t) := hn
 have HEM : Hid (Emb L kk t) := he
 have HR : Hid _ := hr
 have HD : Hid _ := hd1
 have e0 : rn (pBrk [prP d t]) = [40] ++ rn (prP d t) ++ [41] := by
  simp [pBrk, pPar, rn, sg, sgT, tkW, strU, Pe.bs]
 rw [e0] at hl ⊢
 have HL : Hid (out.length + ((rn (prP d t)).length + 2) <= 1000000000000) := by show _ <= _; simp at hl; omega
 have HC := put_lit [strU [40]] h (by have := HL.out; show _ + (1 : Nat) <= _; omega) (by simp)
 have HW : Hid _ := h
 clear h hn he hr hl hd1 e0
 go_enter Tryz.func102, Tryz.ntmps102
 go_wp2_with fail
 refine HC.mono ?_
 rintro e W1 ⟨rfl, v1, h1, o1, q1⟩
 have r1 := Pp.row HW.out o1 HR.out hbg (by decide)
 have HO : Hid _ := o1
 have HQ : Hid _ := q1
 have HD := pparted_one (strU [44, 32]) b kk t HNC.out HEM.out r1 hbg h1 HD.out (by have := HL.out; rw [List.length_append]; show _ + (1 : Nat) + _ <= _; omega)
 clear h1 o1 q1 HC r1
 go_wp2_with fail
 refine HD.mono ?_
 rintro e W2 ⟨rfl, v2, h2, o2, q2⟩
 have HO2 : Hid _ := o2
 have HQ2 : Hid _ := q2
 have HE := put_lit [strU [41]] h2 (by have := HL.out; rw [List.length_append, List.length_append]; show _ + (1 : Nat) + _ + (1 : Nat) <= _; omega) (by simp)
 clear h2 o2 q2 HD
 go_wp2_with fail
 refine HE.mono ?_
 rintro e W3 ⟨rfl, hp⟩
 have HN : Hid (Pp w0 g nv d w v (out ++ ([40] ++ rn (prP d t) ++ [41])) W3) := by
  refine Pp.trans HO.out HQ.out (Pp.trans HO2.out HQ2.out ?_)
  have e : out ++ ([40] ++ rn (prP d t) ++ [41]) = out ++ fl [strU [40]] ++ rn (prP d t) ++ fl [strU [41]] := by simp [fl, strU]
  rw [e]
  exact hp
 clear hp HE
 go_wp2
 go_end0
 exact ⟨rfl, HN.out⟩
structure NdP (w0 : World) (g : Nat) (nv : Value) (L : List Nd) (m : NdM) (k : Int) (x : ByteArray) (n : Int) (ts : List Pt) : Prop where
 e : m.k = k ∧ m.x = x ∧ m.n = n
 k : ∃ ks, m.kn = ks.length ∧ KsP w0 g nv L m.ks ks ts
 c : m.kn <= m.kc ∧ m.kc <= maxLen ∧ (m.ks = none -> m.kc = 0)
theorem poperand_any {m : NdM} {k : Int} {x : ByteArray} {n : Int} {ts : List Pt} (i : Nat) (hi : i < ts.length) (hE : EnW w0 nv L) (hm : NdP w0 g nv L m k x n ts) (h : Pw w0 g nv d w v out) (hd1 : d + cntL ts <= 100000) (hl : out.length + (rn (pOpe k x (ts.map hdP) (ts.map (prP d)) i)).length <= 1000000000000) :
  Calls Tryz.prog 129 #[.pointer (some ⟨g, 0, none⟩), .agg m.cells, .int .i64 i] w fun e w' => e = .returned (.tuple #[]) ∧ Pp w0 g nv d w v (out ++ rn (pOpe k x (ts.map hdP) (ts.map (prP d)) i)) w' := by
 have HW : Hid (Pw w0 g nv d w v out) := h
 have HE : Hid (EnW w0 nv L) := hE
 obtain ⟨ks, hkn, hK⟩ := hm.k
 have HM : Hid (NdP w0 g nv L m k x n ts) := hm
 have HK : Hid (KsP w0 g nv L m.ks ks ts) := hK
 have HKN : Hid (m.kn = ks.length) := hkn
 have HLK : Hid (ks.length = ts.length) := hK.l
 have hks : ks.length <= 100000 := hK.s
 obtain ⟨sn, cn, N, S, hnv, hN, hR⟩ := hE.x
 have HN : Hid (RowsAt w0 7 NdM.cells sn N) := hN
 have HR : Hid (Rep w0 S N L) := hR
 have HNV : Hid (nv = .slice sn L.length cn) := hnv
 have hLl := hE.l
 have HL : Hid _ := hl
 have HD1 : Hid _ := hd1
 obtain ⟨kk, hk⟩ : ∃ kk, ks[i]? = some kk := ⟨_, List.getElem?_eq_getElem (by have := HLK.out; omega)⟩
 obtain ⟨t, ht⟩ : ∃ t, ts[i]? = some t := ⟨_, List.getElem?_eq_getElem hi⟩
 obtain ⟨b, o, hks1, -⟩ := hK.r (by have := HLK.out; omega)
 obtain ⟨dd, hdL, hde⟩ := (hK.e i kk t hk ht).hd
 have hkL : kk < L.length := (List.getElem?_eq_some_iff.1 hdL).1
 obtain ⟨m2, hm2⟩ : ∃ m2, N[kk]? = some m2 := ⟨_, List.getElem?_eq_getElem (by have := HR.out.1; omega)⟩
 have HM2 : Hid (N[kk]? = some m2) := hm2
 have HH : Hid ((m2.k, m2.x) = hdP t) := by
  show _ = _
  obtain ⟨h1, -⟩ := HR.out.2 kk m2 dd hm2 hdL
  rw [<- hde, h1.1, h1.2.1]
 have HOPE : Hid (pOpe k x (ts.map hdP) (ts.map (prP d)) i = if nedQ k x (hdP t) i then pBrk [prP d t] else prP d t) := by
  show _ = _
  unfold pOpe
  rw [List.getElem?_map, List.getElem?_map, ht]
  rfl
 have HNC : Hid (NodP w0 g nv L t) := hK.n t (List.mem_of_getElem? ht)
 have HEM : Hid (Emb L kk t) := hK.e i kk t hk ht
 have HDT : Hid (d + cntP t <= 100000) := by show _ <= _; have := cntL_at ts i t ht; omega
 have kcw : w.cell? ⟨b, o + i, none⟩ = some (.int .i64 kk) := by
  have hrk := h.env hK.r
  rw [hks1] at hrk
  have := ints_cell hrk i (by simpa using (List.getElem?_eq_some_iff.1 hk).1)
  rw [List.getD_eq_getElem?_getD, List.getElem?_map, hk] at this
  simpa using this
 have ltb := block_lt_of_cell kcw
 have hlk : decide ((i : Int) < (m.kn : Int)) = true := by have := HLK.out; rw [hkn]; simp; omega
 have HKS : Hid (m.ks = some ⟨b, o, none⟩) := hks1
 have hil : (i : Int) < (m.kn : Int) := by have := HLK.out; rw [hkn]; omega
 clear h hE hm hK hkn hnv hN hR hdL hde hm2 hk ht hks1 hl hd1 hi
 rw [show m.cells = #[.int .i64 m.k, .string m.x, .int .i64 m.n, .slice m.ks m.kn m.kc, .int .i64 m.a, .int .i64 m.f, .int .i64 m.t] from rfl, HKS.out]
 go_enter Tryz.func129, Tryz.ntmps129
 go_wp2_with fail
 refine wp_gen (fun W => W.heap[w.heap.size]? = some (.cells m.cells 49 (0, 0)) ∧ Below w.heap.size w W) ?_ ?_
 ·rw [show m.cells = #[.int .i64 m.k, .string m.x, .int .i64 m.n, .slice m.ks m.kn m.kc, .int .i64 m.a, .int .i64 m.f, .int .i64 m.t] from rfl, HKS.out]
  exact ⟨heap_alloc_new w _, (Below.refl _ _).alloc (Nat.le_refl _) _⟩
 rintro W0 ⟨r0, hB0⟩
 obtain ⟨bn, on, hsn, hnc⟩ := HN.out (by have := HR.out.1; omega)
 have HF : Hid (∀ W, Below W0.heap.size W0 W -> W.heap[w.heap.size]? = some (.cells m.cells 49 (0, 0)) ∧ W.cell? ⟨g, 2, none⟩ = some (.slice (some ⟨bn, on, none⟩) L.length cn) ∧ W.cell? ⟨b, o + i, none⟩ = some (.int .i64 kk) ∧ (∀ j u, m2.cells[j]? = some u -> W.cell? ⟨bn, on + kk * 7 + j, none⟩ = some u) ∧ Below w.heap.size w W) := fun W hb => by
  have hBw : Below w.heap.size w W := hB0.trans (hb.mono hB0.size)
  have hWr := HW.out.low hBw
  refine ⟨(hb.block _ (lt_of_row r0)).trans r0, ?_, (hBw.cell ltb).trans kcw, ?_, hBw⟩
  ·rw [<- hsn, <- HNV.out]; exact hWr.c2
  ·obtain ⟨b', o', e, hc⟩ := (hWr.env HN.out) (by have := HR.out.1; omega)
   rw [hsn] at e
   injection e with e
   injection e with e1 e2
   subst e1 e2
   exact fun j u hu => hc kk m2 HM2.out j u hu
 clear r0 hB0 hnc kcw
 have hkk : decide ((kk : Int) < L.length) = true := by simp; omega
 have hS0 : Below W0.heap.size W0 W0.drew := (Below.refl _ _).drew
 refine mv_begin (S := fun w' => Below W0.heap.size W0 w') 10 rfl (by kernel_rfl) ?_
 refine mv_rowg 0 12 49 (.tmp 4) rfl (by rfl) w.heap.size 49 m.cells (0, 0) rfl (by kernel_rfl) (by kernel_rfl) (by kernel_rfl) (fun _ _ _ h => h) _ (fun w' hw' => (HF.out w' hw').1) Tryz.underlying49 rfl (by kernel_rfl) hS0 ?_
 simp only [List.setIfInBounds_toArray, List.set_cons_succ, List.set_cons_zero]
 refine mv_rung 1 13 (.pointer (some ⟨g, 0, none⟩)) rfl (by rfl) (by kernel_rfl) (by kernel_rfl) (by kernel_rfl) (fun _ _ _ h => h) (fun w' hw' => by obtain ⟨-, e1, e2, -⟩ := HF.out w' hw'; first | rfl | (go_simp; done)) hS0 ?_
 simp only [List.setIfInBounds_toArray, List.set_cons_succ, List.set_cons_zero]
 refine mv_rung 2 14 (.pointer (some ⟨g, 0, none⟩)) rfl (by rfl) (by kernel_rfl) (by kernel_rfl) (by kernel_rfl) (fun _ _ _ h => h) (fun w' hw' => by obtain ⟨-, e1, e2, -⟩ := HF.out w' hw'; first | rfl | (go_simp; done)) hS0 ?_
 simp only [List.setIfInBounds_toArray, List.set_cons_succ, List.set_cons_zero]
 refine mv_rung 3 15 (.pointer (some ⟨g, 2, none⟩)) rfl (by rfl) (by kernel_rfl) (by kernel_rfl) (by kernel_rfl) (fun _ _ _ h => h) (fun w' hw' => by obtain ⟨-, e1, e2, -⟩ := HF.out w' hw'; first | rfl | (go_simp; done)) hS0 ?_
 simp only [List.setIfInBounds_toArray, List.set_cons_succ, List.set_cons_zero]
 refine mv_rung 4 16 (.slice (some ⟨bn, on, none⟩) L.length cn) rfl (by rfl) (by kernel_rfl) (by kernel_rfl) (by kernel_rfl) (fun _ _ _ h => h) (fun w' hw' => by obtain ⟨-, e1, e2, -⟩ := HF.out w' hw'; first | rfl | (go_simp; done)) hS0 ?_
 simp only [List.setIfInBounds_toArray, List.set_cons_succ, List.set_cons_zero]
 refine mv_rung 5 17 (.int .i64 kk) rfl (by rfl) (by kernel_rfl) (by kernel_rfl) (by kernel_rfl) (fun _ _ _ h => h) (fun w' hw' => by obtain ⟨-, e1, e2, -⟩ := HF.out w' hw'; first | rfl | (go_simp; done)) hS0 ?_
 simp only [List.setIfInBounds_toArray, List.set_cons_succ, List.set_cons_zero]
 refine mv_rung 6 18 (.pointer (some ⟨bn, on + kk * 7, none⟩)) rfl (by rfl) (by kernel_rfl) (by kernel_rfl) (by kernel_rfl) (fun _ _ _ h => h) (fun w' hw' => by obtain ⟨-, e1, e2, -⟩ := HF.out w' hw'; first | rfl | (go_simp; done)) hS0 ?_
 simp only [List.setIfInBounds_toArray, List.set_cons_succ, List.set_cons_zero]
 refine mv_mid 7 19 49 (.tmp 18) rfl bn (on + kk * 7) m2.cells rfl (by kernel_rfl) (by kernel_rfl) (by kernel_rfl) (fun _ _ _ h => h) _ (fun w' hw' => (HF.out w' hw').2.2.2.1) Tryz.underlying49 rfl (by kernel_rfl) hS0 ?_
 simp only [List.setIfInBounds_toArray, List.set_cons_succ, List.set_cons_zero]
 refine mv_rung 8 20 (.int .i64 i) rfl (by rfl) (by kernel_rfl) (by kernel_rfl) (by kernel_rfl) (fun _ _ _ h => h) (fun w' hw' => by obtain ⟨-, e1, e2, -⟩ := HF.out w' hw'; first | rfl | (go_simp; done)) hS0 ?_
 simp only [List.setIfInBounds_toArray, List.set_cons_succ, List.set_cons_zero]
 refine mv_nextg 9 rfl (by rfl) (by kernel_rfl) ?_
 go_simp
 refine (pneeded_any m m2 i W0.drew).mono ?_
 rintro e W1 ⟨rfl, b1⟩
 have hS1 : Below W0.heap.size W0 W1 := hS0.trans (b1.mono hS0.size)
 refine ⟨hS1, ?_⟩
 refine wpAnyH_done (by kernel_rfl) ?_ _
 have HB1 : Hid (Below w.heap.size w W1) := (HF.out _ hS1).2.2.2.2
 have HW1 : Hid (Pw w0 g nv d W1 v out) := HW.out.low HB1.out
 have HX : Hid (nedQ m.k m.x (m2.k, m2.x) i = nedQ k x (hdP t) i) := by show _ = _; rw [HH.out, HM.out.e.1, HM.out.e.2.1]
 clear hS0 hS1 b1 HF
 cases hn : nedQ m.k m.x (m2.k, m2.x) i
 ·have HOP : Hid (pOpe k x (ts.map hdP) (ts.map (prP d)) i = prP d t) := by show _ = _; rw [HOPE.out, <- HX.out, hn]; rfl
  have HD := HNC.out d kk W1 v out HEM.out HW1.out HDT.out (by have := HL.out; rw [HOP.out] at this; exact this)
  go_wp2_with fail
  refine HD.mono ?_
  rintro e W2 ⟨rfl, hp⟩
  have HN2 : Hid (Pp w0 g nv d w v (out ++ rn (pOpe k x (ts.map hdP) (ts.map (prP d)) i)) W2) := by
   show Pp _ _ _ _ _ _ _ _
   rw [HOP.out]
   exact Pp.pre HB1.out hp
  clear hp HD
  go_wp2
  go_end0
  exact ⟨rfl, HN2.out⟩
 ·have HOP : Hid (pOpe k x (ts.map hdP) (ts.map (prP d)) i = pBrk [prP d t]) := by show _ = _; rw [HOPE.out, <- HX.out, hn]; rfl
  have hbA : Below W1.heap.size W1 (W1.alloc (.cells #[.int .i64 kk] 3)) := (Below.refl _ _).alloc (Nat.le_refl _) _
  have HD := plist_one W1.heap.size kk t HNC.out HEM.out (heap_alloc_new W1 (.cells #[.int .i64 kk] 3)) (by have := HW1.out.lt; omega) (HW1.out.low hbA) HDT.out (by have := HL.out; rw [HOP.out] at this; exact this)
  have HBA : Hid _ := hbA
  clear hbA
  go_wp2_with fail
  refine HD.mono ?_
  rintro e W2 ⟨rfl, hp⟩
  have HN2 : Hid (Pp w0 g nv d w v (out ++ rn (pOpe k x (ts.map hdP) (ts.map (prP d)) i)) W2) := by
   show Pp _ _ _ _ _ _ _ _
   rw [HOP.out]
   exact Pp.pre HB1.out (Pp.pre HBA.out hp)
  clear hp HD
  go_wp2
  go_end0
  exact ⟨rfl, HN2.out⟩
end
theorem NdP.pre {w0 w : World} {g d : Nat} {nv v : Value} {out : List UInt8} {L : List Nd} {m : NdM} {k : Int} {x : ByteArray} {n : Int} {ts : List Pt} (hm : NdP w0 g nv L m k x n ts) (h : Pw w0 g nv d w v out) : ∃ ks, m.kn = ks.length ∧ KsP w0 g nv L m.ks ks ts ∧ Hid (KsP w0 g nv L m.ks ks ts) ∧ ks.length <= 100000 ∧ ks.length <= m.kc ∧ Hid (m.kc <= maxLen ∧ (m.ks = none -> m.kc = 0)) ∧ Hid (m.cells = #[.int .i64 k, .string x, .int .i64 n, .slice m.ks ks.length m.kc, .int .i64 m.a, .int .i64 m.f, .int .i64 m.t]) ∧ Hid (w.heap.size ≠ g) ∧ Hid ((w.alloc (.cells #[.int .i64 k, .string x, .int .i64 n, .slice m.ks ks.length m.kc, .int .i64 m.a, .int .i64 m.f, .int .i64 m.t] 49)).heap[w.heap.size]? = some (.cells #[.int .i64 k, .string x, .int .i64 n, .slice m.ks ks.length m.kc, .int .i64 m.a, .int .i64 m.f, .int .i64 m.t] 49 (0, 0))) ∧ ∃ v1, Hid (Pw w0 g nv d (w.alloc (.cells #[.int .i64 k, .string x, .int .i64 n, .slice m.ks ks.length m.kc, .int .i64 m.a, .int .i64 m.f, .int .i64 m.t] 49)) v1 out) ∧ Hid (∀ W2 (d2 : Nat) out2, Pp w0 g nv d2 (w.alloc (.cells #[.int .i64 k, .string x, .int .i64 n, .slice m.ks ks.length m.kc, .int .i64 m.a, .int .i64 m.f, .int .i64 m.t] 49)) v1 out2 W2 -> Pp w0 g nv d2 w v out2 W2 ∧ ∀ (j : Nat) (cs : Array Value) (ty : TypeId) (fr : Nat × Nat), (w.alloc (.cells #[.int .i64 k, .string x, .int .i64 n, .slice m.ks ks.length m.kc, .int .i64 m.a, .int .i64 m.f, .int .i64 m.t] 49)).heap[j]? = some (.cells cs ty fr) -> j ≠ g -> 5 ≠ ty -> W2.heap[j]? = some (.cells cs ty fr)) := by
 obtain ⟨ks, hkn, hK⟩ := hm.k
 have e : m.cells = #[.int .i64 k, .string x, .int .i64 n, .slice m.ks ks.length m.kc, .int .i64 m.a, .int .i64 m.f, .int .i64 m.t] := by
  show m.cells = _
  rw [<- hkn, <- hm.e.1, <- hm.e.2.1, <- hm.e.2.2]
  rfl
 have hB0 : Below w.heap.size w (w.alloc (.cells #[.int .i64 k, .string x, .int .i64 n, .slice m.ks ks.length m.kc, .int .i64 m.a, .int .i64 m.f, .int .i64 m.t] 49)) := (Below.refl _ _).alloc (Nat.le_refl _) _
 obtain ⟨v1, w1, s1⟩ := Pp.step (Pp.pre hB0 (Pp.start (h.low hB0)))
 exact ⟨ks, hkn, hK, hK, hK.s, by have := hm.c.1; omega, hm.c.2, e, by have := h.lt; show _ ≠ _; omega, heap_alloc_new w _, v1, w1, s1⟩
theorem KsP.drop {w0 : World} {g : Nat} {nv : Value} {L : List Nd} {sk sk2 : Option Addr} {ks : List Nat} {ts : List Pt} (h : KsP w0 g nv L sk ks ts) (q : Nat) (hr : RowsAt w0 1 intC sk2 (ks.drop q)) : KsP w0 g nv L sk2 (ks.drop q) (ts.drop q) := by
 refine ⟨hr, by rw [List.length_drop, List.length_drop, h.l], fun j k t h1 h2 => ?_, fun t h1 => h.n t (List.mem_of_mem_drop h1), by rw [List.length_drop]; have := h.s; omega⟩
 rw [List.getElem?_drop] at h1 h2
 exact h.e _ k t h1 h2
theorem KsP.take {w0 : World} {g : Nat} {nv : Value} {L : List Nd} {sk : Option Addr} {ks : List Nat} {ts : List Pt} (h : KsP w0 g nv L sk ks ts) (q : Nat) : KsP w0 g nv L sk (ks.take q) (ts.take q) := by
 refine ⟨fun hl => ?_, by rw [List.length_take, List.length_take, h.l], fun j k t h1 h2 => ?_, fun t h1 => h.n t (List.mem_of_mem_take h1), by rw [List.length_take]; have := h.s; omega⟩
 ·obtain ⟨b, o, e, hc⟩ := h.r (by rw [List.length_take] at hl; omega)
  refine ⟨b, o, e, fun j y hy => hc j y ?_⟩
  rw [List.getElem?_take] at hy
  split at hy
  ·exact hy
  ·cases hy
 ·rw [List.getElem?_take] at h1 h2
  split at h1
  ·rename_i hj
   rw [if_pos hj] at h2
   exact h.e _ k t h1 h2
  ·cases h1
theorem pfunction_any {w0 w : World} {g d : Nat} {nv v : Value} {out : List UInt8} {L : List Nd} {m : NdM} {k : Int} {x : ByteArray} {n : Int} {ts : List Pt} (hE : EnW w0 nv L) (hm : NdP w0 g nv L m k x n ts) (h : Pw w0 g nv d w v out) (hd1 : d + cntL ts <= 100000) (hl : out.length + (rn (pFun x (ts.map hdP) (ts.map (prP d)))).length <= 1000000000000) :
  Calls Tryz.prog 68 #[.pointer (some ⟨g, 0, none⟩), .agg m.cells] w fun e w' => e = .returned (.tuple #[]) ∧ Pp w0 g nv d w v (out ++ rn (pFun x (ts.map hdP) (ts.map (prP d)))) w' := by
 have HW : Hid (Pw w0 g nv d w v out) := h
 have HE : Hid (EnW w0 nv L) := hE
 obtain ⟨ks, hkn, hK⟩ := hm.k
 have HK : Hid (KsP w0 g nv L m.ks ks ts) := hK
 have HKN : Hid (m.kn = ks.length) := hkn
 have HMX : Hid (m.x = x) := hm.e.2.1
 have hks : ks.length <= 100000 := hK.s
 have hmc : ks.length <= m.kc := by have := hm.c.1; omega
 have HMC : Hid (m.kc <= maxLen ∧ (m.ks = none -> m.kc = 0)) := hm.c.2
 have HL0 : Hid _ := hl
 have HD1 : Hid _ := hd1
 clear h hm hK hkn hE hl hd1
 rw [show m.cells = #[.int .i64 m.k, .string m.x, .int .i64 m.n, .slice m.ks m.kn m.kc, .int .i64 m.a, .int .i64 m.f, .int .i64 m.t] from rfl, HKN.out, HMX.out]
 go_enter Tryz.func68, Tryz.ntmps68
 go_wp2_with fail
 have hB0 : Below w.heap.size w (w.alloc (.cells #[.int .i64 m.k, .string x, .int .i64 m.n, .slice m.ks ks.length m.kc, .int .i64 m.a, .int .i64 m.f, .int .i64 m.t] 49)) := (Below.refl _ _).alloc (Nat.le_refl _) _
 have hr0 := heap_alloc_new w (.cells #[.int .i64 m.k, .string x, .int .i64 m.n, .slice m.ks ks.length m.kc, .int .i64 m.a, .int .i64 m.f, .int .i64 m.t] 49)
 have hW0 := HW.out.low hB0
 have hne : w.heap.size ≠ g := by have := HW.out.lt; omega
 have HNE : Hid _ := hne
 refine (pcut_any 8 m.ks m.kc ks ts HE.out HK.out hW0 hmc HMC.out.1 HMC.out.2).mono ?_
 rintro e W1 ⟨⟨sk2, ck2, rfl, hr2, hl2, hm2, hz2⟩, n1, rfl⟩
 have hb1 := hB0.trans ((below_dN (w.alloc (.cells #[.int .i64 m.k, .string x, .int .i64 m.n, .slice m.ks ks.length m.kc, .int .i64 m.a, .int .i64 m.f, .int .i64 m.t] 49)) n1).mono hB0.size)
 generalize hw1 : (w.alloc (.cells #[.int .i64 m.k, .string x, .int .i64 m.n, .slice m.ks ks.length m.kc, .int .i64 m.a, .int .i64 m.f, .int .i64 m.t] 49)).drewN n1 = W1 at *
 have r1 : W1.heap[w.heap.size]? = some (.cells #[.int .i64 m.k, .string x, .int .i64 m.n, .slice m.ks ks.length m.kc, .int .i64 m.a, .int .i64 m.f, .int .i64 m.t] 49 (0, 0)) := by
  rw [<- hw1]
  exact ((below_dN _ n1).block _ (lt_of_row hr0)).trans hr0
 generalize hc8 : cutN 8 (ts.map hdP) = c8 at *
 have hc8l : c8 <= ks.length := by have := cutN_le 8 (ts.map hdP); rw [List.length_map, <- HK.out.l, hc8] at this; exact this
 rw [<- List.length_drop] at hl2 ⊢
 have hK2 : KsP w0 g nv L sk2 (ks.drop c8) (ts.drop c8) := HK.out.drop c8 hr2
 have hK1 : KsP w0 g nv L m.ks (ks.take c8) (ts.take c8) := HK.out.take c8
 have hlR : (ks.take c8).length = c8 := by rw [List.length_take]; omega
 have hcu := cntL_cut ts c8
 have HWF : Hid (rn (pFun x (ts.map hdP) (ts.map (prP d))) = [102, 117, 110, 99, 32] ++ (if 0 < c8 then rn (pBrk ((ts.take c8).map (prP d))) ++ [32] else []) ++ x.data.toList ++ rn (pBrk (((ts.drop c8).take (cutN 9 ((ts.drop c8).map hdP))).map (prP d))) ++ rn (pBeh [sp] (((ts.drop c8).drop (cutN 9 ((ts.drop c8).map hdP))).map (prP d)))) := by
  show _ = _
  unfold pFun
  rw [hc8, rn_app, rn_app, rn_app, rn_app]
  simp only [List.map_take, List.map_drop]
  congr 1
  congr 1
  congr 1
  ·congr 1
   split
   ·rw [rn_app]; rfl
   ·rfl
  ·simp [rn, Pe.bs, tkW]
 generalize ks.take c8 = ksR at *
 generalize ts.take c8 = tsR at *
 generalize ks.drop c8 = ks2 at *
 generalize ts.drop c8 = ts2 at *
 have HK1 : Hid _ := hK1
 have HK2 : Hid _ := hK2
 have HB1 : Hid _ := hb1
 have HR1 : Hid _ := r1
 have HLR : Hid _ := hlR
 have hks2 : ks2.length <= 100000 := hK2.s
 have HCN := pcut_any 9 sk2 ck2 ks2 ts2 HE.out HK2.out (HW.out.low HB1.out) hl2 hm2 hz2
 clear hB0 hr0 hW0 hne hb1 r1 hc8 hr2 hw1 hK1 hK2 hlR hm2 hz2
 go_wp2_with fail
 refine HCN.mono ?_
 rintro e W2 ⟨⟨sk3, ck3, rfl, hr3, hl3, hm3, hz3⟩, n2, rfl⟩
 generalize hc9 : cutN 9 (ts2.map hdP) = c9 at *
 have hc9l : c9 <= ks2.length := by have := cutN_le 9 (ts2.map hdP); rw [List.length_map, <- HK2.out.l, hc9] at this; exact this
 rw [<- List.length_drop] at hl3 ⊢
 have hK3 : KsP w0 g nv L sk3 (ks2.drop c9) (ts2.drop c9) := HK2.out.drop c9 hr3
 have hKP : KsP w0 g nv L sk2 (ks2.take c9) (ts2.take c9) := HK2.out.take c9
 have hlP : (ks2.take c9).length = c9 := by rw [List.length_take]; omega
 have hcv := cntL_cut ts2 c9
 generalize ks2.take c9 = ksP at *
 generalize ts2.take c9 = tsP at *
 generalize ks2.drop c9 = ks3 at *
 generalize ts2.drop c9 = ts3 at *
 have HK3 : Hid _ := hK3
 have HKP : Hid _ := hKP
 have HLP : Hid _ := hlP
 have hb2 := HB1.out.trans ((below_dN W1 n2).mono HB1.out.size)
 have r2 := ((below_dN W1 n2).block _ (lt_of_row HR1.out)).trans HR1.out
 generalize W1.drewN n2 = W2 at *
 have HR2 : Hid _ := r2
 have hW2 : Pp w0 g nv d w v out W2 := Pp.pre hb2 (Pp.start (HW.out.low hb2))
 obtain ⟨v2, w2, s2⟩ := hW2.step
 have HS2 : Hid _ := s2
 have HL : Hid (out.length + ([102, 117, 110, 99, 32] ++ (if 0 < c8 then rn (pBrk (tsR.map (prP d))) ++ [32] else []) ++ x.data.toList ++ rn (pBrk (tsP.map (prP d))) ++ rn (pBeh [sp] (ts3.map (prP d)))).length <= 1000000000000) := by
  have := HL0.out
  rw [HWF.out] at this
  exact this
 have HC := put_lit [strU [102, 117, 110, 99, 32]] w2 (by have := HL.out; simp only [List.length_append] at this; show _ + (5 : Nat) <= _; have e5 : ([102, 117, 110, 99, 32] : List UInt8).length = 5 := rfl; omega) (by simp)
 have hks3 : ks3.length <= 100000 := hK3.s
 clear hr3 hl3 hm3 hz3 hc9 hK3 hKP hlP hb2 r2 hW2 w2 s2 HCN
 go_wp2_with fail
 refine HC.mono ?_
 rintro e W3 ⟨rfl, hp⟩
 obtain ⟨hp3, hr3⟩ := HS2.out _ _ _ hp
 have r3 := hr3 _ _ _ _ HR2.out HNE.out (by decide)
 clear hp hr3 HC
 have HP3 : Hid (Pp w0 g nv d w v (out ++ [102, 117, 110, 99, 32]) W3) := hp3
 have HR3 : Hid _ := r3
 have HDR : Hid (d + cntL tsR <= 100000) := by show _ <= _; have := HD1.out; omega
 have HDP : Hid (d + cntL tsP <= 100000) := by show _ <= _; have := HD1.out; omega
 have HD3 : Hid (d + cntL ts3 <= 100000) := by show _ <= _; have := HD1.out; omega
 clear r3 hp3 hcu hcv
 by_cases hc0 : 0 < c8
 rotate_left
 ·have hd : decide (0 < c8) = false := by simp; omega
  have HA : Hid ((if 0 < c8 then rn (pBrk (tsR.map (prP d))) ++ [32] else []) = ([] : List UInt8)) := if_neg hc0
  have hpA : Pp w0 g nv d w v (out ++ [102, 117, 110, 99, 32] ++ []) W3 := by rw [List.append_nil]; exact HP3.out
  have rA := HR3.out
  have HL2 := HL.out
  rw [HA.out] at HL2
  generalize hWA : W3 = WA at *
  clear hc0
  obtain ⟨v4, w4, s4⟩ := hpA.step
  have c4 : WA.cell? ⟨w.heap.size, 1, none⟩ = some (.string x) := (cell_of_row _ _ 1 _ _ _ rA).trans rfl
  have e1 : fl [x] = x.data.toList := by simp [fl]
  have HC := put_lit [x] w4 (by rw [e1]; simp only [List.length_append] at HL2 ⊢; omega) (by simp)
  rw [e1] at HC
  have HS4 : Hid _ := s4
  have HLx : Hid _ := HL2
  clear hpA rA w4 s4 e1 HL2
  go_wp2_with fail
  refine HC.mono ?_
  rintro e W5 ⟨rfl, hp⟩
  obtain ⟨v5, w5, s5⟩ := (HS4.out _ _ _ hp).1.step
  have HC2 := plist_any sk2 ck2 ksP tsP HKP.out w5 HDP.out (by have HL2 := HLx.out; simp only [List.length_append] at HL2 ⊢; omega)
  rw [HLP.out] at HC2
  have HS5 : Hid _ := s5
  clear hp w5 s5 HC
  go_wp2_with fail
  refine HC2.mono ?_
  rintro e W6 ⟨rfl, hp⟩
  obtain ⟨v6, w6, s6⟩ := (HS5.out _ _ _ hp).1.step
  have HC3 := pbehind_any [sp] (strU [32]) rfl sk3 ck3 ks3 ts3 HK3.out w6 HD3.out (by have HL2 := HLx.out; simp only [List.length_append] at HL2 ⊢; omega)
  have HS6 : Hid _ := s6
  clear hp w6 s6 HC2
  go_wp2_with fail
  refine HC3.mono ?_
  rintro e W7 ⟨rfl, hp⟩
  have HN : Hid (Pp w0 g nv d w v (out ++ rn (pFun x (ts.map hdP) (ts.map (prP d)))) W7) := by
   show Pp _ _ _ _ _ _ _ _
   rw [HWF.out, HA.out]
   have := (HS6.out _ _ _ hp).1
   simpa using this
  clear hp HC3
  go_wp2
  go_end0
  exact ⟨rfl, HN.out⟩
 ·have hd : decide (0 < c8) = true := by simp; omega
  have HA : Hid ((if 0 < c8 then rn (pBrk (tsR.map (prP d))) ++ [32] else []) = rn (pBrk (tsR.map (prP d))) ++ [32]) := if_pos hc0
  have HL2 := HL.out
  rw [HA.out] at HL2
  obtain ⟨v3, w3, s3⟩ := HP3.out.step
  have HC := plist_any m.ks m.kc ksR tsR HK1.out w3 HDR.out (by simp only [List.length_append] at HL2 ⊢; omega)
  rw [HLR.out] at HC
  have HS3 : Hid _ := s3
  have HL3 : Hid _ := HL2
  clear w3 s3 HL2
  go_wp2_with fail
  refine HC.mono ?_
  rintro e WB ⟨rfl, hp⟩
  obtain ⟨hpB, hrB⟩ := HS3.out _ _ _ hp
  have rB := hrB _ _ _ _ HR3.out HNE.out (by decide)
  obtain ⟨v4, w4, s4⟩ := hpB.step
  have HC4 := put_lit [strU [32]] w4 (by have := HL3.out; have e1 : (fl [strU [32]]).length = 1 := rfl; simp only [List.length_append, List.length_cons, List.length_nil] at this ⊢; omega) (by simp)
  have HS4 : Hid _ := s4
  have HRB : Hid _ := rB
  clear hp hrB HC hpB rB w4 s4
  go_wp2_with fail
  refine HC4.mono ?_
  rintro e WA ⟨rfl, hp⟩
  obtain ⟨hpA', hrA⟩ := HS4.out _ _ _ hp
  have rA := hrA _ _ _ _ HRB.out HNE.out (by decide)
  have hpA : Pp w0 g nv d w v (out ++ [102, 117, 110, 99, 32] ++ (rn (pBrk (tsR.map (prP d))) ++ [32])) WA := by
   rw [<- List.append_assoc]
   exact hpA'
  have HL2 := HL3.out
  clear hp hrA hpA' HC4
  obtain ⟨v4, w4, s4⟩ := hpA.step
  have c4 : WA.cell? ⟨w.heap.size, 1, none⟩ = some (.string x) := (cell_of_row _ _ 1 _ _ _ rA).trans rfl
  have e1 : fl [x] = x.data.toList := by simp [fl]
  have HC := put_lit [x] w4 (by rw [e1]; simp only [List.length_append] at HL2 ⊢; omega) (by simp)
  rw [e1] at HC
  have HS4 : Hid _ := s4
  have HLx : Hid _ := HL2
  clear hpA rA w4 s4 e1 HL2
  go_wp2_with fail
  refine HC.mono ?_
  rintro e W5 ⟨rfl, hp⟩
  obtain ⟨v5, w5, s5⟩ := (HS4.out _ _ _ hp).1.step
  have HC2 := plist_any sk2 ck2 ksP tsP HKP.out w5 HDP.out (by have HL2 := HLx.out; simp only [List.length_append] at HL2 ⊢; omega)
  rw [HLP.out] at HC2
  have HS5 : Hid _ := s5
  clear hp w5 s5 HC
  go_wp2_with fail
  refine HC2.mono ?_
  rintro e W6 ⟨rfl, hp⟩
  obtain ⟨v6, w6, s6⟩ := (HS5.out _ _ _ hp).1.step
  have HC3 := pbehind_any [sp] (strU [32]) rfl sk3 ck3 ks3 ts3 HK3.out w6 HD3.out (by have HL2 := HLx.out; simp only [List.length_append] at HL2 ⊢; omega)
  have HS6 : Hid _ := s6
  clear hp w6 s6 HC2
  go_wp2_with fail
  refine HC3.mono ?_
  rintro e W7 ⟨rfl, hp⟩
  have HN : Hid (Pp w0 g nv d w v (out ++ rn (pFun x (ts.map hdP) (ts.map (prP d)))) W7) := by
   show Pp _ _ _ _ _ _ _ _
   rw [HWF.out, HA.out]
   have := (HS6.out _ _ _ hp).1
   simpa using this
  clear hp HC3
  go_wp2
  go_end0
  exact ⟨rfl, HN.out⟩
theorem fik_snoc (d : Nat) : ∀ (q : Nat) (b : Bool) (hs : List (Int × ByteArray)) (os : List (List Pe)) (h : Int × ByteArray) (o : List Pe), hs[q]? = some h -> os[q]? = some o ->
  pFiK d b (hs.take (q + 1)) (os.take (q + 1)) = pFiK d b (hs.take q) (os.take q) ++ ((if ((q == 0) && b) || h.1 != 2 then [fe] else []) ++ (tb d ++ o ++ [.e]))
 | 0, b, hs, os, h, o, h1, h2 => by
  cases hs with
  | nil => simp at h1
  | cons a r =>
   cases os with
   | nil => simp at h2
   | cons c s =>
    obtain rfl : a = h := by simpa using h1
    obtain rfl : c = o := by simpa using h2
    simp [pFiK]
 | q + 1, b, hs, os, h, o, h1, h2 => by
  cases hs with
  | nil => simp at h1
  | cons a r =>
   cases os with
   | nil => simp at h2
   | cons c s =>
    rw [List.take_succ_cons, List.take_succ_cons, pFiK, fik_snoc d q false r s h o (by simpa using h1) (by simpa using h2), List.take_succ_cons, List.take_succ_cons, pFiK]
    simp
theorem fik_pre (d : Nat) : ∀ (n : Nat) (b : Bool) (hs : List (Int × ByteArray)) (os : List (List Pe)), ∃ r, pFiK d b hs os = pFiK d b (hs.take n) (os.take n) ++ r
 | 0, b, hs, os => ⟨pFiK d b hs os, by simp [pFiK]⟩
 | n + 1, b, hs, os => by
  cases hs with
  | nil => exact ⟨[], by simp [pFiK]⟩
  | cons a r =>
   cases os with
   | nil => exact ⟨[], by simp [pFiK]⟩
   | cons c s =>
    obtain ⟨z, hz⟩ := fik_pre d n false r s
    exact ⟨z, by rw [List.take_succ_cons, List.take_succ_cons, pFiK, pFiK, hz]; simp⟩
section
variable {w0 w : World} {g d : Nat} {nv v : Value} {out : List UInt8} {L : List Nd}
theorem pfile_any {m : NdM} {k : Int} {x : ByteArray} {n : Int} {ts : List Pt} (hE : EnW w0 nv L) (hm : NdP w0 g nv L m k x n ts) (h : Pw w0 g nv d w v out) (hd1 : d + cntL ts <= 100000) (hl : out.length + (rn ([wd [112, 97, 99, 107, 97, 103, 101], sp, .t (tkW 1 x), .e] ++ pFiK d true (ts.map hdP) (ts.map (prP d)))).length <= 1000000000000) :
  Calls Tryz.prog 63 #[.pointer (some ⟨g, 0, none⟩), .agg m.cells] w fun e w' => e = .returned (.tuple #[]) ∧ Pp w0 g nv d w v (out ++ rn ([wd [112, 97, 99, 107, 97, 103, 101], sp, .t (tkW 1 x), .e] ++ pFiK d true (ts.map hdP) (ts.map (prP d)))) w' := by
 have HW : Hid (Pw w0 g nv d w v out) := h
 have HE : Hid (EnW w0 nv L) := hE
 obtain ⟨ks, hkn, hK⟩ := hm.k
 have HK : Hid (KsP w0 g nv L m.ks ks ts) := hK
 have HKN : Hid (m.kn = ks.length) := hkn
 have HMX : Hid (m.x = x) := hm.e.2.1
 have hks : ks.length <= 100000 := hK.s
 have HL0 : Hid _ := hl
 have HD1 : Hid _ := hd1
 have e0 : rn ([wd [112, 97, 99, 107, 97, 103, 101], sp, .t (tkW 1 x), .e] ++ pFiK d true (ts.map hdP) (ts.map (prP d))) = fl [strU [112, 97, 99, 107, 97, 103, 101, 32], x, strU [10]] ++ rn (pFiK d true (ts.map hdP) (ts.map (prP d))) := by
  rw [rn_app]
  congr 1
 have HE0 : Hid _ := e0
 clear h hm hK hkn hE hl hd1 e0
 rw [show m.cells = #[.int .i64 m.k, .string m.x, .int .i64 m.n, .slice m.ks m.kn m.kc, .int .i64 m.a, .int .i64 m.f, .int .i64 m.t] from rfl, HKN.out, HMX.out]
 have hB0 : Below w.heap.size w (w.alloc (.cells #[.int .i64 m.k, .string x, .int .i64 m.n, .slice m.ks ks.length m.kc, .int .i64 m.a, .int .i64 m.f, .int .i64 m.t] 49)) := (Below.refl _ _).alloc (Nat.le_refl _) _
 have hr0 := heap_alloc_new w (.cells #[.int .i64 m.k, .string x, .int .i64 m.n, .slice m.ks ks.length m.kc, .int .i64 m.a, .int .i64 m.f, .int .i64 m.t] 49)
 have hne : w.heap.size ≠ g := by have := HW.out.lt; omega
 have hW0 := HW.out.low hB0
 have HC := put_lit [strU [112, 97, 99, 107, 97, 103, 101, 32], x, strU [10]] hW0 (by have := HL0.out; rw [HE0.out, List.length_append] at this; omega) (by simp)
 simp only [World.size_alloc] at HC
 go_enter Tryz.func63, Tryz.ntmps63
 go_wp2_with fail
 refine HC.mono ?_
 rintro e W1 ⟨rfl, hp⟩
 obtain ⟨v1, w1, s1⟩ := hp.step
 have r1 : W1.heap[w.heap.size]? = some (.cells #[.int .i64 m.k, .string x, .int .i64 m.n, .slice m.ks ks.length m.kc, .int .i64 m.a, .int .i64 m.f, .int .i64 m.t] 49 (0, 0)) := by
  obtain ⟨v', -, o', -⟩ := hp
  exact Pp.row hW0 o' hr0 hne (by decide)
 have c1 : W1.cell? ⟨w.heap.size, 3, none⟩ = some (.slice m.ks ks.length m.kc) := (cell_of_row _ _ 3 _ _ _ r1).trans rfl
 obtain ⟨A, hA⟩ : ∃ A, fl [strU [112, 97, 99, 107, 97, 103, 101, 32], x, strU [10]] = A := ⟨_, rfl⟩
 have HS : Hid (Pp w0 g nv d w v (out ++ A) W1) := by
  rw [<- hA]
  exact Pp.pre hB0 hp
 rw [hA] at HE0
 have HL : Hid (out.length + (A.length + (rn (pFiK d true (ts.map hdP) (ts.map (prP d)))).length) <= 1000000000000) := by
  have := HL0.out
  rw [HE0.out, List.length_append] at this
  exact this
 clear hB0 hr0 hne hW0 HC hp w1 s1 r1 hA
 go_wp2
 go_loopw [14] (fun i wr => ∃ q : Nat, q <= ks.length ∧ i = .int .i64 q ∧ Pp w0 g nv d w v (out ++ A ++ rn (pFiK d true ((ts.map hdP).take q) ((ts.map (prP d)).take q))) wr) (fun i _ => ks.length - (intOf i).toNat)
 case atStart => exact ⟨0, Nat.zero_le _, rfl, by simpa [pFiK, rn] using HS.out⟩
 case round =>
  obtain ⟨q, hq, rfl, v1, h1, o1, q1⟩ := hrel
  have hlk := HK.out.l
  by_cases hlt : q < ks.length
  ·have hd : decide ((q : Int) < ks.length) = true := by simp; omega
   obtain ⟨k, hk⟩ : ∃ k, ks[q]? = some k := ⟨_, List.getElem?_eq_getElem hlt⟩
   obtain ⟨t, ht⟩ : ∃ t, ts[q]? = some t := ⟨_, List.getElem?_eq_getElem (by omega)⟩
   have hrk := h1.env HK.out.r
   obtain ⟨b, o, hksm, -⟩ := hrk (by omega)
   rw [hksm] at hrk
   have kc := ints_cell hrk q (by simpa using hlt)
   rw [List.getD_eq_getElem?_getD, List.getElem?_map, hk] at kc
   simp only [Option.map_some, Option.getD_some] at kc
   obtain ⟨dd, hdL, hde⟩ := (HK.out.e q k t hk ht).hd
   have hkL : k < L.length := (List.getElem?_eq_some_iff.1 hdL).1
   obtain ⟨sn, cn, N, S, hnv, hN, hR⟩ := HE.out.x
   have hLl := HE.out.l
   obtain ⟨m2, hm2⟩ : ∃ m2, N[k]? = some m2 := ⟨_, List.getElem?_eq_getElem (by have := hR.1; omega)⟩
   have hrn := h1.env hN
   obtain ⟨bn, on, hsn, -⟩ := hrn (by have := hR.1; omega)
   rw [hsn] at hrn hnv
   have kn := (node_cells hrn hm2).1
   rw [(hR.at hm2 hdL).1.1, show dd.kind = (hdP t).1 by rw [<- hde]] at kn
   have cg := h1.c2
   rw [hnv] at cg
   have hkk : decide ((k : Int) < L.length) = true := by simp; omega
   have HTK : Hid (pFiK d true ((ts.map hdP).take (q + 1)) ((ts.map (prP d)).take (q + 1)) = pFiK d true ((ts.map hdP).take q) ((ts.map (prP d)).take q) ++ ((if (q == 0) || (hdP t).1 != 2 then [fe] else []) ++ (tb d ++ prP d t ++ [.e]))) := by
    show _ = _
    rw [fik_snoc d q true (ts.map hdP) (ts.map (prP d)) (hdP t) (prP d t) (by rw [List.getElem?_map, ht]; rfl) (by rw [List.getElem?_map, ht]; rfl), Bool.and_true]
   have hbud : out.length + (A.length + (rn (pFiK d true ((ts.map hdP).take q) ((ts.map (prP d)).take q) ++ ((if (q == 0) || (hdP t).1 != 2 then [fe] else []) ++ (tb d ++ prP d t ++ [.e])))).length) <= 1000000000000 := by
    obtain ⟨r, hr⟩ := fik_pre d (q + 1) true (ts.map hdP) (ts.map (prP d))
    have := rn_pre hr
    rw [<- HTK.out]
    have := HL.out
    omega
   have HDT : Hid (d + cntP t <= 100000) := by show _ <= _; have := cntL_at ts q t ht; have := HD1.out; omega
   have HNC : Hid (NodP w0 g nv L t) := HK.out.n t (List.mem_of_getElem? ht)
   have HEM : Hid (Emb L k t) := HK.out.e q k t hk ht
   have HO : Hid _ := o1
   have HQ : Hid _ := q1
   have HKM : Hid _ := hksm
   rw [rn_app, rn_app, List.length_append, List.length_append] at hbud
   have HBD : Hid _ := hbud
   have HW1 : Hid _ := h1
   clear h1 o1 q1 hk ht hrk hbud hlk hksm hdL hde hm2 hrn hsn hnv hN hR
   rw [HKM.out]
   cases z1 : (q == 0)
   rotate_left
   focus (
    have hq0 : q = 0 := by simpa using z1
    have z1' : ((q : Int) == 0) = true := by rw [hq0]; rfl
    rw [z1, Bool.true_or] at HTK HBD
    clear hq0
    have hfe : fl [strU [10]] = rn [fe] := rfl
    have HC := put_lit [strU [10]] HW1.out (by have := HBD.out; rw [if_pos (by trivial)] at this; rw [hfe]; simp only [List.length_append] at this ⊢; omega) (by simp)
    rw [hfe] at HC
    go_wp2_with fail
    refine HC.mono ?_
    rintro e W ⟨rfl, v2, h2, o2, q2⟩
    have HD := pline_any k t HNC.out HEM.out h2 HDT.out (by have := HBD.out; rw [if_pos (by trivial)] at this; simp only [List.length_append] at this ⊢; omega)
    have HO2 : Hid _ := o2
    have HQ2 : Hid _ := q2
    clear h2 o2 q2 HC
    go_wp2_with fail
    refine HD.mono ?_
    rintro e W3 ⟨rfl, hp⟩
    have HN : Hid (Pp w0 g nv d w v (out ++ A ++ rn (pFiK d true ((ts.map hdP).take (q + 1)) ((ts.map (prP d)).take (q + 1)))) W3) := by
     refine Pp.trans HO.out HQ.out (Pp.trans HO2.out HQ2.out ?_)
     rw [HTK.out, if_pos (by trivial), rn_app, rn_app [fe], <- List.append_assoc, <- List.append_assoc]
     exact hp
    clear hp HD
    go_wp2
    exact ⟨⟨q + 1, by omega, by go_num, HN.out⟩, by simp [intOf]; omega⟩)
   have z1' : ((q : Int) == 0) = false := by have h0 : ¬ q = 0 := (by simpa using z1); simp; omega
   cases z2 : ((hdP t).1 != 2)
   ·rw [z1, z2] at HTK HBD
    have HC := pline_any k t HNC.out HEM.out HW1.out HDT.out (by have := HBD.out; simp only [List.length_append] at this ⊢; omega)
    go_wp2_with fail
    refine HC.mono ?_
    rintro e W ⟨rfl, hp⟩
    have HN : Hid (Pp w0 g nv d w v (out ++ A ++ rn (pFiK d true ((ts.map hdP).take (q + 1)) ((ts.map (prP d)).take (q + 1)))) W) := by
     refine Pp.trans HO.out HQ.out ?_
     rw [HTK.out, if_neg (by simp), List.nil_append, rn_app, <- List.append_assoc]
     exact hp
    clear hp HC
    go_wp2
    exact ⟨⟨q + 1, by omega, by go_num, HN.out⟩, by simp [intOf]; omega⟩
   ·rw [z1, z2] at HTK HBD
    rw [Bool.false_or] at HTK HBD
    have hfe : fl [strU [10]] = rn [fe] := rfl
    have HC := put_lit [strU [10]] HW1.out (by have := HBD.out; rw [if_pos (by trivial)] at this; rw [hfe]; simp only [List.length_append] at this ⊢; omega) (by simp)
    rw [hfe] at HC
    go_wp2_with fail
    refine HC.mono ?_
    rintro e W ⟨rfl, v2, h2, o2, q2⟩
    have HD := pline_any k t HNC.out HEM.out h2 HDT.out (by have := HBD.out; rw [if_pos (by trivial)] at this; simp only [List.length_append] at this ⊢; omega)
    have HO2 : Hid _ := o2
    have HQ2 : Hid _ := q2
    clear h2 o2 q2 HC
    go_wp2_with fail
    refine HD.mono ?_
    rintro e W3 ⟨rfl, hp⟩
    have HN : Hid (Pp w0 g nv d w v (out ++ A ++ rn (pFiK d true ((ts.map hdP).take (q + 1)) ((ts.map (prP d)).take (q + 1)))) W3) := by
     refine Pp.trans HO.out HQ.out (Pp.trans HO2.out HQ2.out ?_)
     rw [HTK.out, if_pos (by trivial), rn_app, rn_app [fe], <- List.append_assoc, <- List.append_assoc]
     exact hp
    clear hp HD
    go_wp2
    exact ⟨⟨q + 1, by omega, by go_num, HN.out⟩, by simp [intOf]; omega⟩
  ·have hd : decide ((q : Int) < ks.length) = false := by simp; omega
   have HP : Hid (Pp w0 g nv d w v (out ++ (A ++ rn (pFiK d true (ts.map hdP) (ts.map (prP d))))) wr) := by
    have hp : Pp w0 g nv d w v (out ++ A ++ rn (pFiK d true ((ts.map hdP).take q) ((ts.map (prP d)).take q))) wr := ⟨v1, h1, o1, q1⟩
    rw [map_take_all d (by omega), List.take_of_length_le (by rw [List.length_map]; omega), List.append_assoc] at hp
    exact hp
   clear h1 o1 q1
   go_wp2
   go_end0
   refine ⟨rfl, ?_⟩
   have e := HE0.out
   simp only [List.cons_append, List.nil_append] at e
   rw [e]
   exact HP.out
end
end Go.Proofs.YtbadafkfjfbnlaaGreatDoor
