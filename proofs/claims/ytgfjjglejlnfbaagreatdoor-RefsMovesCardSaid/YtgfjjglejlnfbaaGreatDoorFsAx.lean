/- The contract of refs' Apply. -/
import Derived.Test.YtgfjjglejlnfbaaGreatDoorMrgC
namespace Go.Proofs.YtgfjjglejlnfbaaGreatDoor
open Go.RowKit

/-- Branches behind a move. -/
def applyL (rs : List Re) (m : Mv) (k : Nat) (t : Bool) : List Re := rs.take k ++ ((if noneB m.to then [] else [⟨m.name, m.to⟩]) ++ rs.drop (if t then k + 1 else k))
def badX (rs : List Re) (m : Mv) : Bool := !(refsB rs) || (!(nameB m.name) || (noneB m.frm && noneB m.to))
/-- What Apply tells. -/
def ApplyX (rs : List Re) (m : Mv) (B : Nat) (e : Ending) (w' : World) : Prop :=
  (badX rs m = true → e = .returned (.tuple #[.agg #[.slice none 0 0], .int .i64 190])) ∧
  (badX rs m = false → ∃ k, PartsR rs m.name k ∧ (movX rs m k (foundR rs m.name k) ≠ 0 → e = .returned (.tuple #[.agg #[.slice none 0 0], .int .i64 (movX rs m k (foundR rs m.name k))])) ∧
    (movX rs m k (foundR rs m.name k) = 0 → ∃ v, e = .returned (.tuple #[.agg #[v], .int .i64 0]) ∧ OwnR B w' v (applyL rs m k (foundR rs m.name k))))
theorem wpList_buildOne {P : Program} {ops : Array Oper} {Q : Exit → Act → World → Prop} {a : Act} {w w' : World} {rest : List Oper} {o : Oper} (hgd : o.guard = none) (ty : TypeId) (x : Operand) (ho : o.op = .buildSlice ty 1 #[(0, x)]) (u : Value) (hx : a.eval x = u) (v : Value)
    (hr : (Instr.buildSlice ty 1 #[(0, u)]).run P w = .ok v w') (h : wpList P ops Q rest (a.put o.dst v) w') : wpList P ops Q (o :: rest) a w :=
  wpList_plain hgd fun _ hK => by
    unfold Oper.wp execOp
    simp only [ho, Sem.run_bind, Sem.run_pure, Result.andThen_ok, List.map_toArray, List.map_cons, List.map_nil, hx, hr]
    exact hK _ _ h
theorem bldRef (n : ByteArray) (f : Nat → Int) (W : World) : (Instr.build 92 [(0, .string n), (1, .agg (arr .u8 32 f))].toArray).run Tryz.prog W = .ok (.agg (Re.cells ⟨n, f⟩)) W := by kernel_rfl
theorem one_row {w : World} {g : Nat} {e : Re} {t : TypeId} {fr : Nat × Nat} (h : w.heap[g]? = some (.cells e.cells t fr)) : RowsAt w 33 Re.cells (some ⟨g, 0, none⟩) [e] := fun _ => by
  refine ⟨g, 0, rfl, fun i x hx j u hu => ?_⟩
  match i with
  | 0 =>
    obtain rfl : e = x := by simpa using hx
    rw [cell_of_row _ _ _ _ _ _ h]
    simpa using hu
  | i + 1 => simp at hx
theorem rowsR_dropx {w : World} {b off off2 : Nat} {x : _} {fs : List Re} (h : RowsAt w 33 Re.cells (some ⟨b, off, x⟩) fs) (k : Nat) (h2 : k < fs.length → off2 = off + k * 33) : RowsAt w 33 Re.cells (some ⟨b, off2, x⟩) (fs.drop k) := fun hl => by
  rw [List.length_drop] at hl
  obtain ⟨b', off', e, hc⟩ := h (by omega)
  injection e with e
  injection e with e1 e2 e3
  subst e1 e2 e3
  refine ⟨b, off2, rfl, fun i x hx j u hu => ?_⟩
  rw [List.getElem?_drop] at hx
  rw [h2 (by omega), show off + k * 33 + i * 33 + j = off + (k + i) * 33 + j by omega]
  exact hc _ x hx j u hu
theorem rowsR_dropa {w : World} {a : Addr} {fs : List Re} (h : RowsAt w 33 Re.cells (some a) fs) (k : Nat) : RowsAt w 33 Re.cells (some (a.add (k * 33))) (fs.drop k) := fun hl => by
  have hl' := hl
  rw [List.length_drop] at hl
  obtain ⟨b, off, e, hc⟩ := h (by omega)
  injection e with e
  subst e
  have he : (⟨b, off, none⟩ : Addr).add (k * 33) = ⟨b, off + k * 33, none⟩ := by simp [Addr.add]
  rw [he]
  exact rowsR_dropx (off2 := off + k * 33) h k (fun _ => rfl) hl'
set_option maxRecDepth 100000 in
set_option maxHeartbeats 30000000 in
theorem xapply_any (sp : Option Addr) (cap : Nat) (rs : List Re) (m : Mv) (w : World) (hr : RowsAt w 33 Re.cells sp rs) (hn : sp = none → rs.length = 0 ∧ cap = 0) (hcap : rs.length ≤ cap) (hcap' : cap ≤ 9223372036854775807) (hl : rs.length ≤ 1000000) :
    Calls Tryz.prog 9 #[.agg #[.slice sp rs.length cap], .agg m.cells] w fun e w' => ApplyX rs m w.heap.size e w' ∧ Below w.heap.size w w' := by
  have HR : Hid (∀ W, Below w.heap.size w W → RowsAt W 33 Re.cells sp rs) := fun W h => hr.below h
  have HNN : Hid (sp = none → rs.length = 0 ∧ cap = 0) := hn
  clear hr hn
  go_enter Tryz.func9, Tryz.ntmps9
  go_wp2_with fail
  refine calls_gen (fun W1 => Below w.heap.size w W1 ∧ W1.heap[w.heap.size]? = some (.cells #[.slice sp rs.length cap] 24 (0, 0)) ∧ W1.heap[w.heap.size + 1]? = some (.cells m.cells 28 (0, 0)) ∧ W1.heap[w.heap.size + 1 + 1]? = some (.cells #[.slice none 0 0] 24 (0, 0))) ?_ ?_
  · have n2 := heap_alloc_new ((w.alloc (.cells #[.slice sp rs.length cap] 24)).alloc (.cells m.cells 28)) (.cells #[.slice none 0 0] 24)
    have n1 := heap_alloc_new (w.alloc (.cells #[.slice sp rs.length cap] 24)) (.cells m.cells 28)
    have n0 := heap_alloc_new w (.cells #[.slice sp rs.length cap] 24)
    simp only [World.size_alloc] at n1 n2
    exact ⟨(((Below.refl _ _).alloc (Nat.le_refl _) _).alloc (by simp) _).alloc (by simp; omega) _, (Below.heap_alloc _ _ _ (by simp; omega)).trans ((Below.heap_alloc _ _ _ (by simp)).trans n0), (Below.heap_alloc _ _ _ (by simp)).trans n1, n2⟩
  rintro W1 ⟨b1, g0, g1, g2⟩
  have HW : Hid (∀ W, Below W1.heap.size W1 W → W.cell? ⟨w.heap.size, 0, none⟩ = some (.slice sp rs.length cap) ∧ W.cell? ⟨w.heap.size + 1, 0, none⟩ = some (.string m.name) ∧ (∀ i, i < 32 → W.cell? ⟨w.heap.size + 1, 1 + i, none⟩ = some (.int .u8 (m.frm i))) ∧ (∀ i, i < 32 → W.cell? ⟨w.heap.size + 1, 33 + i, none⟩ = some (.int .u8 (m.to i))) ∧ W.heap[w.heap.size + 1]? = some (.cells m.cells 28 (0, 0)) ∧ W.heap[w.heap.size + 1 + 1]? = some (.cells #[.slice none 0 0] 24 (0, 0)) ∧ Below w.heap.size w W) := fun W h =>
    have q1 := (h.block _ (lt_of_row g1)).trans g1
    ⟨(cell_of_row _ _ _ _ _ _ ((h.block _ (lt_of_row g0)).trans g0)).trans rfl, (cell_of_row _ _ _ _ _ _ q1).trans m.cell0, fun i hi => (cell_of_row _ _ _ _ _ _ q1).trans (m.cellF i hi), fun i hi => (cell_of_row _ _ _ _ _ _ q1).trans (m.cellT i hi), q1, (h.block _ (lt_of_row g2)).trans g2, b1.trans (h.mono b1.size)⟩
  have HEND : Hid (∀ W u, Below W1.heap.size W1 W → (W.setCell ⟨w.heap.size + 1 + 1, 0, none⟩ u).heap[w.heap.size + 1 + 1]? = some (.cells #[u] 24 (0, 0)) ∧ Below w.heap.size w (W.setCell ⟨w.heap.size + 1 + 1, 0, none⟩ u) ∧ W.cell? ⟨w.heap.size + 1 + 1, 0, none⟩ = some (.slice none 0 0) ∧ W.frozen? ⟨w.heap.size + 1 + 1, 0, none⟩ = false) := fun W u h =>
    have q2 := (h.block _ (lt_of_row g2)).trans g2
    ⟨heap_setCell_same _ _ 0 _ _ _ q2, (b1.trans (h.mono b1.size)).setCell (p := ⟨w.heap.size + 1 + 1, 0, none⟩) (by show w.heap.size ≤ w.heap.size + 1 + 1; omega) _, (cell_of_row _ _ _ _ _ _ q2).trans rfl, frozen_of_row _ _ _ _ _ q2⟩
  have HB1 : Hid (Below w.heap.size w W1) := b1
  refine (xcheck_any sp cap rs W1 (HR.out W1 b1) (by omega)).mono ?_
  rintro e W2 ⟨rfl, b2⟩
  clear g0 g1 g2 b1
  unfold checkX
  cases hrb : refsB rs
  · obtain ⟨r3, b3, c3, z3⟩ := HEND.out W2 (.slice none 0 0) b2
    have HP : Hid (ApplyX rs m w.heap.size (.returned (.tuple #[.agg #[.slice none 0 0], .int .i64 190])) (W2.setCell ⟨w.heap.size + 1 + 1, 0, none⟩ (.slice none 0 0))) := ⟨fun _ => rfl, fun h => by unfold badX at h; rw [hrb] at h; cases h⟩
    have HR3 : Hid _ := r3
    clear hrb r3
    go_wp2
    exact bodyPost_ret (v := .tuple #[.agg #[.slice none 0 0], .int .i64 190]) (results_cell_tmp Tryz.results9 _ _ (w.heap.size + 1 + 1) 24 #[.slice none 0 0] (0, 0) _ _ rfl rfl HR3.out Tryz.underlying24 rfl (by kernel_rfl)) rfl ⟨HP.out, b3⟩
  · have HRB : Hid (refsB rs = true) := hrb
    obtain ⟨c0, c1, hcf, hct, -, -, -⟩ := HW.out W2 b2
    clear hrb hcf hct
    go_wp2_with fail
    refine (name_any m.name W2).mono ?_
    rintro e W3 ⟨rfl, b23⟩
    have b3 : Below W1.heap.size W1 W3 := b2.trans (b23.mono b2.size)
    clear b2 b23 c0 c1
    cases hnm : nameB m.name
    · obtain ⟨r3, bw, c3, z3⟩ := HEND.out W3 (.slice none 0 0) b3
      have HP : Hid (ApplyX rs m w.heap.size (.returned (.tuple #[.agg #[.slice none 0 0], .int .i64 190])) (W3.setCell ⟨w.heap.size + 1 + 1, 0, none⟩ (.slice none 0 0))) := ⟨fun _ => rfl, fun h => by unfold badX at h; rw [HRB.out, hnm] at h; cases h⟩
      have HR3 : Hid _ := r3
      clear hnm r3
      go_wp2
      exact bodyPost_ret (v := .tuple #[.agg #[.slice none 0 0], .int .i64 190]) (results_cell_tmp Tryz.results9 _ _ (w.heap.size + 1 + 1) 24 #[.slice none 0 0] (0, 0) _ _ rfl rfl HR3.out Tryz.underlying24 rfl (by kernel_rfl)) rfl ⟨HP.out, bw⟩
    · have HNM : Hid (nameB m.name = true) := hnm
      obtain ⟨-, -, hcf, -, -, -, -⟩ := HW.out W3 b3
      have HCF : Hid _ := hcf
      clear hnm hcf
      go_wp2_with (refine load_atg (by rfl) 26 (.tmp 21) (by rfl) (w.heap.size + 1) 1 (by rfl) .u8 32 m.frm _ HCF.out Tryz.underlying26 rfl (by kernel_rfl) ?_)
      refine (xnone_any m.frm W3).mono ?_
      rintro e W4 ⟨rfl, b34⟩
      have b4 : Below W1.heap.size W1 W4 := b3.trans (b34.mono b3.size)
      clear b3 b34 HCF
      cases hnf : noneB m.frm
      · have HBAD : Hid (badX rs m = false) := by show _ = _; unfold badX; rw [HRB.out, HNM.out, hnf]; rfl
        clear hnf
        obtain ⟨c0, c1, -, -, -, -, hbw⟩ := HW.out W4 b4
        have hup := (upR_of HRB.out).1
        have hl8 := (upR_of HRB.out).2
        go_wp2_with fail
        refine (xplace_any sp cap rs m.name W4 (HR.out W4 hbw) hl (mono_of hup m.name)).mono ?_
        rintro e Wp ⟨⟨k, hk, rfl⟩, bp0⟩
        have bp : Below W1.heap.size W1 Wp := b4.trans (bp0.mono b4.size)
        clear b4 bp0 c0 c1 hbw
        have HPK : Hid (PartsR rs m.name k) := hk
        have hkl := hk.1
        have HFD : Hid (foundR rs m.name k = true → k < rs.length) := fun h => by
          obtain ⟨f, hf, -⟩ := found_name h
          exact (List.getElem?_eq_some_iff.1 hf).1
        have HGOOD : Hid (∀ e w', (movX rs m k (foundR rs m.name k) ≠ 0 → e = .returned (.tuple #[.agg #[.slice none 0 0], .int .i64 (movX rs m k (foundR rs m.name k))])) → (movX rs m k (foundR rs m.name k) = 0 → ∃ v, e = .returned (.tuple #[.agg #[v], .int .i64 0]) ∧ OwnR w.heap.size w' v (applyL rs m k (foundR rs m.name k))) → ApplyX rs m w.heap.size e w') := fun e w' h1 h2 => ⟨(fun h => by rw [HBAD.out] at h; cases h), fun _ => ⟨k, HPK.out, h1, h2⟩⟩
        obtain ⟨c0, -, -, -, hrow, -, hbw⟩ := HW.out Wp bp
        have HROW : Hid _ := hrow
        clear hk hrow
        generalize foundR rs m.name k = t at *
        go_wp2_with (refine wpList_load_row (by rfl) 28 (.tmp 3) (by rfl) (w.heap.size + 1) (by rfl) 28 m.cells (0, 0) _ HROW.out Tryz.underlying28 rfl (by rw [m.size]; kernel_rfl) ?_)
        refine (movable_any sp cap rs m k t Wp (HR.out Wp hbw) hl HFD.out).mono ?_
        rintro e Wm ⟨rfl, bm0⟩
        have bm : Below W1.heap.size W1 Wm := bp.trans (bm0.mono bp.size)
        clear bp bm0 c0 hbw HROW
        by_cases hx : movX rs m k t = 0
        · rw [hx]
          have HX : Hid (movX rs m k t = 0) := hx
          clear hx
          obtain ⟨c0, c1, -, hct, -, hq2, hbw⟩ := HW.out Wm bm
          have HCT : Hid _ := hct
          have HBND : Hid (rs.length ≤ 8) := hl8
          clear hct hq2
          cases t
          · go_wp2_with (refine load_atg (by rfl) 26 (.tmp 51) (by rfl) (w.heap.size + 1) 33 (by rfl) .u8 32 m.to _ HCT.out Tryz.underlying26 rfl (by kernel_rfl) ?_)
            refine (xnone_any m.to Wm).mono ?_
            rintro e Wn ⟨rfl, bn0⟩
            have bn : Below W1.heap.size W1 Wn := bm.trans (bn0.mono bm.size)
            clear bm bn0 c0 c1 hbw HCT
            obtain ⟨c0, c1, -, hct, -, -, hbw⟩ := HW.out Wn bn
            have HCT : Hid _ := hct
            clear hct
            cases hnt : noneB m.to
            · obtain ⟨e, he, HBL⟩ : ∃ e : Re, e = ⟨m.name, m.to⟩ ∧ Hid (∀ W, (Instr.build 92 [(0, .string m.name), (1, .agg (arr .u8 32 m.to))].toArray).run Tryz.prog W = .ok (.agg e.cells) W) := ⟨_, rfl, fun W => bldRef m.name m.to W⟩
              have HE : Hid (applyL rs m k false = rs.take k ++ ([e] ++ rs.drop k)) := by show _ = _; unfold applyL; rw [hnt, he]; rfl
              clear he hnt
              go_wp2_with (first
                | (refine wpList_build (by rfl) 92 [(0, .tmp 56), (1, .tmp 58)] (by rfl) [(0, .string m.name), (1, .agg (arr .u8 32 m.to))] (by rfl) (.agg e.cells) (HBL.out _) ?_)
                | (refine wpList_buildOne (by rfl) 22 (.tmp 59) (by rfl) (.agg e.cells) (by rfl) _ (bldRe e _) ?_; refine wpList_gen (fun W => Below Wn.heap.size Wn W ∧ W.heap[Wn.heap.size]? = some (.cells e.cells 92 (0, 0))) ⟨(Below.refl _ _).alloc (Nat.le_refl _) _, heap_alloc_new _ _⟩ ?_; intro Wb hWb; have HWB : Hid _ := hWb; clear hWb)
                | (refine load_atg (by rfl) 26 (.tmp 57) (by rfl) (w.heap.size + 1) 33 (by rfl) .u8 32 m.to _ HCT.out Tryz.underlying26 rfl (by kernel_rfl) ?_))
              have bb : Below W1.heap.size W1 Wb := bn.trans (HWB.out.1.mono bn.size)
              have HM : Hid (∀ W, Below Wb.heap.size Wb W → RowsAt W 33 Re.cells (some ⟨Wn.heap.size, 0, none⟩) [e]) := fun W h => one_row ((h.block _ (lt_of_row HWB.out.2)).trans HWB.out.2)
              clear bn c0 c1 hbw
              obtain ⟨c0, -, -, -, -, q2, hbb⟩ := HW.out Wb bb
              have hq := lt_of_row q2
              clear q2
              obtain ⟨-, -, d1, z1⟩ := HEND.out Wb (.slice none 0 0) bb
              have hck7 : (k : Int) ≤ rs.length := by omega
              have hz1 : k ≤ cap := by omega
              rcases sp with _ | ⟨b, off, x⟩
              · have hz := HNN.out rfl
                obtain ⟨hz2, rfl⟩ := hz
                obtain rfl : rs = [] := List.length_eq_zero_iff.1 hz2
                obtain rfl : k = 0 := by simpa using hkl
                go_region_with (go_at_call 40; refine calls_gen (fun W => Below Wb.heap.size Wb W ∧ W.heap[Wb.heap.size]? = some (.cells #[.slice none 0 0, .slice (some ⟨Wn.heap.size, 0, none⟩) 1 1, .slice none 0 0] 22 (0, 0))) ⟨((Below.refl _ _).alloc (Nat.le_refl _) _).drew, heap_alloc_new Wb _⟩ ?_; intro W ⟨g4, r4⟩; have hRW := HR.out W (hbb.trans (g4.mono hbb.size)); refine (concat_three (l1 := ([] : List Re).take 0) (l2 := [e]) (l3 := ([] : List Re).drop 0) r4 rfl rfl rfl ⟨fun h => by simp at h, fun _ => ⟨rfl, rfl⟩⟩ ⟨HM.out _ g4, fun h => by cases h⟩ ⟨fun h => by simp at h, fun _ => ⟨rfl, rfl⟩⟩ (by have := HBND.out; omega)).mono ?_; rintro e w4 ⟨⟨v, rfl, hO4⟩, hB4⟩; rw [← HE.out] at hO4; obtain ⟨sp4, cap4, rfl, -, -⟩ := OwnR.rows hO4; have f4 : Below Wb.heap.size Wb w4 := g4.trans (hB4.mono g4.size); have HO4 : Hid (OwnR Wb.heap.size w4 (.slice sp4 (applyL ([] : List Re) m 0 false).length cap4) (applyL ([] : List Re) m 0 false)) := OwnR.mono hO4 g4.size; have b4 : Below W1.heap.size W1 w4 := bb.trans (f4.mono bb.size); obtain ⟨r5, b5, d5, z5⟩ := HEND.out w4 (.slice sp4 (applyL ([] : List Re) m 0 false).length cap4) b4; have R5 : Hid _ := r5; clear r5 hO4 hB4 r4 g4 hRW)
                all_goals (
                  try go_wp2
                  refine bodyPost_ret (v := .tuple #[.agg #[.slice sp4 (applyL ([] : List Re) m 0 false).length cap4], .int .i64 0]) (results_cell_tmp Tryz.results9 _ _ (w.heap.size + 1 + 1) 24 #[.slice sp4 (applyL ([] : List Re) m 0 false).length cap4] (0, 0) _ _ rfl rfl R5.out Tryz.underlying24 rfl (by kernel_rfl)) rfl ⟨HGOOD.out _ _ (fun h => absurd HX.out h) (fun _ => ⟨_, rfl, OwnR.mono (OwnR.keep HO4.out fun j hj => heap_setCell_other _ _ _ _ ?_) hbb.size⟩), b5⟩
                  have h1 := (OwnR.lt HO4.out hj).1
                  have h2 := hq
                  show j ≠ w.heap.size + 1 + 1
                  omega)
              · by_cases hck : cap = k
                · have hck1 := hck.symm
                  subst hck1
                  clear hck
                  have hck5 : rs.length = k := by omega
                  go_region_with (go_at_call 40; refine calls_gen (fun W => Below Wb.heap.size Wb W ∧ W.heap[Wb.heap.size]? = some (.cells #[.slice (some ⟨b, off, x⟩) k k, .slice (some ⟨Wn.heap.size, 0, none⟩) 1 1, .slice (some ⟨b, off, x⟩) 0 0] 22 (0, 0))) ⟨((Below.refl _ _).alloc (Nat.le_refl _) _).drew, heap_alloc_new Wb _⟩ ?_; intro W ⟨g4, r4⟩; have hRW := HR.out W (hbb.trans (g4.mono hbb.size)); refine (concat_three (l1 := rs.take k) (l2 := [e]) (l3 := rs.drop k) r4 (by rw [List.length_take]; omega) rfl (by rw [List.length_drop]; omega) ⟨rowsR_take hRW k, fun h => by cases h⟩ ⟨HM.out _ g4, fun h => by cases h⟩ ⟨rowsR_dropx hRW k (fun h => by omega), fun h => by cases h⟩ (by have := HBND.out; omega)).mono ?_; rintro e w4 ⟨⟨v, rfl, hO4⟩, hB4⟩; rw [← HE.out] at hO4; obtain ⟨sp4, cap4, rfl, -, -⟩ := OwnR.rows hO4; have f4 : Below Wb.heap.size Wb w4 := g4.trans (hB4.mono g4.size); have HO4 : Hid (OwnR Wb.heap.size w4 (.slice sp4 (applyL rs m k false).length cap4) (applyL rs m k false)) := OwnR.mono hO4 g4.size; have b4 : Below W1.heap.size W1 w4 := bb.trans (f4.mono bb.size); obtain ⟨r5, b5, d5, z5⟩ := HEND.out w4 (.slice sp4 (applyL rs m k false).length cap4) b4; have R5 : Hid _ := r5; clear r5 hO4 hB4 r4 g4 hRW)
                  all_goals (
                    try go_wp2
                    refine bodyPost_ret (v := .tuple #[.agg #[.slice sp4 (applyL rs m k false).length cap4], .int .i64 0]) (results_cell_tmp Tryz.results9 _ _ (w.heap.size + 1 + 1) 24 #[.slice sp4 (applyL rs m k false).length cap4] (0, 0) _ _ rfl rfl R5.out Tryz.underlying24 rfl (by kernel_rfl)) rfl ⟨HGOOD.out _ _ (fun h => absurd HX.out h) (fun _ => ⟨_, rfl, OwnR.mono (OwnR.keep HO4.out fun j hj => heap_setCell_other _ _ _ _ ?_) hbb.size⟩), b5⟩
                    have h1 := (OwnR.lt HO4.out hj).1
                    have h2 := hq
                    show j ≠ w.heap.size + 1 + 1
                    omega)
                · have hck6 : k < cap := by omega
                  go_region_with (go_at_call 40; refine calls_gen (fun W => Below Wb.heap.size Wb W ∧ W.heap[Wb.heap.size]? = some (.cells #[.slice (some ⟨b, off, x⟩) k cap, .slice (some ⟨Wn.heap.size, 0, none⟩) 1 1, .slice (some ((⟨b, off, x⟩ : Addr).add (k * 33))) (rs.length - k) (cap - k)] 22 (0, 0))) ⟨((Below.refl _ _).alloc (Nat.le_refl _) _).drew, heap_alloc_new Wb _⟩ ?_; intro W ⟨g4, r4⟩; have hRW := HR.out W (hbb.trans (g4.mono hbb.size)); refine (concat_three (l1 := rs.take k) (l2 := [e]) (l3 := rs.drop k) r4 (by rw [List.length_take]; omega) rfl (by rw [List.length_drop]) ⟨rowsR_take hRW k, fun h => by cases h⟩ ⟨HM.out _ g4, fun h => by cases h⟩ ⟨rowsR_dropa hRW k, fun h => by cases h⟩ (by have := HBND.out; omega)).mono ?_; rintro e w4 ⟨⟨v, rfl, hO4⟩, hB4⟩; rw [← HE.out] at hO4; obtain ⟨sp4, cap4, rfl, -, -⟩ := OwnR.rows hO4; have f4 : Below Wb.heap.size Wb w4 := g4.trans (hB4.mono g4.size); have HO4 : Hid (OwnR Wb.heap.size w4 (.slice sp4 (applyL rs m k false).length cap4) (applyL rs m k false)) := OwnR.mono hO4 g4.size; have b4 : Below W1.heap.size W1 w4 := bb.trans (f4.mono bb.size); obtain ⟨r5, b5, d5, z5⟩ := HEND.out w4 (.slice sp4 (applyL rs m k false).length cap4) b4; have R5 : Hid _ := r5; clear r5 hO4 hB4 r4 g4 hRW)
                  all_goals (
                    try go_wp2
                    refine bodyPost_ret (v := .tuple #[.agg #[.slice sp4 (applyL rs m k false).length cap4], .int .i64 0]) (results_cell_tmp Tryz.results9 _ _ (w.heap.size + 1 + 1) 24 #[.slice sp4 (applyL rs m k false).length cap4] (0, 0) _ _ rfl rfl R5.out Tryz.underlying24 rfl (by kernel_rfl)) rfl ⟨HGOOD.out _ _ (fun h => absurd HX.out h) (fun _ => ⟨_, rfl, OwnR.mono (OwnR.keep HO4.out fun j hj => heap_setCell_other _ _ _ _ ?_) hbb.size⟩), b5⟩
                    have h1 := (OwnR.lt HO4.out hj).1
                    have h2 := hq
                    show j ≠ w.heap.size + 1 + 1
                    omega)
            · have HE : Hid (applyL rs m k false = rs.take k ++ ([] ++ rs.drop k)) := by show _ = _; unfold applyL; rw [hnt]; rfl
              clear hnt HCT
              go_wp2_with fail
              have hWb : ∃ Wb, Wb = Wn := ⟨_, rfl⟩
              obtain ⟨Wb, hWb⟩ := hWb
              rw [← hWb]
              have bb : Below W1.heap.size W1 Wb := hWb ▸ bn
              clear hWb
              clear bn c0 c1 hbw
              obtain ⟨c0, -, -, -, -, q2, hbb⟩ := HW.out Wb bb
              have hq := lt_of_row q2
              clear q2
              obtain ⟨-, -, d1, z1⟩ := HEND.out Wb (.slice none 0 0) bb
              have hck7 : (k : Int) ≤ rs.length := by omega
              have hz1 : k ≤ cap := by omega
              rcases sp with _ | ⟨b, off, x⟩
              · have hz := HNN.out rfl
                obtain ⟨hz2, rfl⟩ := hz
                obtain rfl : rs = [] := List.length_eq_zero_iff.1 hz2
                obtain rfl : k = 0 := by simpa using hkl
                go_region_with (go_at_call 40; refine calls_gen (fun W => Below Wb.heap.size Wb W ∧ W.heap[Wb.heap.size]? = some (.cells #[.slice none 0 0, .slice none 0 0, .slice none 0 0] 22 (0, 0))) ⟨((Below.refl _ _).alloc (Nat.le_refl _) _).drew, heap_alloc_new Wb _⟩ ?_; intro W ⟨g4, r4⟩; have hRW := HR.out W (hbb.trans (g4.mono hbb.size)); refine (concat_three (l1 := ([] : List Re).take 0) (l2 := ([] : List Re)) (l3 := ([] : List Re).drop 0) r4 rfl rfl rfl ⟨fun h => by simp at h, fun _ => ⟨rfl, rfl⟩⟩ ⟨fun h => by simp at h, fun _ => ⟨rfl, rfl⟩⟩ ⟨fun h => by simp at h, fun _ => ⟨rfl, rfl⟩⟩ (by have := HBND.out; omega)).mono ?_; rintro e w4 ⟨⟨v, rfl, hO4⟩, hB4⟩; rw [← HE.out] at hO4; obtain ⟨sp4, cap4, rfl, -, -⟩ := OwnR.rows hO4; have f4 : Below Wb.heap.size Wb w4 := g4.trans (hB4.mono g4.size); have HO4 : Hid (OwnR Wb.heap.size w4 (.slice sp4 (applyL ([] : List Re) m 0 false).length cap4) (applyL ([] : List Re) m 0 false)) := OwnR.mono hO4 g4.size; have b4 : Below W1.heap.size W1 w4 := bb.trans (f4.mono bb.size); obtain ⟨r5, b5, d5, z5⟩ := HEND.out w4 (.slice sp4 (applyL ([] : List Re) m 0 false).length cap4) b4; have R5 : Hid _ := r5; clear r5 hO4 hB4 r4 g4 hRW)
                all_goals (
                  try go_wp2
                  refine bodyPost_ret (v := .tuple #[.agg #[.slice sp4 (applyL ([] : List Re) m 0 false).length cap4], .int .i64 0]) (results_cell_tmp Tryz.results9 _ _ (w.heap.size + 1 + 1) 24 #[.slice sp4 (applyL ([] : List Re) m 0 false).length cap4] (0, 0) _ _ rfl rfl R5.out Tryz.underlying24 rfl (by kernel_rfl)) rfl ⟨HGOOD.out _ _ (fun h => absurd HX.out h) (fun _ => ⟨_, rfl, OwnR.mono (OwnR.keep HO4.out fun j hj => heap_setCell_other _ _ _ _ ?_) hbb.size⟩), b5⟩
                  have h1 := (OwnR.lt HO4.out hj).1
                  have h2 := hq
                  show j ≠ w.heap.size + 1 + 1
                  omega)
              · by_cases hck : cap = k
                · have hck1 := hck.symm
                  subst hck1
                  clear hck
                  have hck5 : rs.length = k := by omega
                  go_region_with (go_at_call 40; refine calls_gen (fun W => Below Wb.heap.size Wb W ∧ W.heap[Wb.heap.size]? = some (.cells #[.slice (some ⟨b, off, x⟩) k k, .slice none 0 0, .slice (some ⟨b, off, x⟩) 0 0] 22 (0, 0))) ⟨((Below.refl _ _).alloc (Nat.le_refl _) _).drew, heap_alloc_new Wb _⟩ ?_; intro W ⟨g4, r4⟩; have hRW := HR.out W (hbb.trans (g4.mono hbb.size)); refine (concat_three (l1 := rs.take k) (l2 := ([] : List Re)) (l3 := rs.drop k) r4 (by rw [List.length_take]; omega) rfl (by rw [List.length_drop]; omega) ⟨rowsR_take hRW k, fun h => by cases h⟩ ⟨fun h => by simp at h, fun _ => ⟨rfl, rfl⟩⟩ ⟨rowsR_dropx hRW k (fun h => by omega), fun h => by cases h⟩ (by have := HBND.out; omega)).mono ?_; rintro e w4 ⟨⟨v, rfl, hO4⟩, hB4⟩; rw [← HE.out] at hO4; obtain ⟨sp4, cap4, rfl, -, -⟩ := OwnR.rows hO4; have f4 : Below Wb.heap.size Wb w4 := g4.trans (hB4.mono g4.size); have HO4 : Hid (OwnR Wb.heap.size w4 (.slice sp4 (applyL rs m k false).length cap4) (applyL rs m k false)) := OwnR.mono hO4 g4.size; have b4 : Below W1.heap.size W1 w4 := bb.trans (f4.mono bb.size); obtain ⟨r5, b5, d5, z5⟩ := HEND.out w4 (.slice sp4 (applyL rs m k false).length cap4) b4; have R5 : Hid _ := r5; clear r5 hO4 hB4 r4 g4 hRW)
                  all_goals (
                    try go_wp2
                    refine bodyPost_ret (v := .tuple #[.agg #[.slice sp4 (applyL rs m k false).length cap4], .int .i64 0]) (results_cell_tmp Tryz.results9 _ _ (w.heap.size + 1 + 1) 24 #[.slice sp4 (applyL rs m k false).length cap4] (0, 0) _ _ rfl rfl R5.out Tryz.underlying24 rfl (by kernel_rfl)) rfl ⟨HGOOD.out _ _ (fun h => absurd HX.out h) (fun _ => ⟨_, rfl, OwnR.mono (OwnR.keep HO4.out fun j hj => heap_setCell_other _ _ _ _ ?_) hbb.size⟩), b5⟩
                    have h1 := (OwnR.lt HO4.out hj).1
                    have h2 := hq
                    show j ≠ w.heap.size + 1 + 1
                    omega)
                · have hck6 : k < cap := by omega
                  go_region_with (go_at_call 40; refine calls_gen (fun W => Below Wb.heap.size Wb W ∧ W.heap[Wb.heap.size]? = some (.cells #[.slice (some ⟨b, off, x⟩) k cap, .slice none 0 0, .slice (some ((⟨b, off, x⟩ : Addr).add (k * 33))) (rs.length - k) (cap - k)] 22 (0, 0))) ⟨((Below.refl _ _).alloc (Nat.le_refl _) _).drew, heap_alloc_new Wb _⟩ ?_; intro W ⟨g4, r4⟩; have hRW := HR.out W (hbb.trans (g4.mono hbb.size)); refine (concat_three (l1 := rs.take k) (l2 := ([] : List Re)) (l3 := rs.drop k) r4 (by rw [List.length_take]; omega) rfl (by rw [List.length_drop]) ⟨rowsR_take hRW k, fun h => by cases h⟩ ⟨fun h => by simp at h, fun _ => ⟨rfl, rfl⟩⟩ ⟨rowsR_dropa hRW k, fun h => by cases h⟩ (by have := HBND.out; omega)).mono ?_; rintro e w4 ⟨⟨v, rfl, hO4⟩, hB4⟩; rw [← HE.out] at hO4; obtain ⟨sp4, cap4, rfl, -, -⟩ := OwnR.rows hO4; have f4 : Below Wb.heap.size Wb w4 := g4.trans (hB4.mono g4.size); have HO4 : Hid (OwnR Wb.heap.size w4 (.slice sp4 (applyL rs m k false).length cap4) (applyL rs m k false)) := OwnR.mono hO4 g4.size; have b4 : Below W1.heap.size W1 w4 := bb.trans (f4.mono bb.size); obtain ⟨r5, b5, d5, z5⟩ := HEND.out w4 (.slice sp4 (applyL rs m k false).length cap4) b4; have R5 : Hid _ := r5; clear r5 hO4 hB4 r4 g4 hRW)
                  all_goals (
                    try go_wp2
                    refine bodyPost_ret (v := .tuple #[.agg #[.slice sp4 (applyL rs m k false).length cap4], .int .i64 0]) (results_cell_tmp Tryz.results9 _ _ (w.heap.size + 1 + 1) 24 #[.slice sp4 (applyL rs m k false).length cap4] (0, 0) _ _ rfl rfl R5.out Tryz.underlying24 rfl (by kernel_rfl)) rfl ⟨HGOOD.out _ _ (fun h => absurd HX.out h) (fun _ => ⟨_, rfl, OwnR.mono (OwnR.keep HO4.out fun j hj => heap_setCell_other _ _ _ _ ?_) hbb.size⟩), b5⟩
                    have h1 := (OwnR.lt HO4.out hj).1
                    have h2 := hq
                    show j ≠ w.heap.size + 1 + 1
                    omega)
          · go_wp2_with (refine load_atg (by rfl) 26 (.tmp 51) (by rfl) (w.heap.size + 1) 33 (by rfl) .u8 32 m.to _ HCT.out Tryz.underlying26 rfl (by kernel_rfl) ?_)
            refine (xnone_any m.to Wm).mono ?_
            rintro e Wn ⟨rfl, bn0⟩
            have bn : Below W1.heap.size W1 Wn := bm.trans (bn0.mono bm.size)
            clear bm bn0 c0 c1 hbw HCT
            obtain ⟨c0, c1, -, hct, -, -, hbw⟩ := HW.out Wn bn
            have HCT : Hid _ := hct
            clear hct
            cases hnt : noneB m.to
            · obtain ⟨e, he, HBL⟩ : ∃ e : Re, e = ⟨m.name, m.to⟩ ∧ Hid (∀ W, (Instr.build 92 [(0, .string m.name), (1, .agg (arr .u8 32 m.to))].toArray).run Tryz.prog W = .ok (.agg e.cells) W) := ⟨_, rfl, fun W => bldRef m.name m.to W⟩
              have HE : Hid (applyL rs m k true = rs.take k ++ ([e] ++ rs.drop (k + 1))) := by show _ = _; unfold applyL; rw [hnt, he]; rfl
              clear he hnt
              go_wp2_with (first
                | (refine wpList_build (by rfl) 92 [(0, .tmp 56), (1, .tmp 58)] (by rfl) [(0, .string m.name), (1, .agg (arr .u8 32 m.to))] (by rfl) (.agg e.cells) (HBL.out _) ?_)
                | (refine wpList_buildOne (by rfl) 22 (.tmp 59) (by rfl) (.agg e.cells) (by rfl) _ (bldRe e _) ?_; refine wpList_gen (fun W => Below Wn.heap.size Wn W ∧ W.heap[Wn.heap.size]? = some (.cells e.cells 92 (0, 0))) ⟨(Below.refl _ _).alloc (Nat.le_refl _) _, heap_alloc_new _ _⟩ ?_; intro Wb hWb; have HWB : Hid _ := hWb; clear hWb)
                | (refine load_atg (by rfl) 26 (.tmp 57) (by rfl) (w.heap.size + 1) 33 (by rfl) .u8 32 m.to _ HCT.out Tryz.underlying26 rfl (by kernel_rfl) ?_))
              have bb : Below W1.heap.size W1 Wb := bn.trans (HWB.out.1.mono bn.size)
              have HM : Hid (∀ W, Below Wb.heap.size Wb W → RowsAt W 33 Re.cells (some ⟨Wn.heap.size, 0, none⟩) [e]) := fun W h => one_row ((h.block _ (lt_of_row HWB.out.2)).trans HWB.out.2)
              clear bn c0 c1 hbw
              obtain ⟨c0, -, -, -, -, q2, hbb⟩ := HW.out Wb bb
              have hq := lt_of_row q2
              clear q2
              obtain ⟨-, -, d1, z1⟩ := HEND.out Wb (.slice none 0 0) bb
              have hkl2 := HFD.out (by trivial)
              have hz0 : (0 : Int) ≤ (k : Int) + 1 := by omega
              have hck8 : IntKind.i64.wrap ((k : Int) + 1) = (k : Int) + 1 := by rw [IntKind.wrap_i64]; omega
              have hck7 : (k : Int) + 1 ≤ rs.length := by omega
              have hck4 : k + 1 ≤ rs.length := by omega
              have hz1 : k ≤ cap := by omega
              rcases sp with _ | ⟨b, off, x⟩
              · have hz := HNN.out rfl
                omega
              · by_cases hck : cap = (k + 1)
                · have hck1 := hck.symm
                  subst hck1
                  clear hck
                  have hck5 : rs.length = (k + 1) := by omega
                  go_region_with (go_at_call 40; refine calls_gen (fun W => Below Wb.heap.size Wb W ∧ W.heap[Wb.heap.size]? = some (.cells #[.slice (some ⟨b, off, x⟩) k (k + 1), .slice (some ⟨Wn.heap.size, 0, none⟩) 1 1, .slice (some ⟨b, off, x⟩) 0 0] 22 (0, 0))) ⟨((Below.refl _ _).alloc (Nat.le_refl _) _).drew, heap_alloc_new Wb _⟩ ?_; intro W ⟨g4, r4⟩; have hRW := HR.out W (hbb.trans (g4.mono hbb.size)); refine (concat_three (l1 := rs.take k) (l2 := [e]) (l3 := rs.drop (k + 1)) r4 (by rw [List.length_take]; omega) rfl (by rw [List.length_drop]; omega) ⟨rowsR_take hRW k, fun h => by cases h⟩ ⟨HM.out _ g4, fun h => by cases h⟩ ⟨rowsR_dropx hRW (k + 1) (fun h => by omega), fun h => by cases h⟩ (by have := HBND.out; omega)).mono ?_; rintro e w4 ⟨⟨v, rfl, hO4⟩, hB4⟩; rw [← HE.out] at hO4; obtain ⟨sp4, cap4, rfl, -, -⟩ := OwnR.rows hO4; have f4 : Below Wb.heap.size Wb w4 := g4.trans (hB4.mono g4.size); have HO4 : Hid (OwnR Wb.heap.size w4 (.slice sp4 (applyL rs m k true).length cap4) (applyL rs m k true)) := OwnR.mono hO4 g4.size; have b4 : Below W1.heap.size W1 w4 := bb.trans (f4.mono bb.size); obtain ⟨r5, b5, d5, z5⟩ := HEND.out w4 (.slice sp4 (applyL rs m k true).length cap4) b4; have R5 : Hid _ := r5; clear r5 hO4 hB4 r4 g4 hRW)
                  all_goals (
                    try go_wp2
                    refine bodyPost_ret (v := .tuple #[.agg #[.slice sp4 (applyL rs m k true).length cap4], .int .i64 0]) (results_cell_tmp Tryz.results9 _ _ (w.heap.size + 1 + 1) 24 #[.slice sp4 (applyL rs m k true).length cap4] (0, 0) _ _ rfl rfl R5.out Tryz.underlying24 rfl (by kernel_rfl)) rfl ⟨HGOOD.out _ _ (fun h => absurd HX.out h) (fun _ => ⟨_, rfl, OwnR.mono (OwnR.keep HO4.out fun j hj => heap_setCell_other _ _ _ _ ?_) hbb.size⟩), b5⟩
                    have h1 := (OwnR.lt HO4.out hj).1
                    have h2 := hq
                    show j ≠ w.heap.size + 1 + 1
                    omega)
                · have hck6 : (k + 1) < cap := by omega
                  go_region_with (go_at_call 40; refine calls_gen (fun W => Below Wb.heap.size Wb W ∧ W.heap[Wb.heap.size]? = some (.cells #[.slice (some ⟨b, off, x⟩) k cap, .slice (some ⟨Wn.heap.size, 0, none⟩) 1 1, .slice (some ((⟨b, off, x⟩ : Addr).add ((k + 1) * 33))) (rs.length - (k + 1)) (cap - (k + 1))] 22 (0, 0))) ⟨((Below.refl _ _).alloc (Nat.le_refl _) _).drew, heap_alloc_new Wb _⟩ ?_; intro W ⟨g4, r4⟩; have hRW := HR.out W (hbb.trans (g4.mono hbb.size)); refine (concat_three (l1 := rs.take k) (l2 := [e]) (l3 := rs.drop (k + 1)) r4 (by rw [List.length_take]; omega) rfl (by rw [List.length_drop]) ⟨rowsR_take hRW k, fun h => by cases h⟩ ⟨HM.out _ g4, fun h => by cases h⟩ ⟨rowsR_dropa hRW (k + 1), fun h => by cases h⟩ (by have := HBND.out; omega)).mono ?_; rintro e w4 ⟨⟨v, rfl, hO4⟩, hB4⟩; rw [← HE.out] at hO4; obtain ⟨sp4, cap4, rfl, -, -⟩ := OwnR.rows hO4; have f4 : Below Wb.heap.size Wb w4 := g4.trans (hB4.mono g4.size); have HO4 : Hid (OwnR Wb.heap.size w4 (.slice sp4 (applyL rs m k true).length cap4) (applyL rs m k true)) := OwnR.mono hO4 g4.size; have b4 : Below W1.heap.size W1 w4 := bb.trans (f4.mono bb.size); obtain ⟨r5, b5, d5, z5⟩ := HEND.out w4 (.slice sp4 (applyL rs m k true).length cap4) b4; have R5 : Hid _ := r5; clear r5 hO4 hB4 r4 g4 hRW)
                  all_goals (
                    try go_wp2
                    refine bodyPost_ret (v := .tuple #[.agg #[.slice sp4 (applyL rs m k true).length cap4], .int .i64 0]) (results_cell_tmp Tryz.results9 _ _ (w.heap.size + 1 + 1) 24 #[.slice sp4 (applyL rs m k true).length cap4] (0, 0) _ _ rfl rfl R5.out Tryz.underlying24 rfl (by kernel_rfl)) rfl ⟨HGOOD.out _ _ (fun h => absurd HX.out h) (fun _ => ⟨_, rfl, OwnR.mono (OwnR.keep HO4.out fun j hj => heap_setCell_other _ _ _ _ ?_) hbb.size⟩), b5⟩
                    have h1 := (OwnR.lt HO4.out hj).1
                    have h2 := hq
                    show j ≠ w.heap.size + 1 + 1
                    omega)
            · have HE : Hid (applyL rs m k true = rs.take k ++ ([] ++ rs.drop (k + 1))) := by show _ = _; unfold applyL; rw [hnt]; rfl
              clear hnt HCT
              go_wp2_with fail
              have hWb : ∃ Wb, Wb = Wn := ⟨_, rfl⟩
              obtain ⟨Wb, hWb⟩ := hWb
              rw [← hWb]
              have bb : Below W1.heap.size W1 Wb := hWb ▸ bn
              clear hWb
              clear bn c0 c1 hbw
              obtain ⟨c0, -, -, -, -, q2, hbb⟩ := HW.out Wb bb
              have hq := lt_of_row q2
              clear q2
              obtain ⟨-, -, d1, z1⟩ := HEND.out Wb (.slice none 0 0) bb
              have hkl2 := HFD.out (by trivial)
              have hz0 : (0 : Int) ≤ (k : Int) + 1 := by omega
              have hck8 : IntKind.i64.wrap ((k : Int) + 1) = (k : Int) + 1 := by rw [IntKind.wrap_i64]; omega
              have hck7 : (k : Int) + 1 ≤ rs.length := by omega
              have hck4 : k + 1 ≤ rs.length := by omega
              have hz1 : k ≤ cap := by omega
              rcases sp with _ | ⟨b, off, x⟩
              · have hz := HNN.out rfl
                omega
              · by_cases hck : cap = (k + 1)
                · have hck1 := hck.symm
                  subst hck1
                  clear hck
                  have hck5 : rs.length = (k + 1) := by omega
                  go_region_with (go_at_call 40; refine calls_gen (fun W => Below Wb.heap.size Wb W ∧ W.heap[Wb.heap.size]? = some (.cells #[.slice (some ⟨b, off, x⟩) k (k + 1), .slice none 0 0, .slice (some ⟨b, off, x⟩) 0 0] 22 (0, 0))) ⟨((Below.refl _ _).alloc (Nat.le_refl _) _).drew, heap_alloc_new Wb _⟩ ?_; intro W ⟨g4, r4⟩; have hRW := HR.out W (hbb.trans (g4.mono hbb.size)); refine (concat_three (l1 := rs.take k) (l2 := ([] : List Re)) (l3 := rs.drop (k + 1)) r4 (by rw [List.length_take]; omega) rfl (by rw [List.length_drop]; omega) ⟨rowsR_take hRW k, fun h => by cases h⟩ ⟨fun h => by simp at h, fun _ => ⟨rfl, rfl⟩⟩ ⟨rowsR_dropx hRW (k + 1) (fun h => by omega), fun h => by cases h⟩ (by have := HBND.out; omega)).mono ?_; rintro e w4 ⟨⟨v, rfl, hO4⟩, hB4⟩; rw [← HE.out] at hO4; obtain ⟨sp4, cap4, rfl, -, -⟩ := OwnR.rows hO4; have f4 : Below Wb.heap.size Wb w4 := g4.trans (hB4.mono g4.size); have HO4 : Hid (OwnR Wb.heap.size w4 (.slice sp4 (applyL rs m k true).length cap4) (applyL rs m k true)) := OwnR.mono hO4 g4.size; have b4 : Below W1.heap.size W1 w4 := bb.trans (f4.mono bb.size); obtain ⟨r5, b5, d5, z5⟩ := HEND.out w4 (.slice sp4 (applyL rs m k true).length cap4) b4; have R5 : Hid _ := r5; clear r5 hO4 hB4 r4 g4 hRW)
                  all_goals (
                    try go_wp2
                    refine bodyPost_ret (v := .tuple #[.agg #[.slice sp4 (applyL rs m k true).length cap4], .int .i64 0]) (results_cell_tmp Tryz.results9 _ _ (w.heap.size + 1 + 1) 24 #[.slice sp4 (applyL rs m k true).length cap4] (0, 0) _ _ rfl rfl R5.out Tryz.underlying24 rfl (by kernel_rfl)) rfl ⟨HGOOD.out _ _ (fun h => absurd HX.out h) (fun _ => ⟨_, rfl, OwnR.mono (OwnR.keep HO4.out fun j hj => heap_setCell_other _ _ _ _ ?_) hbb.size⟩), b5⟩
                    have h1 := (OwnR.lt HO4.out hj).1
                    have h2 := hq
                    show j ≠ w.heap.size + 1 + 1
                    omega)
                · have hck6 : (k + 1) < cap := by omega
                  go_region_with (go_at_call 40; refine calls_gen (fun W => Below Wb.heap.size Wb W ∧ W.heap[Wb.heap.size]? = some (.cells #[.slice (some ⟨b, off, x⟩) k cap, .slice none 0 0, .slice (some ((⟨b, off, x⟩ : Addr).add ((k + 1) * 33))) (rs.length - (k + 1)) (cap - (k + 1))] 22 (0, 0))) ⟨((Below.refl _ _).alloc (Nat.le_refl _) _).drew, heap_alloc_new Wb _⟩ ?_; intro W ⟨g4, r4⟩; have hRW := HR.out W (hbb.trans (g4.mono hbb.size)); refine (concat_three (l1 := rs.take k) (l2 := ([] : List Re)) (l3 := rs.drop (k + 1)) r4 (by rw [List.length_take]; omega) rfl (by rw [List.length_drop]) ⟨rowsR_take hRW k, fun h => by cases h⟩ ⟨fun h => by simp at h, fun _ => ⟨rfl, rfl⟩⟩ ⟨rowsR_dropa hRW (k + 1), fun h => by cases h⟩ (by have := HBND.out; omega)).mono ?_; rintro e w4 ⟨⟨v, rfl, hO4⟩, hB4⟩; rw [← HE.out] at hO4; obtain ⟨sp4, cap4, rfl, -, -⟩ := OwnR.rows hO4; have f4 : Below Wb.heap.size Wb w4 := g4.trans (hB4.mono g4.size); have HO4 : Hid (OwnR Wb.heap.size w4 (.slice sp4 (applyL rs m k true).length cap4) (applyL rs m k true)) := OwnR.mono hO4 g4.size; have b4 : Below W1.heap.size W1 w4 := bb.trans (f4.mono bb.size); obtain ⟨r5, b5, d5, z5⟩ := HEND.out w4 (.slice sp4 (applyL rs m k true).length cap4) b4; have R5 : Hid _ := r5; clear r5 hO4 hB4 r4 g4 hRW)
                  all_goals (
                    try go_wp2
                    refine bodyPost_ret (v := .tuple #[.agg #[.slice sp4 (applyL rs m k true).length cap4], .int .i64 0]) (results_cell_tmp Tryz.results9 _ _ (w.heap.size + 1 + 1) 24 #[.slice sp4 (applyL rs m k true).length cap4] (0, 0) _ _ rfl rfl R5.out Tryz.underlying24 rfl (by kernel_rfl)) rfl ⟨HGOOD.out _ _ (fun h => absurd HX.out h) (fun _ => ⟨_, rfl, OwnR.mono (OwnR.keep HO4.out fun j hj => heap_setCell_other _ _ _ _ ?_) hbb.size⟩), b5⟩
                    have h1 := (OwnR.lt HO4.out hj).1
                    have h2 := hq
                    show j ≠ w.heap.size + 1 + 1
                    omega)
        · obtain ⟨r3, bw, c3, z3⟩ := HEND.out Wm (.slice none 0 0) bm
          have HP : Hid (ApplyX rs m w.heap.size (.returned (.tuple #[.agg #[.slice none 0 0], .int .i64 (movX rs m k t)])) (Wm.setCell ⟨w.heap.size + 1 + 1, 0, none⟩ (.slice none 0 0))) := HGOOD.out _ _ (fun _ => rfl) (fun h => absurd h hx)
          have HR3 : Hid _ := r3
          have hne : (movX rs m k t != 0) = true := by simpa using hx
          clear HGOOD r3 hx
          generalize movX rs m k t = x at *
          go_wp2
          exact bodyPost_ret (v := .tuple #[.agg #[.slice none 0 0], .int .i64 x]) (results_cell_tmp Tryz.results9 _ _ (w.heap.size + 1 + 1) 24 #[.slice none 0 0] (0, 0) _ _ rfl rfl HR3.out Tryz.underlying24 rfl (by kernel_rfl)) rfl ⟨HP.out, bw⟩
      · obtain ⟨-, -, -, hct, -, -, -⟩ := HW.out W4 b4
        have HCT : Hid _ := hct
        have HNF : Hid (noneB m.frm = true) := hnf
        clear hnf hct
        go_wp2_with (refine load_atg (by rfl) 26 (.tmp 25) (by rfl) (w.heap.size + 1) 33 (by rfl) .u8 32 m.to _ HCT.out Tryz.underlying26 rfl (by kernel_rfl) ?_)
        refine (xnone_any m.to W4).mono ?_
        rintro e W5 ⟨rfl, b45⟩
        have b5 : Below W1.heap.size W1 W5 := b4.trans (b45.mono b4.size)
        clear b4 b45 HCT
        cases hnt : noneB m.to
        · have HBAD : Hid (badX rs m = false) := by show _ = _; unfold badX; rw [HRB.out, HNM.out, HNF.out, hnt]; rfl
          clear hnt
          obtain ⟨c0, c1, -, -, -, -, hbw⟩ := HW.out W5 b5
          have hup := (upR_of HRB.out).1
          have hl8 := (upR_of HRB.out).2
          go_wp2_with fail
          refine (xplace_any sp cap rs m.name W5 (HR.out W5 hbw) hl (mono_of hup m.name)).mono ?_
          rintro e Wp ⟨⟨k, hk, rfl⟩, bp0⟩
          have bp : Below W1.heap.size W1 Wp := b5.trans (bp0.mono b5.size)
          clear b5 bp0 c0 c1 hbw
          have HPK : Hid (PartsR rs m.name k) := hk
          have hkl := hk.1
          have HFD : Hid (foundR rs m.name k = true → k < rs.length) := fun h => by
            obtain ⟨f, hf, -⟩ := found_name h
            exact (List.getElem?_eq_some_iff.1 hf).1
          have HGOOD : Hid (∀ e w', (movX rs m k (foundR rs m.name k) ≠ 0 → e = .returned (.tuple #[.agg #[.slice none 0 0], .int .i64 (movX rs m k (foundR rs m.name k))])) → (movX rs m k (foundR rs m.name k) = 0 → ∃ v, e = .returned (.tuple #[.agg #[v], .int .i64 0]) ∧ OwnR w.heap.size w' v (applyL rs m k (foundR rs m.name k))) → ApplyX rs m w.heap.size e w') := fun e w' h1 h2 => ⟨(fun h => by rw [HBAD.out] at h; cases h), fun _ => ⟨k, HPK.out, h1, h2⟩⟩
          obtain ⟨c0, -, -, -, hrow, -, hbw⟩ := HW.out Wp bp
          have HROW : Hid _ := hrow
          clear hk hrow
          generalize foundR rs m.name k = t at *
          go_wp2_with (refine wpList_load_row (by rfl) 28 (.tmp 3) (by rfl) (w.heap.size + 1) (by rfl) 28 m.cells (0, 0) _ HROW.out Tryz.underlying28 rfl (by rw [m.size]; kernel_rfl) ?_)
          refine (movable_any sp cap rs m k t Wp (HR.out Wp hbw) hl HFD.out).mono ?_
          rintro e Wm ⟨rfl, bm0⟩
          have bm : Below W1.heap.size W1 Wm := bp.trans (bm0.mono bp.size)
          clear bp bm0 c0 hbw HROW
          by_cases hx : movX rs m k t = 0
          · rw [hx]
            have HX : Hid (movX rs m k t = 0) := hx
            clear hx
            obtain ⟨c0, c1, -, hct, -, hq2, hbw⟩ := HW.out Wm bm
            have HCT : Hid _ := hct
            have HBND : Hid (rs.length ≤ 8) := hl8
            clear hct hq2
            cases t
            · go_wp2_with (refine load_atg (by rfl) 26 (.tmp 51) (by rfl) (w.heap.size + 1) 33 (by rfl) .u8 32 m.to _ HCT.out Tryz.underlying26 rfl (by kernel_rfl) ?_)
              refine (xnone_any m.to Wm).mono ?_
              rintro e Wn ⟨rfl, bn0⟩
              have bn : Below W1.heap.size W1 Wn := bm.trans (bn0.mono bm.size)
              clear bm bn0 c0 c1 hbw HCT
              obtain ⟨c0, c1, -, hct, -, -, hbw⟩ := HW.out Wn bn
              have HCT : Hid _ := hct
              clear hct
              cases hnt : noneB m.to
              · obtain ⟨e, he, HBL⟩ : ∃ e : Re, e = ⟨m.name, m.to⟩ ∧ Hid (∀ W, (Instr.build 92 [(0, .string m.name), (1, .agg (arr .u8 32 m.to))].toArray).run Tryz.prog W = .ok (.agg e.cells) W) := ⟨_, rfl, fun W => bldRef m.name m.to W⟩
                have HE : Hid (applyL rs m k false = rs.take k ++ ([e] ++ rs.drop k)) := by show _ = _; unfold applyL; rw [hnt, he]; rfl
                clear he hnt
                go_wp2_with (first
                  | (refine wpList_build (by rfl) 92 [(0, .tmp 56), (1, .tmp 58)] (by rfl) [(0, .string m.name), (1, .agg (arr .u8 32 m.to))] (by rfl) (.agg e.cells) (HBL.out _) ?_)
                  | (refine wpList_buildOne (by rfl) 22 (.tmp 59) (by rfl) (.agg e.cells) (by rfl) _ (bldRe e _) ?_; refine wpList_gen (fun W => Below Wn.heap.size Wn W ∧ W.heap[Wn.heap.size]? = some (.cells e.cells 92 (0, 0))) ⟨(Below.refl _ _).alloc (Nat.le_refl _) _, heap_alloc_new _ _⟩ ?_; intro Wb hWb; have HWB : Hid _ := hWb; clear hWb)
                  | (refine load_atg (by rfl) 26 (.tmp 57) (by rfl) (w.heap.size + 1) 33 (by rfl) .u8 32 m.to _ HCT.out Tryz.underlying26 rfl (by kernel_rfl) ?_))
                have bb : Below W1.heap.size W1 Wb := bn.trans (HWB.out.1.mono bn.size)
                have HM : Hid (∀ W, Below Wb.heap.size Wb W → RowsAt W 33 Re.cells (some ⟨Wn.heap.size, 0, none⟩) [e]) := fun W h => one_row ((h.block _ (lt_of_row HWB.out.2)).trans HWB.out.2)
                clear bn c0 c1 hbw
                obtain ⟨c0, -, -, -, -, q2, hbb⟩ := HW.out Wb bb
                have hq := lt_of_row q2
                clear q2
                obtain ⟨-, -, d1, z1⟩ := HEND.out Wb (.slice none 0 0) bb
                have hck7 : (k : Int) ≤ rs.length := by omega
                have hz1 : k ≤ cap := by omega
                rcases sp with _ | ⟨b, off, x⟩
                · have hz := HNN.out rfl
                  obtain ⟨hz2, rfl⟩ := hz
                  obtain rfl : rs = [] := List.length_eq_zero_iff.1 hz2
                  obtain rfl : k = 0 := by simpa using hkl
                  go_region_with (go_at_call 40; refine calls_gen (fun W => Below Wb.heap.size Wb W ∧ W.heap[Wb.heap.size]? = some (.cells #[.slice none 0 0, .slice (some ⟨Wn.heap.size, 0, none⟩) 1 1, .slice none 0 0] 22 (0, 0))) ⟨((Below.refl _ _).alloc (Nat.le_refl _) _).drew, heap_alloc_new Wb _⟩ ?_; intro W ⟨g4, r4⟩; have hRW := HR.out W (hbb.trans (g4.mono hbb.size)); refine (concat_three (l1 := ([] : List Re).take 0) (l2 := [e]) (l3 := ([] : List Re).drop 0) r4 rfl rfl rfl ⟨fun h => by simp at h, fun _ => ⟨rfl, rfl⟩⟩ ⟨HM.out _ g4, fun h => by cases h⟩ ⟨fun h => by simp at h, fun _ => ⟨rfl, rfl⟩⟩ (by have := HBND.out; omega)).mono ?_; rintro e w4 ⟨⟨v, rfl, hO4⟩, hB4⟩; rw [← HE.out] at hO4; obtain ⟨sp4, cap4, rfl, -, -⟩ := OwnR.rows hO4; have f4 : Below Wb.heap.size Wb w4 := g4.trans (hB4.mono g4.size); have HO4 : Hid (OwnR Wb.heap.size w4 (.slice sp4 (applyL ([] : List Re) m 0 false).length cap4) (applyL ([] : List Re) m 0 false)) := OwnR.mono hO4 g4.size; have b4 : Below W1.heap.size W1 w4 := bb.trans (f4.mono bb.size); obtain ⟨r5, b5, d5, z5⟩ := HEND.out w4 (.slice sp4 (applyL ([] : List Re) m 0 false).length cap4) b4; have R5 : Hid _ := r5; clear r5 hO4 hB4 r4 g4 hRW)
                  all_goals (
                    try go_wp2
                    refine bodyPost_ret (v := .tuple #[.agg #[.slice sp4 (applyL ([] : List Re) m 0 false).length cap4], .int .i64 0]) (results_cell_tmp Tryz.results9 _ _ (w.heap.size + 1 + 1) 24 #[.slice sp4 (applyL ([] : List Re) m 0 false).length cap4] (0, 0) _ _ rfl rfl R5.out Tryz.underlying24 rfl (by kernel_rfl)) rfl ⟨HGOOD.out _ _ (fun h => absurd HX.out h) (fun _ => ⟨_, rfl, OwnR.mono (OwnR.keep HO4.out fun j hj => heap_setCell_other _ _ _ _ ?_) hbb.size⟩), b5⟩
                    have h1 := (OwnR.lt HO4.out hj).1
                    have h2 := hq
                    show j ≠ w.heap.size + 1 + 1
                    omega)
                · by_cases hck : cap = k
                  · have hck1 := hck.symm
                    subst hck1
                    clear hck
                    have hck5 : rs.length = k := by omega
                    go_region_with (go_at_call 40; refine calls_gen (fun W => Below Wb.heap.size Wb W ∧ W.heap[Wb.heap.size]? = some (.cells #[.slice (some ⟨b, off, x⟩) k k, .slice (some ⟨Wn.heap.size, 0, none⟩) 1 1, .slice (some ⟨b, off, x⟩) 0 0] 22 (0, 0))) ⟨((Below.refl _ _).alloc (Nat.le_refl _) _).drew, heap_alloc_new Wb _⟩ ?_; intro W ⟨g4, r4⟩; have hRW := HR.out W (hbb.trans (g4.mono hbb.size)); refine (concat_three (l1 := rs.take k) (l2 := [e]) (l3 := rs.drop k) r4 (by rw [List.length_take]; omega) rfl (by rw [List.length_drop]; omega) ⟨rowsR_take hRW k, fun h => by cases h⟩ ⟨HM.out _ g4, fun h => by cases h⟩ ⟨rowsR_dropx hRW k (fun h => by omega), fun h => by cases h⟩ (by have := HBND.out; omega)).mono ?_; rintro e w4 ⟨⟨v, rfl, hO4⟩, hB4⟩; rw [← HE.out] at hO4; obtain ⟨sp4, cap4, rfl, -, -⟩ := OwnR.rows hO4; have f4 : Below Wb.heap.size Wb w4 := g4.trans (hB4.mono g4.size); have HO4 : Hid (OwnR Wb.heap.size w4 (.slice sp4 (applyL rs m k false).length cap4) (applyL rs m k false)) := OwnR.mono hO4 g4.size; have b4 : Below W1.heap.size W1 w4 := bb.trans (f4.mono bb.size); obtain ⟨r5, b5, d5, z5⟩ := HEND.out w4 (.slice sp4 (applyL rs m k false).length cap4) b4; have R5 : Hid _ := r5; clear r5 hO4 hB4 r4 g4 hRW)
                    all_goals (
                      try go_wp2
                      refine bodyPost_ret (v := .tuple #[.agg #[.slice sp4 (applyL rs m k false).length cap4], .int .i64 0]) (results_cell_tmp Tryz.results9 _ _ (w.heap.size + 1 + 1) 24 #[.slice sp4 (applyL rs m k false).length cap4] (0, 0) _ _ rfl rfl R5.out Tryz.underlying24 rfl (by kernel_rfl)) rfl ⟨HGOOD.out _ _ (fun h => absurd HX.out h) (fun _ => ⟨_, rfl, OwnR.mono (OwnR.keep HO4.out fun j hj => heap_setCell_other _ _ _ _ ?_) hbb.size⟩), b5⟩
                      have h1 := (OwnR.lt HO4.out hj).1
                      have h2 := hq
                      show j ≠ w.heap.size + 1 + 1
                      omega)
                  · have hck6 : k < cap := by omega
                    go_region_with (go_at_call 40; refine calls_gen (fun W => Below Wb.heap.size Wb W ∧ W.heap[Wb.heap.size]? = some (.cells #[.slice (some ⟨b, off, x⟩) k cap, .slice (some ⟨Wn.heap.size, 0, none⟩) 1 1, .slice (some ((⟨b, off, x⟩ : Addr).add (k * 33))) (rs.length - k) (cap - k)] 22 (0, 0))) ⟨((Below.refl _ _).alloc (Nat.le_refl _) _).drew, heap_alloc_new Wb _⟩ ?_; intro W ⟨g4, r4⟩; have hRW := HR.out W (hbb.trans (g4.mono hbb.size)); refine (concat_three (l1 := rs.take k) (l2 := [e]) (l3 := rs.drop k) r4 (by rw [List.length_take]; omega) rfl (by rw [List.length_drop]) ⟨rowsR_take hRW k, fun h => by cases h⟩ ⟨HM.out _ g4, fun h => by cases h⟩ ⟨rowsR_dropa hRW k, fun h => by cases h⟩ (by have := HBND.out; omega)).mono ?_; rintro e w4 ⟨⟨v, rfl, hO4⟩, hB4⟩; rw [← HE.out] at hO4; obtain ⟨sp4, cap4, rfl, -, -⟩ := OwnR.rows hO4; have f4 : Below Wb.heap.size Wb w4 := g4.trans (hB4.mono g4.size); have HO4 : Hid (OwnR Wb.heap.size w4 (.slice sp4 (applyL rs m k false).length cap4) (applyL rs m k false)) := OwnR.mono hO4 g4.size; have b4 : Below W1.heap.size W1 w4 := bb.trans (f4.mono bb.size); obtain ⟨r5, b5, d5, z5⟩ := HEND.out w4 (.slice sp4 (applyL rs m k false).length cap4) b4; have R5 : Hid _ := r5; clear r5 hO4 hB4 r4 g4 hRW)
                    all_goals (
                      try go_wp2
                      refine bodyPost_ret (v := .tuple #[.agg #[.slice sp4 (applyL rs m k false).length cap4], .int .i64 0]) (results_cell_tmp Tryz.results9 _ _ (w.heap.size + 1 + 1) 24 #[.slice sp4 (applyL rs m k false).length cap4] (0, 0) _ _ rfl rfl R5.out Tryz.underlying24 rfl (by kernel_rfl)) rfl ⟨HGOOD.out _ _ (fun h => absurd HX.out h) (fun _ => ⟨_, rfl, OwnR.mono (OwnR.keep HO4.out fun j hj => heap_setCell_other _ _ _ _ ?_) hbb.size⟩), b5⟩
                      have h1 := (OwnR.lt HO4.out hj).1
                      have h2 := hq
                      show j ≠ w.heap.size + 1 + 1
                      omega)
              · have HE : Hid (applyL rs m k false = rs.take k ++ ([] ++ rs.drop k)) := by show _ = _; unfold applyL; rw [hnt]; rfl
                clear hnt HCT
                go_wp2_with fail
                have hWb : ∃ Wb, Wb = Wn := ⟨_, rfl⟩
                obtain ⟨Wb, hWb⟩ := hWb
                rw [← hWb]
                have bb : Below W1.heap.size W1 Wb := hWb ▸ bn
                clear hWb
                clear bn c0 c1 hbw
                obtain ⟨c0, -, -, -, -, q2, hbb⟩ := HW.out Wb bb
                have hq := lt_of_row q2
                clear q2
                obtain ⟨-, -, d1, z1⟩ := HEND.out Wb (.slice none 0 0) bb
                have hck7 : (k : Int) ≤ rs.length := by omega
                have hz1 : k ≤ cap := by omega
                rcases sp with _ | ⟨b, off, x⟩
                · have hz := HNN.out rfl
                  obtain ⟨hz2, rfl⟩ := hz
                  obtain rfl : rs = [] := List.length_eq_zero_iff.1 hz2
                  obtain rfl : k = 0 := by simpa using hkl
                  go_region_with (go_at_call 40; refine calls_gen (fun W => Below Wb.heap.size Wb W ∧ W.heap[Wb.heap.size]? = some (.cells #[.slice none 0 0, .slice none 0 0, .slice none 0 0] 22 (0, 0))) ⟨((Below.refl _ _).alloc (Nat.le_refl _) _).drew, heap_alloc_new Wb _⟩ ?_; intro W ⟨g4, r4⟩; have hRW := HR.out W (hbb.trans (g4.mono hbb.size)); refine (concat_three (l1 := ([] : List Re).take 0) (l2 := ([] : List Re)) (l3 := ([] : List Re).drop 0) r4 rfl rfl rfl ⟨fun h => by simp at h, fun _ => ⟨rfl, rfl⟩⟩ ⟨fun h => by simp at h, fun _ => ⟨rfl, rfl⟩⟩ ⟨fun h => by simp at h, fun _ => ⟨rfl, rfl⟩⟩ (by have := HBND.out; omega)).mono ?_; rintro e w4 ⟨⟨v, rfl, hO4⟩, hB4⟩; rw [← HE.out] at hO4; obtain ⟨sp4, cap4, rfl, -, -⟩ := OwnR.rows hO4; have f4 : Below Wb.heap.size Wb w4 := g4.trans (hB4.mono g4.size); have HO4 : Hid (OwnR Wb.heap.size w4 (.slice sp4 (applyL ([] : List Re) m 0 false).length cap4) (applyL ([] : List Re) m 0 false)) := OwnR.mono hO4 g4.size; have b4 : Below W1.heap.size W1 w4 := bb.trans (f4.mono bb.size); obtain ⟨r5, b5, d5, z5⟩ := HEND.out w4 (.slice sp4 (applyL ([] : List Re) m 0 false).length cap4) b4; have R5 : Hid _ := r5; clear r5 hO4 hB4 r4 g4 hRW)
                  all_goals (
                    try go_wp2
                    refine bodyPost_ret (v := .tuple #[.agg #[.slice sp4 (applyL ([] : List Re) m 0 false).length cap4], .int .i64 0]) (results_cell_tmp Tryz.results9 _ _ (w.heap.size + 1 + 1) 24 #[.slice sp4 (applyL ([] : List Re) m 0 false).length cap4] (0, 0) _ _ rfl rfl R5.out Tryz.underlying24 rfl (by kernel_rfl)) rfl ⟨HGOOD.out _ _ (fun h => absurd HX.out h) (fun _ => ⟨_, rfl, OwnR.mono (OwnR.keep HO4.out fun j hj => heap_setCell_other _ _ _ _ ?_) hbb.size⟩), b5⟩
                    have h1 := (OwnR.lt HO4.out hj).1
                    have h2 := hq
                    show j ≠ w.heap.size + 1 + 1
                    omega)
                · by_cases hck : cap = k
                  · have hck1 := hck.symm
                    subst hck1
                    clear hck
                    have hck5 : rs.length = k := by omega
                    go_region_with (go_at_call 40; refine calls_gen (fun W => Below Wb.heap.size Wb W ∧ W.heap[Wb.heap.size]? = some (.cells #[.slice (some ⟨b, off, x⟩) k k, .slice none 0 0, .slice (some ⟨b, off, x⟩) 0 0] 22 (0, 0))) ⟨((Below.refl _ _).alloc (Nat.le_refl _) _).drew, heap_alloc_new Wb _⟩ ?_; intro W ⟨g4, r4⟩; have hRW := HR.out W (hbb.trans (g4.mono hbb.size)); refine (concat_three (l1 := rs.take k) (l2 := ([] : List Re)) (l3 := rs.drop k) r4 (by rw [List.length_take]; omega) rfl (by rw [List.length_drop]; omega) ⟨rowsR_take hRW k, fun h => by cases h⟩ ⟨fun h => by simp at h, fun _ => ⟨rfl, rfl⟩⟩ ⟨rowsR_dropx hRW k (fun h => by omega), fun h => by cases h⟩ (by have := HBND.out; omega)).mono ?_; rintro e w4 ⟨⟨v, rfl, hO4⟩, hB4⟩; rw [← HE.out] at hO4; obtain ⟨sp4, cap4, rfl, -, -⟩ := OwnR.rows hO4; have f4 : Below Wb.heap.size Wb w4 := g4.trans (hB4.mono g4.size); have HO4 : Hid (OwnR Wb.heap.size w4 (.slice sp4 (applyL rs m k false).length cap4) (applyL rs m k false)) := OwnR.mono hO4 g4.size; have b4 : Below W1.heap.size W1 w4 := bb.trans (f4.mono bb.size); obtain ⟨r5, b5, d5, z5⟩ := HEND.out w4 (.slice sp4 (applyL rs m k false).length cap4) b4; have R5 : Hid _ := r5; clear r5 hO4 hB4 r4 g4 hRW)
                    all_goals (
                      try go_wp2
                      refine bodyPost_ret (v := .tuple #[.agg #[.slice sp4 (applyL rs m k false).length cap4], .int .i64 0]) (results_cell_tmp Tryz.results9 _ _ (w.heap.size + 1 + 1) 24 #[.slice sp4 (applyL rs m k false).length cap4] (0, 0) _ _ rfl rfl R5.out Tryz.underlying24 rfl (by kernel_rfl)) rfl ⟨HGOOD.out _ _ (fun h => absurd HX.out h) (fun _ => ⟨_, rfl, OwnR.mono (OwnR.keep HO4.out fun j hj => heap_setCell_other _ _ _ _ ?_) hbb.size⟩), b5⟩
                      have h1 := (OwnR.lt HO4.out hj).1
                      have h2 := hq
                      show j ≠ w.heap.size + 1 + 1
                      omega)
                  · have hck6 : k < cap := by omega
                    go_region_with (go_at_call 40; refine calls_gen (fun W => Below Wb.heap.size Wb W ∧ W.heap[Wb.heap.size]? = some (.cells #[.slice (some ⟨b, off, x⟩) k cap, .slice none 0 0, .slice (some ((⟨b, off, x⟩ : Addr).add (k * 33))) (rs.length - k) (cap - k)] 22 (0, 0))) ⟨((Below.refl _ _).alloc (Nat.le_refl _) _).drew, heap_alloc_new Wb _⟩ ?_; intro W ⟨g4, r4⟩; have hRW := HR.out W (hbb.trans (g4.mono hbb.size)); refine (concat_three (l1 := rs.take k) (l2 := ([] : List Re)) (l3 := rs.drop k) r4 (by rw [List.length_take]; omega) rfl (by rw [List.length_drop]) ⟨rowsR_take hRW k, fun h => by cases h⟩ ⟨fun h => by simp at h, fun _ => ⟨rfl, rfl⟩⟩ ⟨rowsR_dropa hRW k, fun h => by cases h⟩ (by have := HBND.out; omega)).mono ?_; rintro e w4 ⟨⟨v, rfl, hO4⟩, hB4⟩; rw [← HE.out] at hO4; obtain ⟨sp4, cap4, rfl, -, -⟩ := OwnR.rows hO4; have f4 : Below Wb.heap.size Wb w4 := g4.trans (hB4.mono g4.size); have HO4 : Hid (OwnR Wb.heap.size w4 (.slice sp4 (applyL rs m k false).length cap4) (applyL rs m k false)) := OwnR.mono hO4 g4.size; have b4 : Below W1.heap.size W1 w4 := bb.trans (f4.mono bb.size); obtain ⟨r5, b5, d5, z5⟩ := HEND.out w4 (.slice sp4 (applyL rs m k false).length cap4) b4; have R5 : Hid _ := r5; clear r5 hO4 hB4 r4 g4 hRW)
                    all_goals (
                      try go_wp2
                      refine bodyPost_ret (v := .tuple #[.agg #[.slice sp4 (applyL rs m k false).length cap4], .int .i64 0]) (results_cell_tmp Tryz.results9 _ _ (w.heap.size + 1 + 1) 24 #[.slice sp4 (applyL rs m k false).length cap4] (0, 0) _ _ rfl rfl R5.out Tryz.underlying24 rfl (by kernel_rfl)) rfl ⟨HGOOD.out _ _ (fun h => absurd HX.out h) (fun _ => ⟨_, rfl, OwnR.mono (OwnR.keep HO4.out fun j hj => heap_setCell_other _ _ _ _ ?_) hbb.size⟩), b5⟩
                      have h1 := (OwnR.lt HO4.out hj).1
                      have h2 := hq
                      show j ≠ w.heap.size + 1 + 1
                      omega)
            · go_wp2_with (refine load_atg (by rfl) 26 (.tmp 51) (by rfl) (w.heap.size + 1) 33 (by rfl) .u8 32 m.to _ HCT.out Tryz.underlying26 rfl (by kernel_rfl) ?_)
              refine (xnone_any m.to Wm).mono ?_
              rintro e Wn ⟨rfl, bn0⟩
              have bn : Below W1.heap.size W1 Wn := bm.trans (bn0.mono bm.size)
              clear bm bn0 c0 c1 hbw HCT
              obtain ⟨c0, c1, -, hct, -, -, hbw⟩ := HW.out Wn bn
              have HCT : Hid _ := hct
              clear hct
              cases hnt : noneB m.to
              · obtain ⟨e, he, HBL⟩ : ∃ e : Re, e = ⟨m.name, m.to⟩ ∧ Hid (∀ W, (Instr.build 92 [(0, .string m.name), (1, .agg (arr .u8 32 m.to))].toArray).run Tryz.prog W = .ok (.agg e.cells) W) := ⟨_, rfl, fun W => bldRef m.name m.to W⟩
                have HE : Hid (applyL rs m k true = rs.take k ++ ([e] ++ rs.drop (k + 1))) := by show _ = _; unfold applyL; rw [hnt, he]; rfl
                clear he hnt
                go_wp2_with (first
                  | (refine wpList_build (by rfl) 92 [(0, .tmp 56), (1, .tmp 58)] (by rfl) [(0, .string m.name), (1, .agg (arr .u8 32 m.to))] (by rfl) (.agg e.cells) (HBL.out _) ?_)
                  | (refine wpList_buildOne (by rfl) 22 (.tmp 59) (by rfl) (.agg e.cells) (by rfl) _ (bldRe e _) ?_; refine wpList_gen (fun W => Below Wn.heap.size Wn W ∧ W.heap[Wn.heap.size]? = some (.cells e.cells 92 (0, 0))) ⟨(Below.refl _ _).alloc (Nat.le_refl _) _, heap_alloc_new _ _⟩ ?_; intro Wb hWb; have HWB : Hid _ := hWb; clear hWb)
                  | (refine load_atg (by rfl) 26 (.tmp 57) (by rfl) (w.heap.size + 1) 33 (by rfl) .u8 32 m.to _ HCT.out Tryz.underlying26 rfl (by kernel_rfl) ?_))
                have bb : Below W1.heap.size W1 Wb := bn.trans (HWB.out.1.mono bn.size)
                have HM : Hid (∀ W, Below Wb.heap.size Wb W → RowsAt W 33 Re.cells (some ⟨Wn.heap.size, 0, none⟩) [e]) := fun W h => one_row ((h.block _ (lt_of_row HWB.out.2)).trans HWB.out.2)
                clear bn c0 c1 hbw
                obtain ⟨c0, -, -, -, -, q2, hbb⟩ := HW.out Wb bb
                have hq := lt_of_row q2
                clear q2
                obtain ⟨-, -, d1, z1⟩ := HEND.out Wb (.slice none 0 0) bb
                have hkl2 := HFD.out (by trivial)
                have hz0 : (0 : Int) ≤ (k : Int) + 1 := by omega
                have hck8 : IntKind.i64.wrap ((k : Int) + 1) = (k : Int) + 1 := by rw [IntKind.wrap_i64]; omega
                have hck7 : (k : Int) + 1 ≤ rs.length := by omega
                have hck4 : k + 1 ≤ rs.length := by omega
                have hz1 : k ≤ cap := by omega
                rcases sp with _ | ⟨b, off, x⟩
                · have hz := HNN.out rfl
                  omega
                · by_cases hck : cap = (k + 1)
                  · have hck1 := hck.symm
                    subst hck1
                    clear hck
                    have hck5 : rs.length = (k + 1) := by omega
                    go_region_with (go_at_call 40; refine calls_gen (fun W => Below Wb.heap.size Wb W ∧ W.heap[Wb.heap.size]? = some (.cells #[.slice (some ⟨b, off, x⟩) k (k + 1), .slice (some ⟨Wn.heap.size, 0, none⟩) 1 1, .slice (some ⟨b, off, x⟩) 0 0] 22 (0, 0))) ⟨((Below.refl _ _).alloc (Nat.le_refl _) _).drew, heap_alloc_new Wb _⟩ ?_; intro W ⟨g4, r4⟩; have hRW := HR.out W (hbb.trans (g4.mono hbb.size)); refine (concat_three (l1 := rs.take k) (l2 := [e]) (l3 := rs.drop (k + 1)) r4 (by rw [List.length_take]; omega) rfl (by rw [List.length_drop]; omega) ⟨rowsR_take hRW k, fun h => by cases h⟩ ⟨HM.out _ g4, fun h => by cases h⟩ ⟨rowsR_dropx hRW (k + 1) (fun h => by omega), fun h => by cases h⟩ (by have := HBND.out; omega)).mono ?_; rintro e w4 ⟨⟨v, rfl, hO4⟩, hB4⟩; rw [← HE.out] at hO4; obtain ⟨sp4, cap4, rfl, -, -⟩ := OwnR.rows hO4; have f4 : Below Wb.heap.size Wb w4 := g4.trans (hB4.mono g4.size); have HO4 : Hid (OwnR Wb.heap.size w4 (.slice sp4 (applyL rs m k true).length cap4) (applyL rs m k true)) := OwnR.mono hO4 g4.size; have b4 : Below W1.heap.size W1 w4 := bb.trans (f4.mono bb.size); obtain ⟨r5, b5, d5, z5⟩ := HEND.out w4 (.slice sp4 (applyL rs m k true).length cap4) b4; have R5 : Hid _ := r5; clear r5 hO4 hB4 r4 g4 hRW)
                    all_goals (
                      try go_wp2
                      refine bodyPost_ret (v := .tuple #[.agg #[.slice sp4 (applyL rs m k true).length cap4], .int .i64 0]) (results_cell_tmp Tryz.results9 _ _ (w.heap.size + 1 + 1) 24 #[.slice sp4 (applyL rs m k true).length cap4] (0, 0) _ _ rfl rfl R5.out Tryz.underlying24 rfl (by kernel_rfl)) rfl ⟨HGOOD.out _ _ (fun h => absurd HX.out h) (fun _ => ⟨_, rfl, OwnR.mono (OwnR.keep HO4.out fun j hj => heap_setCell_other _ _ _ _ ?_) hbb.size⟩), b5⟩
                      have h1 := (OwnR.lt HO4.out hj).1
                      have h2 := hq
                      show j ≠ w.heap.size + 1 + 1
                      omega)
                  · have hck6 : (k + 1) < cap := by omega
                    go_region_with (go_at_call 40; refine calls_gen (fun W => Below Wb.heap.size Wb W ∧ W.heap[Wb.heap.size]? = some (.cells #[.slice (some ⟨b, off, x⟩) k cap, .slice (some ⟨Wn.heap.size, 0, none⟩) 1 1, .slice (some ((⟨b, off, x⟩ : Addr).add ((k + 1) * 33))) (rs.length - (k + 1)) (cap - (k + 1))] 22 (0, 0))) ⟨((Below.refl _ _).alloc (Nat.le_refl _) _).drew, heap_alloc_new Wb _⟩ ?_; intro W ⟨g4, r4⟩; have hRW := HR.out W (hbb.trans (g4.mono hbb.size)); refine (concat_three (l1 := rs.take k) (l2 := [e]) (l3 := rs.drop (k + 1)) r4 (by rw [List.length_take]; omega) rfl (by rw [List.length_drop]) ⟨rowsR_take hRW k, fun h => by cases h⟩ ⟨HM.out _ g4, fun h => by cases h⟩ ⟨rowsR_dropa hRW (k + 1), fun h => by cases h⟩ (by have := HBND.out; omega)).mono ?_; rintro e w4 ⟨⟨v, rfl, hO4⟩, hB4⟩; rw [← HE.out] at hO4; obtain ⟨sp4, cap4, rfl, -, -⟩ := OwnR.rows hO4; have f4 : Below Wb.heap.size Wb w4 := g4.trans (hB4.mono g4.size); have HO4 : Hid (OwnR Wb.heap.size w4 (.slice sp4 (applyL rs m k true).length cap4) (applyL rs m k true)) := OwnR.mono hO4 g4.size; have b4 : Below W1.heap.size W1 w4 := bb.trans (f4.mono bb.size); obtain ⟨r5, b5, d5, z5⟩ := HEND.out w4 (.slice sp4 (applyL rs m k true).length cap4) b4; have R5 : Hid _ := r5; clear r5 hO4 hB4 r4 g4 hRW)
                    all_goals (
                      try go_wp2
                      refine bodyPost_ret (v := .tuple #[.agg #[.slice sp4 (applyL rs m k true).length cap4], .int .i64 0]) (results_cell_tmp Tryz.results9 _ _ (w.heap.size + 1 + 1) 24 #[.slice sp4 (applyL rs m k true).length cap4] (0, 0) _ _ rfl rfl R5.out Tryz.underlying24 rfl (by kernel_rfl)) rfl ⟨HGOOD.out _ _ (fun h => absurd HX.out h) (fun _ => ⟨_, rfl, OwnR.mono (OwnR.keep HO4.out fun j hj => heap_setCell_other _ _ _ _ ?_) hbb.size⟩), b5⟩
                      have h1 := (OwnR.lt HO4.out hj).1
                      have h2 := hq
                      show j ≠ w.heap.size + 1 + 1
                      omega)
              · have HE : Hid (applyL rs m k true = rs.take k ++ ([] ++ rs.drop (k + 1))) := by show _ = _; unfold applyL; rw [hnt]; rfl
                clear hnt HCT
                go_wp2_with fail
                have hWb : ∃ Wb, Wb = Wn := ⟨_, rfl⟩
                obtain ⟨Wb, hWb⟩ := hWb
                rw [← hWb]
                have bb : Below W1.heap.size W1 Wb := hWb ▸ bn
                clear hWb
                clear bn c0 c1 hbw
                obtain ⟨c0, -, -, -, -, q2, hbb⟩ := HW.out Wb bb
                have hq := lt_of_row q2
                clear q2
                obtain ⟨-, -, d1, z1⟩ := HEND.out Wb (.slice none 0 0) bb
                have hkl2 := HFD.out (by trivial)
                have hz0 : (0 : Int) ≤ (k : Int) + 1 := by omega
                have hck8 : IntKind.i64.wrap ((k : Int) + 1) = (k : Int) + 1 := by rw [IntKind.wrap_i64]; omega
                have hck7 : (k : Int) + 1 ≤ rs.length := by omega
                have hck4 : k + 1 ≤ rs.length := by omega
                have hz1 : k ≤ cap := by omega
                rcases sp with _ | ⟨b, off, x⟩
                · have hz := HNN.out rfl
                  omega
                · by_cases hck : cap = (k + 1)
                  · have hck1 := hck.symm
                    subst hck1
                    clear hck
                    have hck5 : rs.length = (k + 1) := by omega
                    go_region_with (go_at_call 40; refine calls_gen (fun W => Below Wb.heap.size Wb W ∧ W.heap[Wb.heap.size]? = some (.cells #[.slice (some ⟨b, off, x⟩) k (k + 1), .slice none 0 0, .slice (some ⟨b, off, x⟩) 0 0] 22 (0, 0))) ⟨((Below.refl _ _).alloc (Nat.le_refl _) _).drew, heap_alloc_new Wb _⟩ ?_; intro W ⟨g4, r4⟩; have hRW := HR.out W (hbb.trans (g4.mono hbb.size)); refine (concat_three (l1 := rs.take k) (l2 := ([] : List Re)) (l3 := rs.drop (k + 1)) r4 (by rw [List.length_take]; omega) rfl (by rw [List.length_drop]; omega) ⟨rowsR_take hRW k, fun h => by cases h⟩ ⟨fun h => by simp at h, fun _ => ⟨rfl, rfl⟩⟩ ⟨rowsR_dropx hRW (k + 1) (fun h => by omega), fun h => by cases h⟩ (by have := HBND.out; omega)).mono ?_; rintro e w4 ⟨⟨v, rfl, hO4⟩, hB4⟩; rw [← HE.out] at hO4; obtain ⟨sp4, cap4, rfl, -, -⟩ := OwnR.rows hO4; have f4 : Below Wb.heap.size Wb w4 := g4.trans (hB4.mono g4.size); have HO4 : Hid (OwnR Wb.heap.size w4 (.slice sp4 (applyL rs m k true).length cap4) (applyL rs m k true)) := OwnR.mono hO4 g4.size; have b4 : Below W1.heap.size W1 w4 := bb.trans (f4.mono bb.size); obtain ⟨r5, b5, d5, z5⟩ := HEND.out w4 (.slice sp4 (applyL rs m k true).length cap4) b4; have R5 : Hid _ := r5; clear r5 hO4 hB4 r4 g4 hRW)
                    all_goals (
                      try go_wp2
                      refine bodyPost_ret (v := .tuple #[.agg #[.slice sp4 (applyL rs m k true).length cap4], .int .i64 0]) (results_cell_tmp Tryz.results9 _ _ (w.heap.size + 1 + 1) 24 #[.slice sp4 (applyL rs m k true).length cap4] (0, 0) _ _ rfl rfl R5.out Tryz.underlying24 rfl (by kernel_rfl)) rfl ⟨HGOOD.out _ _ (fun h => absurd HX.out h) (fun _ => ⟨_, rfl, OwnR.mono (OwnR.keep HO4.out fun j hj => heap_setCell_other _ _ _ _ ?_) hbb.size⟩), b5⟩
                      have h1 := (OwnR.lt HO4.out hj).1
                      have h2 := hq
                      show j ≠ w.heap.size + 1 + 1
                      omega)
                  · have hck6 : (k + 1) < cap := by omega
                    go_region_with (go_at_call 40; refine calls_gen (fun W => Below Wb.heap.size Wb W ∧ W.heap[Wb.heap.size]? = some (.cells #[.slice (some ⟨b, off, x⟩) k cap, .slice none 0 0, .slice (some ((⟨b, off, x⟩ : Addr).add ((k + 1) * 33))) (rs.length - (k + 1)) (cap - (k + 1))] 22 (0, 0))) ⟨((Below.refl _ _).alloc (Nat.le_refl _) _).drew, heap_alloc_new Wb _⟩ ?_; intro W ⟨g4, r4⟩; have hRW := HR.out W (hbb.trans (g4.mono hbb.size)); refine (concat_three (l1 := rs.take k) (l2 := ([] : List Re)) (l3 := rs.drop (k + 1)) r4 (by rw [List.length_take]; omega) rfl (by rw [List.length_drop]) ⟨rowsR_take hRW k, fun h => by cases h⟩ ⟨fun h => by simp at h, fun _ => ⟨rfl, rfl⟩⟩ ⟨rowsR_dropa hRW (k + 1), fun h => by cases h⟩ (by have := HBND.out; omega)).mono ?_; rintro e w4 ⟨⟨v, rfl, hO4⟩, hB4⟩; rw [← HE.out] at hO4; obtain ⟨sp4, cap4, rfl, -, -⟩ := OwnR.rows hO4; have f4 : Below Wb.heap.size Wb w4 := g4.trans (hB4.mono g4.size); have HO4 : Hid (OwnR Wb.heap.size w4 (.slice sp4 (applyL rs m k true).length cap4) (applyL rs m k true)) := OwnR.mono hO4 g4.size; have b4 : Below W1.heap.size W1 w4 := bb.trans (f4.mono bb.size); obtain ⟨r5, b5, d5, z5⟩ := HEND.out w4 (.slice sp4 (applyL rs m k true).length cap4) b4; have R5 : Hid _ := r5; clear r5 hO4 hB4 r4 g4 hRW)
                    all_goals (
                      try go_wp2
                      refine bodyPost_ret (v := .tuple #[.agg #[.slice sp4 (applyL rs m k true).length cap4], .int .i64 0]) (results_cell_tmp Tryz.results9 _ _ (w.heap.size + 1 + 1) 24 #[.slice sp4 (applyL rs m k true).length cap4] (0, 0) _ _ rfl rfl R5.out Tryz.underlying24 rfl (by kernel_rfl)) rfl ⟨HGOOD.out _ _ (fun h => absurd HX.out h) (fun _ => ⟨_, rfl, OwnR.mono (OwnR.keep HO4.out fun j hj => heap_setCell_other _ _ _ _ ?_) hbb.size⟩), b5⟩
                      have h1 := (OwnR.lt HO4.out hj).1
                      have h2 := hq
                      show j ≠ w.heap.size + 1 + 1
                      omega)
          · obtain ⟨r3, bw, c3, z3⟩ := HEND.out Wm (.slice none 0 0) bm
            have HP : Hid (ApplyX rs m w.heap.size (.returned (.tuple #[.agg #[.slice none 0 0], .int .i64 (movX rs m k t)])) (Wm.setCell ⟨w.heap.size + 1 + 1, 0, none⟩ (.slice none 0 0))) := HGOOD.out _ _ (fun _ => rfl) (fun h => absurd h hx)
            have HR3 : Hid _ := r3
            have hne : (movX rs m k t != 0) = true := by simpa using hx
            clear HGOOD r3 hx
            generalize movX rs m k t = x at *
            go_wp2
            exact bodyPost_ret (v := .tuple #[.agg #[.slice none 0 0], .int .i64 x]) (results_cell_tmp Tryz.results9 _ _ (w.heap.size + 1 + 1) 24 #[.slice none 0 0] (0, 0) _ _ rfl rfl HR3.out Tryz.underlying24 rfl (by kernel_rfl)) rfl ⟨HP.out, bw⟩
        · obtain ⟨r3, bw, c3, z3⟩ := HEND.out W5 (.slice none 0 0) b5
          have HP : Hid (ApplyX rs m w.heap.size (.returned (.tuple #[.agg #[.slice none 0 0], .int .i64 190])) (W5.setCell ⟨w.heap.size + 1 + 1, 0, none⟩ (.slice none 0 0))) := ⟨fun _ => rfl, fun h => by unfold badX at h; rw [HRB.out, HNM.out, HNF.out, hnt] at h; cases h⟩
          have HR3 : Hid _ := r3
          clear hnt r3
          go_wp2
          exact bodyPost_ret (v := .tuple #[.agg #[.slice none 0 0], .int .i64 190]) (results_cell_tmp Tryz.results9 _ _ (w.heap.size + 1 + 1) 24 #[.slice none 0 0] (0, 0) _ _ rfl rfl HR3.out Tryz.underlying24 rfl (by kernel_rfl)) rfl ⟨HP.out, bw⟩
end Go.Proofs.YtgfjjglejlnfbaaGreatDoor
