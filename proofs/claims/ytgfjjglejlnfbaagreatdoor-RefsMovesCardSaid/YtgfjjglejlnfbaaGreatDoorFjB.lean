/- The contract of the document's Same of branches; branches in memory of their own. -/
import Derived.Test.YtgfjjglejlnfbaaGreatDoorFjA
import Derived.Test.YtgfjjglejlnfbaaGreatDoorMrgC
import Derived.Test.YtgfjjglejlnfbaaGreatDoorFsAx
import Derived.Test.YtgfjjglejlnfbaaGreatDoorMrgE
namespace Go.Proofs.YtgfjjglejlnfbaaGreatDoor
open Go.RowKit

set_option pp.deepTerms.threshold 2000 in
set_option maxRecDepth 100000 in
set_option maxHeartbeats 4000000 in
theorem r9same_any (sp tp : Option Addr) (c1 c2 : Nat) (xs ys : List Re) (w : World) (h1 : RowsAt w 33 Re.cells sp xs) (h2 : RowsAt w 33 Re.cells tp ys) (hlen : xs.length ≤ 100000000) :
    Calls Tryz.prog 12 #[.agg #[.slice sp xs.length c1], .agg #[.slice tp ys.length c2]] w fun e w' => e = .returned (.bool (eqAll reEq xs ys)) ∧ Below w.heap.size w w' := by
  have H1 : Hid (RowsAt w 33 Re.cells sp xs) := h1
  have H2 : Hid (RowsAt w 33 Re.cells tp ys) := h2
  clear h1 h2
  by_cases hl : xs.length = ys.length
  rotate_left
  · have hne : ((xs.length : Int) != (ys.length : Int)) = true := by simp; omega
    have HF : Hid (eqAll reEq xs ys = false) := by
      show _ = _
      cases h : eqAll reEq xs ys
      · rfl
      · exact absurd (eqAll_len h) hl
    go_enter Tryz.func12, Tryz.ntmps12
    go_wp2
    go_ret
    exact ⟨by rw [HF.out]; rfl, ((Below.refl _ _).alloc (Nat.le_refl _) _).alloc (by simp) _⟩
  have hne : ((xs.length : Int) != (ys.length : Int)) = false := by simp [hl]
  have HALL : Hid _ := eqAll_iff (eq := reEq) hl
  have hle1 : xs.length ≤ ys.length := by omega
  have hle2 : ys.length ≤ xs.length := by omega
  clear hl
  go_enter Tryz.func12, Tryz.ntmps12
  go_wp2
  refine wp_gen (fun W => Below w.heap.size w W ∧ W.heap[w.heap.size]? = some (.cells #[.slice sp xs.length c1] 24 (0, 0)) ∧ W.heap[w.heap.size + 1]? = some (.cells #[.slice tp ys.length c2] 24 (0, 0))) ⟨((Below.refl _ _).alloc (Nat.le_refl _) _).alloc (by simp) _, (Below.heap_alloc _ _ _ (by simp)).trans (heap_alloc_new _ _), heap_alloc2_new _ _ _⟩ ?_
  rintro W0 ⟨b0, r0, r1⟩
  have B0 : Hid (Below w.heap.size w W0) := b0
  have H1' : Hid (RowsAt W0 33 Re.cells sp xs) := RowsAt.below H1.out b0
  have H2' : Hid (RowsAt W0 33 Re.cells tp ys) := RowsAt.below H2.out b0
  have R0 : Hid (W0.heap[w.heap.size]? = some (.cells #[.slice sp xs.length c1] 24 (0, 0))) := r0
  have R1 : Hid (W0.heap[w.heap.size + 1]? = some (.cells #[.slice tp ys.length c2] 24 (0, 0))) := r1
  clear b0 r0 r1 H1 H2
  go_loopw [5] (fun i wr => ∃ (t n : Nat), t ≤ xs.length ∧ i = .int .i64 t ∧ wr = W0.drewN n ∧ ∀ j, j < t → ∀ a b, xs[j]? = some a → ys[j]? = some b → reEq a b = true) (fun i _ => xs.length - (intOf i).toNat)
  case atStart => exact ⟨0, 0, Nat.zero_le _, rfl, rfl, fun j hj => by omega⟩
  case round =>
    obtain ⟨t, n, ht, rfl, rfl, hz⟩ := hrel
    have HZ : Hid (∀ j, j < t → ∀ a b, xs[j]? = some a → ys[j]? = some b → reEq a b = true) := hz
    clear hz
    have BN : Hid (∀ m, Below w.heap.size w ((W0.drewN n).drewN m)) := fun m => (B0.out.trans (below_drawn9 W0 n)).trans (below_drawn9 _ m)
    have k0 : (W0.drewN n).cell? ⟨w.heap.size, 0, none⟩ = some (.slice sp xs.length c1) := (cell_of_row _ _ _ _ _ _ R0.out).trans rfl
    have k1 : (W0.drewN n).cell? ⟨w.heap.size + 1, 0, none⟩ = some (.slice tp ys.length c2) := (cell_of_row _ _ _ _ _ _ R1.out).trans rfl
    by_cases hlt : t < xs.length
    · have hd : decide ((t : Int) < xs.length) = true := by simp; omega
      obtain ⟨b1, o1, rfl, hc1⟩ := H1'.out (by omega)
      obtain ⟨b2, o2, rfl, hc2⟩ := H2'.out (by omega)
      have hx : xs[t]? = some (xs[t]'hlt) := List.getElem?_eq_getElem hlt
      have hy : ys[t]? = some (ys[t]'(by omega)) := List.getElem?_eq_getElem (by omega)
      generalize hX : xs[t]'hlt = x at hx
      generalize hY : ys[t]'(by omega) = y at hy
      have e1 : ∀ m, (loadVar 92 ⟨b1, o1 + t * 33, none⟩).run Tryz.prog ((W0.drewN n).drewN m) = .ok (.agg x.cells) ((W0.drewN n).drewN m) := fun m => run_mid (fun j u hu => hc1 t x hx j u hu) Tryz.underlying92 rfl (by rw [x.size]; kernel_rfl)
      have e2 : ∀ m, (loadVar 92 ⟨b2, o2 + t * 33, none⟩).run Tryz.prog ((W0.drewN n).drewN m) = .ok (.agg y.cells) ((W0.drewN n).drewN m) := fun m => run_mid (fun j u hu => hc2 t y hy j u hu) Tryz.underlying92 rfl (by rw [y.size]; kernel_rfl)
      have heq := equal_re x y
      have hly : t < ys.length := by omega
      have HX : Hid (xs[t]? = some x) := hx
      have HY : Hid (ys[t]? = some y) := hy
      clear hc1 hc2 hX hY hx hy
      obtain ⟨W, HWW⟩ : ∃ W, Hid (W0.drewN n = W) := ⟨_, rfl⟩
      rw [HWW.out] at k0 k1 e1 e2 BN ⊢
      cases hb : reEq x y with
      | true =>
        rw [hb] at heq
        have HB : Hid (reEq x y = true) := hb
        clear hb
        go_wp2
        refine wp_region_quiet_lit (by kernel_rfl) (by kernel_rfl) ?_
        repeat (go_big_quiet_step (fail))
        refine quiet_load (.agg x.cells) 92 (.tmp 23) ⟨b1, o1 + t * 33, none⟩ (by rfl) (by rintro _ ⟨m, rfl⟩; exact e1 m) ?_
        simp only [List.setIfInBounds_toArray, List.set_cons_succ, List.set_cons_zero]
        repeat (go_big_quiet_step (fail))
        refine quiet_load (.agg y.cells) 92 (.tmp 28) ⟨b2, o2 + t * 33, none⟩ (by rfl) (by rintro _ ⟨m, rfl⟩; exact e2 m) ?_
        simp only [List.setIfInBounds_toArray, List.set_cons_succ, List.set_cons_zero]
        repeat (go_big_quiet_step (fail))
        refine wpQuiet_nil ?_
        rintro _ ⟨nq, rfl⟩
        clear e1 e2 heq
        go_wp2
        refine ⟨⟨t + 1, n + nq, by omega, by go_num, by rw [← HWW.out]; exact drewN_add W0 n nq, fun j hj a b ha hb => ?_⟩, by simp [intOf]; omega⟩
        by_cases hj' : j < t
        · exact HZ.out j hj' a b ha hb
        · obtain rfl : j = t := by omega
          have q1 := Option.some.inj (ha.symm.trans HX.out)
          have q2 := Option.some.inj (hb.symm.trans HY.out)
          rw [q1, q2]
          exact HB.out
      | false =>
        rw [hb] at heq
        have HF : Hid (eqAll reEq xs ys = false) := by
          show _ = _
          cases h : eqAll reEq xs ys
          · rfl
          · have := HALL.out.1 h t x y HX.out HY.out
            rw [hb] at this
            cases this
        clear hb
        go_wp2
        refine wp_region_quiet_lit (by kernel_rfl) (by kernel_rfl) ?_
        repeat (go_big_quiet_step (fail))
        refine quiet_load (.agg x.cells) 92 (.tmp 23) ⟨b1, o1 + t * 33, none⟩ (by rfl) (by rintro _ ⟨m, rfl⟩; exact e1 m) ?_
        simp only [List.setIfInBounds_toArray, List.set_cons_succ, List.set_cons_zero]
        repeat (go_big_quiet_step (fail))
        refine quiet_load (.agg y.cells) 92 (.tmp 28) ⟨b2, o2 + t * 33, none⟩ (by rfl) (by rintro _ ⟨m, rfl⟩; exact e2 m) ?_
        simp only [List.setIfInBounds_toArray, List.set_cons_succ, List.set_cons_zero]
        repeat (go_big_quiet_step (fail))
        refine wpQuiet_nil ?_
        rintro _ ⟨nq, rfl⟩
        clear e1 e2 heq
        go_wp2
        go_ret
        exact ⟨by rw [HF.out]; rfl, BN.out nq⟩
    · have hd : decide ((t : Int) < xs.length) = false := by simp; omega
      have HT : Hid (eqAll reEq xs ys = true) := HALL.out.2 fun i a b ha hb => HZ.out i (by have := (List.getElem?_eq_some_iff.1 ha).1; omega) a b ha hb
      go_wp2
      go_ret
      exact ⟨by rw [HT.out]; rfl, BN.out 0⟩
set_option pp.deepTerms.threshold 2000 in
set_option maxRecDepth 100000 in
set_option maxHeartbeats 4000000 in
theorem copied9_any (sp : Option Addr) (cap : Nat) (rs : List Re) (w : World) (hr : RowsAt w 33 Re.cells sp rs) (hn : sp = none → rs.length = 0 ∧ cap = 0) (hl : rs.length ≤ 100000) :
    Calls Tryz.prog 10 #[.agg #[.slice sp rs.length cap]] w fun e w' => (∃ v, e = .returned (.agg #[v]) ∧ OwnR w.heap.size w' v rs) ∧ Below w.heap.size w w' := by
  have HR : Hid (RowsAt w 33 Re.cells sp rs) := hr
  have HN : Hid (sp = none → rs.length = 0 ∧ cap = 0) := hn
  clear hr hn
  obtain ⟨B, hBW, HBW⟩ : ∃ B, w.heap.size = B ∧ Hid (w.heap.size = B) := ⟨_, rfl, rfl⟩
  have FW : Hid (∀ W, W = ((w.alloc (.cells #[.slice sp rs.length cap] 24)).alloc (.cells #[.slice none 0 0] 24)).alloc (.cells #[] 92) → Below B w W ∧ W.heap[B + 1]? = some (.cells #[.slice none 0 0] 24 (0, 0)) ∧ OwnR (B + 1 + 1) W (.slice (some ⟨B + 1 + 1, 0, none⟩) 0 0) [] ∧ B + 1 + 1 < W.heap.size) := fun W h => by
    subst h
    rw [← hBW]
    have n2 := heap_alloc_new ((w.alloc (.cells #[.slice sp rs.length cap] 24)).alloc (.cells #[.slice none 0 0] 24)) (.cells #[] 92)
    have n1 := heap_alloc_new (w.alloc (.cells #[.slice sp rs.length cap] 24)) (.cells #[.slice none 0 0] 24)
    simp only [World.size_alloc] at n1 n2
    refine ⟨(((Below.refl _ _).alloc (Nat.le_refl _) _).alloc (by simp) _).alloc (by simp; try omega) _, (Below.heap_alloc _ _ _ (by simp)).trans n1, ⟨rfl, .inr ⟨w.heap.size + 1 + 1, 0, #[], rfl, Nat.le_refl _, n2, by simp, by unfold maxLen; omega, rfl, rfl⟩⟩, by simp⟩
  have HSP : Hid (0 < rs.length → ∃ b off, sp = some ⟨b, off, none⟩) := fun h => by obtain ⟨b, o, e, -⟩ := HR.out h; exact ⟨b, o, e⟩
  have HRB : Hid (∀ W, Below B w W → RowsAt W 33 Re.cells sp rs) := fun W h => RowsAt.below HR.out (HBW.out ▸ h)
  go_enter Tryz.func10, Tryz.ntmps10
  go_wp2_with (refine refs_append (by rfl) (.tmp 3) (.tmp 5) (by rfl) (B + 1 + 1) (.slice (some ⟨B + 1 + 1, 0, none⟩) 0 0) [] (by rfl) (FW.out _ rfl).2.2.1 sp cap rs (by rfl) HN.out (HRB.out _ (FW.out _ rfl).1) HSP.out (by simp; omega) (Nat.le_of_lt (FW.out _ rfl).2.2.2) ?_; intro v' W' hO hG0 hq; obtain ⟨f1, f2, f3, f4⟩ := FW.out _ rfl; have hG := (show World.grownBy _ W' (some (B + 1 + 1)) from hG0); have hO' : OwnR (B + 1 + 1) W' v' rs := hO; obtain ⟨s', c', rfl, -, -⟩ := OwnR.rows hO'; have HO' : Hid (OwnR (B + 1 + 1) W' (.slice s' rs.length c') rs) := hO'; have RC : Hid (W'.heap[B + 1]? = some (.cells #[.slice none 0 0] 24 (0, 0))) := (hG.block _ (lt_of_row f2) (fun e => by injection e with e; omega)).trans f2; have BW : Hid (Below B w W') := below_grown f1 hG (by omega) (by rw [HBW.out]; exact Nat.le_refl _); have q0 : W'.cell? ⟨B + 1, 0, none⟩ = some (.slice none 0 0) := (cell_of_row _ _ _ _ _ _ RC.out).trans rfl; have qz : W'.frozen? ⟨B + 1, 0, none⟩ = false := frozen_of_row _ _ _ _ _ RC.out; clear hO hG0 hG hq f1 f2 f3 f4 hO')
  have r1 : (W'.setCell ⟨B + 1, 0, none⟩ (.slice s' rs.length c')).heap[B + 1]? = some (.cells #[.slice s' rs.length c'] 24 (0, 0)) := heap_setCell_same _ _ _ _ _ _ RC.out
  refine bodyPost_ret (v := .agg #[.slice s' rs.length c']) (results_cell Tryz.results10 _ _ (B + 1) 24 _ (0, 0) _ rfl r1 Tryz.underlying24 rfl (by kernel_rfl)) rfl ?_
  rw [HBW.out]
  refine ⟨⟨_, rfl, ?_⟩, BW.out.setCell (p := ⟨B + 1, 0, none⟩) (by simp) _⟩
  exact (OwnR.keep HO'.out fun j hj => heap_setCell_other _ _ _ _ (by have := (OwnR.lt HO'.out hj).1; show j ≠ B + 1; omega)).mono (by omega)
end Go.Proofs.YtgfjjglejlnfbaaGreatDoor
