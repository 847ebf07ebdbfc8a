/- The contract of tree's Path: one to four names, at most 64 bytes. -/
import Derived.Test.YtgfjjglejlnfbaaGreatDoorTNam
namespace Go.Proofs.YtgfjjglejlnfbaaGreatDoor
open Go.RowKit Go.Shelf
attribute [local go_sem] Oper.semAt_some

theorem nN_le (p : ByteArray) : nN p ≤ p.size + 1 := by
  by_cases h : p.size + 1 < nN p
  · have h1 := nN_in h
    have h2 := nst_ge p (p.size + 1)
    omega
  · omega
/-- Is a text a path? -/
def pathB (p : ByteArray) : Bool := decide (p.size ≤ 64) && ((nTo p (nN p)).all (fun x => nameB x.2) && decide (nN p ≤ 4))
theorem cell_new_l (W : World) (v : Value) (t : TypeId) : (W.alloc (.cells #[v] t)).cell? ⟨W.heap.size, 0, none⟩ = some v ∧ (W.alloc (.cells #[v] t)).frozen? ⟨W.heap.size, 0, none⟩ = false :=
  ⟨(cell_of_row _ _ _ _ _ _ (heap_alloc_new W (.cells #[v] t))).trans rfl, frozen_of_row _ _ 0 _ _ (heap_alloc_new W (.cells #[v] t))⟩
theorem cell_alloc_l {W : World} {a : Addr} {v : Value} (o : Obj) (h : W.cell? a = some v) : (W.alloc o).cell? a = some v := cell_kept h (World.grownBy_alloc W o none) (fun r e => by cases e)
theorem frozen_alloc_l {W : World} {a : Addr} {v : Value} (o : Obj) (h : W.cell? a = some v) (hf : W.frozen? a = false) : (W.alloc o).frozen? a = false := (frozen_kept h (World.grownBy_alloc W o none) (fun r e => by cases e)).trans hf
theorem all_nTo (p : ByteArray) (hp : p.size ≤ 1000000) : (nTo p (nN p)).all (fun x => nameB x.2) = (nToS p hp (nN p)).all (fun x => nameB x.1.2) := by rw [← nToS_val p hp, List.all_map]; rfl
theorem grown_of {w w' : World} (h : Below w.heap.size w w') : w.grownBy w' none := ⟨h.os, h.tape, h.output, h.size, fun k hk _ => h.block k hk⟩

set_option maxRecDepth 100000 in
set_option maxHeartbeats 2000000 in
theorem path_long (p : ByteArray) (w : World) (h : 64 < p.size) : Calls Tryz.prog 66 #[.string p] w fun e w' => e = .returned (.bool (pathB p)) ∧ Below w.heap.size w w' := by
  have hd : decide ((64 : Int) < p.size) = true := by simp; omega
  have hpb : pathB p = false := by unfold pathB; rw [show decide (p.size ≤ 64) = false by simp; omega]; rfl
  rw [hpb]
  go_enter Tryz.func66, Tryz.ntmps66
  go_wp2
  refine bodyPost_ret (v := .bool false) ?_ rfl ⟨rfl, (Below.refl _ _).alloc (Nat.le_refl _) _⟩
  have hc := (cell_new_l w (.bool false) 4).1
  simp [results, Tryz.f66, go_sem, hc]

set_option maxRecDepth 100000 in
set_option maxHeartbeats 2000000 in
theorem path_in (n : Nat) (hn : 3 ≤ n) (p : ByteArray) (w : World) (h : p.size ≤ 64) : CallsIn Fence.wide n Tryz.prog 66 #[.string p] w fun e w' => e = .returned (.bool (pathB p)) ∧ Below w.heap.size w w' := by
  have h1 : 1 ≤ n := by omega
  have hd : decide ((64 : Int) < p.size) = false := by simp; omega
  refine callsIn_of_wp_marks Tryz.func66 rfl trivial ?_ rfl
  simp only [Tryz.ntmps66, List.size_toArray, List.length_cons, List.length_nil, Nat.reduceAdd, Nat.reduceSub, Array.replicate_succ, Array.replicate_zero, List.push_toArray, List.append_toArray, List.nil_append, List.cons_append]
  gi_wp2_with (refine ⟨trivial, ?_⟩; gi_at_call 97; refine (names_any (n - 1) p _).mono ?_; rintro e w' ⟨rfl, rfl⟩)
  have c0 := cell_new_l w (.bool false) 4
  have c1 := cell_new_l (w.alloc (.cells #[.bool false] 4)) (.int .i64 0) 3
  have c2 := cell_new_l ((w.alloc (.cells #[.bool false] 4)).alloc (.cells #[.int .i64 0] 3)) (.string p) 9
  simp only [World.size_alloc] at c1 c2
  have hB0 : Below w.heap.size w (((w.alloc (.cells #[.bool false] 4)).alloc (.cells #[.int .i64 0] 3)).alloc (.cells #[.string p] 9)) := (((Below.refl _ w).alloc (Nat.le_refl _) _).alloc (by simp) _).alloc (by simp; omega) _
  have hN := nN_le p
  have hp6 : p.size ≤ 1000000 := by omega
  refine wpIn_rangeFunc_ownF rfl h1 (gf := 125) (lb := #[.pointer (some ⟨w.heap.size + 1 + 1, 0, none⟩)]) rfl trivial (enters_of Tryz.func125 (by kernel_rfl) rfl)
    (names_stops (n - 1) (by omega) (w.heap.size + 1 + 1) p hp6 _ (by simp) c2.1) keepB_t (keepB_b (by simp)) (Below.refl _ _) (fun _ => rfl)
    (fun pre W => (pre.all (fun x => nameB x.1.2) = true ∧ W.cell? ⟨w.heap.size + 1, 0, none⟩ = some (.int .i64 pre.length) ∧ W.frozen? ⟨w.heap.size + 1, 0, none⟩ = false ∧ W.cell? ⟨w.heap.size, 0, none⟩ = some (.bool false) ∧ W.frozen? ⟨w.heap.size, 0, none⟩ = false ∧ w.heap.size + 1 + 1 < W.heap.size) ∧ Below w.heap.size w W)
    (fun c pre W => (c = .ret ∧ pre.all (fun x => nameB x.1.2) = false ∧ W.cell? ⟨w.heap.size, 0, none⟩ = some (.bool false)) ∧ Below w.heap.size w W)
    (OwnFrom.and (Own.from (fun s A B row hs hg hr => ⟨hs.1, cell_kept hs.2.1 hg hr, (frozen_kept hs.2.1 hg hr).trans hs.2.2.1, cell_kept hs.2.2.2.1 hg hr, (frozen_kept hs.2.2.2.1 hg hr).trans hs.2.2.2.2.1, Nat.lt_of_lt_of_le hs.2.2.2.2.2 hg.size⟩) _) (ownFrom_below (Nat.le_refl _) (by simp; omega)))
    (fun c => OwnFrom.and (Own.from (fun s A B row hs hg hr => ⟨hs.1, hs.2.1, cell_kept hs.2.2 hg hr⟩) _) (ownFrom_below (Nat.le_refl _) (by simp; omega)))
    ⟨⟨rfl, cell_alloc_l _ c1.1, frozen_alloc_l _ c1.1 c1.2, cell_alloc_l _ (cell_alloc_l _ c0.1), frozen_alloc_l _ (cell_alloc_l _ c0.1) (frozen_alloc_l _ c0.1 c0.2), by simp⟩, hB0⟩
    (fun x => { tmps := #[.string p, undef, .pointer (some ⟨w.heap.size, 0, none⟩), .pointer (some ⟨w.heap.size + 1, 0, none⟩), undef, .string x.1.2, .string p, .int .i64 p.size, .bool false, .string p, .func (.func 125) #[] #[.pointer (some ⟨w.heap.size + 1 + 1, 0, none⟩)], .string x.1.1, .string x.1.2, undef, undef, undef, undef, undef, undef, undef], defers := [] }) ?assign ?body ?done ?stop
  case assign =>
    intro l x W K hK
    gi_wp2
    exact hK
  case body =>
    rintro l pre x W ⟨⟨hall, hc, hf, hr, hrf, hs2⟩, hB⟩ hlt
    have hle := hB.size
    have hr0 := block_lt_of_cell hr
    have hc0 := block_lt_of_cell hc
    cases hnb : nameB x.1.2 with
    | false =>
      gi_wp2_with (refine ⟨trivial, fun h => (by cases h), ?_⟩; gi_at_call 36; refine (CallsIn.inRound l (callsIn_wide.2 (name_any x.1.2 W))).mono ?_; rintro e W1 ⟨rfl, hB1⟩; rw [hnb]; have hr1 := (hB1.cell (p := ⟨w.heap.size, 0, none⟩) hr0).trans hr; have hrf1 : W1.frozen? ⟨w.heap.size, 0, none⟩ = false := (hB1.frozen (p := ⟨w.heap.size, 0, none⟩) hr0).trans hrf)
      have hk1 : KeepsOthers W W1 := KeepsOthers.of_grownBy (grown_of hB1) (fun j o e => by cases e)
      exact ⟨hk1.trans (KeepsOthers.setCell _ _ _), ⟨rfl, by rw [List.all_append]; simp [hnb], World.cell?_setCell_same' _ _ _ (by rw [hr1]; rfl)⟩, (hB.trans (hB1.mono hle)).setCell (p := ⟨w.heap.size, 0, none⟩) (Nat.le_refl _) _⟩
    | true =>
      have hpl : pre.length ≤ 100 := by omega
      gi_wp2_with (refine ⟨trivial, fun h => (by cases h), ?_⟩; gi_at_call 36; refine (CallsIn.inRound l (callsIn_wide.2 (name_any x.1.2 W))).mono ?_; rintro e W1 ⟨rfl, hB1⟩; rw [hnb]; have hc1 := (hB1.cell (p := ⟨w.heap.size + 1, 0, none⟩) hc0).trans hc; have hf1 : W1.frozen? ⟨w.heap.size + 1, 0, none⟩ = false := (hB1.frozen (p := ⟨w.heap.size + 1, 0, none⟩) hc0).trans hf)
      have hk1 : KeepsOthers W W1 := KeepsOthers.of_grownBy (grown_of hB1) (fun j o e => by cases e)
      have hr1 := (hB1.cell (p := ⟨w.heap.size, 0, none⟩) hr0).trans hr
      have hrf1 : W1.frozen? ⟨w.heap.size, 0, none⟩ = false := (hB1.frozen (p := ⟨w.heap.size, 0, none⟩) hr0).trans hrf
      refine ⟨hk1.trans (KeepsOthers.setCell _ _ _), ?_, ⟨?_, ?_, ?_, ?_, ?_, ?_⟩, (hB.trans (hB1.mono hle)).setCell (p := ⟨w.heap.size + 1, 0, none⟩) (by simp) _⟩
      · exact (heap_setCell_other _ _ _ _ (by show w.heap.size + 1 + 1 ≠ w.heap.size + 1; omega)).trans (hB1.block _ hs2)
      · rw [List.all_append, hall]; simp [hnb]
      · rw [List.length_append]; exact (World.cell?_setCell_same' _ _ _ (by rw [hc1]; rfl)).trans (by simp)
      · rw [World.frozen?_setCell]; exact hf1
      · rw [World.cell?_of_block (heap_setCell_other _ _ _ _ (by show w.heap.size ≠ w.heap.size + 1; omega))]; exact hr1
      · rw [World.frozen?_setCell]; exact hrf1
      · have := hB1.size; simp [World.setCell]; omega
  case done =>
    rintro D ys W hD rfl ⟨⟨hall, hc, hf, hr, hrf, hs2⟩, hB⟩ hK
    rw [nToS_len] at hc
    gi_wp2
    have hK' := (KeepsOthers.setCell W ⟨w.heap.size, 0, none⟩ (.bool (decide ((nN p : Int) ≤ 4)))).same D _ hK rfl
    refine ⟨by simp, .inl ⟨_, _, rfl, run_takeDeferred hK', ?_⟩⟩
    have hc5 := cell_kept (World.cell?_setCell_same' W ⟨w.heap.size, 0, none⟩ (.bool (decide ((nN p : Int) ≤ 4))) (by rw [hr]; rfl)) (grownBy_putObj' _ D (.deferred none)) (fun r e => by cases e; exact ⟨_, hK', rfl⟩)
    have hpb : pathB p = decide ((nN p : Int) ≤ 4) := by
      unfold pathB
      rw [all_nTo p hp6, hall, show decide (p.size ≤ 64) = true by simpa using h, Bool.true_and, Bool.true_and]
      exact decide_eq_decide.2 (by omega)
    refine ⟨.bool (decide ((nN p : Int) ≤ 4)), ?_, by rw [hpb], (hB.setCell (p := ⟨w.heap.size, 0, none⟩) (Nat.le_refl _) _).trans (belowK_b (w := w) (Nat.le_refl _) _ D _ _ (by simp at hD; omega) hK' rfl rfl)⟩
    simp [results, Tryz.f66, go_sem, hc5]
  case stop =>
    rintro D c pre W hD hpre ⟨⟨rfl, hall, hr⟩, hB⟩ hK
    gi_wp2
    refine ⟨by simp, .inl ⟨_, _, rfl, run_takeDeferred hK, ?_⟩⟩
    have hc5 := cell_kept hr (grownBy_putObj' _ D (.deferred none)) (fun r e => by cases e; exact ⟨_, hK, rfl⟩)
    have hpb : pathB p = false := by
      have : (nToS p hp6 (nN p)).all (fun x => nameB x.1.2) = false := by
        cases hq : (nToS p hp6 (nN p)).all (fun x => nameB x.1.2) with
        | false => rfl
        | true =>
          rw [List.all_eq_true] at hq
          have : pre.all (fun x => nameB x.1.2) = true := List.all_eq_true.2 fun y hy => hq y (hpre.subset hy)
          rw [this] at hall
          cases hall
      unfold pathB
      rw [all_nTo p hp6, this, Bool.false_and, Bool.and_false]
    refine ⟨.bool false, ?_, by rw [hpb], hB.trans (belowK_b (w := w) (Nat.le_refl _) W D _ _ (by simp at hD; omega) hK rfl rfl)⟩
    simp [results, Tryz.f66, go_sem, hc5]
theorem path_any (p : ByteArray) (w : World) : Calls Tryz.prog 66 #[.string p] w fun e w' => e = .returned (.bool (pathB p)) ∧ Below w.heap.size w w' := by
  by_cases h : 64 < p.size
  · exact path_long p w h
  · exact (callsIn_wide (n := 3)).1 (path_in 3 (Nat.le_refl _) p w (by omega))
end Go.Proofs.YtgfjjglejlnfbaaGreatDoor
