/- The law RefsMoves answers true. -/
import Derived.Test.YtgfjjglejlnfbaaGreatDoorFjE
import Derived.Test.YtgfjjglejlnfbaaGreatDoorFiG
namespace Go.Proofs.YtgfjjglejlnfbaaGreatDoor
open Go.RowKit

theorem own_rowsR {B : Nat} {W : World} {sx : Option Addr} {n cx : Nat} {L : List Re} (h : OwnR B W (.slice sx n cx) L) : RowsAt W 33 Re.cells sx L := by
  obtain ⟨sp, cap, e, hr, -⟩ := OwnR.rows h
  injection e with e1
  rw [e1]
  exact hr
set_option pp.deepTerms.threshold 2000 in
set_option maxRecDepth 100000 in
set_option maxHeartbeats 8000000 in
theorem refsMoves_all (sp : Option Addr) (cap : Nat) (rs : List Re) (m : Mv) (s : ByteArray) (w : World) (hT : Tab w kF hS) (hr : RowsAt w 33 Re.cells sp rs) (hn : sp = none → rs.length = 0 ∧ cap = 0)
    (hsz : ∀ e ∈ rs, e.name.size ≤ 9223372036854775807) :
    Calls Tryz.prog 3 #[.agg #[.slice sp rs.length cap], .agg m.cells, .string s] w fun e w' => e = .returned (.bool true) ∧ Below w.heap.size w w' := by
  have HT : Hid (Tab w kF hS) := hT
  have HR : Hid (RowsAt w 33 Re.cells sp rs) := hr
  have HN : Hid (sp = none → rs.length = 0 ∧ cap = 0) := hn
  have HSZ : Hid (∀ e ∈ rs, e.name.size ≤ 9223372036854775807) := hsz
  clear hT hr hn hsz
  go_enter Tryz.func3, Tryz.ntmps3
  go_wp2_with fail
  refine calls_gen (fun W => MvA w W sp cap rs m) ?_ ?_
  · have n1 := heap_alloc_new (w.alloc (.cells #[.slice sp rs.length cap] 24)) (.cells m.cells 28)
    simp only [World.size_alloc] at n1
    have b2 : Below w.heap.size w ((w.alloc (.cells #[.slice sp rs.length cap] 24)).alloc (.cells m.cells 28)) := ((Below.refl _ _).alloc (Nat.le_refl _) _).alloc (by simp) _
    exact ⟨b2, (Below.heap_alloc _ _ _ (by simp)).trans (heap_alloc_new _ _), n1, HR.out⟩
  intro W1 hW1
  refine (wakes9_any W1 (HT.out.below hW1.bel)).mono ?_
  rintro e W2 ⟨rfl, b2⟩
  have A2 : Hid (MvA w W2 sp cap rs m) := hW1.grow b2
  clear hW1 b2 HR HT
  have c2 := A2.out.c0
  have c1 := A2.out.c1
  by_cases h100 : 100 < rs.length
  · have hd : decide ((rs.length : Int) > 100) = true := by simp; omega
    go_wp2
    go_ret
    exact ⟨rfl, A2.out.bel⟩
  have hd : decide ((rs.length : Int) > 100) = false := by simp; omega
  by_cases hs1 : 1000 < s.size
  · have hd1 : decide ((s.size : Int) > 1000) = true := by simp; omega
    go_wp2
    go_ret
    exact ⟨rfl, A2.out.bel⟩
  have hd1 : decide ((s.size : Int) > 1000) = false := by simp; omega
  by_cases hm1 : 1000 < m.name.size
  · have hd2 : decide ((m.name.size : Int) > 1000) = true := by simp; omega
    go_wp2
    go_ret
    exact ⟨rfl, A2.out.bel⟩
  have hd2 : decide ((m.name.size : Int) > 1000) = false := by simp; omega
  obtain ⟨er, L, hO⟩ : ∃ er L, applyO rs m = (er, L) := ⟨_, _, rfl⟩
  have HO : Hid (applyO rs m = (er, L)) := hO
  clear hO
  go_wp2_with fail
  clear c1 c2 hd hd1 hd2
  have HA : Hid (∀ W, Below W2.heap.size W2 W → MvA w W sp cap rs m) := fun W h => A2.out.grow h
  have hS0 : Below W2.heap.size W2 W2.drew := (Below.refl _ _).drew
  refine mv_begin (S := fun w' => Below W2.heap.size W2 w') 10 rfl (by kernel_rfl) ?_
  refine mv_rung 0 33 (.agg #[.slice sp rs.length cap]) rfl (by rfl) (by kernel_rfl) (by kernel_rfl) (by kernel_rfl) (fun _ _ _ h => h) (fun w' hw' => by have c := (HA.out w' hw').c0; go_simp) hS0 ?_
  simp only [List.setIfInBounds_toArray, List.set_cons_succ, List.set_cons_zero]
  refine mv_row 2 35 28 (.tmp 4) rfl (w.heap.size + 1) 28 m.cells (0, 0) rfl (by kernel_rfl) (by kernel_rfl) (by kernel_rfl) (fun _ _ _ h => h) _ (fun w' hw' => (HA.out w' hw').r1) Tryz.underlying28 rfl (by rw [m.size]; kernel_rfl) hS0 ?_
  simp only [List.setIfInBounds_toArray, List.set_cons_succ, List.set_cons_zero]
  refine wpAnyH_all (rs := [1, 7]) (by kernel_rfl) (by simp) fun i hi => ?_
  simp only [List.mem_cons, List.not_mem_nil, or_false] at hi
  rcases hi with rfl | rfl
  · refine wpOp_plain rfl rfl ?_
    go_simp
    refine (copied9_any sp cap rs W2.drew (HA.out _ hS0).hr HN.out (by omega)).mono ?_
    rintro e Wb ⟨⟨v, rfl, hOb⟩, bb⟩
    obtain ⟨sb, cb, rfl, hRb, hnb⟩ := OwnR.rows hOb
    obtain ⟨hcb, hcb'⟩ := OwnR.caps hOb
    have HRb : Hid (RowsAt Wb 33 Re.cells sb rs) := hRb
    have HNb : Hid (sb = none → rs.length = 0 ∧ cb = 0) := hnb
    have hSb : Below W2.heap.size W2 Wb := hS0.trans (bb.mono hS0.size)
    clear hRb hnb hOb bb
    refine ⟨hSb, ?_⟩
    refine wpAnyH_all (rs := [3, 7]) (by kernel_rfl) (by simp) fun i hi => ?_
    simp only [List.mem_cons, List.not_mem_nil, or_false] at hi
    rcases hi with rfl | rfl
    · refine wpOp_plain rfl rfl ?_
      go_simp
      refine (xapply_any sb cb rs m Wb HRb.out HNb.out hcb hcb' (by omega)).mono ?_
      rintro e Wc ⟨hD, bc⟩
      obtain ⟨v, rfl, hOc⟩ := applyX_out HO.out hD
      obtain ⟨sx, cx, rfl, hRx, -⟩ := OwnR.rows hOc
      have HRX : Hid (OwnR Wb.heap.size Wc (.slice sx L.length cx) L) := hOc
      have hSc : Below W2.heap.size W2 Wc := hSb.trans (bc.mono hSb.size)
      clear hD hOc hRx bc
      refine ⟨hSc, ?_⟩
      refine mv_rung 4 32 (.tuple #[.agg #[.slice sx L.length cx], .int .i64 er]) rfl (by rfl) (by kernel_rfl) (by kernel_rfl) (by kernel_rfl) (fun _ _ _ h => h) (fun w' _ => by first | rfl | go_simp) hSc ?_
      simp only [List.setIfInBounds_toArray, List.set_cons_succ, List.set_cons_zero]
      refine mv_rung 5 37 (.agg #[.slice sx L.length cx]) rfl (by rfl) (by kernel_rfl) (by kernel_rfl) (by kernel_rfl) (fun _ _ _ h => h) (fun w' _ => by first | rfl | go_simp) hSc ?_
      simp only [List.setIfInBounds_toArray, List.set_cons_succ, List.set_cons_zero]
      refine mv_rung 6 38 (.int .i64 er) rfl (by rfl) (by kernel_rfl) (by kernel_rfl) (by kernel_rfl) (fun _ _ _ h => h) (fun w' _ => by first | rfl | go_simp) hSc ?_
      simp only [List.setIfInBounds_toArray, List.set_cons_succ, List.set_cons_zero]
      have hlt : ∀ k, (Value.slice sx L.length cx).ownBlock = some k → k < Wc.heap.size := fun k hk => (HRX.out.lt hk).2
      refine mv_next 7 rfl (by kernel_rfl) ?_
      go_simp
      refine ⟨hSc.alloc hSc.size _, ?_⟩
      obtain ⟨a7, ha7⟩ : ∃ g, Wc.heap.size = g := ⟨_, rfl⟩
      have hk7 : W2.heap.size ≤ a7 := by rw [← ha7]; exact hSc.size
      refine anyH_gen (fun W => Below W2.heap.size W2 W ∧ W.heap[a7]? = some (.cells #[.slice none 0 0] 24 (0, 0)) ∧ OwnR Wb.heap.size W (.slice sx L.length cx) L ∧ ∀ k, (Value.slice sx L.length cx).ownBlock = some k → k ≠ a7) ⟨hSc.alloc hSc.size _, by rw [← ha7]; exact heap_alloc_new _ _, HRX.out.below ((Below.refl _ _).alloc (Nat.le_refl _) _), fun k hk e => by have h1 := hlt k hk; omega⟩ ?_
      rw [ha7]
      rintro Wa ⟨hSa, hra, hrx, hne⟩
      have HRA : Hid (Wa.heap[a7]? = some (.cells #[.slice none 0 0] 24 (0, 0))) := hra
      clear hra ha7 HRX hlt
      have HRX : Hid (OwnR Wb.heap.size Wa (.slice sx L.length cx) L) := hrx
      clear hrx
      refine mv_next 8 rfl (by kernel_rfl) ?_
      refine wp_store_row 24 (.tmp 7) (.tmp 37) rfl a7 #[.slice sx L.length cx] rfl rfl 24 _ HRA.out (by kernel_rfl) rfl (by simp [Value.oneCell']) ?_
      refine ⟨below_setRow' hSa hk7 _, ?_⟩
      refine mv_next 9 rfl (by kernel_rfl) ?_
      go_simp
      refine ⟨below_setRow' hSa hk7 _, ?_⟩
      refine wpAnyH_done (by kernel_rfl) ?_ _
      go_simp
      apply_assumption
      exact moves_rest sp sx cap cx rs L er m s w _ a7 (HA.out _ (below_setRow' hSa hk7 _)) ⟨heap_setRow_same HRA.out, own_rowsR (HRX.out.keep fun k hk => setRow_other _ _ _ _ (hne k hk))⟩ HO.out HN.out (by omega) HSZ.out (by omega) _ _ _ _ _ _ _ _ _ _ _ _ _ _ _ _ _ _ _ _ _ _ _ _ _ _ _ _ _ _ _ _ _ _ _ _ _ _ _ _ _ _ _ _ _ _ _ _ _ _ _ _ _ _ _ _ _ _ _ _ _ _ _ _ _ _ _ _ _ _ _ _ _ _ _ _ _ _ _ _ _ _ _ _ _ _ _ _ _ _ _ _ _ _ _ _ _ _ _ _ _ _ _ _ _ _ _ _ _ _ _ _ _ _ _ _
    · refine wpOp_plain rfl rfl ?_
      go_simp
      refine ⟨hSb.alloc hSb.size _, ?_⟩
      obtain ⟨a7, ha7⟩ : ∃ g, Wb.heap.size = g := ⟨_, rfl⟩
      have hk7 : W2.heap.size ≤ a7 := by rw [← ha7]; exact hSb.size
      refine anyH_gen (fun W => Below W2.heap.size W2 W ∧ W.heap[a7]? = some (.cells #[.slice none 0 0] 24 (0, 0)) ∧ RowsAt W 33 Re.cells sb rs) ⟨hSb.alloc hSb.size _, by rw [← ha7]; exact heap_alloc_new _ _, RowsAt.below HRb.out ((Below.refl _ _).alloc (Nat.le_refl _) _)⟩ ?_
      rw [ha7]
      rintro Wa ⟨hSa, hra, hrb⟩
      have HRA : Hid (Wa.heap[a7]? = some (.cells #[.slice none 0 0] 24 (0, 0))) := hra
      clear hra ha7 HRb
      have HRb : Hid (RowsAt Wa 33 Re.cells sb rs) := hrb
      clear hrb
      refine mv_next 3 rfl (by kernel_rfl) ?_
      go_simp
      refine (xapply_any sb cb rs m Wa HRb.out HNb.out hcb hcb' (by omega)).mono ?_
      rintro e Wc ⟨hD, bc⟩
      obtain ⟨v, rfl, hOc⟩ := applyX_out HO.out hD
      obtain ⟨sx, cx, rfl, hRx, -⟩ := OwnR.rows hOc
      have HRX : Hid (OwnR Wa.heap.size Wc (.slice sx L.length cx) L) := hOc
      have hSc : Below W2.heap.size W2 Wc := hSa.trans (bc.mono hSa.size)
      have HRC : Hid (Wc.heap[a7]? = some (.cells #[.slice none 0 0] 24 (0, 0))) := (bc.block _ (lt_of_row HRA.out)).trans HRA.out
      have hne : ∀ k, (Value.slice sx L.length cx).ownBlock = some k → k ≠ a7 := fun k hk e => by have h1 := (hOc.lt hk).1; have h2 := lt_of_row HRA.out; omega
      clear hD hOc hRx bc
      refine ⟨hSc, ?_⟩
      refine mv_rung 4 32 (.tuple #[.agg #[.slice sx L.length cx], .int .i64 er]) rfl (by rfl) (by kernel_rfl) (by kernel_rfl) (by kernel_rfl) (fun _ _ _ h => h) (fun w' _ => by first | rfl | go_simp) hSc ?_
      simp only [List.setIfInBounds_toArray, List.set_cons_succ, List.set_cons_zero]
      refine mv_rung 5 37 (.agg #[.slice sx L.length cx]) rfl (by rfl) (by kernel_rfl) (by kernel_rfl) (by kernel_rfl) (fun _ _ _ h => h) (fun w' _ => by first | rfl | go_simp) hSc ?_
      simp only [List.setIfInBounds_toArray, List.set_cons_succ, List.set_cons_zero]
      refine mv_rung 6 38 (.int .i64 er) rfl (by rfl) (by kernel_rfl) (by kernel_rfl) (by kernel_rfl) (fun _ _ _ h => h) (fun w' _ => by first | rfl | go_simp) hSc ?_
      simp only [List.setIfInBounds_toArray, List.set_cons_succ, List.set_cons_zero]
      refine mv_next 8 rfl (by kernel_rfl) ?_
      refine wp_store_row 24 (.tmp 7) (.tmp 37) rfl a7 #[.slice sx L.length cx] rfl rfl 24 _ HRC.out (by kernel_rfl) rfl (by simp [Value.oneCell']) ?_
      refine ⟨below_setRow' hSc hk7 _, ?_⟩
      refine mv_next 9 rfl (by kernel_rfl) ?_
      go_simp
      refine ⟨below_setRow' hSc hk7 _, ?_⟩
      refine wpAnyH_done (by kernel_rfl) ?_ _
      go_simp
      apply_assumption
      exact moves_rest sp sx cap cx rs L er m s w _ a7 (HA.out _ (below_setRow' hSc hk7 _)) ⟨heap_setRow_same HRC.out, own_rowsR (HRX.out.keep fun k hk => setRow_other _ _ _ _ (hne k hk))⟩ HO.out HN.out (by omega) HSZ.out (by omega) _ _ _ _ _ _ _ _ _ _ _ _ _ _ _ _ _ _ _ _ _ _ _ _ _ _ _ _ _ _ _ _ _ _ _ _ _ _ _ _ _ _ _ _ _ _ _ _ _ _ _ _ _ _ _ _ _ _ _ _ _ _ _ _ _ _ _ _ _ _ _ _ _ _ _ _ _ _ _ _ _ _ _ _ _ _ _ _ _ _ _ _ _ _ _ _ _ _ _ _ _ _ _ _ _ _ _ _ _ _ _ _ _ _ _ _
  · refine wpOp_plain rfl rfl ?_
    go_simp
    refine ⟨hS0.alloc hS0.size _, ?_⟩
    have hk7 : W2.heap.size ≤ W2.heap.size := Nat.le_refl _
    refine anyH_gen (fun W => Below W2.heap.size W2 W ∧ W.heap[W2.heap.size]? = some (.cells #[.slice none 0 0] 24 (0, 0))) ⟨hS0.alloc hS0.size _, heap_alloc_new _ _⟩ ?_
    rintro Wa ⟨hSa, hra⟩
    have HRA : Hid (Wa.heap[W2.heap.size]? = some (.cells #[.slice none 0 0] 24 (0, 0))) := hra
    clear hra
    refine mv_next 1 rfl (by kernel_rfl) ?_
    go_simp
    refine (copied9_any sp cap rs Wa (HA.out _ hSa).hr HN.out (by omega)).mono ?_
    rintro e Wb ⟨⟨v, rfl, hOb⟩, bb⟩
    obtain ⟨sb, cb, rfl, hRb, hnb⟩ := OwnR.rows hOb
    obtain ⟨hcb, hcb'⟩ := OwnR.caps hOb
    have HRb : Hid (RowsAt Wb 33 Re.cells sb rs) := hRb
    have HNb : Hid (sb = none → rs.length = 0 ∧ cb = 0) := hnb
    have hSb : Below W2.heap.size W2 Wb := hSa.trans (bb.mono hSa.size)
    have HRB : Hid (Wb.heap[W2.heap.size]? = some (.cells #[.slice none 0 0] 24 (0, 0))) := (bb.block _ (lt_of_row HRA.out)).trans HRA.out
    clear hRb hnb hOb bb
    refine ⟨hSb, ?_⟩
    refine mv_next 3 rfl (by kernel_rfl) ?_
    go_simp
    refine (xapply_any sb cb rs m Wb HRb.out HNb.out hcb hcb' (by omega)).mono ?_
    rintro e Wc ⟨hD, bc⟩
    obtain ⟨v, rfl, hOc⟩ := applyX_out HO.out hD
    obtain ⟨sx, cx, rfl, hRx, -⟩ := OwnR.rows hOc
    have HRX : Hid (OwnR Wb.heap.size Wc (.slice sx L.length cx) L) := hOc
    have hSc : Below W2.heap.size W2 Wc := hSb.trans (bc.mono hSb.size)
    have HRC : Hid (Wc.heap[W2.heap.size]? = some (.cells #[.slice none 0 0] 24 (0, 0))) := (bc.block _ (lt_of_row HRB.out)).trans HRB.out
    have hne : ∀ k, (Value.slice sx L.length cx).ownBlock = some k → k ≠ W2.heap.size := fun k hk e => by have h1 := (hOc.lt hk).1; have h2 := lt_of_row HRB.out; omega
    clear hD hOc hRx bc
    refine ⟨hSc, ?_⟩
    refine mv_rung 4 32 (.tuple #[.agg #[.slice sx L.length cx], .int .i64 er]) rfl (by rfl) (by kernel_rfl) (by kernel_rfl) (by kernel_rfl) (fun _ _ _ h => h) (fun w' _ => by first | rfl | go_simp) hSc ?_
    simp only [List.setIfInBounds_toArray, List.set_cons_succ, List.set_cons_zero]
    refine mv_rung 5 37 (.agg #[.slice sx L.length cx]) rfl (by rfl) (by kernel_rfl) (by kernel_rfl) (by kernel_rfl) (fun _ _ _ h => h) (fun w' _ => by first | rfl | go_simp) hSc ?_
    simp only [List.setIfInBounds_toArray, List.set_cons_succ, List.set_cons_zero]
    refine mv_rung 6 38 (.int .i64 er) rfl (by rfl) (by kernel_rfl) (by kernel_rfl) (by kernel_rfl) (fun _ _ _ h => h) (fun w' _ => by first | rfl | go_simp) hSc ?_
    simp only [List.setIfInBounds_toArray, List.set_cons_succ, List.set_cons_zero]
    refine mv_next 8 rfl (by kernel_rfl) ?_
    refine wp_store_row 24 (.tmp 7) (.tmp 37) rfl W2.heap.size #[.slice sx L.length cx] rfl rfl 24 _ HRC.out (by kernel_rfl) rfl (by simp [Value.oneCell']) ?_
    refine ⟨below_setRow' hSc hk7 _, ?_⟩
    refine mv_next 9 rfl (by kernel_rfl) ?_
    go_simp
    refine ⟨below_setRow' hSc hk7 _, ?_⟩
    refine wpAnyH_done (by kernel_rfl) ?_ _
    go_simp
    apply_assumption
    exact moves_rest sp sx cap cx rs L er m s w _ W2.heap.size (HA.out _ (below_setRow' hSc hk7 _)) ⟨heap_setRow_same HRC.out, own_rowsR (HRX.out.keep fun k hk => setRow_other _ _ _ _ (hne k hk))⟩ HO.out HN.out (by omega) HSZ.out (by omega) _ _ _ _ _ _ _ _ _ _ _ _ _ _ _ _ _ _ _ _ _ _ _ _ _ _ _ _ _ _ _ _ _ _ _ _ _ _ _ _ _ _ _ _ _ _ _ _ _ _ _ _ _ _ _ _ _ _ _ _ _ _ _ _ _ _ _ _ _ _ _ _ _ _ _ _ _ _ _ _ _ _ _ _ _ _ _ _ _ _ _ _ _ _ _ _ _ _ _ _ _ _ _ _ _ _ _ _ _ _ _ _ _ _ _ _
end Go.Proofs.YtgfjjglejlnfbaaGreatDoor
