/- refs' Commit, of nothing. -/
import Derived.Test.YtgfjjglejlnfbaaGreatDoorMrgG
import Derived.Test.YtgfjjglejlnfbaaGreatDoorMovesg
namespace Go.Proofs.YtgfjjglejlnfbaaGreatDoor
open Go.RowKit Go.Maps

/-- What Commit leans on behind Split. -/
structure ComF (w W : World) (B b0 g11 g13 g14 : Nat) (v : Value) : Prop where
  below : Below B w W
  r9 : W.heap[B + 1 + 1]? = some (.cells (arr .u8 32 noId) 26 (0, 0))
  r11 : W.heap[g11]? = some (.cells #[.slice none 0 0, .map (some b0)] 105 (0, 0))
  m0 : MapI W b0 0 (.map [])
  r13 : W.heap[g13]? = some (.cells #[v] 46 (0, 0))
  own : OwnH B W v [hA]
  r14 : W.heap[g14]? = some (.cells (arr .u8 32 dAf) 26 (0, 0))
theorem ComF.grow {w W W' : World} {B b0 g11 g13 g14 : Nat} {v : Value} (h : ComF w W B b0 g11 g13 g14 v) (hw : w.heap.size = B) (hb : Below W.heap.size W W') : ComF w W' B b0 g11 g13 g14 v :=
  ⟨h.below.trans (hb.mono (by rw [← hw]; exact h.below.size)), (hb.block _ (lt_of_row h.r9)).trans h.r9, (hb.block _ (lt_of_row h.r11)).trans h.r11, h.m0.below hb, (hb.block _ (lt_of_row h.r13)).trans h.r13, h.own.below hb, (hb.block _ (lt_of_row h.r14)).trans h.r14⟩
theorem anyH_gen {P : Program} {md : Region.Mode} {ops : Array Oper} {Q : Exit → Act → World → Prop} {S : World → Prop} {fuel : Nat} {l : Array Bool} {a : Act} {w0 : World} (F : World → Prop) (h0 : F w0) (h : ∀ W, F W → wpAnyH P md ops Q S fuel l a W) : wpAnyH P md ops Q S fuel l a w0 := h _ h0
theorem build_com (W : World) : (Instr.build 65 [(0, .int .i64 3), (3, .agg (arr .u8 32 dAf)), (4, .slice none 0 0), (5, .int .u32 0), (6, .string ⟨#[]⟩)].toArray).run Tryz.prog W = .ok (.agg comOb.cells) W := by kernel_rfl
theorem results_tct {P : Program} {fn : Func} {p q r : Tmp} {ty : TypeId} (h : fn.results = #[.tmp p, .cell q ty, .tmp r]) (tmps : Array Value) (w : World) (g : Nat) (t : TypeId) (cs : Array Value) (fr : Nat × Nat) (d : TypeDesc) (u v : Value)
    (hp : tmps.getD p undef = u) (hq : tmps.getD q undef = .pointer (some ⟨g, 0, none⟩)) (hr : tmps.getD r undef = v) (hg : w.heap[g]? = some (.cells cs t fr))
    (hu : P.underlying ty = some d) (hd : (match d with | .struct _ | .array _ _ => true | _ => false) = true) (hi : (P.info? ty).map (·.size) = some cs.size) :
    (results fn tmps).run P w = .ok (.tuple #[u, .agg cs, v]) w := by
  have hp' : tmps[p]?.getD undef = u := by simpa using hp
  have hq' : tmps[q]?.getD undef = .pointer (some ⟨g, 0, none⟩) := by simpa using hq
  have hr' : tmps[r]?.getD undef = v := by simpa using hr
  simp [results, h, hp', hq', hr', asAddr, run_loadVar_row w g t ty cs fr d hg hu hd hi]
theorem own_at {B : Nat} {w : World} {sp : Option Addr} {k : Nat} {x : He} (h : OwnH B w (.slice sp 1 k) [x]) : ∃ q, sp = some ⟨q, 0, none⟩ ∧ B ≤ q ∧ ∃ cur, w.heap[q]? = some (.cells cur 85 (0, 0)) := by
  rcases h.2 with ⟨e, h0⟩ | ⟨g, cap', cur, e, h1, h2, h3, h4, h5, h6⟩
  · cases h0
  · injection e with e1 e2 e3
    exact ⟨g, e1, h1, cur, h2⟩
theorem bld_com {ρ : Operand → Value} {o : Oper} {x y z t : Operand} {w : World} (ho : o.op = .build 65 #[(0, .const (.int .i64 3)), (3, x), (4, y), (5, z), (6, t)]) (hx : ρ x = .agg (arr .u8 32 dAf)) (hy : ρ y = .slice none 0 0) (hz : ρ z = .int .u32 0) (ht : ρ t = .string ⟨#[]⟩) (hc : ρ (.const (.int .i64 3)) = .int .i64 3 := by rfl) : (execOp ρ o).run Tryz.prog w = .ok (.value (.agg comOb.cells)) w := by
  unfold execOp
  simp only [ho, List.map_toArray, List.map_cons, List.map_nil, hx, hy, hz, ht, hc, Sem.run_bind, Sem.run_pure, Result.andThen_ok, build_com w]
set_option pp.deepTerms.threshold 2000 in
set_option maxRecDepth 100000 in
set_option maxHeartbeats 16000000 in
theorem commit_none (w : World) (hT : Tab w kF hS) :
    Calls Tryz.prog 30 #[.agg #[.slice none 0 0], .agg #[.slice none 0 0], .slice none 0 0, .string ⟨#[]⟩] w fun e w' => ∃ v, e = .returned (.tuple #[v, .agg (arr .u8 32 dBf), .int .i64 0]) ∧ OwnH w.heap.size w' v [hA, hB] ∧ Below w.heap.size w w' := by
  have HT : Hid (Tab w kF hS) := hT
  clear hT
  obtain ⟨B, hBW, HBW⟩ : ∃ B, w.heap.size = B ∧ Hid (w.heap.size = B) := ⟨_, rfl, rfl⟩
  go_enter Tryz.func30, Tryz.ntmps30
  go_wp2_with fail
  refine calls_gen (fun W => Below B w W ∧ W.heap[B + 1]? = some (.cells #[.slice none 0 0] 58 (0, 0)) ∧ W.heap[B + 1 + 1]? = some (.cells (arr .u8 32 noId) 26 (0, 0))) ?_ ?_
  · rw [← hBW]
    have n2 := heap_alloc_new ((w.alloc (.cells #[.slice none 0 0] 46)).alloc (.cells #[.slice none 0 0] 58)) (.cells (arr .u8 32 noId) 26)
    have n1 := heap_alloc_new (w.alloc (.cells #[.slice none 0 0] 46)) (.cells #[.slice none 0 0] 58)
    simp only [World.size_alloc] at n1 n2
    exact ⟨(((Below.refl _ _).alloc (Nat.le_refl _) _).alloc (by simp) _).alloc (by simp; try omega) _, (Below.heap_alloc _ _ _ (by simp)).trans n1, n2⟩
  clear hBW
  rintro W1 ⟨f1, r5, r9⟩
  refine (find_any none 0 [] [] W1 RowsAt.none (by simp) (fun i h hi => by simp at hi)).mono ?_
  rintro e W2 ⟨b0, rfl, hm0, hb2, -⟩
  have F2 : Hid (Below B w W2) := f1.trans (hb2.mono (by have := f1.size; have := HBW.out; omega))
  have R5 : Hid (W2.heap[B + 1]? = some (.cells #[.slice none 0 0] 58 (0, 0))) := (hb2.block _ (lt_of_row r5)).trans r5
  have R9 : Hid (W2.heap[B + 1 + 1]? = some (.cells (arr .u8 32 noId) 26 (0, 0))) := (hb2.block _ (lt_of_row r9)).trans r9
  have M0 : Hid (MapI W2 b0 0 (.map [])) := hm0
  have c5 : W2.cell? ⟨B + 1, 0, none⟩ = some (.slice none 0 0) := (cell_of_row _ _ _ _ _ _ R5.out).trans rfl
  have hl5 := lt_of_row R5.out
  have hn5 : ¬ B + 1 = W2.heap.size := by omega
  clear f1 r5 r9 hm0 hb2
  go_wp2_with fail
  obtain ⟨g11, hg11, HG11⟩ : ∃ g, W2.heap.size = g ∧ Hid (W2.heap.size = g) := ⟨_, rfl, rfl⟩
  refine calls_gen (fun W => Below W2.heap.size W2 W ∧ W.heap[g11]? = some (.cells #[.slice none 0 0, .map (some b0)] 105 (0, 0))) ⟨(Below.refl _ _).alloc (Nat.le_refl _) _, by rw [← hg11]; exact heap_alloc_new _ _⟩ ?_
  rw [hg11]
  rw [hg11] at hn5 hl5
  rintro W3 ⟨f3, r11⟩
  refine (allowed_nil _ _ W3).mono ?_
  rintro e W4 ⟨rfl, b4⟩
  have f4 : Below W2.heap.size W2 W4 := by rw [hg11]; exact f3.trans (b4.mono (by have := f3.size; omega))
  have F4 : Hid (Below B w W4) := F2.out.trans (f4.mono (by rw [← HBW.out]; exact F2.out.size))
  have R5' : Hid (W4.heap[B + 1]? = some (.cells #[.slice none 0 0] 58 (0, 0))) := (f4.block _ (by omega)).trans R5.out
  have R9' : Hid (W4.heap[B + 1 + 1]? = some (.cells (arr .u8 32 noId) 26 (0, 0))) := (f4.block _ (lt_of_row R9.out)).trans R9.out
  have R11 : Hid (W4.heap[g11]? = some (.cells #[.slice none 0 0, .map (some b0)] 105 (0, 0))) := (b4.block _ (lt_of_row r11)).trans r11
  have M4 : Hid (MapI W4 b0 0 (.map [])) := M0.out.below f4
  clear c5
  have c5 : W4.cell? ⟨B + 1, 0, none⟩ = some (.slice none 0 0) := (cell_of_row _ _ _ _ _ _ R5'.out).trans rfl
  clear f3 r11 b4 f4 R5 R9 M0 F2 hg11 hn5 hl5
  go_wp2_with fail
  refine (split_none kF hS W4 (HT.out.below (HBW.out ▸ F4.out))).mono ?_
  rintro e W5 ⟨v, rfl, hO5, b5⟩
  rw [tree_id]
  have O5 := own_tree hO5
  obtain ⟨s5, k5, hv5, -, -⟩ := OwnH.rows O5
  have hv5' : v = .slice s5 1 k5 := hv5
  subst hv5'
  have hB4 : B ≤ W4.heap.size := by rw [← HBW.out]; exact F4.out.size
  obtain ⟨g13, hg13⟩ : ∃ g, W5.heap.size = g := ⟨_, rfl⟩
  have HC : Hid (∀ W, Below g13 W5 W → W.heap[g13]? = some (.cells #[.slice s5 1 k5] 46 (0, 0)) → W.heap[g13 + 1]? = some (.cells (arr .u8 32 dAf) 26 (0, 0)) → ComF w W B b0 g11 g13 (g13 + 1) (.slice s5 1 k5)) := fun W h h13 h14 => by
    rw [← hg13] at h
    have bb : Below W4.heap.size W4 W := b5.trans (h.mono b5.size)
    exact ⟨F4.out.trans (bb.mono hB4), (bb.block _ (lt_of_row R9'.out)).trans R9'.out, (bb.block _ (lt_of_row R11.out)).trans R11.out, M4.out.below bb, h13, (O5.below h).mono hB4, h14⟩
  clear O5 hO5 hv5 b5 c5 F4 R5' R9' R11 M4
  go_wp2_with (refine wpList_store_row (by rfl) 26 (.tmp 14) (.tmp 34) (by rfl) (g13 + 1) (arr .u8 32 dAf) (by rfl) (by rfl) 26 _ (by rw [← hg13]; exact heap_alloc2_new _ _ _) (by rw [arr_size]; kernel_rfl) (by rw [arr_size]; rfl) (arr_one _ _ _) ?_; refine wpList_gen (fun W => ComF w W B b0 g11 g13 (g13 + 1) (.slice s5 1 k5)) (HC.out _ (by rw [← hg13]; exact below_setRow' (((Below.refl _ _).alloc (Nat.le_refl _) _).alloc (by simp) _) (by omega) _) ((setRow_other _ _ _ _ (by omega)).trans (by rw [← hg13]; exact heap_alloc2_old _ _ _)) (heap_setRow_same (by rw [← hg13]; exact heap_alloc2_new _ _ _))) ?_; intro W6 hC6; have C6 : Hid (ComF w W6 B b0 g11 g13 (g13 + 1) (.slice s5 1 k5)) := hC6; clear hC6)
  clear HC hg13
  have CG : Hid (∀ W, Below W6.heap.size W6 W → ComF w W B b0 g11 g13 (g13 + 1) (.slice s5 1 k5)) := fun W h => C6.out.grow HBW.out h
  have hS0 : Below W6.heap.size W6 W6.drew := (Below.refl _ _).drew
  have HOC : Hid _ := ob_one comOb rfl rfl rfl
  refine mv_begin (S := fun w' => Below W6.heap.size W6 w') 10 rfl (by kernel_rfl) ?_
  refine mv_row 0 40 26 (.tmp 14) rfl (g13 + 1) 26 (arr .u8 32 dAf) (0, 0) rfl (by kernel_rfl) (by kernel_rfl) (by kernel_rfl) (fun _ _ _ h => h) _ (fun w' hw' => (CG.out w' hw').r14) Tryz.underlying26 rfl (by rw [arr_size]; kernel_rfl) hS0 ?_
  simp only [List.setIfInBounds_toArray, List.set_cons_succ, List.set_cons_zero]
  refine mv_rung 1 41 (.slice none 0 0) rfl (by rfl) (by kernel_rfl) (by kernel_rfl) (by kernel_rfl) (fun _ _ _ h => h) (fun w' _ => by first | rfl | go_simp) hS0 ?_
  simp only [List.setIfInBounds_toArray, List.set_cons_succ, List.set_cons_zero]
  refine mv_row 3 43 105 (.tmp 11) rfl g11 105 #[.slice none 0 0, .map (some b0)] (0, 0) rfl (by kernel_rfl) (by kernel_rfl) (by kernel_rfl) (fun _ _ _ h => h) _ (fun w' hw' => (CG.out w' hw').r11) Tryz.underlying105 rfl (by kernel_rfl) hS0 ?_
  simp only [List.setIfInBounds_toArray, List.set_cons_succ, List.set_cons_zero]
  refine mv_rung 4 44 (.slice none 0 0) rfl (by rfl) (by kernel_rfl) (by kernel_rfl) (by kernel_rfl) (fun _ _ _ h => h) (fun w' _ => by first | rfl | go_simp) hS0 ?_
  simp only [List.setIfInBounds_toArray, List.set_cons_succ, List.set_cons_zero]
  refine mv_rung 6 46 (.string ⟨#[]⟩) rfl (by rfl) (by kernel_rfl) (by kernel_rfl) (by kernel_rfl) (fun _ _ _ h => h) (fun w' _ => by first | rfl | go_simp) hS0 ?_
  simp only [List.setIfInBounds_toArray, List.set_cons_succ, List.set_cons_zero]
  refine wpAnyH_all (rs := [2, 8]) (by kernel_rfl) (by simp) fun i hi => ?_
  simp only [List.mem_cons, List.not_mem_nil, or_false] at hi
  rcases hi with rfl | rfl
  · refine wpOp_plain rfl rfl ?_
    go_simp
    refine (clone_nil _).mono ?_
    rintro e X0 ⟨rfl, rfl⟩
    refine ⟨hS0, ?_⟩
    refine wpAnyH_all (rs := [5, 8]) (by kernel_rfl) (by simp) fun i hi => ?_
    simp only [List.mem_cons, List.not_mem_nil, or_false] at hi
    rcases hi with rfl | rfl
    · refine wpOp_plain rfl rfl ?_
      go_simp
      refine (number_nil _ _ _).mono ?_
      rintro e X1 ⟨rfl, hnx⟩
      have hS1 : Below W6.heap.size W6 X1 := by rw [hnx]; exact hS0.alloc hS0.size _
      clear hnx
      refine ⟨hS1, ?_⟩
      refine mv_rung 7 47 (.agg comOb.cells) rfl (by rfl) (by kernel_rfl) (by kernel_rfl) (by kernel_rfl) (fun _ _ _ h => h) (fun w' _ => bld_com rfl rfl rfl rfl rfl) hS1 ?_
      simp only [List.setIfInBounds_toArray, List.set_cons_succ, List.set_cons_zero]
      refine mv_next 8 rfl (by kernel_rfl) ?_
      go_simp
      refine ⟨hS1.alloc hS1.size _, ?_⟩
      refine anyH_gen (fun W => Below W6.heap.size W6 W ∧ ∃ Z, Z.size = 38 ∧ W.heap[X1.heap.size]? = some (.cells Z 65 (0, 0))) ⟨hS1.alloc hS1.size _, _, by kernel_rfl, heap_alloc_new _ _⟩ ?_
      rintro X2 ⟨hS2, Z, hZ, r16⟩
      refine mv_next_store 9 65 (.tmp 16) (.tmp 47) rfl (by kernel_rfl) X1.heap.size 65 comOb.cells Z rfl rfl r16 (by rw [Ob.size]; kernel_rfl) (by rw [Ob.size]; exact hZ) HOC.out (below_setRow' hS2 (hS1.size) _) ?_
      refine wpAnyH_done (by kernel_rfl) ?_ _
      obtain ⟨W7, HW7⟩ : ∃ W7, Hid (X2.setRow X1.heap.size comOb.cells = W7) := ⟨_, rfl⟩
      have R16 : Hid (W7.heap[X1.heap.size]? = some (.cells comOb.cells 65 (0, 0))) := by rw [← HW7.out]; exact heap_setRow_same r16
      have C7 : Hid (ComF w W7 B b0 g11 g13 (g13 + 1) (.slice s5 1 k5)) := by rw [← HW7.out]; exact CG.out _ (below_setRow' hS2 (hS1.size) _)
      rw [HW7.out]
      generalize X1.heap.size = g16 at R16 ⊢
      clear HW7 Z hZ r16
      have HS6 : Hid (W6.heap.size = W6.heap.size) := rfl
      clear CG C6 HS6
      go_wp2_with (refine wpList_load_row (by rfl) 65 (.tmp 16) (by rfl) g16 (by rfl) 65 comOb.cells (0, 0) _ R16.out Tryz.underlying65 rfl (by rw [Ob.size]; kernel_rfl) ?_)
      refine (objid_any kF hS comOb noCo W7 (HT.out.below (HBW.out ▸ C7.out.below)) (has_com W7) fit_com).mono ?_
      rintro e W8 ⟨b8, hc8⟩
      obtain rfl : e = _ := by
        rcases hc8 with ⟨-, h⟩ | ⟨hr', -⟩
        · exact h
        · rw [com_right] at hr'; cases hr'
      clear hc8
      rw [com_id]
      have C8 : Hid (ComF w W8 B b0 g11 g13 (g13 + 1) (.slice s5 1 k5)) := C7.out.grow HBW.out b8
      have R16b : Hid (W8.heap[g16]? = some (.cells comOb.cells 65 (0, 0))) := (b8.block _ (lt_of_row R16.out)).trans R16.out
      clear b8 C7 R16
      obtain ⟨g17, hg17, HG17⟩ : ∃ g, W8.heap.size = g ∧ Hid (W8.heap.size = g) := ⟨_, rfl, rfl⟩
      go_wp2_with (refine wpList_store_row (by rfl) 26 (.tmp 17) (.tmp 51) (by rfl) g17 (arr .u8 32 dBf) (by rfl) (by rfl) 26 _ (by rw [← hg17]; exact heap_alloc_new _ _) (by rw [arr_size]; kernel_rfl) (by rw [arr_size]; rfl) (arr_one _ _ _) ?_; refine wpList_gen (fun W => Below W8.heap.size W8 W ∧ W.heap[g17]? = some (.cells (arr .u8 32 dBf) 26 (0, 0))) ⟨by rw [hg17]; exact below_setRow' ((hg17 ▸ ((Below.refl _ _).alloc (Nat.le_refl _) _))) (Nat.le_refl _) _, heap_setRow_same (by rw [← hg17]; exact heap_alloc_new _ _)⟩ ?_; intro W9 hW9; have C9 : Hid (ComF w W9 B b0 g11 g13 (g13 + 1) (.slice s5 1 k5)) := C8.out.grow HBW.out hW9.1; have R16c : Hid (W9.heap[g16]? = some (.cells comOb.cells 65 (0, 0))) := (hW9.1.block _ (lt_of_row R16b.out)).trans R16b.out; have R17 : Hid (W9.heap[g17]? = some (.cells (arr .u8 32 dBf) 26 (0, 0))) := hW9.2; clear hW9 hg17)
      have HL8 : Hid (B + 1 + 1 < W8.heap.size) := lt_of_row C8.out.r9
      clear C8 R16b
      obtain ⟨q, hqs, hqB, hqr⟩ := own_at C9.out.own
      subst hqs
      have n11 : g11 ≠ q := fun e => by have h := C9.out.r11; rw [e, hqr.choose_spec] at h; exact absurd h (by simp)
      have n13 : g13 ≠ q := fun e => by have h := C9.out.r13; rw [e, hqr.choose_spec] at h; exact absurd h (by simp)
      have n16 : g16 ≠ q := fun e => by have h := R16c.out; rw [e, hqr.choose_spec] at h; exact absurd h (by simp)
      have n17 : g17 ≠ q := fun e => by have h := R17.out; rw [e, hqr.choose_spec] at h; exact absurd h (by simp)
      have n9 : B + 1 + 1 ≠ q := fun e => by have h := C9.out.r9; rw [e, hqr.choose_spec] at h; exact absurd h (by simp)
      have nb : b0 ≠ q := fun e => by
        obtain ⟨es, cl, h, -⟩ := C9.out.m0
        rw [e, hqr.choose_spec] at h
        exact absurd h (by simp)
      have GR : Hid (∀ W, W9.grownBy W (some q) → W.heap[g11]? = some (.cells #[.slice none 0 0, .map (some b0)] 105 (0, 0)) ∧ W.heap[g13]? = some (.cells #[.slice (some ⟨q, 0, none⟩) 1 k5] 46 (0, 0)) ∧ W.heap[g16]? = some (.cells comOb.cells 65 (0, 0)) ∧ W.heap[g17]? = some (.cells (arr .u8 32 dBf) 26 (0, 0)) ∧ W.heap[B + 1 + 1]? = some (.cells (arr .u8 32 noId) 26 (0, 0)) ∧ MapI W b0 0 (.map [])) := fun W h =>
        ⟨(h.block _ (lt_of_row C9.out.r11) (fun e => n11 (by injection e))).trans C9.out.r11, (h.block _ (lt_of_row C9.out.r13) (fun e => n13 (by injection e))).trans C9.out.r13, (h.block _ (lt_of_row R16c.out) (fun e => n16 (by injection e))).trans R16c.out, (h.block _ (lt_of_row R17.out) (fun e => n17 (by injection e))).trans R17.out, (h.block _ (lt_of_row C9.out.r9) (fun e => n9 (by injection e))).trans C9.out.r9, C9.out.m0.kept h (fun e => nb (by injection e))⟩
      clear n11 n13 n16 n17 n9 nb hqr R16c R17
      have hb0 : Below W9.heap.size W9 W9.drew := (Below.refl _ _).drew
      have hG0 : W9.grownBy W9.drew (some q) := ⟨hb0.os, hb0.tape, hb0.output, hb0.size, fun k hk _ => hb0.block k hk⟩
      refine mv_begin (S := fun w' => W9.grownBy w' (some q)) 14 rfl (by kernel_rfl) ?_
      refine mv_row 0 58 105 (.tmp 11) rfl g11 105 #[.slice none 0 0, .map (some b0)] (0, 0) rfl (by kernel_rfl) (by kernel_rfl) (by kernel_rfl) (fun _ _ _ h => h) _ (fun w' hw' => (GR.out w' hw').1) Tryz.underlying105 rfl (by kernel_rfl) hG0 ?_
      simp only [List.setIfInBounds_toArray, List.set_cons_succ, List.set_cons_zero]
      refine mv_rung 1 59 (.pointer (some ⟨g13, 0, none⟩)) rfl (by rfl) (by kernel_rfl) (by kernel_rfl) (by kernel_rfl) (fun _ _ _ h => h) (fun w' _ => by first | rfl | go_simp) hG0 ?_
      simp only [List.setIfInBounds_toArray, List.set_cons_succ, List.set_cons_zero]
      refine mv_rung 2 60 (.slice (some ⟨q, 0, none⟩) 1 k5) rfl (by rfl) (by kernel_rfl) (by kernel_rfl) (by kernel_rfl) (fun _ _ _ h => h) (fun w' hw' => by have c13 : w'.cell? ⟨g13, 0, none⟩ = some (.slice (some ⟨q, 0, none⟩) 1 k5) := (cell_of_row _ _ _ _ _ _ (GR.out w' hw').2.1).trans rfl; go_simp) hG0 ?_
      simp only [List.setIfInBounds_toArray, List.set_cons_succ, List.set_cons_zero]
      refine mv_row 3 61 26 (.tmp 17) rfl g17 26 (arr .u8 32 dBf) (0, 0) rfl (by kernel_rfl) (by kernel_rfl) (by kernel_rfl) (fun _ _ _ h => h) _ (fun w' hw' => (GR.out w' hw').2.2.2.1) Tryz.underlying26 rfl (by rw [arr_size]; kernel_rfl) hG0 ?_
      simp only [List.setIfInBounds_toArray, List.set_cons_succ, List.set_cons_zero]
      refine mv_row 4 62 65 (.tmp 16) rfl g16 65 comOb.cells (0, 0) rfl (by kernel_rfl) (by kernel_rfl) (by kernel_rfl) (fun _ _ _ h => h) _ (fun w' hw' => (GR.out w' hw').2.2.1) Tryz.underlying65 rfl (by rw [Ob.size]; kernel_rfl) hG0 ?_
      simp only [List.setIfInBounds_toArray, List.set_cons_succ, List.set_cons_zero]
      refine mv_rung 5 63 (.agg (arr .u8 32 dBf ++ comOb.cells)) rfl (by rfl) (by kernel_rfl) (by kernel_rfl) (by kernel_rfl) (fun _ _ _ h => h) (fun w' _ => bld_held rfl rfl rfl) hG0 ?_
      simp only [List.setIfInBounds_toArray, List.set_cons_succ, List.set_cons_zero]
      have hxc : arr .u8 32 dBf ++ comOb.cells = hB.cells := rfl
      rw [hxc]
      clear hxc
      refine mv_next 6 rfl (by kernel_rfl) ?_
      refine op_buildOne 44 (.tmp 63) rfl (.agg hB.cells) rfl (bldHe hB _) ?_
      have hX1 : Below W9.heap.size W9 (W9.drew.alloc (.cells hB.cells 85)) := hb0.alloc hb0.size _
      have hrow1 := heap_alloc_new W9.drew (.cells hB.cells 85)
      have hS1 : W9.grownBy (W9.drew.alloc (.cells hB.cells 85)) (some q) := ⟨hX1.os, hX1.tape, hX1.output, hX1.size, fun k hk _ => hX1.block k hk⟩
      refine ⟨hS1, ?_⟩
      simp only [Act.put]
      generalize W9.drew.alloc (.cells hB.cells 85) = X1 at hX1 hrow1 hS1
      obtain ⟨v8, X2, hr8, hO8, hG8, hb8⟩ := helds_run (B := B) (xs := [hA]) (ys := [hB]) (sp := some ⟨W9.heap.size, 0, none⟩) (cap := 1) 44 (C9.out.own.below hX1) (fun h => by cases h) (oneH_rows hrow1) (fun _ => ⟨_, _, rfl⟩) (by simp) (by have := hX1.size; have := C9.out.below.size; have := HBW.out; omega)
      have hS2 : W9.grownBy X2 (some q) := ⟨hG8.os.trans hS1.os, hG8.tape.trans hS1.tape, hG8.output.trans hS1.output, Nat.le_trans hS1.size hG8.size, fun k hk hkq => (hG8.block k (Nat.lt_of_lt_of_le hk hS1.size) hkq).trans (hS1.block k hk hkq)⟩
      have hO8' : OwnH B X2 v8 [hA, hB] := hO8
      obtain ⟨sp8, cap8, hv8, hR8, -⟩ := OwnH.rows hO8'
      have hv8' : v8 = .slice sp8 2 cap8 := hv8
      subst hv8'
      refine mv_next 7 rfl (by kernel_rfl) ?_
      refine op_append (.tmp 60) (.tmp 64) 44 rfl rfl rfl hr8 ?_
      refine ⟨hS2, ?_⟩
      simp only [Act.put]
      clear hr8 hG8 hb8 hO8 hS1 hrow1 hX1 hv8 hO8' hG0 hb0
      refine mv_next 8 rfl (by kernel_rfl) ?_
      go_simp
      refine (missing_two (.slice none 0 0) b0 sp8 cap8 X2 (GR.out X2 hS2).2.2.2.2.2 hR8).mono ?_
      rintro e X3 ⟨v9, rfl, hO9, hB9⟩
      have hS3 : W9.grownBy X3 (some q) := ⟨hB9.os.trans hS2.os, hB9.tape.trans hS2.tape, hB9.output.trans hS2.output, Nat.le_trans hS2.size hB9.size, fun k hk hkq => (hB9.block k (Nat.lt_of_lt_of_le hk hS2.size)).trans (hS2.block k hk hkq)⟩
      refine ⟨hS3, ?_⟩
      refine mv_rung 9 57 (.tuple #[v9, .int .i64 0]) rfl (by rfl) (by kernel_rfl) (by kernel_rfl) (by kernel_rfl) (fun _ _ _ h => h) (fun w' _ => by first | rfl | go_simp) hS3 ?_
      simp only [List.setIfInBounds_toArray, List.set_cons_succ, List.set_cons_zero]
      refine mv_rung 10 67 (v9) rfl (by rfl) (by kernel_rfl) (by kernel_rfl) (by kernel_rfl) (fun _ _ _ h => h) (fun w' _ => by first | rfl | go_simp) hS3 ?_
      simp only [List.setIfInBounds_toArray, List.set_cons_succ, List.set_cons_zero]
      refine mv_rung 11 68 (.int .i64 0) rfl (by rfl) (by kernel_rfl) (by kernel_rfl) (by kernel_rfl) (fun _ _ _ h => h) (fun w' _ => by first | rfl | go_simp) hS3 ?_
      simp only [List.setIfInBounds_toArray, List.set_cons_succ, List.set_cons_zero]
      refine mv_rung 12 18 (v9) rfl (by rfl) (by kernel_rfl) (by kernel_rfl) (by kernel_rfl) (fun _ _ _ h => h) (fun w' _ => by first | rfl | go_simp) hS3 ?_
      simp only [List.setIfInBounds_toArray, List.set_cons_succ, List.set_cons_zero]
      refine mv_rung 13 15 (.int .i64 0) rfl (by rfl) (by kernel_rfl) (by kernel_rfl) (by kernel_rfl) (fun _ _ _ h => h) (fun w' _ => by first | rfl | go_simp) hS3 ?_
      simp only [List.setIfInBounds_toArray, List.set_cons_succ, List.set_cons_zero]
      refine wpAnyH_done (by kernel_rfl) ?_ _
      have hBX2 : B ≤ X2.heap.size := by have h1 := hS2.size; have h2 := C9.out.below.size; have h3 := HBW.out; omega
      have F10 : Hid (Below B w X3) := below_grown C9.out.below hS3 hqB (by rw [HBW.out]; exact Nat.le_refl _)
      have R9f : Hid (X3.heap[B + 1 + 1]? = some (.cells (arr .u8 32 noId) 26 (0, 0))) := (GR.out X3 hS3).2.2.2.2.1
      have R17f : Hid (X3.heap[g17]? = some (.cells (arr .u8 32 dBf) 26 (0, 0))) := (GR.out X3 hS3).2.2.2.1
      have hlt2 : B + 1 + 1 < X2.heap.size := lt_of_row (GR.out X2 hS2).2.2.2.2.1
      have hne17 : g17 ≠ B + 1 + 1 := fun e => by
        have h1 := HL8.out
        have h2 := HG17.out
        omega
      have O10 : Hid (OwnH X2.heap.size X3 v9 [hA, hB]) := hO9
      clear hO9 hB9 hS3 hS2 hR8 GR C9
      go_wp2
      have hb0 : Below X3.heap.size X3 X3.drew := (Below.refl _ _).drew
      have hG0 : X3.grownBy X3.drew (some (B + 1 + 1)) := ⟨hb0.os, hb0.tape, hb0.output, hb0.size, fun k hk _ => hb0.block k hk⟩
      refine mv_begin (S := fun w' => X3.grownBy w' (some (B + 1 + 1))) 5 rfl (by kernel_rfl) ?_
      refine mv_rung 0 73 (v9) rfl (by rfl) (by kernel_rfl) (by kernel_rfl) (by kernel_rfl) (fun _ _ _ h => h) (fun w' _ => by first | rfl | go_simp) hG0 ?_
      simp only [List.setIfInBounds_toArray, List.set_cons_succ, List.set_cons_zero]
      refine mv_row 1 74 26 (.tmp 17) rfl g17 26 (arr .u8 32 dBf) (0, 0) rfl (by kernel_rfl) (by kernel_rfl) (by kernel_rfl) (fun _ _ _ h => h) _ (fun w' hw' => (hw'.block _ (lt_of_row R17f.out) (fun e => hne17 (by injection e))).trans R17f.out) Tryz.underlying26 rfl (by rw [arr_size]; kernel_rfl) hG0 ?_
      simp only [List.setIfInBounds_toArray, List.set_cons_succ, List.set_cons_zero]
      refine mv_rung 2 8 (v9) rfl (by rfl) (by kernel_rfl) (by kernel_rfl) (by kernel_rfl) (fun _ _ _ h => h) (fun w' _ => by first | rfl | go_simp) hG0 ?_
      simp only [List.setIfInBounds_toArray, List.set_cons_succ, List.set_cons_zero]
      have hset : X3.grownBy (X3.drew.setRow (B + 1 + 1) (arr .u8 32 dBf)) (some (B + 1 + 1)) := by
        have hq := below_setRow' (Below.refl 0 X3.drew) (Nat.zero_le _) (g := B + 1 + 1) (arr .u8 32 dBf)
        exact ⟨hq.os.trans hG0.os, hq.tape.trans hG0.tape, hq.output.trans hG0.output, Nat.le_trans hG0.size hq.size, fun k hk hkg => (setRow_other _ _ _ _ (fun e => hkg (by rw [e]))).trans (hG0.block k hk hkg)⟩
      refine mv_next_store 3 26 (.tmp 9) (.tmp 74) rfl (by kernel_rfl) (B + 1 + 1) 26 (arr .u8 32 dBf) (arr .u8 32 noId) rfl rfl R9f.out (by rw [arr_size]; kernel_rfl) (by rw [arr_size, arr_size]) (arr_one _ _ _) hset ?_
      refine mv_rung 4 10 (.int .i64 0) rfl (by rfl) (by kernel_rfl) (by kernel_rfl) (by kernel_rfl) (fun _ _ _ h => h) (fun w' _ => by first | rfl | go_simp) hset ?_
      simp only [List.setIfInBounds_toArray, List.set_cons_succ, List.set_cons_zero]
      refine wpAnyH_done (by kernel_rfl) ?_ _
      go_wp2
      refine bodyPost_ret (v := .tuple #[v9, .agg (arr .u8 32 dBf), .int .i64 0]) (results_tct Tryz.results30 _ _ (B + 1 + 1) 26 (arr .u8 32 dBf) (0, 0) _ _ _ rfl rfl rfl (heap_setRow_same R9f.out) Tryz.underlying26 rfl (by rw [arr_size]; kernel_rfl)) rfl ⟨v9, rfl, ?_, ?_⟩
      · rw [HBW.out]
        exact (OwnH.keep O10.out fun j hj => setRow_other _ _ _ _ (by have := (OwnH.lt O10.out hj).1; omega)).mono hBX2
      · rw [HBW.out]
        exact below_setRow' F10.out.drew (by omega) _
    · refine wpOp_plain rfl rfl ?_
      go_simp
      refine ⟨((Below.refl _ _).alloc (Nat.le_refl _) _).drew, ?_⟩
      refine anyH_gen (fun W => Below W6.heap.size W6 W ∧ ∃ Z, Z.size = 38 ∧ W.heap[W6.heap.size]? = some (.cells Z 65 (0, 0))) ⟨((Below.refl _ _).alloc (Nat.le_refl _) _).drew, _, by kernel_rfl, heap_alloc_new _ _⟩ ?_
      rintro X1 ⟨hS1, Z, hZ, r15⟩
      refine mv_next 5 rfl (by kernel_rfl) ?_
      go_simp
      refine (number_nil _ _ _).mono ?_
      rintro e X2 ⟨rfl, hnx⟩
      have hS2 : Below W6.heap.size W6 X2 := by rw [hnx]; exact hS1.alloc hS1.size _
      have r16 : X2.heap[W6.heap.size]? = some (.cells Z 65 (0, 0)) := by rw [hnx]; exact (Below.heap_alloc _ _ _ (lt_of_row r15)).trans r15
      clear hnx r15
      refine ⟨hS2, ?_⟩
      refine mv_rung 7 47 (.agg comOb.cells) rfl (by rfl) (by kernel_rfl) (by kernel_rfl) (by kernel_rfl) (fun _ _ _ h => h) (fun w' _ => bld_com rfl rfl rfl rfl rfl) hS2 ?_
      simp only [List.setIfInBounds_toArray, List.set_cons_succ, List.set_cons_zero]
      refine mv_next_store 9 65 (.tmp 16) (.tmp 47) rfl (by kernel_rfl) W6.heap.size 65 comOb.cells Z rfl rfl r16 (by rw [Ob.size]; kernel_rfl) (by rw [Ob.size]; exact hZ) HOC.out (below_setRow' hS2 (Nat.le_refl _) _) ?_
      refine wpAnyH_done (by kernel_rfl) ?_ _
      obtain ⟨W7, HW7⟩ : ∃ W7, Hid (X2.setRow W6.heap.size comOb.cells = W7) := ⟨_, rfl⟩
      have R16 : Hid (W7.heap[W6.heap.size]? = some (.cells comOb.cells 65 (0, 0))) := by rw [← HW7.out]; exact heap_setRow_same r16
      have C7 : Hid (ComF w W7 B b0 g11 g13 (g13 + 1) (.slice s5 1 k5)) := by rw [← HW7.out]; exact CG.out _ (below_setRow' hS2 (Nat.le_refl _) _)
      rw [HW7.out]
      generalize W6.heap.size = g16 at R16 ⊢
      clear HW7 Z hZ r16
      have HS6 : Hid (W6.heap.size = W6.heap.size) := rfl
      clear CG C6 HS6
      go_wp2_with (refine wpList_load_row (by rfl) 65 (.tmp 16) (by rfl) g16 (by rfl) 65 comOb.cells (0, 0) _ R16.out Tryz.underlying65 rfl (by rw [Ob.size]; kernel_rfl) ?_)
      refine (objid_any kF hS comOb noCo W7 (HT.out.below (HBW.out ▸ C7.out.below)) (has_com W7) fit_com).mono ?_
      rintro e W8 ⟨b8, hc8⟩
      obtain rfl : e = _ := by
        rcases hc8 with ⟨-, h⟩ | ⟨hr', -⟩
        · exact h
        · rw [com_right] at hr'; cases hr'
      clear hc8
      rw [com_id]
      have C8 : Hid (ComF w W8 B b0 g11 g13 (g13 + 1) (.slice s5 1 k5)) := C7.out.grow HBW.out b8
      have R16b : Hid (W8.heap[g16]? = some (.cells comOb.cells 65 (0, 0))) := (b8.block _ (lt_of_row R16.out)).trans R16.out
      clear b8 C7 R16
      obtain ⟨g17, hg17, HG17⟩ : ∃ g, W8.heap.size = g ∧ Hid (W8.heap.size = g) := ⟨_, rfl, rfl⟩
      go_wp2_with (refine wpList_store_row (by rfl) 26 (.tmp 17) (.tmp 51) (by rfl) g17 (arr .u8 32 dBf) (by rfl) (by rfl) 26 _ (by rw [← hg17]; exact heap_alloc_new _ _) (by rw [arr_size]; kernel_rfl) (by rw [arr_size]; rfl) (arr_one _ _ _) ?_; refine wpList_gen (fun W => Below W8.heap.size W8 W ∧ W.heap[g17]? = some (.cells (arr .u8 32 dBf) 26 (0, 0))) ⟨by rw [hg17]; exact below_setRow' ((hg17 ▸ ((Below.refl _ _).alloc (Nat.le_refl _) _))) (Nat.le_refl _) _, heap_setRow_same (by rw [← hg17]; exact heap_alloc_new _ _)⟩ ?_; intro W9 hW9; have C9 : Hid (ComF w W9 B b0 g11 g13 (g13 + 1) (.slice s5 1 k5)) := C8.out.grow HBW.out hW9.1; have R16c : Hid (W9.heap[g16]? = some (.cells comOb.cells 65 (0, 0))) := (hW9.1.block _ (lt_of_row R16b.out)).trans R16b.out; have R17 : Hid (W9.heap[g17]? = some (.cells (arr .u8 32 dBf) 26 (0, 0))) := hW9.2; clear hW9 hg17)
      have HL8 : Hid (B + 1 + 1 < W8.heap.size) := lt_of_row C8.out.r9
      clear C8 R16b
      obtain ⟨q, hqs, hqB, hqr⟩ := own_at C9.out.own
      subst hqs
      have n11 : g11 ≠ q := fun e => by have h := C9.out.r11; rw [e, hqr.choose_spec] at h; exact absurd h (by simp)
      have n13 : g13 ≠ q := fun e => by have h := C9.out.r13; rw [e, hqr.choose_spec] at h; exact absurd h (by simp)
      have n16 : g16 ≠ q := fun e => by have h := R16c.out; rw [e, hqr.choose_spec] at h; exact absurd h (by simp)
      have n17 : g17 ≠ q := fun e => by have h := R17.out; rw [e, hqr.choose_spec] at h; exact absurd h (by simp)
      have n9 : B + 1 + 1 ≠ q := fun e => by have h := C9.out.r9; rw [e, hqr.choose_spec] at h; exact absurd h (by simp)
      have nb : b0 ≠ q := fun e => by
        obtain ⟨es, cl, h, -⟩ := C9.out.m0
        rw [e, hqr.choose_spec] at h
        exact absurd h (by simp)
      have GR : Hid (∀ W, W9.grownBy W (some q) → W.heap[g11]? = some (.cells #[.slice none 0 0, .map (some b0)] 105 (0, 0)) ∧ W.heap[g13]? = some (.cells #[.slice (some ⟨q, 0, none⟩) 1 k5] 46 (0, 0)) ∧ W.heap[g16]? = some (.cells comOb.cells 65 (0, 0)) ∧ W.heap[g17]? = some (.cells (arr .u8 32 dBf) 26 (0, 0)) ∧ W.heap[B + 1 + 1]? = some (.cells (arr .u8 32 noId) 26 (0, 0)) ∧ MapI W b0 0 (.map [])) := fun W h =>
        ⟨(h.block _ (lt_of_row C9.out.r11) (fun e => n11 (by injection e))).trans C9.out.r11, (h.block _ (lt_of_row C9.out.r13) (fun e => n13 (by injection e))).trans C9.out.r13, (h.block _ (lt_of_row R16c.out) (fun e => n16 (by injection e))).trans R16c.out, (h.block _ (lt_of_row R17.out) (fun e => n17 (by injection e))).trans R17.out, (h.block _ (lt_of_row C9.out.r9) (fun e => n9 (by injection e))).trans C9.out.r9, C9.out.m0.kept h (fun e => nb (by injection e))⟩
      clear n11 n13 n16 n17 n9 nb hqr R16c R17
      have hb0 : Below W9.heap.size W9 W9.drew := (Below.refl _ _).drew
      have hG0 : W9.grownBy W9.drew (some q) := ⟨hb0.os, hb0.tape, hb0.output, hb0.size, fun k hk _ => hb0.block k hk⟩
      refine mv_begin (S := fun w' => W9.grownBy w' (some q)) 14 rfl (by kernel_rfl) ?_
      refine mv_row 0 58 105 (.tmp 11) rfl g11 105 #[.slice none 0 0, .map (some b0)] (0, 0) rfl (by kernel_rfl) (by kernel_rfl) (by kernel_rfl) (fun _ _ _ h => h) _ (fun w' hw' => (GR.out w' hw').1) Tryz.underlying105 rfl (by kernel_rfl) hG0 ?_
      simp only [List.setIfInBounds_toArray, List.set_cons_succ, List.set_cons_zero]
      refine mv_rung 1 59 (.pointer (some ⟨g13, 0, none⟩)) rfl (by rfl) (by kernel_rfl) (by kernel_rfl) (by kernel_rfl) (fun _ _ _ h => h) (fun w' _ => by first | rfl | go_simp) hG0 ?_
      simp only [List.setIfInBounds_toArray, List.set_cons_succ, List.set_cons_zero]
      refine mv_rung 2 60 (.slice (some ⟨q, 0, none⟩) 1 k5) rfl (by rfl) (by kernel_rfl) (by kernel_rfl) (by kernel_rfl) (fun _ _ _ h => h) (fun w' hw' => by have c13 : w'.cell? ⟨g13, 0, none⟩ = some (.slice (some ⟨q, 0, none⟩) 1 k5) := (cell_of_row _ _ _ _ _ _ (GR.out w' hw').2.1).trans rfl; go_simp) hG0 ?_
      simp only [List.setIfInBounds_toArray, List.set_cons_succ, List.set_cons_zero]
      refine mv_row 3 61 26 (.tmp 17) rfl g17 26 (arr .u8 32 dBf) (0, 0) rfl (by kernel_rfl) (by kernel_rfl) (by kernel_rfl) (fun _ _ _ h => h) _ (fun w' hw' => (GR.out w' hw').2.2.2.1) Tryz.underlying26 rfl (by rw [arr_size]; kernel_rfl) hG0 ?_
      simp only [List.setIfInBounds_toArray, List.set_cons_succ, List.set_cons_zero]
      refine mv_row 4 62 65 (.tmp 16) rfl g16 65 comOb.cells (0, 0) rfl (by kernel_rfl) (by kernel_rfl) (by kernel_rfl) (fun _ _ _ h => h) _ (fun w' hw' => (GR.out w' hw').2.2.1) Tryz.underlying65 rfl (by rw [Ob.size]; kernel_rfl) hG0 ?_
      simp only [List.setIfInBounds_toArray, List.set_cons_succ, List.set_cons_zero]
      refine mv_rung 5 63 (.agg (arr .u8 32 dBf ++ comOb.cells)) rfl (by rfl) (by kernel_rfl) (by kernel_rfl) (by kernel_rfl) (fun _ _ _ h => h) (fun w' _ => bld_held rfl rfl rfl) hG0 ?_
      simp only [List.setIfInBounds_toArray, List.set_cons_succ, List.set_cons_zero]
      have hxc : arr .u8 32 dBf ++ comOb.cells = hB.cells := rfl
      rw [hxc]
      clear hxc
      refine mv_next 6 rfl (by kernel_rfl) ?_
      refine op_buildOne 44 (.tmp 63) rfl (.agg hB.cells) rfl (bldHe hB _) ?_
      have hX1 : Below W9.heap.size W9 (W9.drew.alloc (.cells hB.cells 85)) := hb0.alloc hb0.size _
      have hrow1 := heap_alloc_new W9.drew (.cells hB.cells 85)
      have hS1 : W9.grownBy (W9.drew.alloc (.cells hB.cells 85)) (some q) := ⟨hX1.os, hX1.tape, hX1.output, hX1.size, fun k hk _ => hX1.block k hk⟩
      refine ⟨hS1, ?_⟩
      simp only [Act.put]
      generalize W9.drew.alloc (.cells hB.cells 85) = X1 at hX1 hrow1 hS1
      obtain ⟨v8, X2, hr8, hO8, hG8, hb8⟩ := helds_run (B := B) (xs := [hA]) (ys := [hB]) (sp := some ⟨W9.heap.size, 0, none⟩) (cap := 1) 44 (C9.out.own.below hX1) (fun h => by cases h) (oneH_rows hrow1) (fun _ => ⟨_, _, rfl⟩) (by simp) (by have := hX1.size; have := C9.out.below.size; have := HBW.out; omega)
      have hS2 : W9.grownBy X2 (some q) := ⟨hG8.os.trans hS1.os, hG8.tape.trans hS1.tape, hG8.output.trans hS1.output, Nat.le_trans hS1.size hG8.size, fun k hk hkq => (hG8.block k (Nat.lt_of_lt_of_le hk hS1.size) hkq).trans (hS1.block k hk hkq)⟩
      have hO8' : OwnH B X2 v8 [hA, hB] := hO8
      obtain ⟨sp8, cap8, hv8, hR8, -⟩ := OwnH.rows hO8'
      have hv8' : v8 = .slice sp8 2 cap8 := hv8
      subst hv8'
      refine mv_next 7 rfl (by kernel_rfl) ?_
      refine op_append (.tmp 60) (.tmp 64) 44 rfl rfl rfl hr8 ?_
      refine ⟨hS2, ?_⟩
      simp only [Act.put]
      clear hr8 hG8 hb8 hO8 hS1 hrow1 hX1 hv8 hO8' hG0 hb0
      refine mv_next 8 rfl (by kernel_rfl) ?_
      go_simp
      refine (missing_two (.slice none 0 0) b0 sp8 cap8 X2 (GR.out X2 hS2).2.2.2.2.2 hR8).mono ?_
      rintro e X3 ⟨v9, rfl, hO9, hB9⟩
      have hS3 : W9.grownBy X3 (some q) := ⟨hB9.os.trans hS2.os, hB9.tape.trans hS2.tape, hB9.output.trans hS2.output, Nat.le_trans hS2.size hB9.size, fun k hk hkq => (hB9.block k (Nat.lt_of_lt_of_le hk hS2.size)).trans (hS2.block k hk hkq)⟩
      refine ⟨hS3, ?_⟩
      refine mv_rung 9 57 (.tuple #[v9, .int .i64 0]) rfl (by rfl) (by kernel_rfl) (by kernel_rfl) (by kernel_rfl) (fun _ _ _ h => h) (fun w' _ => by first | rfl | go_simp) hS3 ?_
      simp only [List.setIfInBounds_toArray, List.set_cons_succ, List.set_cons_zero]
      refine mv_rung 10 67 (v9) rfl (by rfl) (by kernel_rfl) (by kernel_rfl) (by kernel_rfl) (fun _ _ _ h => h) (fun w' _ => by first | rfl | go_simp) hS3 ?_
      simp only [List.setIfInBounds_toArray, List.set_cons_succ, List.set_cons_zero]
      refine mv_rung 11 68 (.int .i64 0) rfl (by rfl) (by kernel_rfl) (by kernel_rfl) (by kernel_rfl) (fun _ _ _ h => h) (fun w' _ => by first | rfl | go_simp) hS3 ?_
      simp only [List.setIfInBounds_toArray, List.set_cons_succ, List.set_cons_zero]
      refine mv_rung 12 18 (v9) rfl (by rfl) (by kernel_rfl) (by kernel_rfl) (by kernel_rfl) (fun _ _ _ h => h) (fun w' _ => by first | rfl | go_simp) hS3 ?_
      simp only [List.setIfInBounds_toArray, List.set_cons_succ, List.set_cons_zero]
      refine mv_rung 13 15 (.int .i64 0) rfl (by rfl) (by kernel_rfl) (by kernel_rfl) (by kernel_rfl) (fun _ _ _ h => h) (fun w' _ => by first | rfl | go_simp) hS3 ?_
      simp only [List.setIfInBounds_toArray, List.set_cons_succ, List.set_cons_zero]
      refine wpAnyH_done (by kernel_rfl) ?_ _
      have hBX2 : B ≤ X2.heap.size := by have h1 := hS2.size; have h2 := C9.out.below.size; have h3 := HBW.out; omega
      have F10 : Hid (Below B w X3) := below_grown C9.out.below hS3 hqB (by rw [HBW.out]; exact Nat.le_refl _)
      have R9f : Hid (X3.heap[B + 1 + 1]? = some (.cells (arr .u8 32 noId) 26 (0, 0))) := (GR.out X3 hS3).2.2.2.2.1
      have R17f : Hid (X3.heap[g17]? = some (.cells (arr .u8 32 dBf) 26 (0, 0))) := (GR.out X3 hS3).2.2.2.1
      have hlt2 : B + 1 + 1 < X2.heap.size := lt_of_row (GR.out X2 hS2).2.2.2.2.1
      have hne17 : g17 ≠ B + 1 + 1 := fun e => by
        have h1 := HL8.out
        have h2 := HG17.out
        omega
      have O10 : Hid (OwnH X2.heap.size X3 v9 [hA, hB]) := hO9
      clear hO9 hB9 hS3 hS2 hR8 GR C9
      go_wp2
      have hb0 : Below X3.heap.size X3 X3.drew := (Below.refl _ _).drew
      have hG0 : X3.grownBy X3.drew (some (B + 1 + 1)) := ⟨hb0.os, hb0.tape, hb0.output, hb0.size, fun k hk _ => hb0.block k hk⟩
      refine mv_begin (S := fun w' => X3.grownBy w' (some (B + 1 + 1))) 5 rfl (by kernel_rfl) ?_
      refine mv_rung 0 73 (v9) rfl (by rfl) (by kernel_rfl) (by kernel_rfl) (by kernel_rfl) (fun _ _ _ h => h) (fun w' _ => by first | rfl | go_simp) hG0 ?_
      simp only [List.setIfInBounds_toArray, List.set_cons_succ, List.set_cons_zero]
      refine mv_row 1 74 26 (.tmp 17) rfl g17 26 (arr .u8 32 dBf) (0, 0) rfl (by kernel_rfl) (by kernel_rfl) (by kernel_rfl) (fun _ _ _ h => h) _ (fun w' hw' => (hw'.block _ (lt_of_row R17f.out) (fun e => hne17 (by injection e))).trans R17f.out) Tryz.underlying26 rfl (by rw [arr_size]; kernel_rfl) hG0 ?_
      simp only [List.setIfInBounds_toArray, List.set_cons_succ, List.set_cons_zero]
      refine mv_rung 2 8 (v9) rfl (by rfl) (by kernel_rfl) (by kernel_rfl) (by kernel_rfl) (fun _ _ _ h => h) (fun w' _ => by first | rfl | go_simp) hG0 ?_
      simp only [List.setIfInBounds_toArray, List.set_cons_succ, List.set_cons_zero]
      have hset : X3.grownBy (X3.drew.setRow (B + 1 + 1) (arr .u8 32 dBf)) (some (B + 1 + 1)) := by
        have hq := below_setRow' (Below.refl 0 X3.drew) (Nat.zero_le _) (g := B + 1 + 1) (arr .u8 32 dBf)
        exact ⟨hq.os.trans hG0.os, hq.tape.trans hG0.tape, hq.output.trans hG0.output, Nat.le_trans hG0.size hq.size, fun k hk hkg => (setRow_other _ _ _ _ (fun e => hkg (by rw [e]))).trans (hG0.block k hk hkg)⟩
      refine mv_next_store 3 26 (.tmp 9) (.tmp 74) rfl (by kernel_rfl) (B + 1 + 1) 26 (arr .u8 32 dBf) (arr .u8 32 noId) rfl rfl R9f.out (by rw [arr_size]; kernel_rfl) (by rw [arr_size, arr_size]) (arr_one _ _ _) hset ?_
      refine mv_rung 4 10 (.int .i64 0) rfl (by rfl) (by kernel_rfl) (by kernel_rfl) (by kernel_rfl) (fun _ _ _ h => h) (fun w' _ => by first | rfl | go_simp) hset ?_
      simp only [List.setIfInBounds_toArray, List.set_cons_succ, List.set_cons_zero]
      refine wpAnyH_done (by kernel_rfl) ?_ _
      go_wp2
      refine bodyPost_ret (v := .tuple #[v9, .agg (arr .u8 32 dBf), .int .i64 0]) (results_tct Tryz.results30 _ _ (B + 1 + 1) 26 (arr .u8 32 dBf) (0, 0) _ _ _ rfl rfl rfl (heap_setRow_same R9f.out) Tryz.underlying26 rfl (by rw [arr_size]; kernel_rfl)) rfl ⟨v9, rfl, ?_, ?_⟩
      · rw [HBW.out]
        exact (OwnH.keep O10.out fun j hj => setRow_other _ _ _ _ (by have := (OwnH.lt O10.out hj).1; omega)).mono hBX2
      · rw [HBW.out]
        exact below_setRow' F10.out.drew (by omega) _
  · refine wpOp_plain rfl rfl ?_
    go_simp
    refine ⟨((Below.refl _ _).alloc (Nat.le_refl _) _).drew, ?_⟩
    refine anyH_gen (fun W => Below W6.heap.size W6 W ∧ ∃ Z, Z.size = 38 ∧ W.heap[W6.heap.size]? = some (.cells Z 65 (0, 0))) ⟨((Below.refl _ _).alloc (Nat.le_refl _) _).drew, _, by kernel_rfl, heap_alloc_new _ _⟩ ?_
    rintro X1 ⟨hS1, Z, hZ, r15⟩
    refine mv_next 2 rfl (by kernel_rfl) ?_
    go_simp
    refine (clone_nil _).mono ?_
    rintro e X0 ⟨rfl, rfl⟩
    refine ⟨hS1, ?_⟩
    refine mv_next 5 rfl (by kernel_rfl) ?_
    go_simp
    refine (number_nil _ _ _).mono ?_
    rintro e X2 ⟨rfl, hnx⟩
    have hS2 : Below W6.heap.size W6 X2 := by rw [hnx]; exact hS1.alloc hS1.size _
    have r16 : X2.heap[W6.heap.size]? = some (.cells Z 65 (0, 0)) := by rw [hnx]; exact (Below.heap_alloc _ _ _ (lt_of_row r15)).trans r15
    clear hnx r15
    refine ⟨hS2, ?_⟩
    refine mv_rung 7 47 (.agg comOb.cells) rfl (by rfl) (by kernel_rfl) (by kernel_rfl) (by kernel_rfl) (fun _ _ _ h => h) (fun w' _ => bld_com rfl rfl rfl rfl rfl) hS2 ?_
    simp only [List.setIfInBounds_toArray, List.set_cons_succ, List.set_cons_zero]
    refine mv_next_store 9 65 (.tmp 16) (.tmp 47) rfl (by kernel_rfl) W6.heap.size 65 comOb.cells Z rfl rfl r16 (by rw [Ob.size]; kernel_rfl) (by rw [Ob.size]; exact hZ) HOC.out (below_setRow' hS2 (Nat.le_refl _) _) ?_
    refine wpAnyH_done (by kernel_rfl) ?_ _
    obtain ⟨W7, HW7⟩ : ∃ W7, Hid (X2.setRow W6.heap.size comOb.cells = W7) := ⟨_, rfl⟩
    have R16 : Hid (W7.heap[W6.heap.size]? = some (.cells comOb.cells 65 (0, 0))) := by rw [← HW7.out]; exact heap_setRow_same r16
    have C7 : Hid (ComF w W7 B b0 g11 g13 (g13 + 1) (.slice s5 1 k5)) := by rw [← HW7.out]; exact CG.out _ (below_setRow' hS2 (Nat.le_refl _) _)
    rw [HW7.out]
    generalize W6.heap.size = g16 at R16 ⊢
    clear HW7 Z hZ r16
    have HS6 : Hid (W6.heap.size = W6.heap.size) := rfl
    clear CG C6 HS6
    go_wp2_with (refine wpList_load_row (by rfl) 65 (.tmp 16) (by rfl) g16 (by rfl) 65 comOb.cells (0, 0) _ R16.out Tryz.underlying65 rfl (by rw [Ob.size]; kernel_rfl) ?_)
    refine (objid_any kF hS comOb noCo W7 (HT.out.below (HBW.out ▸ C7.out.below)) (has_com W7) fit_com).mono ?_
    rintro e W8 ⟨b8, hc8⟩
    obtain rfl : e = _ := by
      rcases hc8 with ⟨-, h⟩ | ⟨hr', -⟩
      · exact h
      · rw [com_right] at hr'; cases hr'
    clear hc8
    rw [com_id]
    have C8 : Hid (ComF w W8 B b0 g11 g13 (g13 + 1) (.slice s5 1 k5)) := C7.out.grow HBW.out b8
    have R16b : Hid (W8.heap[g16]? = some (.cells comOb.cells 65 (0, 0))) := (b8.block _ (lt_of_row R16.out)).trans R16.out
    clear b8 C7 R16
    obtain ⟨g17, hg17, HG17⟩ : ∃ g, W8.heap.size = g ∧ Hid (W8.heap.size = g) := ⟨_, rfl, rfl⟩
    go_wp2_with (refine wpList_store_row (by rfl) 26 (.tmp 17) (.tmp 51) (by rfl) g17 (arr .u8 32 dBf) (by rfl) (by rfl) 26 _ (by rw [← hg17]; exact heap_alloc_new _ _) (by rw [arr_size]; kernel_rfl) (by rw [arr_size]; rfl) (arr_one _ _ _) ?_; refine wpList_gen (fun W => Below W8.heap.size W8 W ∧ W.heap[g17]? = some (.cells (arr .u8 32 dBf) 26 (0, 0))) ⟨by rw [hg17]; exact below_setRow' ((hg17 ▸ ((Below.refl _ _).alloc (Nat.le_refl _) _))) (Nat.le_refl _) _, heap_setRow_same (by rw [← hg17]; exact heap_alloc_new _ _)⟩ ?_; intro W9 hW9; have C9 : Hid (ComF w W9 B b0 g11 g13 (g13 + 1) (.slice s5 1 k5)) := C8.out.grow HBW.out hW9.1; have R16c : Hid (W9.heap[g16]? = some (.cells comOb.cells 65 (0, 0))) := (hW9.1.block _ (lt_of_row R16b.out)).trans R16b.out; have R17 : Hid (W9.heap[g17]? = some (.cells (arr .u8 32 dBf) 26 (0, 0))) := hW9.2; clear hW9 hg17)
    have HL8 : Hid (B + 1 + 1 < W8.heap.size) := lt_of_row C8.out.r9
    clear C8 R16b
    obtain ⟨q, hqs, hqB, hqr⟩ := own_at C9.out.own
    subst hqs
    have n11 : g11 ≠ q := fun e => by have h := C9.out.r11; rw [e, hqr.choose_spec] at h; exact absurd h (by simp)
    have n13 : g13 ≠ q := fun e => by have h := C9.out.r13; rw [e, hqr.choose_spec] at h; exact absurd h (by simp)
    have n16 : g16 ≠ q := fun e => by have h := R16c.out; rw [e, hqr.choose_spec] at h; exact absurd h (by simp)
    have n17 : g17 ≠ q := fun e => by have h := R17.out; rw [e, hqr.choose_spec] at h; exact absurd h (by simp)
    have n9 : B + 1 + 1 ≠ q := fun e => by have h := C9.out.r9; rw [e, hqr.choose_spec] at h; exact absurd h (by simp)
    have nb : b0 ≠ q := fun e => by
      obtain ⟨es, cl, h, -⟩ := C9.out.m0
      rw [e, hqr.choose_spec] at h
      exact absurd h (by simp)
    have GR : Hid (∀ W, W9.grownBy W (some q) → W.heap[g11]? = some (.cells #[.slice none 0 0, .map (some b0)] 105 (0, 0)) ∧ W.heap[g13]? = some (.cells #[.slice (some ⟨q, 0, none⟩) 1 k5] 46 (0, 0)) ∧ W.heap[g16]? = some (.cells comOb.cells 65 (0, 0)) ∧ W.heap[g17]? = some (.cells (arr .u8 32 dBf) 26 (0, 0)) ∧ W.heap[B + 1 + 1]? = some (.cells (arr .u8 32 noId) 26 (0, 0)) ∧ MapI W b0 0 (.map [])) := fun W h =>
      ⟨(h.block _ (lt_of_row C9.out.r11) (fun e => n11 (by injection e))).trans C9.out.r11, (h.block _ (lt_of_row C9.out.r13) (fun e => n13 (by injection e))).trans C9.out.r13, (h.block _ (lt_of_row R16c.out) (fun e => n16 (by injection e))).trans R16c.out, (h.block _ (lt_of_row R17.out) (fun e => n17 (by injection e))).trans R17.out, (h.block _ (lt_of_row C9.out.r9) (fun e => n9 (by injection e))).trans C9.out.r9, C9.out.m0.kept h (fun e => nb (by injection e))⟩
    clear n11 n13 n16 n17 n9 nb hqr R16c R17
    have hb0 : Below W9.heap.size W9 W9.drew := (Below.refl _ _).drew
    have hG0 : W9.grownBy W9.drew (some q) := ⟨hb0.os, hb0.tape, hb0.output, hb0.size, fun k hk _ => hb0.block k hk⟩
    refine mv_begin (S := fun w' => W9.grownBy w' (some q)) 14 rfl (by kernel_rfl) ?_
    refine mv_row 0 58 105 (.tmp 11) rfl g11 105 #[.slice none 0 0, .map (some b0)] (0, 0) rfl (by kernel_rfl) (by kernel_rfl) (by kernel_rfl) (fun _ _ _ h => h) _ (fun w' hw' => (GR.out w' hw').1) Tryz.underlying105 rfl (by kernel_rfl) hG0 ?_
    simp only [List.setIfInBounds_toArray, List.set_cons_succ, List.set_cons_zero]
    refine mv_rung 1 59 (.pointer (some ⟨g13, 0, none⟩)) rfl (by rfl) (by kernel_rfl) (by kernel_rfl) (by kernel_rfl) (fun _ _ _ h => h) (fun w' _ => by first | rfl | go_simp) hG0 ?_
    simp only [List.setIfInBounds_toArray, List.set_cons_succ, List.set_cons_zero]
    refine mv_rung 2 60 (.slice (some ⟨q, 0, none⟩) 1 k5) rfl (by rfl) (by kernel_rfl) (by kernel_rfl) (by kernel_rfl) (fun _ _ _ h => h) (fun w' hw' => by have c13 : w'.cell? ⟨g13, 0, none⟩ = some (.slice (some ⟨q, 0, none⟩) 1 k5) := (cell_of_row _ _ _ _ _ _ (GR.out w' hw').2.1).trans rfl; go_simp) hG0 ?_
    simp only [List.setIfInBounds_toArray, List.set_cons_succ, List.set_cons_zero]
    refine mv_row 3 61 26 (.tmp 17) rfl g17 26 (arr .u8 32 dBf) (0, 0) rfl (by kernel_rfl) (by kernel_rfl) (by kernel_rfl) (fun _ _ _ h => h) _ (fun w' hw' => (GR.out w' hw').2.2.2.1) Tryz.underlying26 rfl (by rw [arr_size]; kernel_rfl) hG0 ?_
    simp only [List.setIfInBounds_toArray, List.set_cons_succ, List.set_cons_zero]
    refine mv_row 4 62 65 (.tmp 16) rfl g16 65 comOb.cells (0, 0) rfl (by kernel_rfl) (by kernel_rfl) (by kernel_rfl) (fun _ _ _ h => h) _ (fun w' hw' => (GR.out w' hw').2.2.1) Tryz.underlying65 rfl (by rw [Ob.size]; kernel_rfl) hG0 ?_
    simp only [List.setIfInBounds_toArray, List.set_cons_succ, List.set_cons_zero]
    refine mv_rung 5 63 (.agg (arr .u8 32 dBf ++ comOb.cells)) rfl (by rfl) (by kernel_rfl) (by kernel_rfl) (by kernel_rfl) (fun _ _ _ h => h) (fun w' _ => bld_held rfl rfl rfl) hG0 ?_
    simp only [List.setIfInBounds_toArray, List.set_cons_succ, List.set_cons_zero]
    have hxc : arr .u8 32 dBf ++ comOb.cells = hB.cells := rfl
    rw [hxc]
    clear hxc
    refine mv_next 6 rfl (by kernel_rfl) ?_
    refine op_buildOne 44 (.tmp 63) rfl (.agg hB.cells) rfl (bldHe hB _) ?_
    have hX1 : Below W9.heap.size W9 (W9.drew.alloc (.cells hB.cells 85)) := hb0.alloc hb0.size _
    have hrow1 := heap_alloc_new W9.drew (.cells hB.cells 85)
    have hS1 : W9.grownBy (W9.drew.alloc (.cells hB.cells 85)) (some q) := ⟨hX1.os, hX1.tape, hX1.output, hX1.size, fun k hk _ => hX1.block k hk⟩
    refine ⟨hS1, ?_⟩
    simp only [Act.put]
    generalize W9.drew.alloc (.cells hB.cells 85) = X1 at hX1 hrow1 hS1
    obtain ⟨v8, X2, hr8, hO8, hG8, hb8⟩ := helds_run (B := B) (xs := [hA]) (ys := [hB]) (sp := some ⟨W9.heap.size, 0, none⟩) (cap := 1) 44 (C9.out.own.below hX1) (fun h => by cases h) (oneH_rows hrow1) (fun _ => ⟨_, _, rfl⟩) (by simp) (by have := hX1.size; have := C9.out.below.size; have := HBW.out; omega)
    have hS2 : W9.grownBy X2 (some q) := ⟨hG8.os.trans hS1.os, hG8.tape.trans hS1.tape, hG8.output.trans hS1.output, Nat.le_trans hS1.size hG8.size, fun k hk hkq => (hG8.block k (Nat.lt_of_lt_of_le hk hS1.size) hkq).trans (hS1.block k hk hkq)⟩
    have hO8' : OwnH B X2 v8 [hA, hB] := hO8
    obtain ⟨sp8, cap8, hv8, hR8, -⟩ := OwnH.rows hO8'
    have hv8' : v8 = .slice sp8 2 cap8 := hv8
    subst hv8'
    refine mv_next 7 rfl (by kernel_rfl) ?_
    refine op_append (.tmp 60) (.tmp 64) 44 rfl rfl rfl hr8 ?_
    refine ⟨hS2, ?_⟩
    simp only [Act.put]
    clear hr8 hG8 hb8 hO8 hS1 hrow1 hX1 hv8 hO8' hG0 hb0
    refine mv_next 8 rfl (by kernel_rfl) ?_
    go_simp
    refine (missing_two (.slice none 0 0) b0 sp8 cap8 X2 (GR.out X2 hS2).2.2.2.2.2 hR8).mono ?_
    rintro e X3 ⟨v9, rfl, hO9, hB9⟩
    have hS3 : W9.grownBy X3 (some q) := ⟨hB9.os.trans hS2.os, hB9.tape.trans hS2.tape, hB9.output.trans hS2.output, Nat.le_trans hS2.size hB9.size, fun k hk hkq => (hB9.block k (Nat.lt_of_lt_of_le hk hS2.size)).trans (hS2.block k hk hkq)⟩
    refine ⟨hS3, ?_⟩
    refine mv_rung 9 57 (.tuple #[v9, .int .i64 0]) rfl (by rfl) (by kernel_rfl) (by kernel_rfl) (by kernel_rfl) (fun _ _ _ h => h) (fun w' _ => by first | rfl | go_simp) hS3 ?_
    simp only [List.setIfInBounds_toArray, List.set_cons_succ, List.set_cons_zero]
    refine mv_rung 10 67 (v9) rfl (by rfl) (by kernel_rfl) (by kernel_rfl) (by kernel_rfl) (fun _ _ _ h => h) (fun w' _ => by first | rfl | go_simp) hS3 ?_
    simp only [List.setIfInBounds_toArray, List.set_cons_succ, List.set_cons_zero]
    refine mv_rung 11 68 (.int .i64 0) rfl (by rfl) (by kernel_rfl) (by kernel_rfl) (by kernel_rfl) (fun _ _ _ h => h) (fun w' _ => by first | rfl | go_simp) hS3 ?_
    simp only [List.setIfInBounds_toArray, List.set_cons_succ, List.set_cons_zero]
    refine mv_rung 12 18 (v9) rfl (by rfl) (by kernel_rfl) (by kernel_rfl) (by kernel_rfl) (fun _ _ _ h => h) (fun w' _ => by first | rfl | go_simp) hS3 ?_
    simp only [List.setIfInBounds_toArray, List.set_cons_succ, List.set_cons_zero]
    refine mv_rung 13 15 (.int .i64 0) rfl (by rfl) (by kernel_rfl) (by kernel_rfl) (by kernel_rfl) (fun _ _ _ h => h) (fun w' _ => by first | rfl | go_simp) hS3 ?_
    simp only [List.setIfInBounds_toArray, List.set_cons_succ, List.set_cons_zero]
    refine wpAnyH_done (by kernel_rfl) ?_ _
    have hBX2 : B ≤ X2.heap.size := by have h1 := hS2.size; have h2 := C9.out.below.size; have h3 := HBW.out; omega
    have F10 : Hid (Below B w X3) := below_grown C9.out.below hS3 hqB (by rw [HBW.out]; exact Nat.le_refl _)
    have R9f : Hid (X3.heap[B + 1 + 1]? = some (.cells (arr .u8 32 noId) 26 (0, 0))) := (GR.out X3 hS3).2.2.2.2.1
    have R17f : Hid (X3.heap[g17]? = some (.cells (arr .u8 32 dBf) 26 (0, 0))) := (GR.out X3 hS3).2.2.2.1
    have hlt2 : B + 1 + 1 < X2.heap.size := lt_of_row (GR.out X2 hS2).2.2.2.2.1
    have hne17 : g17 ≠ B + 1 + 1 := fun e => by
      have h1 := HL8.out
      have h2 := HG17.out
      omega
    have O10 : Hid (OwnH X2.heap.size X3 v9 [hA, hB]) := hO9
    clear hO9 hB9 hS3 hS2 hR8 GR C9
    go_wp2
    have hb0 : Below X3.heap.size X3 X3.drew := (Below.refl _ _).drew
    have hG0 : X3.grownBy X3.drew (some (B + 1 + 1)) := ⟨hb0.os, hb0.tape, hb0.output, hb0.size, fun k hk _ => hb0.block k hk⟩
    refine mv_begin (S := fun w' => X3.grownBy w' (some (B + 1 + 1))) 5 rfl (by kernel_rfl) ?_
    refine mv_rung 0 73 (v9) rfl (by rfl) (by kernel_rfl) (by kernel_rfl) (by kernel_rfl) (fun _ _ _ h => h) (fun w' _ => by first | rfl | go_simp) hG0 ?_
    simp only [List.setIfInBounds_toArray, List.set_cons_succ, List.set_cons_zero]
    refine mv_row 1 74 26 (.tmp 17) rfl g17 26 (arr .u8 32 dBf) (0, 0) rfl (by kernel_rfl) (by kernel_rfl) (by kernel_rfl) (fun _ _ _ h => h) _ (fun w' hw' => (hw'.block _ (lt_of_row R17f.out) (fun e => hne17 (by injection e))).trans R17f.out) Tryz.underlying26 rfl (by rw [arr_size]; kernel_rfl) hG0 ?_
    simp only [List.setIfInBounds_toArray, List.set_cons_succ, List.set_cons_zero]
    refine mv_rung 2 8 (v9) rfl (by rfl) (by kernel_rfl) (by kernel_rfl) (by kernel_rfl) (fun _ _ _ h => h) (fun w' _ => by first | rfl | go_simp) hG0 ?_
    simp only [List.setIfInBounds_toArray, List.set_cons_succ, List.set_cons_zero]
    have hset : X3.grownBy (X3.drew.setRow (B + 1 + 1) (arr .u8 32 dBf)) (some (B + 1 + 1)) := by
      have hq := below_setRow' (Below.refl 0 X3.drew) (Nat.zero_le _) (g := B + 1 + 1) (arr .u8 32 dBf)
      exact ⟨hq.os.trans hG0.os, hq.tape.trans hG0.tape, hq.output.trans hG0.output, Nat.le_trans hG0.size hq.size, fun k hk hkg => (setRow_other _ _ _ _ (fun e => hkg (by rw [e]))).trans (hG0.block k hk hkg)⟩
    refine mv_next_store 3 26 (.tmp 9) (.tmp 74) rfl (by kernel_rfl) (B + 1 + 1) 26 (arr .u8 32 dBf) (arr .u8 32 noId) rfl rfl R9f.out (by rw [arr_size]; kernel_rfl) (by rw [arr_size, arr_size]) (arr_one _ _ _) hset ?_
    refine mv_rung 4 10 (.int .i64 0) rfl (by rfl) (by kernel_rfl) (by kernel_rfl) (by kernel_rfl) (fun _ _ _ h => h) (fun w' _ => by first | rfl | go_simp) hset ?_
    simp only [List.setIfInBounds_toArray, List.set_cons_succ, List.set_cons_zero]
    refine wpAnyH_done (by kernel_rfl) ?_ _
    go_wp2
    refine bodyPost_ret (v := .tuple #[v9, .agg (arr .u8 32 dBf), .int .i64 0]) (results_tct Tryz.results30 _ _ (B + 1 + 1) 26 (arr .u8 32 dBf) (0, 0) _ _ _ rfl rfl rfl (heap_setRow_same R9f.out) Tryz.underlying26 rfl (by rw [arr_size]; kernel_rfl)) rfl ⟨v9, rfl, ?_, ?_⟩
    · rw [HBW.out]
      exact (OwnH.keep O10.out fun j hj => setRow_other _ _ _ _ (by have := (OwnH.lt O10.out hj).1; omega)).mono hBX2
    · rw [HBW.out]
      exact below_setRow' F10.out.drew (by omega) _
end Go.Proofs.YtgfjjglejlnfbaaGreatDoor
