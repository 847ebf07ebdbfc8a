/- The document's Decode, of a commit. -/
import Derived.Test.YtnaoaeapffgojaaRDcM
namespace Go.Proofs.Ytnaoaeapffgojaa
open Go.RowKit

set_option maxRecDepth 100000 in
set_option maxHeartbeats 8000000 in
theorem rdec_com_a (b off n cap : Nat) (src : Nat → Int) (w : World) (hs : SrcAt w .u8 (some ⟨b, off, none⟩) n src) (hn : 0 < n) (hok : ∀ i, i < n → 0 ≤ src i ∧ src i ≤ 255) (hX : src 0 = 3) (h34 : n < 34) :
    Calls Try.prog 8 #[.slice (some ⟨b, off, none⟩) n cap] w (RPost ((List.range n).map src) w) := by
  have HPOST : Hid _ := short_post (w := w) (com_short hn hX (fun h => by have := h.1; omega))
  have d4 : decide ((n : Int) < 34) = true := by simp; omega
  have HZB : Hid _ := buildz
  have HZ1 : Hid _ := ob_one zeroOb rfl rfl rfl
  have HS : Hid (SrcAt w .u8 (some ⟨b, off, none⟩) n src) := hs
  have HOK : Hid _ := hok
  obtain ⟨b', off', hse, hc⟩ := hs hn
  injection hse with hse
  injection hse with hse1 hse2
  subst hse1 hse2
  have hbw : b < w.heap.size := block_lt_of_cell (hc 0 hn)
  have ea : ∀ X, (w.alloc X).cell? ⟨b, off, none⟩ = some (.int .u8 (src 0)) := fun X => (((Below.refl _ w).alloc (Nat.le_refl _) X).cell (p := ⟨b, off, none⟩) hbw).trans (hc 0 hn)
  have hxr := hok 0 hn
  rw [hX] at ea hxr
  have HX : Hid _ := hX
  have hwx : IntKind.i64.wrap 3 = 3 := by rw [IntKind.wrap_i64]; omega
  have dn : ((n : Int) == 0) = false := by simp; omega
  obtain ⟨q, hq⟩ : ∃ q : Ob, q = { zeroOb with kind := 3 } := ⟨_, rfl⟩
  have HQ : Hid _ := hq
  have HB0 : Hid (∀ w, (Instr.build 30 #[(0, .int .i64 3)]).run Try.prog w = .ok (.agg q.cells) w) := by rw [hq]; exact build0 3
  have HO1 : Hid (q.cells.all (·.oneCell') = true) := by rw [hq]; exact ob_one _ rfl rfl rfl
  have HQK : Hid (q.kind = 3) := by rw [hq]; exact rfl
  clear hs hc hX hq hok
  go_enter Try.func8, Try.ntmps8
  go_wp2_with (first
    | (refine wpList_build (by rfl) 30 _ (by rfl) [(0, .int .i64 3)] (by rfl) (.agg q.cells) (HB0.out _) ?_)
    | (refine wpList_build (by rfl) 30 _ (by rfl) [] (by rfl) (.agg zeroOb.cells) (HZB.out _) ?_)
    | (refine wpList_store_row (by rfl) 30 (.tmp 4) (.tmp 21) (by rfl) (w.heap.size + 1) q.cells (by rfl) (by rfl) 30 _ (heap_alloc2_new _ _ _) (by rw [Ob.size]; kernel_rfl) (by rw [Ob.size]; rfl) HO1.out ?_; refine wpList_gen (fun W => Below w.heap.size w W ∧ W.heap[w.heap.size]? = some (.cells zeroOb.cells 30 (0, 0)) ∧ W.heap[w.heap.size + 1]? = some (.cells q.cells 30 (0, 0))) ⟨below_setRow' (((Below.refl _ _).alloc (Nat.le_refl _) _).alloc (by simp) _) (by omega) _, (setRow_other _ _ _ _ (by omega)).trans ((heap_alloc2_old _ _ _).trans rfl), heap_setRow_same (heap_alloc2_new _ _ _)⟩ ?_; intro W1 hW1; have k0 : W1.cell? ⟨w.heap.size + 1, 0, none⟩ = some (.int .i64 3) := (cell_of_row _ _ _ _ _ _ hW1.2.2).trans ((Ob.cell0 _).trans (by rw [HQK.out])); have f1 := hW1.1; have H0 : Hid _ := hW1.2.1; have H4 : Hid _ := hW1.2.2; clear hW1 ea hwx HB0)
    | (refine wpList_store_row (by rfl) 30 (.tmp 2) (.tmp 156) (by rfl) w.heap.size zeroOb.cells (by rfl) (by rfl) 30 _ H0.out (by rw [Ob.size]; kernel_rfl) rfl HZ1.out ?_))
  refine bodyPost_ret (v := .tuple #[.agg zeroOb.cells, .int .i64 7]) ?_ rfl (HPOST.out _ (below_setRow' f1 (Nat.le_refl _) _))
  exact results_cell_tmp Try.results8 _ _ w.heap.size 30 _ (0, 0) _ _ rfl rfl (heap_setRow_same H0.out) Try.underlying30 rfl (by rw [Ob.size]; kernel_rfl)

set_option maxRecDepth 100000 in
set_option maxHeartbeats 8000000 in
theorem rdec_com_b (b off n cap : Nat) (src : Nat → Int) (w : World) (hs : SrcAt w .u8 (some ⟨b, off, none⟩) n src) (hn : 0 < n) (hok : ∀ i, i < n → 0 ≤ src i ∧ src i ≤ 255) (hX : src 0 = 3) (h34 : 34 ≤ n) (x : Nat) (hx1 : src 33 = (x : Int)) (hx2 : x ≤ 255) (hB : n - 34 < 32 * x + 5) (hmx : n ≤ 100000) :
    Calls Try.prog 8 #[.slice (some ⟨b, off, none⟩) n cap] w (RPost ((List.range n).map src) w) := by
  have HPOST : Hid _ := short_post (w := w) (com_short hn hX (fun h => by have := (h.2 x hx1).1; omega))
  have d4 : decide ((n : Int) < 34) = false := by simp; omega
  have dB : decide ((n : Int) - 34 < 32 * x + 5) = true := by simp; omega
  have hwx33 : IntKind.i64.wrap (x : Int) = x := by rw [IntKind.wrap_i64]; omega
  have HC33 : Hid (w.cell? ⟨b, off + 33, none⟩ = some (.int .u8 x)) := by rw [← hx1]; exact hs.cells 33 (by omega)
  clear hx1
  have HZB : Hid _ := buildz
  have HZ1 : Hid _ := ob_one zeroOb rfl rfl rfl
  have HS : Hid (SrcAt w .u8 (some ⟨b, off, none⟩) n src) := hs
  have HOK : Hid _ := hok
  obtain ⟨b', off', hse, hc⟩ := hs hn
  injection hse with hse
  injection hse with hse1 hse2
  subst hse1 hse2
  have hbw : b < w.heap.size := block_lt_of_cell (hc 0 hn)
  have ea : ∀ X, (w.alloc X).cell? ⟨b, off, none⟩ = some (.int .u8 (src 0)) := fun X => (((Below.refl _ w).alloc (Nat.le_refl _) X).cell (p := ⟨b, off, none⟩) hbw).trans (hc 0 hn)
  have hxr := hok 0 hn
  rw [hX] at ea hxr
  have HX : Hid _ := hX
  have hwx : IntKind.i64.wrap 3 = 3 := by rw [IntKind.wrap_i64]; omega
  have dn : ((n : Int) == 0) = false := by simp; omega
  obtain ⟨q, hq⟩ : ∃ q : Ob, q = { zeroOb with kind := 3 } := ⟨_, rfl⟩
  have HQ : Hid _ := hq
  have HB0 : Hid (∀ w, (Instr.build 30 #[(0, .int .i64 3)]).run Try.prog w = .ok (.agg q.cells) w) := by rw [hq]; exact build0 3
  have HO1 : Hid (q.cells.all (·.oneCell') = true) := by rw [hq]; exact ob_one _ rfl rfl rfl
  have HQK : Hid (q.kind = 3) := by rw [hq]; exact rfl
  clear hs hc hX hq hok
  go_enter Try.func8, Try.ntmps8
  go_wp2_with (first
    | (refine wpList_build (by rfl) 30 _ (by rfl) [(0, .int .i64 3)] (by rfl) (.agg q.cells) (HB0.out _) ?_)
    | (refine wpList_build (by rfl) 30 _ (by rfl) [] (by rfl) (.agg zeroOb.cells) (HZB.out _) ?_)
    | (refine wpList_store_row (by rfl) 30 (.tmp 4) (.tmp 21) (by rfl) (w.heap.size + 1) q.cells (by rfl) (by rfl) 30 _ (heap_alloc2_new _ _ _) (by rw [Ob.size]; kernel_rfl) (by rw [Ob.size]; rfl) HO1.out ?_; refine wpList_gen (fun W => Below w.heap.size w W ∧ W.heap[w.heap.size]? = some (.cells zeroOb.cells 30 (0, 0)) ∧ W.heap[w.heap.size + 1]? = some (.cells q.cells 30 (0, 0))) ⟨below_setRow' (((Below.refl _ _).alloc (Nat.le_refl _) _).alloc (by simp) _) (by omega) _, (setRow_other _ _ _ _ (by omega)).trans ((heap_alloc2_old _ _ _).trans rfl), heap_setRow_same (heap_alloc2_new _ _ _)⟩ ?_; intro W1 hW1; have k0 : W1.cell? ⟨w.heap.size + 1, 0, none⟩ = some (.int .i64 3) := (cell_of_row _ _ _ _ _ _ hW1.2.2).trans ((Ob.cell0 _).trans (by rw [HQK.out])); have f1 := hW1.1; have H0 : Hid _ := hW1.2.1; have H4 : Hid _ := hW1.2.2; have c33 : W1.cell? ⟨b, off + 33, none⟩ = some (.int .u8 x) := (f1.cell (p := ⟨b, off + 33, none⟩) hbw).trans HC33.out; clear hW1 ea hwx HB0)
    | (refine wpList_store_row (by rfl) 30 (.tmp 2) (.tmp 156) (by rfl) w.heap.size zeroOb.cells (by rfl) (by rfl) 30 _ H0.out (by rw [Ob.size]; kernel_rfl) rfl HZ1.out ?_))
  refine bodyPost_ret (v := .tuple #[.agg zeroOb.cells, .int .i64 7]) ?_ rfl (HPOST.out _ (below_setRow' f1 (Nat.le_refl _) _))
  exact results_cell_tmp Try.results8 _ _ w.heap.size 30 _ (0, 0) _ _ rfl rfl (heap_setRow_same H0.out) Try.underlying30 rfl (by rw [Ob.size]; kernel_rfl)

set_option maxRecDepth 100000 in
set_option maxHeartbeats 8000000 in
theorem rdec_com_c (b off n cap : Nat) (src : Nat → Int) (w : World) (hs : SrcAt w .u8 (some ⟨b, off, none⟩) n src) (hn : 0 < n) (hok : ∀ i, i < n → 0 ≤ src i ∧ src i ≤ 255) (hcap : n ≤ cap) (hmx : n ≤ 100000) (hX : src 0 = 3) (x : Nat) (hx1 : src 33 = (x : Int)) (hx2 : x ≤ 255) (hB : 34 + x * 32 + 5 ≤ n) :
    Calls Try.prog 8 #[.slice (some ⟨b, off, none⟩) n cap] w (RPost ((List.range n).map src) w) := by
  have d4 : decide ((n : Int) < 34) = false := by simp; omega
  have dB : decide ((n : Int) - 34 < 32 * x + 5) = false := by simp; omega
  have hwx33 : IntKind.i64.wrap (x : Int) = x := by rw [IntKind.wrap_i64]; omega
  have HC33 : Hid (w.cell? ⟨b, off + 33, none⟩ = some (.int .u8 x)) := by rw [← hx1]; exact hs.cells 33 (by omega)
  have HCELL : Hid (∀ j, j < n → w.cell? ⟨b, off + j, none⟩ = some (.int .u8 (src j))) := hs.cells
  have HX1 : Hid _ := hx1
  obtain ⟨L, hL⟩ : ∃ L, L = (List.range n).map src := ⟨_, rfl⟩
  have HL : Hid _ := hL
  have HDX : Hid (decX L = 3) := by rw [hL]; exact (decX_src hn).trans hX
  obtain ⟨tr, htr⟩ : ∃ tr, tr = idL ((List.range 32).map fun j => src (1 + j)) := ⟨_, rfl⟩
  have HTR : Hid _ := htr
  have HTA : Hid (arr .u8 32 (fun j => src (1 + j)) = arr .u8 32 tr) := by rw [htr]; exact idL_arr _
  clear hx1 hL htr
  have HZB : Hid _ := buildz
  have HZ1 : Hid _ := ob_one zeroOb rfl rfl rfl
  have HS : Hid (SrcAt w .u8 (some ⟨b, off, none⟩) n src) := hs
  have HOK : Hid _ := hok
  obtain ⟨b', off', hse, hc⟩ := hs hn
  injection hse with hse
  injection hse with hse1 hse2
  subst hse1 hse2
  have hbw : b < w.heap.size := block_lt_of_cell (hc 0 hn)
  have ea : ∀ X, (w.alloc X).cell? ⟨b, off, none⟩ = some (.int .u8 (src 0)) := fun X => (((Below.refl _ w).alloc (Nat.le_refl _) X).cell (p := ⟨b, off, none⟩) hbw).trans (hc 0 hn)
  have hxr := hok 0 hn
  rw [hX] at ea hxr
  have HX : Hid _ := hX
  have hwx : IntKind.i64.wrap 3 = 3 := by rw [IntKind.wrap_i64]; omega
  have dn : ((n : Int) == 0) = false := by simp; omega
  obtain ⟨q, hq⟩ : ∃ q : Ob, q = { zeroOb with kind := 3 } := ⟨_, rfl⟩
  have HQ : Hid _ := hq
  have HB0 : Hid (∀ w, (Instr.build 30 #[(0, .int .i64 3)]).run Try.prog w = .ok (.agg q.cells) w) := by rw [hq]; exact build0 3
  have HO1 : Hid (q.cells.all (·.oneCell') = true) := by rw [hq]; exact ob_one _ rfl rfl rfl
  have HQK : Hid (q.kind = 3) := by rw [hq]; exact rfl
  clear hs hc hX hq hok
  go_enter Try.func8, Try.ntmps8
  go_wp2_with (first
    | (refine wpList_build (by rfl) 30 _ (by rfl) [(0, .int .i64 3)] (by rfl) (.agg q.cells) (HB0.out _) ?_)
    | (refine wpList_build (by rfl) 30 _ (by rfl) [] (by rfl) (.agg zeroOb.cells) (HZB.out _) ?_)
    | (refine wpList_store_row (by rfl) 30 (.tmp 4) (.tmp 21) (by rfl) (w.heap.size + 1) q.cells (by rfl) (by rfl) 30 _ (heap_alloc2_new _ _ _) (by rw [Ob.size]; kernel_rfl) (by rw [Ob.size]; rfl) HO1.out ?_; refine wpList_gen (fun W => Below w.heap.size w W ∧ W.heap[w.heap.size]? = some (.cells zeroOb.cells 30 (0, 0)) ∧ W.heap[w.heap.size + 1]? = some (.cells q.cells 30 (0, 0))) ⟨below_setRow' (((Below.refl _ _).alloc (Nat.le_refl _) _).alloc (by simp) _) (by omega) _, (setRow_other _ _ _ _ (by omega)).trans ((heap_alloc2_old _ _ _).trans rfl), heap_setRow_same (heap_alloc2_new _ _ _)⟩ ?_; intro W1 hW1; have k0 : W1.cell? ⟨w.heap.size + 1, 0, none⟩ = some (.int .i64 3) := (cell_of_row _ _ _ _ _ _ hW1.2.2).trans ((Ob.cell0 _).trans (by rw [HQK.out])); have f1 := hW1.1; have H0 : Hid _ := hW1.2.1; have H4 : Hid _ := hW1.2.2; have c33 : W1.cell? ⟨b, off + 33, none⟩ = some (.int .u8 x) := (f1.cell (p := ⟨b, off + 33, none⟩) hbw).trans HC33.out; clear hW1 ea hwx HB0)
    | fail)
  refine (rid05_any _ _ _ (fun j => src (1 + j)) W1 ((HS.out.sub (by omega)).below f1) (by omega)).mono ?_
  rintro e w2 ⟨he2, hB2⟩
  rw [HTA.out] at he2
  subst he2
  have f2 : Below w.heap.size w w2 := f1.trans (hB2.mono f1.size)
  have R0 : Hid (w2.heap[w.heap.size]? = some (.cells zeroOb.cells 30 (0, 0))) := (hB2.block _ (lt_of_row H0.out)).trans H0.out
  have R4 : Hid (w2.heap[w.heap.size + 1]? = some (.cells q.cells 30 (0, 0))) := (hB2.block _ (lt_of_row H4.out)).trans H4.out
  obtain ⟨qT, hqT⟩ : ∃ qT : Ob, qT = { q with tree := tr } := ⟨_, rfl⟩
  have HQT2 : Hid (qT = ⟨3, .slice none 0 0, .slice none 0 0, tr, .slice none 0 0, 0, ⟨#[]⟩⟩) := by rw [hqT, HQ.out]; exact rfl
  clear hB2 H0 H4 k0 f1 HO1 hqT HTA c33
  go_wp2_with (refine wpList_store_mid (by rfl) 26 (.tmp 160) (.tmp 159) (by rfl) (w.heap.size + 1) 3 (arr .u8 32 tr) (by rfl) (by rfl) (there_row R4.out (by rw [Ob.size, arr_size]; omega)) (by rw [arr_size]; kernel_rfl) (arr_one _ _ _) ?_; refine wpList_gen (fun W => Sp w qT (.slice none 0 0) [] W) ⟨below_setCells f2 rfl (by omega), (World.heap_setCells_other _ _ _ _ (lt_of_row R0.out) (by omega)).trans R0.out, (heap_setCells_row _ _ _ _ R4.out).trans (by rw [ob_tree, HQT2.out, HQ.out]; exact rfl), ownI_nil _ _⟩ ?_; intro W3 hW3; have HST : Hid (Sp w qT (.slice none 0 0) [] W3) := hW3; clear hW3 f2 R0 R4)
  go_loopw [5, 11] (fun u i wr => ∃ (t k : Nat) (sv : Option Addr) (lv cv : Nat), t ≤ x ∧ k = 34 + t * 32 ∧ u = .int .i64 k ∧ i = .int .i64 t ∧ Sp w qT (.slice sv lv cv) (tkIds L t (34, 0)).2 wr) (fun _ i _ => x - (intOf i).toNat)
  case atStart => exact ⟨0, 34, none, 0, 0, Nat.zero_le _, rfl, rfl, rfl, HST.out⟩
  case round =>
    obtain ⟨t, k, sv, lv, cv, ht, hke, rfl, rfl, hSt⟩ := hrel
    have HKE : Hid (k = 34 + t * 32) := hke
    have HSt : Hid (Sp w qT (.slice sv lv cv) (tkIds L t (34, 0)).2 wr) := hSt
    have fr := hSt.1
    have c33 : wr.cell? ⟨b, off + 33, none⟩ = some (.int .u8 x) := (fr.cell (p := ⟨b, off + 33, none⟩) hbw).trans HC33.out
    have l4 := lt_of_row hSt.2.2.1
    have r35 : wr.cell? ⟨w.heap.size + 1, 35, none⟩ = some (.slice sv lv cv) := (cell_of_row _ _ _ _ _ _ hSt.2.2.1).trans (Ob.cell35 _)
    by_cases hlt : t < x
    · have hk32 : k + 32 ≤ n := by omega
      obtain ⟨fid, hfid⟩ : ∃ g, idL ((List.range 32).map fun j => src (k + j)) = g := ⟨_, rfl⟩
      have HARR : Hid (arr .u8 32 (fun j => src (k + j)) = arr .u8 32 fid) := by rw [← hfid]; exact idL_arr _
      obtain ⟨ps, hps⟩ : ∃ ps, ps = (tkIds L t (34, 0)).2 := ⟨_, rfl⟩
      have HPS : Hid ((tkIds L (t + 1) (34, 0)).2 = ps ++ [fid]) := by rw [hps, HL.out, ids_snoc src (by omega), ← hfid, hke]; exact rfl
      have HS2 : Hid (Sp w qT (.slice sv lv cv) ps wr) := by rw [hps]; exact hSt
      have hlen : ps.length = t := by rw [hps]; exact tkIds_len _ _ _
      have E3 : Hid (SrcAt wr .u8 (some ⟨b, off + k, none⟩) 32 fun j => src (k + j)) := (HS.out.sub (by omega)).below fr
      have fd : Below wr.heap.size wr wr.drew := (Below.refl _ _).drew
      have hwk : IntKind.i64.wrap ((k : Int) + 32) = k + 32 := by rw [IntKind.wrap_i64]; omega
      have hk1 : (0 : Int) ≤ (k : Int) + 32 ∧ (k : Int) + 32 ≤ cap := by omega
      have hk2 : ((k : Int) + 32).toNat = k + 32 := by omega
      have hk3 : ¬ cap = k := by omega
      clear hke hSt hps hfid HSt HST
      go_wp2_with fail
      refine mv_begin (S := fun _ => True) 12 rfl (by kernel_rfl) ?_
      refine mv_run 0 169 (.pointer (some ⟨w.heap.size + 1, 35, none⟩)) rfl (by kernel_rfl) (by kernel_rfl) (by kernel_rfl) (fun _ _ _ h => h) (fun w' _ => by first | rfl | go_simp) trivial ?_
      simp only [List.setIfInBounds_toArray, List.set_cons_succ, List.set_cons_zero]
      refine mv_run 2 171 (.slice (some ⟨b, off, none⟩) n cap) rfl (by kernel_rfl) (by kernel_rfl) (by kernel_rfl) (fun _ _ _ h => h) (fun w' _ => by first | rfl | go_simp) trivial ?_
      simp only [List.setIfInBounds_toArray, List.set_cons_succ, List.set_cons_zero]
      refine mv_run 3 172 (.int .i64 k) rfl (by kernel_rfl) (by kernel_rfl) (by kernel_rfl) (fun _ _ _ h => h) (fun w' _ => by first | rfl | go_simp) trivial ?_
      simp only [List.setIfInBounds_toArray, List.set_cons_succ, List.set_cons_zero]
      refine mv_run 4 173 (.int .i64 k) rfl (by kernel_rfl) (by kernel_rfl) (by kernel_rfl) (fun _ _ _ h => h) (fun w' _ => by first | rfl | go_simp) trivial ?_
      simp only [List.setIfInBounds_toArray, List.set_cons_succ, List.set_cons_zero]
      refine mv_run 5 174 (.int .i64 (k + 32)) rfl (by kernel_rfl) (by kernel_rfl) (by kernel_rfl) (fun _ _ _ h => h) (fun w' _ => by first | rfl | go_simp) trivial ?_
      simp only [List.setIfInBounds_toArray, List.set_cons_succ, List.set_cons_zero]
      refine mv_run 6 175 (.slice (some ⟨b, off + k, none⟩) (k + 32 - k) (cap - k)) rfl (by kernel_rfl) (by kernel_rfl) (by kernel_rfl) (fun _ _ _ h => h) (fun w' _ => by go_simp) trivial ?_
      simp only [List.setIfInBounds_toArray, List.set_cons_succ, List.set_cons_zero]
      refine wpAnyH_all (rs := [1, 7]) (by kernel_rfl) (by simp) fun i hi => ?_
      simp only [List.mem_cons, List.not_mem_nil, or_false] at hi
      rcases hi with rfl | rfl
      · refine wpOp_plain rfl rfl ?_
        refine op_load 27 (.tmp 169) rfl rfl (ldI ((Below.cell fd (p := ⟨w.heap.size + 1, 35, none⟩) l4).trans r35)) ?_
        refine ⟨trivial, ?_⟩
        simp only [Act.put]
        refine wpAnyH_all (rs := [7]) (by kernel_rfl) (by simp) fun i hi => ?_
        simp only [List.mem_cons, List.not_mem_nil, or_false] at hi
        subst hi
        refine wpOp_plain rfl rfl ?_
        go_simp
        refine (rid05_any _ _ _ (fun j => src (k + j)) _ (by first | exact SrcAt.below E3.out fd | (rw [show k + 32 - k = 32 by omega]; exact SrcAt.below E3.out fd)) (by omega)).mono ?_
        rintro e X1 ⟨heX1, hBX1⟩
        rw [HARR.out] at heX1
        subst heX1
        have fX1 : Below wr.heap.size wr X1 := fd.trans (hBX1.mono fd.size)
        clear hBX1
        refine wpAnyH_all (rs := [8]) (by kernel_rfl) (by simp) fun i hi => ?_
        simp only [List.mem_cons, List.not_mem_nil, or_false] at hi
        subst hi
        refine wpOp_plain rfl rfl ?_
        refine op_buildOne 27 (.tmp 176) rfl (.agg (arr .u8 32 fid)) rfl (bld1 fid _) ?_
        refine ⟨trivial, ?_⟩
        simp only [Act.put]
        obtain ⟨g, hg⟩ : ∃ g, g = X1.heap.size := ⟨_, rfl⟩
        have hgr : wr.heap.size ≤ g := by rw [hg]; exact fX1.size
        have hrow : (X1.alloc (.cells (arr .u8 32 fid) 26)).heap[g]? = some (.cells (arr .u8 32 fid) 26 (0, 0)) := by rw [hg]; exact heap_alloc_new _ _
        have fX2 : Below wr.heap.size wr (X1.alloc (.cells (arr .u8 32 fid) 26)) := fX1.alloc fX1.size _
        rw [← hg]
        generalize X1.alloc (.cells (arr .u8 32 fid) 26) = X2 at hrow fX2
        clear hg
        obtain ⟨v8, X8, hr8, hO8, hG8, -⟩ := ids_run (ys := [fid]) (sp := some ⟨g, 0, none⟩) (cap := 1) 27 (OwnI.below HS2.out.2.2.2 fX2) (fun h => by cases h) (one_rows hrow) (fun _ => ⟨_, _, rfl⟩) (by simp; omega) (Nat.le_trans l4 fX2.size)
        obtain ⟨s8, n8, q8, hv8⟩ : ∃ s8 n8 q8, v8 = .slice s8 n8 q8 := by obtain ⟨s7, q7, h7, -⟩ := OwnI.rows hO8; exact ⟨_, _, _, h7⟩
        subst hv8
        have hN := sp_next HS2.out fX2 hO8 hG8
        have c8 : X8.cell? ⟨w.heap.size + 1, 35, none⟩ = some (.slice sv lv cv) := (cell_of_row _ _ _ _ _ _ hN.1).trans (Ob.cell35 _)
        have z8 : ∀ j, X8.frozen? ⟨w.heap.size + 1, j, none⟩ = false := fun j => frozen_of_row _ _ j _ _ hN.1
        have HN : Hid (Sp w qT (.slice s8 n8 q8) (ps ++ [fid]) (X8.setCell ⟨w.heap.size + 1, 35, none⟩ (.slice s8 n8 q8))) := hN.2
        refine mv_next 9 rfl (by kernel_rfl) ?_
        refine op_append (.tmp 170) (.tmp 177) 27 rfl rfl rfl hr8 ?_
        refine ⟨trivial, ?_⟩
        simp only [Act.put]
        clear hr8 hO8 hG8 hN hrow fX2 r35 c33
        refine mv_run 10 179 (.pointer (some ⟨w.heap.size + 1, 35, none⟩)) rfl (by kernel_rfl) (by kernel_rfl) (by kernel_rfl) (fun _ _ _ h => h) (fun w' _ => by first | rfl | go_simp) trivial ?_
        refine mv_next 11 rfl (by kernel_rfl) ?_
        go_simp
        refine wpAnyH_done (by kernel_rfl) ?_ _
        clear c8 z8
        go_wp2
        go_roundw
        case rel => exact ⟨t + 1, k + 32, s8, n8, q8, by omega, by rw [HKE.out]; omega, by go_num, by go_num, by rw [HPS.out]; exact HN.out⟩
        case measure => simp [intOf]; omega
      · refine wpOp_plain rfl rfl ?_
        go_simp
        refine (rid05_any _ _ _ (fun j => src (k + j)) _ (by first | exact SrcAt.below E3.out fd | (rw [show k + 32 - k = 32 by omega]; exact SrcAt.below E3.out fd)) (by omega)).mono ?_
        rintro e X3 ⟨heX3, hBX3⟩
        rw [HARR.out] at heX3
        subst heX3
        have fX3 : Below wr.heap.size wr X3 := fd.trans (hBX3.mono fd.size)
        clear hBX3
        refine wpAnyH_all (rs := [1, 8]) (by kernel_rfl) (by simp) fun i hi => ?_
        simp only [List.mem_cons, List.not_mem_nil, or_false] at hi
        rcases hi with rfl | rfl
        · refine wpOp_plain rfl rfl ?_
          refine op_load 27 (.tmp 169) rfl rfl (ldI ((Below.cell fX3 (p := ⟨w.heap.size + 1, 35, none⟩) l4).trans r35)) ?_
          refine ⟨trivial, ?_⟩
          simp only [Act.put]
          refine wpAnyH_all (rs := [8]) (by kernel_rfl) (by simp) fun i hi => ?_
          simp only [List.mem_cons, List.not_mem_nil, or_false] at hi
          subst hi
          refine wpOp_plain rfl rfl ?_
          refine op_buildOne 27 (.tmp 176) rfl (.agg (arr .u8 32 fid)) rfl (bld1 fid _) ?_
          refine ⟨trivial, ?_⟩
          simp only [Act.put]
          obtain ⟨g, hg⟩ : ∃ g, g = X3.heap.size := ⟨_, rfl⟩
          have hgr : wr.heap.size ≤ g := by rw [hg]; exact fX3.size
          have hrow : (X3.alloc (.cells (arr .u8 32 fid) 26)).heap[g]? = some (.cells (arr .u8 32 fid) 26 (0, 0)) := by rw [hg]; exact heap_alloc_new _ _
          have fX4 : Below wr.heap.size wr (X3.alloc (.cells (arr .u8 32 fid) 26)) := fX3.alloc fX3.size _
          rw [← hg]
          generalize X3.alloc (.cells (arr .u8 32 fid) 26) = X4 at hrow fX4
          clear hg
          obtain ⟨v8, X8, hr8, hO8, hG8, -⟩ := ids_run (ys := [fid]) (sp := some ⟨g, 0, none⟩) (cap := 1) 27 (OwnI.below HS2.out.2.2.2 fX4) (fun h => by cases h) (one_rows hrow) (fun _ => ⟨_, _, rfl⟩) (by simp; omega) (Nat.le_trans l4 fX4.size)
          obtain ⟨s8, n8, q8, hv8⟩ : ∃ s8 n8 q8, v8 = .slice s8 n8 q8 := by obtain ⟨s7, q7, h7, -⟩ := OwnI.rows hO8; exact ⟨_, _, _, h7⟩
          subst hv8
          have hN := sp_next HS2.out fX4 hO8 hG8
          have c8 : X8.cell? ⟨w.heap.size + 1, 35, none⟩ = some (.slice sv lv cv) := (cell_of_row _ _ _ _ _ _ hN.1).trans (Ob.cell35 _)
          have z8 : ∀ j, X8.frozen? ⟨w.heap.size + 1, j, none⟩ = false := fun j => frozen_of_row _ _ j _ _ hN.1
          have HN : Hid (Sp w qT (.slice s8 n8 q8) (ps ++ [fid]) (X8.setCell ⟨w.heap.size + 1, 35, none⟩ (.slice s8 n8 q8))) := hN.2
          refine mv_next 9 rfl (by kernel_rfl) ?_
          refine op_append (.tmp 170) (.tmp 177) 27 rfl rfl rfl hr8 ?_
          refine ⟨trivial, ?_⟩
          simp only [Act.put]
          clear hr8 hO8 hG8 hN hrow fX4 r35 c33
          refine mv_run 10 179 (.pointer (some ⟨w.heap.size + 1, 35, none⟩)) rfl (by kernel_rfl) (by kernel_rfl) (by kernel_rfl) (fun _ _ _ h => h) (fun w' _ => by first | rfl | go_simp) trivial ?_
          refine mv_next 11 rfl (by kernel_rfl) ?_
          go_simp
          refine wpAnyH_done (by kernel_rfl) ?_ _
          clear c8 z8
          go_wp2
          go_roundw
          case rel => exact ⟨t + 1, k + 32, s8, n8, q8, by omega, by rw [HKE.out]; omega, by go_num, by go_num, by rw [HPS.out]; exact HN.out⟩
          case measure => simp [intOf]; omega
        · refine wpOp_plain rfl rfl ?_
          refine op_buildOne 27 (.tmp 176) rfl (.agg (arr .u8 32 fid)) rfl (bld1 fid _) ?_
          refine ⟨trivial, ?_⟩
          simp only [Act.put]
          obtain ⟨g, hg⟩ : ∃ g, g = X3.heap.size := ⟨_, rfl⟩
          have hgr : wr.heap.size ≤ g := by rw [hg]; exact fX3.size
          have hrow : (X3.alloc (.cells (arr .u8 32 fid) 26)).heap[g]? = some (.cells (arr .u8 32 fid) 26 (0, 0)) := by rw [hg]; exact heap_alloc_new _ _
          have fX5 : Below wr.heap.size wr (X3.alloc (.cells (arr .u8 32 fid) 26)) := fX3.alloc fX3.size _
          rw [← hg]
          generalize X3.alloc (.cells (arr .u8 32 fid) 26) = X5 at hrow fX5
          clear hg
          refine wpAnyH_all (rs := [1]) (by kernel_rfl) (by simp) fun i hi => ?_
          simp only [List.mem_cons, List.not_mem_nil, or_false] at hi
          subst hi
          refine wpOp_plain rfl rfl ?_
          refine op_load 27 (.tmp 169) rfl rfl (ldI ((Below.cell fX5 (p := ⟨w.heap.size + 1, 35, none⟩) l4).trans r35)) ?_
          refine ⟨trivial, ?_⟩
          simp only [Act.put]
          obtain ⟨v8, X8, hr8, hO8, hG8, -⟩ := ids_run (ys := [fid]) (sp := some ⟨g, 0, none⟩) (cap := 1) 27 (OwnI.below HS2.out.2.2.2 fX5) (fun h => by cases h) (one_rows hrow) (fun _ => ⟨_, _, rfl⟩) (by simp; omega) (Nat.le_trans l4 fX5.size)
          obtain ⟨s8, n8, q8, hv8⟩ : ∃ s8 n8 q8, v8 = .slice s8 n8 q8 := by obtain ⟨s7, q7, h7, -⟩ := OwnI.rows hO8; exact ⟨_, _, _, h7⟩
          subst hv8
          have hN := sp_next HS2.out fX5 hO8 hG8
          have c8 : X8.cell? ⟨w.heap.size + 1, 35, none⟩ = some (.slice sv lv cv) := (cell_of_row _ _ _ _ _ _ hN.1).trans (Ob.cell35 _)
          have z8 : ∀ j, X8.frozen? ⟨w.heap.size + 1, j, none⟩ = false := fun j => frozen_of_row _ _ j _ _ hN.1
          have HN : Hid (Sp w qT (.slice s8 n8 q8) (ps ++ [fid]) (X8.setCell ⟨w.heap.size + 1, 35, none⟩ (.slice s8 n8 q8))) := hN.2
          refine mv_next 9 rfl (by kernel_rfl) ?_
          refine op_append (.tmp 170) (.tmp 177) 27 rfl rfl rfl hr8 ?_
          refine ⟨trivial, ?_⟩
          simp only [Act.put]
          clear hr8 hO8 hG8 hN hrow fX5 r35 c33
          refine mv_run 10 179 (.pointer (some ⟨w.heap.size + 1, 35, none⟩)) rfl (by kernel_rfl) (by kernel_rfl) (by kernel_rfl) (fun _ _ _ h => h) (fun w' _ => by first | rfl | go_simp) trivial ?_
          refine mv_next 11 rfl (by kernel_rfl) ?_
          go_simp
          refine wpAnyH_done (by kernel_rfl) ?_ _
          clear c8 z8
          go_wp2
          go_roundw
          case rel => exact ⟨t + 1, k + 32, s8, n8, q8, by omega, by rw [HKE.out]; omega, by go_num, by go_num, by rw [HPS.out]; exact HN.out⟩
          case measure => simp [intOf]; omega
    · obtain rfl : t = x := by omega
      have hk5 : k + 5 ≤ n := by omega
      obtain ⟨s, hs1, hs2⟩ : ∃ s : Nat, src (k + 4) = (s : Int) ∧ s ≤ 255 := ⟨(src (k + 4)).toNat, by have := HOK.out (k + 4) (by omega); omega, by have := HOK.out (k + 4) (by omega); omega⟩
      have hws : IntKind.i64.wrap (s : Int) = s := by rw [IntKind.wrap_i64]; omega
      obtain ⟨m, hm, hm1, hm2⟩ : ∃ m : Int, numOf ((List.range 4).map fun j => src (k + j)) = m ∧ 0 ≤ m ∧ m < 4294967296 := by
        have h := numOf_len (M := (List.range 4).map fun j => src (k + j)) (n := 4) (ok_src (n := 4) (src := fun j => src (k + j)) (fun i hi => HOK.out (k + i) (by omega))) (by simp)
        exact ⟨_, rfl, h.1, by simpa using h.2⟩
      have hwm : IntKind.u32.wrap m = m := by rw [IntKind.wrap_u32]; omega
      obtain ⟨ps, hps⟩ : ∃ ps, ps = (tkIds L t (34, 0)).2 := ⟨_, rfl⟩
      rw [← hps] at hSt
      obtain ⟨hlv, hrows, hnil⟩ : lv = ps.length ∧ RowsAt wr 32 (arr .u8 32) sv ps ∧ (sv = none → ps.length = 0 ∧ cv = 0) := own_parts hSt.2.2.2
      have hge : ∀ a, sv = some a → w.heap.size + 2 ≤ a.block := own_ge hSt.2.2.2
      have hplen : ps.length = t := by rw [hps]; exact tkIds_len _ _ _
      have P0 : Hid (wr.heap[w.heap.size]? = some (.cells zeroOb.cells 30 (0, 0))) := hSt.2.1
      obtain ⟨qP, hqP⟩ : ∃ qP : Ob, qP = { qT with ps := .slice sv lv cv } := ⟨_, rfl⟩
      have P4 : Hid (wr.heap[w.heap.size + 1]? = some (.cells qP.cells 30 (0, 0))) := by rw [hqP]; exact hSt.2.2.1
      have HQP : Hid (qP = ⟨3, .slice none 0 0, .slice none 0 0, tr, .slice sv lv cv, 0, ⟨#[]⟩⟩) := by rw [hqP, HQT2.out]; exact rfl
      have c36 : wr.cell? ⟨w.heap.size + 1, 36, none⟩ = some (.int .u32 0) := (cell_of_row _ _ _ _ _ _ P4.out).trans ((Ob.cell36 _).trans (by rw [HQP.out]))
      have z4 : ∀ j, wr.frozen? ⟨w.heap.size + 1, j, none⟩ = false := fun j => frozen_of_row _ _ j _ _ P4.out
      obtain ⟨q5, hq5⟩ : ∃ q5 : Ob, q5 = { qP with num := m } := ⟨_, rfl⟩
      have HQ5 : Hid (qP.cells.setIfInBounds 36 (.int .u32 m) = q5.cells) := by rw [hq5]; exact ob_num _ _
      have HQ5e : Hid (q5 = ⟨3, .slice none 0 0, .slice none 0 0, tr, .slice sv lv cv, m, ⟨#[]⟩⟩) := by rw [hq5, HQP.out]; exact rfl
      have HROWS : Hid (RowsAt wr 32 (arr .u8 32) sv ps) := hrows
      have HSV : Hid (∀ a, sv = some a → a.block ≠ w.heap.size + 1) := fun a ha => by have := hge a ha; omega
      have HNIL : Hid _ := hnil
      have HGEE : Hid _ := hge
      have HLV : Hid (lv = ps.length) := hlv
      have HPSE : Hid (ps = (tkIds L t (34, 0)).2) := hps
      have HM : Hid _ := hm
      have HS1 : Hid _ := hs1
      have E4 : Hid (SrcAt wr .u8 (some ⟨b, off + k, none⟩) 4 fun j => src (k + j)) := (HS.out.sub (by omega)).below fr
      have HC4 : Hid (w.cell? ⟨b, off + (k + 4), none⟩ = some (.int .u8 s)) := by rw [← hs1]; exact HCELL.out (k + 4) (by omega)
      have hbne : b ≠ w.heap.size + 1 := by omega
      clear hke hSt hps hlv hrows hnil hge hqP hq5 hm hs1 HSt HST r35
      go_wp2_with fail
      refine (rnum_any _ _ _ (fun j => src (k + j)) wr (by first | exact E4.out | (rw [show k + 4 - k = 4 by omega]; exact E4.out)) (by omega) (fun i hi => HOK.out (k + i) (by omega))).mono ?_
      rintro e w5 ⟨he5, hw5⟩
      (try rw [show k + 4 - k = 4 by omega] at he5)
      rw [HM.out] at he5
      subst he5 hw5
      clear E4 c33
      by_cases hS : n - (k + 5) < s
      · have HPOST : Hid _ := short_post (w := w) (com_short hn HX.out (fun h => by have := (h.2 t HX1.out).2 s (by rw [← HKE.out]; exact HS1.out); have := HKE.out; omega))
        have dS : decide ((n : Int) - (k + 5) < s) = true := by simp; omega
        go_wp2_with (first
          | (refine gen_at 192 (by rfl) (fun W => Below w.heap.size w W ∧ W.heap[w.heap.size]? = some (.cells zeroOb.cells 30 (0, 0)) ∧ W.heap[w.heap.size + 1]? = some (.cells q5.cells 30 (0, 0)) ∧ RowsAt W 32 (arr .u8 32) sv ps) ⟨fr.setCell (by show w.heap.size ≤ w.heap.size + 1; omega) _, (heap_setCell_other _ _ _ _ (by show w.heap.size ≠ w.heap.size + 1; omega)).trans P0.out, (heap_setCell_same _ _ _ _ _ _ P4.out).trans (by rw [HQ5.out]), RowsAt.but HROWS.out HSV.out (setCell_but _ _ _ _)⟩ ?_; intro W5 hW5; have f5 := hW5.1; have J0 : Hid _ := hW5.2.1; have J4 : Hid _ := hW5.2.2.1; have HR5 : Hid (RowsAt W5 32 (arr .u8 32) sv ps) := hW5.2.2.2; have c4 : W5.cell? ⟨b, off + (k + 4), none⟩ = some (.int .u8 s) := (f5.cell (p := ⟨b, off + (k + 4), none⟩) hbw).trans HC4.out; have c37 : W5.cell? ⟨w.heap.size + 1, 37, none⟩ = some (.string ⟨#[]⟩) := (cell_of_row _ _ _ _ _ _ J4.out).trans ((Ob.cell37 _).trans (by rw [HQ5e.out])); have z5 : ∀ j, W5.frozen? ⟨w.heap.size + 1, j, none⟩ = false := fun j => frozen_of_row _ _ j _ _ J4.out; clear hW5 fr P0 P4 HROWS c36 z4 HQ5)
          | (refine wpList_build (by rfl) 30 _ (by rfl) [] (by rfl) (.agg zeroOb.cells) (HZB.out _) ?_)
          | (refine wpList_store_row (by rfl) 30 (.tmp 2) (.tmp 204) (by rfl) w.heap.size zeroOb.cells (by rfl) (by rfl) 30 _ J0.out (by rw [Ob.size]; kernel_rfl) rfl HZ1.out ?_))
        refine bodyPost_ret (v := .tuple #[.agg zeroOb.cells, .int .i64 7]) ?_ rfl (HPOST.out _ (below_setRow' f5 (Nat.le_refl _) _))
        exact results_cell_tmp Try.results8 _ _ w.heap.size 30 _ (0, 0) _ _ rfl rfl (heap_setRow_same J0.out) Try.underlying30 rfl (by rw [Ob.size]; kernel_rfl)
      have dS : decide ((n : Int) - (k + 5) < s) = false := by simp; omega
      obtain ⟨nt, hnt⟩ : ∃ nt, strL ((List.range s).map fun j => src (k + 5 + j)) = nt := ⟨_, rfl⟩
      have HNT : Hid _ := hnt
      have hfs : 34 + t * 32 + 5 + s ≤ n := by have := HKE.out; omega
      have hs4 : src (34 + t * 32 + 4) = (s : Int) := by rw [← HKE.out]; exact HS1.out
      have hcS := com_S (n := n) HX1.out hs4 hfs
      have hcN := com_N (n := n) (src := src) (show 34 + t * 32 + 4 ≤ n by omega) HX1.out
      have hcT := com_T (n := n) (src := src) (by omega)
      have hcP := com_P (n := n) (src := src) (by omega) HX1.out
      rw [← HL.out] at hcS hcN hcT hcP
      rw [← HKE.out] at hcS hcN
      rw [hnt] at hcS
      have hpp : decP L = (k + 5 + s, 0) := by unfold decP; rw [if_neg (by rw [HDX.out]; omega), if_neg (by rw [HDX.out]; omega), if_pos HDX.out, hcS]
      have hao : allOk L = true := by unfold allOk; rw [if_neg (by rw [HDX.out]; omega)]
      obtain ⟨o, ho⟩ : ∃ o : Ob, o = decO L sv cv := ⟨_, rfl⟩
      obtain ⟨c, hcc⟩ : ∃ c : Co, c = decC L := ⟨_, rfl⟩
      have ho2 : o = ⟨3, .slice none 0 0, .slice none 0 0, tr, .slice sv lv cv, m, nt⟩ := by
        rw [ho, HLV.out, HPSE.out]
        simp only [decO, HDX.out, show ¬ (3 : Int) = 1 by omega, show ¬ (3 : Int) = 2 by omega, if_true, if_false, commitOb, hcS, hcN, hcT, hcP, HM.out, ← HTR.out]
      have hc2 : c = ⟨0, fun _ => 0, [], ps⟩ := by
        rw [hcc, HPSE.out]
        simp only [decC, HDX.out, show ¬ (3 : Int) = 1 by omega, show ¬ (3 : Int) = 2 by omega, if_true, if_false, commitCo, hcP]
      have hLok : ∀ y ∈ L, 0 ≤ y ∧ y ≤ 255 := by rw [HL.out]; exact ok_src HOK.out
      have HPOST : Hid (∀ e w', TPost o c n (k + 5 + s) true w e w' → RPost ((List.range n).map src) w e w') := fun e w' h => by
        have hll : L.length = n := by rw [HL.out, len_src]
        rw [← HL.out]
        exact tpost hpp hao (by rw [← ho, ← hcc, hll]; exact h)
      have hnts : nt.size ≤ 255 := by rw [← hnt, str_size]; simp; omega
      have HSM : Hid (Sml o c) := by
        rw [ho2, hc2]
        exact ⟨by simp, by simp, by show ps.length ≤ 1000; omega, by show nt.size ≤ 5000; omega, fun e he => by simp at he⟩
      have HFIT : Hid (Fit o c) := by rw [ho, hcc]; exact dec_fit hLok _ _
      have HONE : Hid (o.cells.all (·.oneCell') = true) := by rw [ho2]; exact ob_one _ rfl rfl rfl
      have HAP : Hid (Apart o w.heap.size) := by
        rw [ho2]
        exact apart_ps HGEE.out
      have HOC : Hid (q5.cells.setIfInBounds 37 (.string nt) = o.cells) := by rw [ho2, HQ5e.out]; exact ob_note _ _
      have HOE : Hid _ := ho2
      have HCE : Hid _ := hc2
      have E5 : Hid (SrcAt w .u8 (if cap = k + 5 then some ⟨b, off, none⟩ else some ⟨b, off + (k + 5), none⟩) s fun j => src (k + 5 + j)) := HS.out.subIf (by omega) hcap
      have E6 : Hid (SrcAt w .u8 (some ⟨b, off + (k + 5), none⟩) s fun j => src (k + 5 + j)) := HS.out.sub (by omega)
      clear hnt hfs hs4 hcS hcN hcT hcP hpp hao ho hcc ho2 hc2 hLok
      by_cases hkn : k + 5 + s < n
      · have dk : decide ((k : Int) + 5 + s < n) = true := by simp; omega
        go_wp2_with (first
          | (refine gen_at 192 (by rfl) (fun W => Below w.heap.size w W ∧ W.heap[w.heap.size]? = some (.cells zeroOb.cells 30 (0, 0)) ∧ W.heap[w.heap.size + 1]? = some (.cells q5.cells 30 (0, 0)) ∧ RowsAt W 32 (arr .u8 32) sv ps) ⟨fr.setCell (by show w.heap.size ≤ w.heap.size + 1; omega) _, (heap_setCell_other _ _ _ _ (by show w.heap.size ≠ w.heap.size + 1; omega)).trans P0.out, (heap_setCell_same _ _ _ _ _ _ P4.out).trans (by rw [HQ5.out]), RowsAt.but HROWS.out HSV.out (setCell_but _ _ _ _)⟩ ?_; intro W5 hW5; have f5 := hW5.1; have J0 : Hid _ := hW5.2.1; have J4 : Hid _ := hW5.2.2.1; have HR5 : Hid (RowsAt W5 32 (arr .u8 32) sv ps) := hW5.2.2.2; have c4 : W5.cell? ⟨b, off + (k + 4), none⟩ = some (.int .u8 s) := (f5.cell (p := ⟨b, off + (k + 4), none⟩) hbw).trans HC4.out; have c37 : W5.cell? ⟨w.heap.size + 1, 37, none⟩ = some (.string ⟨#[]⟩) := (cell_of_row _ _ _ _ _ _ J4.out).trans ((Ob.cell37 _).trans (by rw [HQ5e.out])); have z5 : ∀ j, W5.frozen? ⟨w.heap.size + 1, j, none⟩ = false := fun j => frozen_of_row _ _ j _ _ J4.out; clear hW5 fr P0 P4 HROWS c36 z4 HQ5)
          | (refine wpList_convS (by rfl) (.tmp 210) (by rfl) _ _ _ (by rfl) s (by omega) (fun j => src (k + 5 + j)) (by first | exact SrcAt.below E5.out f5 | exact SrcAt.below E6.out f5) nt HNT.out ?_; generalize (if cap = k + 5 then some (⟨b, off, none⟩ : Addr) else some ⟨b, off + (k + 5), none⟩) = sx)
          | (refine gen_at 215 (by rfl) (fun W => Below w.heap.size w W ∧ W.heap[w.heap.size]? = some (.cells zeroOb.cells 30 (0, 0)) ∧ W.heap[w.heap.size + 1]? = some (.cells o.cells 30 (0, 0)) ∧ RowsAt W 32 (arr .u8 32) sv ps) ⟨f5.setCell (by show w.heap.size ≤ w.heap.size + 1; omega) _, (heap_setCell_other _ _ _ _ (by show w.heap.size ≠ w.heap.size + 1; omega)).trans J0.out, (heap_setCell_same _ _ _ _ _ _ J4.out).trans (by rw [HOC.out]), RowsAt.but HR5.out HSV.out (setCell_but _ _ _ _)⟩ ?_; intro W7 hW7; have fW := hW7.1; have G0 : Hid _ := hW7.2.1; have G4 : Hid _ := hW7.2.2.1; have HR7 : Hid (RowsAt W7 32 (arr .u8 32) sv ps) := hW7.2.2.2; clear hW7 f5 J0 J4 HR5 c37 z5 c4)
          | (refine wpList_build (by rfl) 30 _ (by rfl) [] (by rfl) (.agg zeroOb.cells) (HZB.out _) ?_)
          | (refine wpList_store_row (by rfl) 30 (.tmp 2) (.tmp 229) (by rfl) w.heap.size zeroOb.cells (by rfl) (by rfl) 30 _ G0.out (by rw [Ob.size]; kernel_rfl) rfl HZ1.out ?_))
        refine bodyPost_ret (v := .tuple #[.agg zeroOb.cells, .int .i64 150]) ?_ rfl (HPOST.out _ _ ⟨below_setRow' fW (Nat.le_refl _) _, .inl ⟨.inl hkn, rfl⟩⟩)
        exact results_cell_tmp Try.results8 _ _ w.heap.size 30 _ (0, 0) _ _ rfl rfl (heap_setRow_same G0.out) Try.underlying30 rfl (by rw [Ob.size]; kernel_rfl)
      have dk : decide ((k : Int) + 5 + s < n) = false := by simp; omega
      have HGE : Hid (n ≤ k + 5 + s) := show n ≤ k + 5 + s by omega
      go_wp2_with (first
        | (refine gen_at 192 (by rfl) (fun W => Below w.heap.size w W ∧ W.heap[w.heap.size]? = some (.cells zeroOb.cells 30 (0, 0)) ∧ W.heap[w.heap.size + 1]? = some (.cells q5.cells 30 (0, 0)) ∧ RowsAt W 32 (arr .u8 32) sv ps) ⟨fr.setCell (by show w.heap.size ≤ w.heap.size + 1; omega) _, (heap_setCell_other _ _ _ _ (by show w.heap.size ≠ w.heap.size + 1; omega)).trans P0.out, (heap_setCell_same _ _ _ _ _ _ P4.out).trans (by rw [HQ5.out]), RowsAt.but HROWS.out HSV.out (setCell_but _ _ _ _)⟩ ?_; intro W5 hW5; have f5 := hW5.1; have J0 : Hid _ := hW5.2.1; have J4 : Hid _ := hW5.2.2.1; have HR5 : Hid (RowsAt W5 32 (arr .u8 32) sv ps) := hW5.2.2.2; have c4 : W5.cell? ⟨b, off + (k + 4), none⟩ = some (.int .u8 s) := (f5.cell (p := ⟨b, off + (k + 4), none⟩) hbw).trans HC4.out; have c37 : W5.cell? ⟨w.heap.size + 1, 37, none⟩ = some (.string ⟨#[]⟩) := (cell_of_row _ _ _ _ _ _ J4.out).trans ((Ob.cell37 _).trans (by rw [HQ5e.out])); have z5 : ∀ j, W5.frozen? ⟨w.heap.size + 1, j, none⟩ = false := fun j => frozen_of_row _ _ j _ _ J4.out; clear hW5 fr P0 P4 HROWS c36 z4 HQ5)
        | (refine wpList_convS (by rfl) (.tmp 210) (by rfl) _ _ _ (by rfl) s (by omega) (fun j => src (k + 5 + j)) (by first | exact SrcAt.below E5.out f5 | exact SrcAt.below E6.out f5) nt HNT.out ?_; generalize (if cap = k + 5 then some (⟨b, off, none⟩ : Addr) else some ⟨b, off + (k + 5), none⟩) = sx)
        | (refine gen_at 215 (by rfl) (fun W => Below w.heap.size w W ∧ W.heap[w.heap.size]? = some (.cells zeroOb.cells 30 (0, 0)) ∧ W.heap[w.heap.size + 1]? = some (.cells o.cells 30 (0, 0)) ∧ RowsAt W 32 (arr .u8 32) sv ps) ⟨f5.setCell (by show w.heap.size ≤ w.heap.size + 1; omega) _, (heap_setCell_other _ _ _ _ (by show w.heap.size ≠ w.heap.size + 1; omega)).trans J0.out, (heap_setCell_same _ _ _ _ _ _ J4.out).trans (by rw [HOC.out]), RowsAt.but HR5.out HSV.out (setCell_but _ _ _ _)⟩ ?_; intro W7 hW7; have fW := hW7.1; have G0 : Hid _ := hW7.2.1; have G4 : Hid _ := hW7.2.2.1; have HR7 : Hid (RowsAt W7 32 (arr .u8 32) sv ps) := hW7.2.2.2; clear hW7 f5 J0 J4 HR5 c37 z5 c4)
        | (refine load_rowg2 30 (.tmp 4) (by rfl) (by kernel_rfl) (w.heap.size + 1) (by rfl) 30 o.cells (0, 0) _ G4.out Try.underlying30 rfl (by rw [Ob.size]; kernel_rfl) ?_))
      have HIN : Hid (In W7 o c) := by
        have hF := HFIT.out
        rw [HCE.out, HOE.out] at hF ⊢
        exact ⟨⟨none, 0, rfl, fun h => absurd h (Nat.lt_irrefl 0), fun _ => ⟨rfl, rfl⟩⟩, ⟨none, 0, rfl, RowsAt.none, fun _ => ⟨rfl, rfl⟩⟩, ⟨sv, cv, by rw [HLV.out], HR7.out, HNIL.out⟩, fun _ => ⟨Int.le_refl 0, by show (0 : Int) ≤ 255; omega⟩, hF, Nat.zero_le _, Nat.zero_le _, by show ps.length ≤ maxLen; unfold maxLen; omega, by show nt.size ≤ maxLen; unfold maxLen; omega, fun e he => by simp at he⟩
      refine (rright_sml o c W7 HIN.out HSM.out).mono ?_
      rintro e w5 ⟨rfl, hB5⟩
      have f5 : Below w.heap.size w w5 := fW.trans (hB5.mono fW.size)
      have HHAS : Hid (Has w5 o c) := (HIN.out.has (by have := HSM.out.nb; omega) (by have := HSM.out.es; omega) (by have := HSM.out.ps; omega)).below hB5
      have J0 : Hid (w5.heap[w.heap.size]? = some (.cells zeroOb.cells 30 (0, 0))) := (hB5.block _ (lt_of_row G0.out)).trans G0.out
      have J4 : Hid (w5.heap[w.heap.size + 1]? = some (.cells o.cells 30 (0, 0))) := (hB5.block _ (lt_of_row G4.out)).trans G4.out
      clear hB5 G0 G4 HIN
      cases hr : rightB o c with
      | false =>
        go_wp2_with (first
          | (refine wpList_build (by rfl) 30 _ (by rfl) [] (by rfl) (.agg zeroOb.cells) (HZB.out _) ?_)
          | (refine wpList_store_row (by rfl) 30 (.tmp 2) (.tmp 229) (by rfl) w.heap.size zeroOb.cells (by rfl) (by rfl) 30 _ J0.out (by rw [Ob.size]; kernel_rfl) rfl HZ1.out ?_))
        refine bodyPost_ret (v := .tuple #[.agg zeroOb.cells, .int .i64 150]) ?_ rfl (HPOST.out _ _ ⟨below_setRow' f5 (Nat.le_refl _) _, .inl ⟨.inr (.inr hr), rfl⟩⟩)
        exact results_cell_tmp Try.results8 _ _ w.heap.size 30 _ (0, 0) _ _ rfl rfl (heap_setRow_same J0.out) Try.underlying30 rfl (by rw [Ob.size]; kernel_rfl)
      | true =>
        go_wp2_with (first
          | (refine wpList_load_row (by rfl) 30 (.tmp 4) (by rfl) (w.heap.size + 1) (by rfl) 30 o.cells (0, 0) _ J4.out Try.underlying30 rfl (by rw [Ob.size]; kernel_rfl) ?_)
          | (refine wpList_store_row (by rfl) 30 (.tmp 2) (.tmp 230) (by rfl) w.heap.size o.cells (by rfl) (by rfl) 30 _ J0.out (by rw [Ob.size]; kernel_rfl) (by rw [Ob.size, Ob.size]) HONE.out ?_))
        refine bodyPost_ret (v := .tuple #[.agg o.cells, .int .i64 0]) ?_ rfl (HPOST.out _ _ ⟨below_setRow' f5 (Nat.le_refl _) _, .inr ⟨HGE.out, rfl, hr, rfl, HHAS.out.but HAP.out (setRow_but _ _ _)⟩⟩)
        exact results_cell_tmp Try.results8 _ _ w.heap.size 30 _ (0, 0) _ _ rfl rfl (heap_setRow_same J0.out) Try.underlying30 rfl (by rw [Ob.size]; kernel_rfl)
end Go.Proofs.Ytnaoaeapffgojaa
