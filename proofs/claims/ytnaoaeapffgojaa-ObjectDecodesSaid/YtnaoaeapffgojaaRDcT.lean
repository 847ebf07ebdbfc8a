/- The document's Decode, of a folder. -/
import Derived.Test.YtnaoaeapffgojaaRDcS
namespace Go.Proofs.Ytnaoaeapffgojaa
open Go.RowKit

set_option maxRecDepth 100000 in
set_option maxHeartbeats 8000000 in
theorem rdec_tree_a (b off n cap : Nat) (src : Nat → Int) (w : World) (hs : SrcAt w .u8 (some ⟨b, off, none⟩) n src) (hn : 0 < n) (hok : ∀ i, i < n → 0 ≤ src i ∧ src i ≤ 255) (hX : src 0 = 2) (h2 : n < 2) :
    Calls Try.prog 8 #[.slice (some ⟨b, off, none⟩) n cap] w (RPost ((List.range n).map src) w) := by
  have HPOST : Hid _ := short_post (w := w) (tree_a hn hX h2)
  have d2 : decide ((n : Int) < 2) = true := by simp; omega
  have HZB : Hid _ := buildz
  have HZ1 : Hid _ := ob_one zeroOb rfl rfl rfl
  have HS : Hid (SrcAt w .u8 (some ⟨b, off, none⟩) n src) := hs
  have HOK : Hid _ := hok
  obtain ⟨b', off', hse, hc⟩ := hs hn
  injection hse with hse
  injection hse with hse1 hse2
  subst hse1 hse2
  have hbw : b < w.heap.size := block_lt_of_cell (hc 0 hn)
  have ea : ∀ X, (w.alloc X).cell? ⟨b, off, none⟩ = some (.int .u8 (src 0)) := fun X => (((Below.refl _ w).alloc (Nat.le_refl _) X).cell (p := ⟨b, off, none⟩) hbw).trans (hc 0 hn)
  have hxr := hok 0 hn
  rw [hX] at ea hxr
  have HX : Hid _ := hX
  have hwx : IntKind.i64.wrap 2 = 2 := by rw [IntKind.wrap_i64]; omega
  have dn : ((n : Int) == 0) = false := by simp; omega
  obtain ⟨q, hq⟩ : ∃ q : Ob, q = { zeroOb with kind := 2 } := ⟨_, rfl⟩
  have HQ : Hid _ := hq
  have HB0 : Hid (∀ w, (Instr.build 30 #[(0, .int .i64 2)]).run Try.prog w = .ok (.agg q.cells) w) := by rw [hq]; exact build0 2
  have HO1 : Hid (q.cells.all (·.oneCell') = true) := by rw [hq]; exact ob_one _ rfl rfl rfl
  have HQK : Hid (q.kind = 2) := by rw [hq]; exact rfl
  clear hs hc hX hq hok
  go_enter Try.func8, Try.ntmps8
  go_wp2_with (first
    | (refine wpList_build (by rfl) 30 _ (by rfl) [(0, .int .i64 2)] (by rfl) (.agg q.cells) (HB0.out _) ?_)
    | (refine wpList_build (by rfl) 30 _ (by rfl) [] (by rfl) (.agg zeroOb.cells) (HZB.out _) ?_)
    | (refine wpList_store_row (by rfl) 30 (.tmp 4) (.tmp 21) (by rfl) (w.heap.size + 1) q.cells (by rfl) (by rfl) 30 _ (heap_alloc2_new _ _ _) (by rw [Ob.size]; kernel_rfl) (by rw [Ob.size]; rfl) HO1.out ?_; refine wpList_gen (fun W => Below w.heap.size w W ∧ W.heap[w.heap.size]? = some (.cells zeroOb.cells 30 (0, 0)) ∧ W.heap[w.heap.size + 1]? = some (.cells q.cells 30 (0, 0))) ⟨below_setRow' (((Below.refl _ _).alloc (Nat.le_refl _) _).alloc (by simp) _) (by omega) _, (setRow_other _ _ _ _ (by omega)).trans ((heap_alloc2_old _ _ _).trans rfl), heap_setRow_same (heap_alloc2_new _ _ _)⟩ ?_; intro W1 hW1; have k0 : W1.cell? ⟨w.heap.size + 1, 0, none⟩ = some (.int .i64 2) := (cell_of_row _ _ _ _ _ _ hW1.2.2).trans ((Ob.cell0 _).trans (by rw [HQK.out])); have f1 := hW1.1; have H0 : Hid _ := hW1.2.1; have H4 : Hid _ := hW1.2.2; clear hW1 ea hwx HB0)
    | (refine wpList_store_row (by rfl) 30 (.tmp 2) (.tmp 61) (by rfl) w.heap.size zeroOb.cells (by rfl) (by rfl) 30 _ H0.out (by rw [Ob.size]; kernel_rfl) rfl HZ1.out ?_))
  refine bodyPost_ret (v := .tuple #[.agg zeroOb.cells, .int .i64 7]) ?_ rfl (HPOST.out _ (below_setRow' f1 (Nat.le_refl _) _))
  exact results_cell_tmp Try.results8 _ _ w.heap.size 30 _ (0, 0) _ _ rfl rfl (heap_setRow_same H0.out) Try.underlying30 rfl (by rw [Ob.size]; kernel_rfl)

set_option maxRecDepth 100000 in
set_option maxHeartbeats 8000000 in
theorem rdec_tree_b (b off n cap : Nat) (src : Nat → Int) (w : World) (hs : SrcAt w .u8 (some ⟨b, off, none⟩) n src) (hn : 0 < n) (hok : ∀ i, i < n → 0 ≤ src i ∧ src i ≤ 255) (hcap : n ≤ cap) (hmx : n ≤ 100000) (hX : src 0 = 2) (h2 : ¬ n < 2) :
    Calls Try.prog 8 #[.slice (some ⟨b, off, none⟩) n cap] w (RPost ((List.range n).map src) w) := by
  have d2 : decide ((n : Int) < 2) = false := by simp; omega
  have HZB : Hid _ := buildz
  have HZ1 : Hid _ := ob_one zeroOb rfl rfl rfl
  have HS : Hid (SrcAt w .u8 (some ⟨b, off, none⟩) n src) := hs
  have HOK : Hid _ := hok
  obtain ⟨b', off', hse, hc⟩ := hs hn
  injection hse with hse
  injection hse with hse1 hse2
  subst hse1 hse2
  have hbw : b < w.heap.size := block_lt_of_cell (hc 0 hn)
  have ea : ∀ X, (w.alloc X).cell? ⟨b, off, none⟩ = some (.int .u8 (src 0)) := fun X => (((Below.refl _ w).alloc (Nat.le_refl _) X).cell (p := ⟨b, off, none⟩) hbw).trans (hc 0 hn)
  have hxr := hok 0 hn
  rw [hX] at ea hxr
  have HX : Hid _ := hX
  have hwx : IntKind.i64.wrap 2 = 2 := by rw [IntKind.wrap_i64]; omega
  have dn : ((n : Int) == 0) = false := by simp; omega
  obtain ⟨q, hq⟩ : ∃ q : Ob, q = { zeroOb with kind := 2 } := ⟨_, rfl⟩
  have HQ : Hid _ := hq
  have HB0 : Hid (∀ w, (Instr.build 30 #[(0, .int .i64 2)]).run Try.prog w = .ok (.agg q.cells) w) := by rw [hq]; exact build0 2
  have HO1 : Hid (q.cells.all (·.oneCell') = true) := by rw [hq]; exact ob_one _ rfl rfl rfl
  have HQK : Hid (q.kind = 2) := by rw [hq]; exact rfl
  clear hs hc hX hq hok
  go_enter Try.func8, Try.ntmps8
  go_wp2_with (first
    | (refine wpList_build (by rfl) 30 _ (by rfl) [(0, .int .i64 2)] (by rfl) (.agg q.cells) (HB0.out _) ?_)
    | (refine wpList_build (by rfl) 30 _ (by rfl) [] (by rfl) (.agg zeroOb.cells) (HZB.out _) ?_)
    | (refine wpList_store_row (by rfl) 30 (.tmp 4) (.tmp 21) (by rfl) (w.heap.size + 1) q.cells (by rfl) (by rfl) 30 _ (heap_alloc2_new _ _ _) (by rw [Ob.size]; kernel_rfl) (by rw [Ob.size]; rfl) HO1.out ?_; refine wpList_gen (fun W => Below w.heap.size w W ∧ W.heap[w.heap.size]? = some (.cells zeroOb.cells 30 (0, 0)) ∧ W.heap[w.heap.size + 1]? = some (.cells q.cells 30 (0, 0))) ⟨below_setRow' (((Below.refl _ _).alloc (Nat.le_refl _) _).alloc (by simp) _) (by omega) _, (setRow_other _ _ _ _ (by omega)).trans ((heap_alloc2_old _ _ _).trans rfl), heap_setRow_same (heap_alloc2_new _ _ _)⟩ ?_; intro W1 hW1; have k0 : W1.cell? ⟨w.heap.size + 1, 0, none⟩ = some (.int .i64 2) := (cell_of_row _ _ _ _ _ _ hW1.2.2).trans ((Ob.cell0 _).trans (by rw [HQK.out])); have f1 := hW1.1; have H0 : Hid _ := hW1.2.1; have H4 : Hid _ := hW1.2.2; clear hW1 ea hwx HB0)
    | fail)
  obtain ⟨x, hx1, hx2⟩ : ∃ x : Nat, src 1 = (x : Int) ∧ x ≤ 255 := ⟨(src 1).toNat, by have := HOK.out 1 (by omega); omega, by have := HOK.out 1 (by omega); omega⟩
  have hwx : IntKind.i64.wrap (x : Int) = x := by rw [IntKind.wrap_i64]; omega
  obtain ⟨L, hL⟩ : ∃ L, L = (List.range n).map src := ⟨_, rfl⟩
  have HL : Hid _ := hL
  have HDX : Hid (decX L = 2) := by rw [hL]; exact (decX_src hn).trans HX.out
  have HDE : Hid (decE L = tkEnts L x (2, 0)) := by rw [hL]; exact tree_n (by omega) hx1
  have HCELL : Hid (∀ j, j < n → w.cell? ⟨b, off + j, none⟩ = some (.int .u8 (src j))) := HS.out.cells
  have HST : Hid (St w q (.slice none 0 0) [] W1) := ⟨f1, H0.out, H4.out.trans (by rw [HQ.out]; rfl), ownE_nil _ _⟩
  have HX1 : Hid _ := hx1
  clear H0 H4 k0 f1 hL hx1 HO1
  go_loopw [5, 6, 8] (fun u ok i wr => ∃ (t k : Nat) (v : Value), t ≤ x ∧ k ≤ n ∧ u = .int .i64 k ∧ ok = .bool (foldOk L t (2, 0)) ∧ i = .int .i64 t ∧ (tkEnts L t (2, 0)).1 = (k, 0) ∧ St w q v (tkEnts L t (2, 0)).2 wr) (fun _ _ i _ => x - (intOf i).toNat)
  case atStart => exact ⟨0, 2, _, Nat.zero_le _, by omega, rfl, rfl, rfl, rfl, HST.out⟩
  case round =>
    obtain ⟨t, k, v, ht, hk, rfl, rfl, rfl, hp, hSt⟩ := hrel
    have HP : Hid _ := hp
    have HSt : Hid (St w q v (tkEnts L t (2, 0)).2 wr) := hSt
    have fr := hSt.1
    have c1 : wr.cell? ⟨b, off + 1, none⟩ = some (.int .u8 x) := by rw [← HX1.out]; exact (fr.cell (p := ⟨b, off + 1, none⟩) hbw).trans (HCELL.out 1 (by omega))
    clear hp hSt HST
    by_cases hlt : t < x
    · by_cases hA : n ≤ k
      · have HPOST : Hid _ := short_post (w := w) (tree_short HDX.out HDE.out hlt HP.out (by rw [HL.out]; exact ent_s1 hA))
        rw [HL.out] at HPOST
        have dA : decide ((n : Int) ≤ k) = true := by simp; omega
        generalize foldOk L t (2, 0) = B0
        go_wp2_with (first
          | (refine wpList_build (by rfl) 30 _ (by rfl) [] (by rfl) (.agg zeroOb.cells) (HZB.out _) ?_)
          | (refine wpList_store_row (by rfl) 30 (.tmp 2) (.tmp 88) (by rfl) w.heap.size zeroOb.cells (by rfl) (by rfl) 30 _ HSt.out.2.1 (by rw [Ob.size]; kernel_rfl) rfl HZ1.out ?_))
        refine bodyPost_ret (v := .tuple #[.agg zeroOb.cells, .int .i64 7]) ?_ rfl (HPOST.out _ (below_setRow' fr (Nat.le_refl _) _))
        exact results_cell_tmp Try.results8 _ _ w.heap.size 30 _ (0, 0) _ _ rfl rfl (heap_setRow_same HSt.out.2.1) Try.underlying30 rfl (by rw [Ob.size]; kernel_rfl)
      have dA : decide ((n : Int) ≤ k) = false := by simp; omega
      obtain ⟨s, hs1, hs2⟩ : ∃ s : Nat, src k = (s : Int) ∧ s ≤ 255 := ⟨(src k).toNat, by have := HOK.out k (by omega); omega, by have := HOK.out k (by omega); omega⟩
      have hws : IntKind.i64.wrap (s : Int) = s := by rw [IntKind.wrap_i64]; omega
      have ck : wr.cell? ⟨b, off + k, none⟩ = some (.int .u8 s) := by rw [← hs1]; exact (fr.cell (p := ⟨b, off + k, none⟩) hbw).trans (HCELL.out k (by omega))
      by_cases hB : n - k - 1 < s + 33
      · have HPOST : Hid _ := short_post (w := w) (tree_short HDX.out HDE.out hlt HP.out (by rw [HL.out]; exact ent_s2 (by omega) hs1 hB))
        rw [HL.out] at HPOST
        have dB : decide ((n : Int) - k - 1 < s + 33) = true := by simp; omega
        generalize foldOk L t (2, 0) = B0
        clear hs1
        go_wp2_with (first
          | (refine wpList_build (by rfl) 30 _ (by rfl) [] (by rfl) (.agg zeroOb.cells) (HZB.out _) ?_)
          | (refine wpList_store_row (by rfl) 30 (.tmp 2) (.tmp 88) (by rfl) w.heap.size zeroOb.cells (by rfl) (by rfl) 30 _ HSt.out.2.1 (by rw [Ob.size]; kernel_rfl) rfl HZ1.out ?_))
        refine bodyPost_ret (v := .tuple #[.agg zeroOb.cells, .int .i64 7]) ?_ rfl (HPOST.out _ (below_setRow' fr (Nat.le_refl _) _))
        exact results_cell_tmp Try.results8 _ _ w.heap.size 30 _ (0, 0) _ _ rfl rfl (heap_setRow_same HSt.out.2.1) Try.underlying30 rfl (by rw [Ob.size]; kernel_rfl)
      have dB : decide ((n : Int) - k - 1 < s + 33) = false := by simp; omega
      obtain ⟨hg1, hg2⟩ := ent_g (src := src) hs1 (show k + 1 + s + 33 ≤ n by omega)
      rw [← HL.out] at hg1 hg2
      have hfr := HOK.out (k + 1 + s) (by omega)
      have cf : wr.cell? ⟨b, off + (k + 1 + s), none⟩ = some (.int .u8 (src (k + 1 + s))) := (fr.cell (p := ⟨b, off + (k + 1 + s), none⟩) hbw).trans (HCELL.out _ (by omega))
      obtain ⟨f, hf⟩ : ∃ f, f = src (k + 1 + s) := ⟨_, rfl⟩
      obtain ⟨fo, hfo⟩ : ∃ fo, (f == 1) = fo := ⟨_, rfl⟩
      obtain ⟨fb, hfb⟩ : ∃ fb, decide (f ≤ 1) = fb := ⟨_, rfl⟩
      obtain ⟨nm, hnm⟩ : ∃ nm, strL ((List.range s).map fun j => src (k + 1 + j)) = nm := ⟨_, rfl⟩
      obtain ⟨fid, hfid⟩ : ∃ g, idL ((List.range 32).map fun j => src (k + 1 + s + 1 + j)) = g := ⟨_, rfl⟩
      obtain ⟨E0, hE0⟩ : ∃ E : Ent, E = ⟨nm, false, fun _ => 0⟩ := ⟨_, rfl⟩
      obtain ⟨E, hE⟩ : ∃ E : Ent, E = ⟨nm, fo, fid⟩ := ⟨_, rfl⟩
      obtain ⟨es, hes⟩ : ∃ es, es = (tkEnts L t (2, 0)).2 := ⟨_, rfl⟩
      have HEN : Hid ((tkEnts L (t + 1) (2, 0)).1 = (k + 1 + s + 33, 0)) := by
        simp only [tkEnts]
        rw [HP.out, hg1]
        exact rfl
      have HES : Hid ((tkEnts L (t + 1) (2, 0)).2 = es ++ [E]) := by
        simp only [tkEnts]
        rw [HP.out, hg1, hes, hE, hnm, hfid, ← hf, hfo]
        exact rfl
      have HFO : Hid (foldOk L (t + 1) (2, 0) = (foldOk L t (2, 0) && fb)) := by
        simp only [foldOk]
        rw [HP.out, hg2, ← hf, hfb]
        exact rfl
      have HARR : Hid (arr .u8 32 (fun j => src (k + 1 + s + 1 + j)) = arr .u8 32 fid) := by rw [← hfid]; exact idL_arr _
      have HS2 : Hid (St w q v es wr) := by rw [hes]; exact HSt.out
      have hlen : es.length = t := by rw [hes]; exact tkEnts_len _ _ _
      rw [← hf] at cf hfr
      have E1 : Hid (SrcAt wr .u8 (some ⟨b, off + (k + 1), none⟩) s fun j => src (k + 1 + j)) := (HS.out.sub (by omega)).below fr
      have E3 : Hid (SrcAt wr .u8 (some ⟨b, off + (k + 1 + s + 1), none⟩) 32 fun j => src (k + 1 + s + 1 + j)) := (HS.out.sub (by omega)).below fr
      have HNM : Hid _ := hnm
      have HBE : Hid (∀ w, (Instr.build 40 #[(0, .string nm)]).run Try.prog w = .ok (.agg E0.cells) w) := by rw [hE0]; exact build_ent nm
      have HE1 : Hid (E0.cells.all (·.oneCell') = true) := ent_one E0
      have HE2 : Hid (E0.cells.setIfInBounds 1 (.bool fo) = Ent.cells ⟨nm, fo, fun _ => 0⟩) := by rw [hE0]; exact ent_folder _ _
      have HE3 : Hid (E = ⟨nm, fo, fid⟩) := hE
      have hbr : b < wr.heap.size := Nat.lt_of_lt_of_le hbw fr.size
      have l4 := lt_of_row HSt.out.2.2.1
      clear hg1 hg2 hf hnm hfid hE0 hE hes hs1 HSt
      cases hB0 : foldOk L t (2, 0) with
      | false =>
        rw [hB0] at HFO
        clear hB0
        go_wp2_with (first
          | (refine wpList_convS (by rfl) (.tmp 101) (by rfl) _ _ _ (by rfl) s (by omega) (fun j => src (k + 1 + j)) E1.out nm HNM.out ?_)
          | (refine wpList_build (by rfl) 40 _ (by rfl) [(0, .string nm)] (by rfl) (.agg E0.cells) (HBE.out _) ?_)
          | (refine wpList_store_row (by rfl) 40 (.tmp 10) (.tmp 103) (by rfl) wr.heap.size E0.cells (by rfl) (by rfl) 40 _ (heap_alloc_new _ _) (by rw [Ent.size]; kernel_rfl) (by rw [Ent.size]; rfl) HE1.out ?_; refine wpList_gen (fun W => Below wr.heap.size wr W ∧ W.heap[wr.heap.size]? = some (.cells E0.cells 40 (0, 0))) ⟨below_setRow' ((Below.refl _ _).alloc (Nat.le_refl _) _) (Nat.le_refl _) _, heap_setRow_same (heap_alloc_new _ _)⟩ ?_; intro W2 hW2; have f2 := hW2.1; have R2 : Hid _ := hW2.2; have cf2 : W2.cell? ⟨b, off + (k + 1 + s), none⟩ = some (.int .u8 f) := (f2.cell (p := ⟨b, off + (k + 1 + s), none⟩) hbr).trans cf; obtain ⟨bb, e1⟩ : ∃ bb, W2.cell? ⟨wr.heap.size, 1, none⟩ = some (.bool bb) := ⟨_, (cell_of_row _ _ _ _ _ _ R2.out).trans (Ent.cell1 _)⟩; have z2 : ∀ j, W2.frozen? ⟨wr.heap.size, j, none⟩ = false := fun j => frozen_of_row _ _ j _ _ R2.out; clear hW2 ck cf HBE HE1 E1 HNM))
        refine calls_gen (fun W3 => Below wr.heap.size wr W3 ∧ W3.heap[wr.heap.size]? = some (.cells (Ent.cells ⟨nm, fo, fun _ => 0⟩) 40 (0, 0))) ⟨f2.setCell (Nat.le_refl _) _, by rw [heap_setCell_same _ _ _ _ _ _ R2.out, HE2.out]⟩ ?_
        intro W3 ⟨f3, r3⟩
        clear e1 z2 cf2 R2 HE2 f2
        refine (rid05_any _ _ _ (fun j => src (k + 1 + s + 1 + j)) W3 (by first | exact SrcAt.below E3.out f3 | (rw [show k + 1 + s + 33 - (k + 1 + s + 1) = 32 by omega]; exact SrcAt.below E3.out f3)) (by omega)).mono ?_
        rintro e w4 ⟨he4, hB4⟩
        rw [HARR.out] at he4
        subst he4
        have f4 : Below wr.heap.size wr w4 := f3.trans (hB4.mono f3.size)
        have R4 : Hid (w4.heap[wr.heap.size]? = some (.cells (Ent.cells ⟨nm, fo, fun _ => 0⟩) 40 (0, 0))) := (hB4.block _ (lt_of_row r3)).trans r3
        clear hB4 r3 f3 E3 HARR
        go_wp2_with (first
          | (refine wpList_store_mid (by rfl) 26 (.tmp 129) (.tmp 128) (by rfl) wr.heap.size 2 (arr .u8 32 fid) (by rfl) (by rfl) (there_row R4.out (by rw [Ent.size, arr_size]; omega)) (by rw [arr_size]; kernel_rfl) (arr_one _ _ _) ?_; refine wpList_gen (fun W => Below wr.heap.size wr W ∧ W.heap[wr.heap.size]? = some (.cells E.cells 40 (0, 0))) ⟨below_setCells f4 rfl (Nat.le_refl _), (heap_setCells_row _ _ _ _ R4.out).trans (by rw [ent_id, HE3.out])⟩ ?_; intro W5 hW5; have f5 := hW5.1; have R5 : Hid _ := hW5.2; have c5 : W5.cell? ⟨w.heap.size + 1, 2, none⟩ = some v := (f5.cell (p := ⟨w.heap.size + 1, 2, none⟩) l4).trans ((cell_of_row _ _ _ _ _ _ HS2.out.2.2.1).trans (Ob.cell2 _)); clear hW5 f4 R4)
          | (refine wpList_load_row (by rfl) 40 (.tmp 10) (by rfl) wr.heap.size (by rfl) 40 E.cells (0, 0) _ R5.out Try.underlying40 rfl (by rw [Ent.size]; kernel_rfl) ?_)
          | (refine wpList_buildS (by rfl) 24 (.tmp 134) (by rfl) (.agg E.cells) (by rfl) (.slice (some ⟨W5.heap.size, 0, none⟩) 1 1) (bldEn E _) ?_; refine wpList_gen (fun W => Below W5.heap.size W5 W ∧ W.heap[W5.heap.size]? = some (.cells E.cells 40 (0, 0))) ⟨(Below.refl _ _).alloc (Nat.le_refl _) _, heap_alloc_new _ _⟩ ?_; intro W6 hW6; have f6 : Below wr.heap.size wr W6 := f5.trans (hW6.1.mono f5.size); have R6 : Hid _ := hW6.2; have HO6 : Hid (OwnE (w.heap.size + 2) W6 v es) := OwnE.below HS2.out.2.2.2 f6; have hb6 : w.heap.size + 2 ≤ W6.heap.size := Nat.le_trans l4 f6.size; clear hW6 R5 c5)
          | (at_builtin; refine ents_append (by rfl) (.tmp 133) (.tmp 135) (by rfl) (w.heap.size + 2) v es (by rfl) HO6.out (some ⟨W5.heap.size, 0, none⟩) 1 [E] (by rfl) (fun h => by cases h) (oneE_rows R6.out) (fun _ => ⟨_, _, rfl⟩) (by simp; omega) hb6 ?_; intro v7 w7 hO7 hG7 hb7; obtain ⟨s7, n7, q7, hv7⟩ : ∃ s7 n7 q7, v7 = .slice s7 n7 q7 := (by obtain ⟨s7, q7, h7, -⟩ := OwnE.rows hO7; exact ⟨_, _, _, h7⟩); subst hv7; have hN := st_next HS2.out f6 hO7 hG7; have c7 : w7.cell? ⟨w.heap.size + 1, 2, none⟩ = some v := (cell_of_row _ _ _ _ _ _ hN.1).trans (Ob.cell2 _); have z7 : ∀ j, w7.frozen? ⟨w.heap.size + 1, j, none⟩ = false := fun j => frozen_of_row _ _ j _ _ hN.1; have HN : Hid (St w q (.slice s7 n7 q7) (es ++ [E]) (w7.setCell ⟨w.heap.size + 1, 2, none⟩ (.slice s7 n7 q7))) := hN.2; clear hO7 hG7 hb7 hN HO6 R6 f6 f5 hb6))
        go_roundw
        case rel =>
          refine ⟨t + 1, k + 1 + s + 33, .slice s7 n7 q7, by omega, by omega, by go_num, ?_, by go_num, HEN.out, ?_⟩
          · rw [HFO.out, Bool.false_and]
          · rw [HES.out]; exact HN.out
        case measure => simp [intOf]; omega
      | true =>
        rw [hB0] at HFO
        clear hB0
        go_wp2_with (first
          | (refine wpList_convS (by rfl) (.tmp 101) (by rfl) _ _ _ (by rfl) s (by omega) (fun j => src (k + 1 + j)) E1.out nm HNM.out ?_)
          | (refine wpList_build (by rfl) 40 _ (by rfl) [(0, .string nm)] (by rfl) (.agg E0.cells) (HBE.out _) ?_)
          | (refine wpList_store_row (by rfl) 40 (.tmp 10) (.tmp 103) (by rfl) wr.heap.size E0.cells (by rfl) (by rfl) 40 _ (heap_alloc_new _ _) (by rw [Ent.size]; kernel_rfl) (by rw [Ent.size]; rfl) HE1.out ?_; refine wpList_gen (fun W => Below wr.heap.size wr W ∧ W.heap[wr.heap.size]? = some (.cells E0.cells 40 (0, 0))) ⟨below_setRow' ((Below.refl _ _).alloc (Nat.le_refl _) _) (Nat.le_refl _) _, heap_setRow_same (heap_alloc_new _ _)⟩ ?_; intro W2 hW2; have f2 := hW2.1; have R2 : Hid _ := hW2.2; have cf2 : W2.cell? ⟨b, off + (k + 1 + s), none⟩ = some (.int .u8 f) := (f2.cell (p := ⟨b, off + (k + 1 + s), none⟩) hbr).trans cf; obtain ⟨bb, e1⟩ : ∃ bb, W2.cell? ⟨wr.heap.size, 1, none⟩ = some (.bool bb) := ⟨_, (cell_of_row _ _ _ _ _ _ R2.out).trans (Ent.cell1 _)⟩; have z2 : ∀ j, W2.frozen? ⟨wr.heap.size, j, none⟩ = false := fun j => frozen_of_row _ _ j _ _ R2.out; clear hW2 ck cf HBE HE1 E1 HNM))
        refine calls_gen (fun W3 => Below wr.heap.size wr W3 ∧ W3.heap[wr.heap.size]? = some (.cells (Ent.cells ⟨nm, fo, fun _ => 0⟩) 40 (0, 0))) ⟨f2.setCell (Nat.le_refl _) _, by rw [heap_setCell_same _ _ _ _ _ _ R2.out, HE2.out]⟩ ?_
        intro W3 ⟨f3, r3⟩
        clear e1 z2 cf2 R2 HE2 f2
        refine (rid05_any _ _ _ (fun j => src (k + 1 + s + 1 + j)) W3 (by first | exact SrcAt.below E3.out f3 | (rw [show k + 1 + s + 33 - (k + 1 + s + 1) = 32 by omega]; exact SrcAt.below E3.out f3)) (by omega)).mono ?_
        rintro e w4 ⟨he4, hB4⟩
        rw [HARR.out] at he4
        subst he4
        have f4 : Below wr.heap.size wr w4 := f3.trans (hB4.mono f3.size)
        have R4 : Hid (w4.heap[wr.heap.size]? = some (.cells (Ent.cells ⟨nm, fo, fun _ => 0⟩) 40 (0, 0))) := (hB4.block _ (lt_of_row r3)).trans r3
        clear hB4 r3 f3 E3 HARR
        go_wp2_with (first
          | (refine wpList_store_mid (by rfl) 26 (.tmp 129) (.tmp 128) (by rfl) wr.heap.size 2 (arr .u8 32 fid) (by rfl) (by rfl) (there_row R4.out (by rw [Ent.size, arr_size]; omega)) (by rw [arr_size]; kernel_rfl) (arr_one _ _ _) ?_; refine wpList_gen (fun W => Below wr.heap.size wr W ∧ W.heap[wr.heap.size]? = some (.cells E.cells 40 (0, 0))) ⟨below_setCells f4 rfl (Nat.le_refl _), (heap_setCells_row _ _ _ _ R4.out).trans (by rw [ent_id, HE3.out])⟩ ?_; intro W5 hW5; have f5 := hW5.1; have R5 : Hid _ := hW5.2; have c5 : W5.cell? ⟨w.heap.size + 1, 2, none⟩ = some v := (f5.cell (p := ⟨w.heap.size + 1, 2, none⟩) l4).trans ((cell_of_row _ _ _ _ _ _ HS2.out.2.2.1).trans (Ob.cell2 _)); clear hW5 f4 R4)
          | (refine wpList_load_row (by rfl) 40 (.tmp 10) (by rfl) wr.heap.size (by rfl) 40 E.cells (0, 0) _ R5.out Try.underlying40 rfl (by rw [Ent.size]; kernel_rfl) ?_)
          | (refine wpList_buildS (by rfl) 24 (.tmp 134) (by rfl) (.agg E.cells) (by rfl) (.slice (some ⟨W5.heap.size, 0, none⟩) 1 1) (bldEn E _) ?_; refine wpList_gen (fun W => Below W5.heap.size W5 W ∧ W.heap[W5.heap.size]? = some (.cells E.cells 40 (0, 0))) ⟨(Below.refl _ _).alloc (Nat.le_refl _) _, heap_alloc_new _ _⟩ ?_; intro W6 hW6; have f6 : Below wr.heap.size wr W6 := f5.trans (hW6.1.mono f5.size); have R6 : Hid _ := hW6.2; have HO6 : Hid (OwnE (w.heap.size + 2) W6 v es) := OwnE.below HS2.out.2.2.2 f6; have hb6 : w.heap.size + 2 ≤ W6.heap.size := Nat.le_trans l4 f6.size; clear hW6 R5 c5)
          | (at_builtin; refine ents_append (by rfl) (.tmp 133) (.tmp 135) (by rfl) (w.heap.size + 2) v es (by rfl) HO6.out (some ⟨W5.heap.size, 0, none⟩) 1 [E] (by rfl) (fun h => by cases h) (oneE_rows R6.out) (fun _ => ⟨_, _, rfl⟩) (by simp; omega) hb6 ?_; intro v7 w7 hO7 hG7 hb7; obtain ⟨s7, n7, q7, hv7⟩ : ∃ s7 n7 q7, v7 = .slice s7 n7 q7 := (by obtain ⟨s7, q7, h7, -⟩ := OwnE.rows hO7; exact ⟨_, _, _, h7⟩); subst hv7; have hN := st_next HS2.out f6 hO7 hG7; have c7 : w7.cell? ⟨w.heap.size + 1, 2, none⟩ = some v := (cell_of_row _ _ _ _ _ _ hN.1).trans (Ob.cell2 _); have z7 : ∀ j, w7.frozen? ⟨w.heap.size + 1, j, none⟩ = false := fun j => frozen_of_row _ _ j _ _ hN.1; have HN : Hid (St w q (.slice s7 n7 q7) (es ++ [E]) (w7.setCell ⟨w.heap.size + 1, 2, none⟩ (.slice s7 n7 q7))) := hN.2; clear hO7 hG7 hb7 hN HO6 R6 f6 f5 hb6))
        go_roundw
        case rel =>
          refine ⟨t + 1, k + 1 + s + 33, .slice s7 n7 q7, by omega, by omega, by go_num, ?_, by go_num, HEN.out, ?_⟩
          · rw [HFO.out, Bool.true_and]
          · rw [HES.out]; exact HN.out
        case measure => simp [intOf]; omega
    · obtain rfl : t = x := by omega
      have hpp : decP L = (k, 0) := by unfold decP; rw [if_neg (by rw [HDX.out]; omega), if_pos HDX.out, HDE.out, HP.out]
      have hao : allOk L = foldOk L t (2, 0) := by
        have h2' := HDX.out
        have he := HDE.out
        rw [HL.out] at h2' he ⊢
        unfold allOk
        rw [if_pos h2', tk_first src hn, tk_byte src (by omega)]
        simp only [num_one]
        rw [HX1.out, Int.toNat_natCast]
      obtain ⟨sq, cq, hv, hrows, hnil⟩ := OwnE.rows HSt.out.2.2.2
      subst hv
      obtain ⟨o, ho⟩ : ∃ o : Ob, o = decO L sq cq := ⟨_, rfl⟩
      obtain ⟨c, hcc⟩ : ∃ c : Co, c = decC L := ⟨_, rfl⟩
      have ho2 : o = { q with es := .slice sq (tkEnts L t (2, 0)).2.length cq } := by
        rw [ho, HQ.out]
        simp only [decO, HDX.out, show ¬ (2 : Int) = 1 by omega, if_true, if_false, HDE.out]
      have hc2 : c = ⟨0, fun _ => 0, (tkEnts L t (2, 0)).2, []⟩ := by
        rw [hcc]
        simp only [decC, HDX.out, show ¬ (2 : Int) = 1 by omega, if_true, if_false, HDE.out]
      obtain ⟨B0, hB0⟩ : ∃ B0, foldOk L t (2, 0) = B0 := ⟨_, rfl⟩
      rw [hB0] at hao
      have hLok : ∀ y ∈ L, 0 ≤ y ∧ y ≤ 255 := by rw [HL.out]; exact ok_src HOK.out
      have hnames : ∀ e ∈ (tkEnts L t (2, 0)).2, e.name.size ≤ 1000 := fun e he => by
        have := tkEnts_name hLok (2, 0) t e he
        omega
      have hlen := tkEnts_len L (2, 0) t
      have HPOST : Hid (∀ e w', TPost o c n k B0 w e w' → RPost ((List.range n).map src) w e w') := fun e w' h => by
        have hll : L.length = n := by rw [HL.out, len_src]
        rw [← HL.out]
        exact tpost hpp hao (by rw [← ho, ← hcc, hll]; exact h)
      have HSM : Hid (Sml o c) := by
        rw [ho2, hc2]
        exact ⟨by simp, by show (tkEnts L t (2, 0)).2.length ≤ 1000; omega, by simp, by show q.note.size ≤ 5000; rw [HQ.out]; show (⟨#[]⟩ : ByteArray).size ≤ 5000; decide, hnames⟩
      have HFIT : Hid (Fit o c) := by rw [ho, hcc]; exact dec_fit hLok _ _
      have HONE : Hid (o.cells.all (·.oneCell') = true) := by rw [ho2, HQ.out]; exact ob_one _ rfl rfl rfl
      have hge : ∀ a, sq = some a → w.heap.size + 2 ≤ a.block := fun a ha => by
        subst ha
        exact (OwnE.lt HSt.out.2.2.2 rfl).1
      have HAP : Hid (Apart o w.heap.size) := by
        rw [ho2, HQ.out]
        rintro a l cap' (h | h | h)
        · injection h with h; cases h
        · injection h with h; have := hge a h; omega
        · injection h with h; cases h
      have G0 : Hid (wr.heap[w.heap.size]? = some (.cells zeroOb.cells 30 (0, 0))) := HSt.out.2.1
      have G4 : Hid (wr.heap[w.heap.size + 1]? = some (.cells o.cells 30 (0, 0))) := by rw [ho2]; exact HSt.out.2.2.1
      have HIN : Hid (In wr o c) := by
        have hF := HFIT.out
        rw [hc2, ho2] at hF ⊢
        exact ⟨⟨none, 0, by show q.bs = _; rw [HQ.out]; rfl, fun h => absurd h (Nat.lt_irrefl 0), fun _ => ⟨rfl, rfl⟩⟩, ⟨sq, cq, rfl, hrows, hnil⟩, ⟨none, 0, by show q.ps = _; rw [HQ.out]; rfl, RowsAt.none, fun _ => ⟨rfl, rfl⟩⟩, fun _ => ⟨Int.le_refl 0, by show (0 : Int) ≤ 255; omega⟩, hF, Nat.zero_le _, by show (tkEnts L t (2, 0)).2.length ≤ maxLen; unfold maxLen; omega, Nat.zero_le _, by show q.note.size ≤ maxLen; rw [HQ.out]; exact Nat.zero_le _, fun e he => by have := hnames e he; unfold maxLen; omega⟩
      have k4 : wr.cell? ⟨w.heap.size + 1, 0, none⟩ = some (.int .i64 2) := (cell_of_row _ _ _ _ _ _ G4.out).trans ((Ob.cell0 _).trans (by rw [ho2]; exact congrArg (fun x => some (Value.int .i64 x)) HQK.out))
      rw [hB0]
      have fW := fr
      clear ho hcc ho2 hc2 hB0 hao hpp hrows hnil hge hnames HSt fr hLok hlen
      generalize (tkEnts L t (2, 0)).2 = es
      by_cases hkn : k < n
      · have dk : decide ((k : Int) < n) = true := by simp; omega
        go_wp2_with (first
          | (refine wpList_build (by rfl) 30 _ (by rfl) [] (by rfl) (.agg zeroOb.cells) (HZB.out _) ?_)
          | (refine wpList_store_row (by rfl) 30 (.tmp 2) (.tmp 229) (by rfl) w.heap.size zeroOb.cells (by rfl) (by rfl) 30 _ G0.out (by rw [Ob.size]; kernel_rfl) rfl HZ1.out ?_))
        refine bodyPost_ret (v := .tuple #[.agg zeroOb.cells, .int .i64 150]) ?_ rfl (HPOST.out _ _ ⟨below_setRow' fW (Nat.le_refl _) _, .inl ⟨.inl hkn, rfl⟩⟩)
        exact results_cell_tmp Try.results8 _ _ w.heap.size 30 _ (0, 0) _ _ rfl rfl (heap_setRow_same G0.out) Try.underlying30 rfl (by rw [Ob.size]; kernel_rfl)
      have dk : decide ((k : Int) < n) = false := by simp; omega
      have HGE : Hid (n ≤ k) := show n ≤ k by omega
      cases B0 with
      | false =>
        go_wp2_with (first
          | (refine wpList_build (by rfl) 30 _ (by rfl) [] (by rfl) (.agg zeroOb.cells) (HZB.out _) ?_)
          | (refine wpList_store_row (by rfl) 30 (.tmp 2) (.tmp 229) (by rfl) w.heap.size zeroOb.cells (by rfl) (by rfl) 30 _ G0.out (by rw [Ob.size]; kernel_rfl) rfl HZ1.out ?_))
        refine bodyPost_ret (v := .tuple #[.agg zeroOb.cells, .int .i64 150]) ?_ rfl (HPOST.out _ _ ⟨below_setRow' fW (Nat.le_refl _) _, .inl ⟨.inr (.inl rfl), rfl⟩⟩)
        exact results_cell_tmp Try.results8 _ _ w.heap.size 30 _ (0, 0) _ _ rfl rfl (heap_setRow_same G0.out) Try.underlying30 rfl (by rw [Ob.size]; kernel_rfl)
      | true =>
        go_wp2_with (refine load_rowg2 30 (.tmp 4) (by rfl) (by kernel_rfl) (w.heap.size + 1) (by rfl) 30 o.cells (0, 0) _ G4.out Try.underlying30 rfl (by rw [Ob.size]; kernel_rfl) ?_)
        refine (rright_sml o c wr HIN.out HSM.out).mono ?_
        rintro e w5 ⟨rfl, hB5⟩
        have f5 : Below w.heap.size w w5 := fW.trans (hB5.mono fW.size)
        have HHAS : Hid (Has w5 o c) := (HIN.out.has (by have := HSM.out.nb; omega) (by have := HSM.out.es; omega) (by have := HSM.out.ps; omega)).below hB5
        have J0 : Hid (w5.heap[w.heap.size]? = some (.cells zeroOb.cells 30 (0, 0))) := (hB5.block _ (lt_of_row G0.out)).trans G0.out
        have J4 : Hid (w5.heap[w.heap.size + 1]? = some (.cells o.cells 30 (0, 0))) := (hB5.block _ (lt_of_row G4.out)).trans G4.out
        clear hB5 G0 G4 HIN
        cases hr : rightB o c with
        | false =>
          go_wp2_with (first
            | (refine wpList_build (by rfl) 30 _ (by rfl) [] (by rfl) (.agg zeroOb.cells) (HZB.out _) ?_)
            | (refine wpList_store_row (by rfl) 30 (.tmp 2) (.tmp 229) (by rfl) w.heap.size zeroOb.cells (by rfl) (by rfl) 30 _ J0.out (by rw [Ob.size]; kernel_rfl) rfl HZ1.out ?_))
          refine bodyPost_ret (v := .tuple #[.agg zeroOb.cells, .int .i64 150]) ?_ rfl (HPOST.out _ _ ⟨below_setRow' f5 (Nat.le_refl _) _, .inl ⟨.inr (.inr hr), rfl⟩⟩)
          exact results_cell_tmp Try.results8 _ _ w.heap.size 30 _ (0, 0) _ _ rfl rfl (heap_setRow_same J0.out) Try.underlying30 rfl (by rw [Ob.size]; kernel_rfl)
        | true =>
          go_wp2_with (first
            | (refine wpList_load_row (by rfl) 30 (.tmp 4) (by rfl) (w.heap.size + 1) (by rfl) 30 o.cells (0, 0) _ J4.out Try.underlying30 rfl (by rw [Ob.size]; kernel_rfl) ?_)
            | (refine wpList_store_row (by rfl) 30 (.tmp 2) (.tmp 230) (by rfl) w.heap.size o.cells (by rfl) (by rfl) 30 _ J0.out (by rw [Ob.size]; kernel_rfl) (by rw [Ob.size, Ob.size]) HONE.out ?_))
          refine bodyPost_ret (v := .tuple #[.agg o.cells, .int .i64 0]) ?_ rfl (HPOST.out _ _ ⟨below_setRow' f5 (Nat.le_refl _) _, .inr ⟨HGE.out, rfl, hr, rfl, HHAS.out.but HAP.out (setRow_but _ _ _)⟩⟩)
          exact results_cell_tmp Try.results8 _ _ w.heap.size 30 _ (0, 0) _ _ rfl rfl (heap_setRow_same J0.out) Try.underlying30 rfl (by rw [Ob.size]; kernel_rfl)
end Go.Proofs.Ytnaoaeapffgojaa
