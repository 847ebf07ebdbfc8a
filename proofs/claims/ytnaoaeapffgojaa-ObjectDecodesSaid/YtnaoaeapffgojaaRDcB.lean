/- The document's Decode, of a blob. -/
import Derived.Test.YtnaoaeapffgojaaRDcS
namespace Go.Proofs.Ytnaoaeapffgojaa
open Go.RowKit

theorem blob_a {n : Nat} {src : Nat → Int} (hn : 0 < n) (hX : src 0 = 1) (h3 : n < 3) : (decP ((List.range n).map src)).2 = 7 := by
  have hx := decX_src (src := src) hn
  rw [hX] at hx
  unfold decP
  rw [if_pos hx]
  unfold bB
  have : bN ((List.range n).map src) = ((1, 7), []) := by unfold bN; rw [tk_byte src hn]; exact tk_short src (by omega) (by omega)
  rw [this, tk_err _ rfl]
theorem blob_n {n : Nat} {src : Nat → Int} (h3 : 3 ≤ n) : bN ((List.range n).map src) = ((3, 0), (List.range 2).map fun j => src (1 + j)) := by
  unfold bN
  rw [tk_byte src (by omega)]
  exact tk_src src (by omega)
theorem blob_b {n m : Nat} {src : Nat → Int} (hX : src 0 = 1) (h3 : 3 ≤ n) (hm : numOf ((List.range 2).map fun j => src (1 + j)) = m) (hs : n - 3 < m) : (decP ((List.range n).map src)).2 = 7 := by
  have hx := decX_src (src := src) (show 0 < n by omega)
  rw [hX] at hx
  unfold decP
  rw [if_pos hx]
  unfold bB
  rw [blob_n h3, hm, Int.toNat_natCast, tk_short src (by omega) h3]
theorem blob_c {n m : Nat} {src : Nat → Int} (h3 : 3 ≤ n) (hm : numOf ((List.range 2).map fun j => src (1 + j)) = m) (hs : 3 + m ≤ n) : bB ((List.range n).map src) = ((3 + m, 0), (List.range m).map fun j => src (3 + j)) := by
  unfold bB
  rw [blob_n h3, hm, Int.toNat_natCast, tk_src src hs]

set_option maxRecDepth 100000 in
set_option maxHeartbeats 8000000 in
theorem rdec_blob_a (b off n cap : Nat) (src : Nat → Int) (w : World) (hs : SrcAt w .u8 (some ⟨b, off, none⟩) n src) (hn : 0 < n) (hok : ∀ i, i < n → 0 ≤ src i ∧ src i ≤ 255) (hX : src 0 = 1) (h3 : n < 3) :
    Calls Try.prog 8 #[.slice (some ⟨b, off, none⟩) n cap] w (RPost ((List.range n).map src) w) := by
  have HPOST : Hid _ := short_post (w := w) (blob_a hn hX h3)
  have d3 : decide ((n : Int) < 3) = true := by simp; omega
  have HZB : Hid _ := buildz
  have HZ1 : Hid _ := ob_one zeroOb rfl rfl rfl
  have HS : Hid (SrcAt w .u8 (some ⟨b, off, none⟩) n src) := hs
  have HOK : Hid _ := hok
  obtain ⟨b', off', hse, hc⟩ := hs hn
  injection hse with hse
  injection hse with hse1 hse2
  subst hse1 hse2
  have hbw : b < w.heap.size := block_lt_of_cell (hc 0 hn)
  have ea : ∀ X, (w.alloc X).cell? ⟨b, off, none⟩ = some (.int .u8 (src 0)) := fun X => (((Below.refl _ w).alloc (Nat.le_refl _) X).cell (p := ⟨b, off, none⟩) hbw).trans (hc 0 hn)
  have hxr := hok 0 hn
  rw [hX] at ea hxr
  have HX : Hid _ := hX
  have hwx : IntKind.i64.wrap 1 = 1 := by rw [IntKind.wrap_i64]; omega
  have dn : ((n : Int) == 0) = false := by simp; omega
  obtain ⟨q, hq⟩ : ∃ q : Ob, q = { zeroOb with kind := 1 } := ⟨_, rfl⟩
  have HQ : Hid _ := hq
  have HB0 : Hid (∀ w, (Instr.build 30 #[(0, .int .i64 1)]).run Try.prog w = .ok (.agg q.cells) w) := by rw [hq]; exact build0 1
  have HO1 : Hid (q.cells.all (·.oneCell') = true) := by rw [hq]; exact ob_one _ rfl rfl rfl
  have HQK : Hid (q.kind = 1) := by rw [hq]; exact rfl
  clear hs hc hX hq hok
  go_enter Try.func8, Try.ntmps8
  go_wp2_with (first
    | (refine wpList_build (by rfl) 30 _ (by rfl) [(0, .int .i64 1)] (by rfl) (.agg q.cells) (HB0.out _) ?_)
    | (refine wpList_build (by rfl) 30 _ (by rfl) [] (by rfl) (.agg zeroOb.cells) (HZB.out _) ?_)
    | (refine wpList_store_row (by rfl) 30 (.tmp 4) (.tmp 21) (by rfl) (w.heap.size + 1) q.cells (by rfl) (by rfl) 30 _ (heap_alloc2_new _ _ _) (by rw [Ob.size]; kernel_rfl) (by rw [Ob.size]; rfl) HO1.out ?_; refine wpList_gen (fun W => Below w.heap.size w W ∧ W.heap[w.heap.size]? = some (.cells zeroOb.cells 30 (0, 0)) ∧ W.heap[w.heap.size + 1]? = some (.cells q.cells 30 (0, 0))) ⟨below_setRow' (((Below.refl _ _).alloc (Nat.le_refl _) _).alloc (by simp) _) (by omega) _, (setRow_other _ _ _ _ (by omega)).trans ((heap_alloc2_old _ _ _).trans rfl), heap_setRow_same (heap_alloc2_new _ _ _)⟩ ?_; intro W1 hW1; have k0 : W1.cell? ⟨w.heap.size + 1, 0, none⟩ = some (.int .i64 1) := (cell_of_row _ _ _ _ _ _ hW1.2.2).trans ((Ob.cell0 _).trans (by rw [HQK.out])); have f1 := hW1.1; have H0 : Hid _ := hW1.2.1; have H4 : Hid _ := hW1.2.2; clear hW1 ea hwx HB0)
    | (refine wpList_store_row (by rfl) 30 (.tmp 2) (.tmp 37) (by rfl) w.heap.size zeroOb.cells (by rfl) (by rfl) 30 _ H0.out (by rw [Ob.size]; kernel_rfl) rfl HZ1.out ?_))
  refine bodyPost_ret (v := .tuple #[.agg zeroOb.cells, .int .i64 7]) ?_ rfl (HPOST.out _ (below_setRow' f1 (Nat.le_refl _) _))
  exact results_cell_tmp Try.results8 _ _ w.heap.size 30 _ (0, 0) _ _ rfl rfl (heap_setRow_same H0.out) Try.underlying30 rfl (by rw [Ob.size]; kernel_rfl)

set_option maxRecDepth 100000 in
set_option maxHeartbeats 8000000 in
theorem rdec_blob_b (b off n cap : Nat) (src : Nat → Int) (w : World) (hs : SrcAt w .u8 (some ⟨b, off, none⟩) n src) (hn : 0 < n) (hok : ∀ i, i < n → 0 ≤ src i ∧ src i ≤ 255) (hcap : n ≤ cap) (hmx : n ≤ 100000) (hX : src 0 = 1) (h3 : ¬ n < 3) :
    Calls Try.prog 8 #[.slice (some ⟨b, off, none⟩) n cap] w (RPost ((List.range n).map src) w) := by
  have d3 : decide ((n : Int) < 3) = false := by simp; omega
  have HZB : Hid _ := buildz
  have HZ1 : Hid _ := ob_one zeroOb rfl rfl rfl
  have HS : Hid (SrcAt w .u8 (some ⟨b, off, none⟩) n src) := hs
  have HOK : Hid _ := hok
  obtain ⟨b', off', hse, hc⟩ := hs hn
  injection hse with hse
  injection hse with hse1 hse2
  subst hse1 hse2
  have hbw : b < w.heap.size := block_lt_of_cell (hc 0 hn)
  have ea : ∀ X, (w.alloc X).cell? ⟨b, off, none⟩ = some (.int .u8 (src 0)) := fun X => (((Below.refl _ w).alloc (Nat.le_refl _) X).cell (p := ⟨b, off, none⟩) hbw).trans (hc 0 hn)
  have hxr := hok 0 hn
  rw [hX] at ea hxr
  have HX : Hid _ := hX
  have hwx : IntKind.i64.wrap 1 = 1 := by rw [IntKind.wrap_i64]; omega
  have dn : ((n : Int) == 0) = false := by simp; omega
  obtain ⟨q, hq⟩ : ∃ q : Ob, q = { zeroOb with kind := 1 } := ⟨_, rfl⟩
  have HQ : Hid _ := hq
  have HB0 : Hid (∀ w, (Instr.build 30 #[(0, .int .i64 1)]).run Try.prog w = .ok (.agg q.cells) w) := by rw [hq]; exact build0 1
  have HO1 : Hid (q.cells.all (·.oneCell') = true) := by rw [hq]; exact ob_one _ rfl rfl rfl
  have HQK : Hid (q.kind = 1) := by rw [hq]; exact rfl
  clear hs hc hX hq hok
  go_enter Try.func8, Try.ntmps8
  go_wp2_with (first
    | (refine wpList_build (by rfl) 30 _ (by rfl) [(0, .int .i64 1)] (by rfl) (.agg q.cells) (HB0.out _) ?_)
    | (refine wpList_build (by rfl) 30 _ (by rfl) [] (by rfl) (.agg zeroOb.cells) (HZB.out _) ?_)
    | (refine wpList_store_row (by rfl) 30 (.tmp 4) (.tmp 21) (by rfl) (w.heap.size + 1) q.cells (by rfl) (by rfl) 30 _ (heap_alloc2_new _ _ _) (by rw [Ob.size]; kernel_rfl) (by rw [Ob.size]; rfl) HO1.out ?_; refine wpList_gen (fun W => Below w.heap.size w W ∧ W.heap[w.heap.size]? = some (.cells zeroOb.cells 30 (0, 0)) ∧ W.heap[w.heap.size + 1]? = some (.cells q.cells 30 (0, 0))) ⟨below_setRow' (((Below.refl _ _).alloc (Nat.le_refl _) _).alloc (by simp) _) (by omega) _, (setRow_other _ _ _ _ (by omega)).trans ((heap_alloc2_old _ _ _).trans rfl), heap_setRow_same (heap_alloc2_new _ _ _)⟩ ?_; intro W1 hW1; have k0 : W1.cell? ⟨w.heap.size + 1, 0, none⟩ = some (.int .i64 1) := (cell_of_row _ _ _ _ _ _ hW1.2.2).trans ((Ob.cell0 _).trans (by rw [HQK.out])); have f1 := hW1.1; have H0 : Hid _ := hW1.2.1; have H4 : Hid _ := hW1.2.2; clear hW1 ea hwx HB0)
    | fail)
  refine (rnum_any (some ⟨b, off + 1, none⟩) 2 (cap - 1) (fun j => src (1 + j)) W1 ((HS.out.sub (by omega)).below f1) (by omega) (fun i hi => HOK.out (1 + i) (by omega))).mono ?_
  rintro e w2 ⟨rfl, rfl⟩
  obtain ⟨m, hm, hm2⟩ : ∃ m : Nat, numOf ((List.range 2).map fun j => src (1 + j)) = (m : Int) ∧ m ≤ 65535 := by
    have h := numOf_len (M := (List.range 2).map fun j => src (1 + j)) (n := 2) (fun x hx => by obtain ⟨i, hi, rfl⟩ := List.mem_map.1 hx; exact HOK.out (1 + i) (by have := List.mem_range.1 hi; omega)) (by simp)
    have h2 : numOf ((List.range 2).map fun j => src (1 + j)) < 65536 := h.2
    exact ⟨_, (Int.toNat_of_nonneg h.1).symm, by omega⟩
  rw [hm]
  have hwm : IntKind.i64.wrap (m : Int) = m := by rw [IntKind.wrap_i64]; omega
  by_cases h4 : n - 3 < m
  · have HPOST : Hid _ := short_post (w := w) (blob_b HX.out (by omega) hm h4)
    have d4 : decide ((n : Int) - 3 < m) = true := by simp; omega
    clear hm
    go_wp2_with (first
      | (refine wpList_build (by rfl) 30 _ (by rfl) [] (by rfl) (.agg zeroOb.cells) (HZB.out _) ?_)
      | (refine wpList_store_row (by rfl) 30 (.tmp 2) (.tmp 47) (by rfl) w.heap.size zeroOb.cells (by rfl) (by rfl) 30 _ H0.out (by rw [Ob.size]; kernel_rfl) rfl HZ1.out ?_))
    refine bodyPost_ret (v := .tuple #[.agg zeroOb.cells, .int .i64 7]) ?_ rfl (HPOST.out _ (below_setRow' f1 (Nat.le_refl _) _))
    exact results_cell_tmp Try.results8 _ _ w.heap.size 30 _ (0, 0) _ _ rfl rfl (heap_setRow_same H0.out) Try.underlying30 rfl (by rw [Ob.size]; kernel_rfl)
  have d4 : decide ((n : Int) - 3 < m) = false := by simp; omega
  have hL : ∀ x ∈ (List.range n).map src, 0 ≤ x ∧ x ≤ 255 := ok_src HOK.out
  have hx := decX_src (src := src) hn
  rw [HX.out] at hx
  have hB := blob_c (src := src) (show 3 ≤ n by omega) hm (by omega)
  have hP : decP ((List.range n).map src) = (3 + m, 0) := by unfold decP; rw [if_pos hx, hB]
  have hA : allOk ((List.range n).map src) = true := by unfold allOk; rw [if_neg (by rw [hx]; omega)]
  obtain ⟨sq, hsq⟩ : ∃ s : Option Addr, s = if cap = 3 then some ⟨b, off, none⟩ else some ⟨b, off + 3, none⟩ := ⟨_, rfl⟩
  have HSB : Hid (∀ a, sq = some a → a.block = b) := fun a ha => ifs_block (hsq.symm.trans ha)
  have HSN : Hid (sq ≠ none) := fun h => ifs_some (hsq.symm.trans h)
  obtain ⟨o, ho⟩ : ∃ o : Ob, o = decO ((List.range n).map src) sq (cap - 3) := ⟨_, rfl⟩
  obtain ⟨c, hcc⟩ : ∃ c : Co, c = decC ((List.range n).map src) := ⟨_, rfl⟩
  have ho2 : o = { q with bs := .slice sq m (cap - 3) } := by rw [ho, HQ.out]; simp [decO, hx, blobOb, hB]
  have hc2 : c = ⟨m, fun i => ((List.range m).map fun j => src (3 + j)).getD i 0, [], []⟩ := by rw [hcc]; simp only [decC, hx, if_true, blobCo, hB, List.length_map, List.length_range]
  have HPOST : Hid (∀ e w', TPost o c n (3 + m) true w e w' → RPost ((List.range n).map src) w e w') := fun e w' h => tpost hP hA (by rw [← ho, ← hcc, len_src]; exact h)
  have HSM : Hid (Sml o c) := by
    rw [ho2, hc2]
    exact ⟨by show m ≤ 100000; omega, by simp, by simp, by show q.note.size ≤ 5000; rw [HQ.out]; show (⟨#[]⟩ : ByteArray).size ≤ 5000; decide, fun e he => by simp at he⟩
  have HFIT : Hid (Fit o c) := by rw [ho, hcc]; exact dec_fit hL _ _
  have HSUB : Hid (SrcAt w .u8 sq m fun j => src (3 + j)) := by rw [hsq]; exact HS.out.subIf (by omega) (by omega)
  have HONE : Hid (o.cells.all (·.oneCell') = true) := by rw [ho2, HQ.out]; exact ob_one _ rfl rfl rfl
  have HAP : Hid (Apart o w.heap.size) := by
    rw [ho2, HQ.out]
    rintro a l cap' (h | h | h)
    · injection h with h; rw [HSB.out a h]; omega
    · injection h with h; cases h
    · injection h with h; cases h
  have HOC : Hid (q.cells.setIfInBounds 1 (.slice (if cap = 3 then some ⟨b, off, none⟩ else some ⟨b, off + 3, none⟩) m (cap - 3)) = o.cells) := by rw [ho2, ← hsq]; exact ob_bs _ _
  have HOC2 : Hid (cap ≠ 3 → q.cells.setIfInBounds 1 (.slice (some ⟨b, off + 3, none⟩) m (cap - 3)) = o.cells) := fun h => by rw [← HOC.out, if_neg h]
  have HC2 : Hid _ := hc2
  have HO2 : Hid _ := ho2
  have c1 : w2.cell? ⟨w.heap.size + 1, 1, none⟩ = some (.slice none 0 0) := (cell_of_row _ _ _ _ _ _ H4.out).trans ((Ob.cell1 _).trans (by rw [HQ.out]; rfl))
  have z1 : ∀ j, w2.frozen? ⟨w.heap.size + 1, j, none⟩ = false := fun j => frozen_of_row _ _ j _ _ H4.out
  clear hm ho hcc ho2 hc2 hP hA hB hx hL hsq
  by_cases hkn : 3 + m < n
  · have dk : decide ((3 : Int) + m < n) = true := by simp; omega
    go_wp2_with (first
      | (refine gen_at 54 (by rfl) (fun W => Below w.heap.size w W ∧ W.heap[w.heap.size]? = some (.cells zeroOb.cells 30 (0, 0)) ∧ W.heap[w.heap.size + 1]? = some (.cells o.cells 30 (0, 0))) ⟨f1.setCell (by show w.heap.size ≤ w.heap.size + 1; omega) _, (heap_setCell_other _ _ _ _ (by show w.heap.size ≠ w.heap.size + 1; omega)).trans H0.out, (heap_setCell_same _ _ _ _ _ _ H4.out).trans (by first | rw [HOC.out] | rw [HOC2.out (by omega)])⟩ ?_; intro W3 hW3; have fW := hW3.1; have G0 : Hid _ := hW3.2.1; have G4 : Hid _ := hW3.2.2; have k3 : W3.cell? ⟨w.heap.size + 1, 0, none⟩ = some (.int .i64 1) := (cell_of_row _ _ _ _ _ _ G4.out).trans ((Ob.cell0 _).trans (by rw [HO2.out]; exact congrArg (fun x => some (Value.int .i64 x)) HQK.out)); clear hW3 H0 H4 k0 c1 z1; generalize (if cap = 3 then some (⟨b, off, none⟩ : Addr) else some ⟨b, off + 3, none⟩) = sx)
      | (refine wpList_build (by rfl) 30 _ (by rfl) [] (by rfl) (.agg zeroOb.cells) (HZB.out _) ?_)
      | (refine wpList_store_row (by rfl) 30 (.tmp 2) (.tmp 229) (by rfl) w.heap.size zeroOb.cells (by rfl) (by rfl) 30 _ G0.out (by rw [Ob.size]; kernel_rfl) rfl HZ1.out ?_))
    refine bodyPost_ret (v := .tuple #[.agg zeroOb.cells, .int .i64 150]) ?_ rfl (HPOST.out _ _ ⟨below_setRow' fW (Nat.le_refl _) _, .inl ⟨.inl hkn, rfl⟩⟩)
    exact results_cell_tmp Try.results8 _ _ w.heap.size 30 _ (0, 0) _ _ rfl rfl (heap_setRow_same G0.out) Try.underlying30 rfl (by rw [Ob.size]; kernel_rfl)
  · have dk : decide ((3 : Int) + m < n) = false := by simp; omega
    have HGE : Hid (n ≤ 3 + m) := show n ≤ 3 + m by omega
    go_wp2_with (first
      | (refine gen_at 54 (by rfl) (fun W => Below w.heap.size w W ∧ W.heap[w.heap.size]? = some (.cells zeroOb.cells 30 (0, 0)) ∧ W.heap[w.heap.size + 1]? = some (.cells o.cells 30 (0, 0))) ⟨f1.setCell (by show w.heap.size ≤ w.heap.size + 1; omega) _, (heap_setCell_other _ _ _ _ (by show w.heap.size ≠ w.heap.size + 1; omega)).trans H0.out, (heap_setCell_same _ _ _ _ _ _ H4.out).trans (by first | rw [HOC.out] | rw [HOC2.out (by omega)])⟩ ?_; intro W3 hW3; have fW := hW3.1; have G0 : Hid _ := hW3.2.1; have G4 : Hid _ := hW3.2.2; have k3 : W3.cell? ⟨w.heap.size + 1, 0, none⟩ = some (.int .i64 1) := (cell_of_row _ _ _ _ _ _ G4.out).trans ((Ob.cell0 _).trans (by rw [HO2.out]; exact congrArg (fun x => some (Value.int .i64 x)) HQK.out)); clear hW3 H0 H4 k0 c1 z1; generalize (if cap = 3 then some (⟨b, off, none⟩ : Addr) else some ⟨b, off + 3, none⟩) = sx)
      | (refine load_rowg2 30 (.tmp 4) (by rfl) (by kernel_rfl) (w.heap.size + 1) (by rfl) 30 o.cells (0, 0) _ G4.out Try.underlying30 rfl (by rw [Ob.size]; kernel_rfl) ?_))
    have HIN : Hid (In W3 o c) := by
      have hF := HFIT.out
      rw [HC2.out, HO2.out] at hF ⊢
      exact ⟨⟨sq, cap - 3, rfl, ((HSUB.out.below fW).congr fun i hi => by simp [hi]), fun h => absurd h HSN.out⟩, ⟨none, 0, by show q.es = _; rw [HQ.out]; rfl, RowsAt.none, fun _ => ⟨rfl, rfl⟩⟩, ⟨none, 0, by show q.ps = _; rw [HQ.out]; rfl, RowsAt.none, fun _ => ⟨rfl, rfl⟩⟩, fun i => getD_ok (fun x hx => by obtain ⟨j, hj, rfl⟩ := List.mem_map.1 hx; exact HOK.out (3 + j) (by have := List.mem_range.1 hj; omega)) i, hF, by show m ≤ maxLen; unfold maxLen; omega, Nat.zero_le _, Nat.zero_le _, by show q.note.size ≤ maxLen; rw [HQ.out]; exact Nat.zero_le _, fun e he => by simp at he⟩
    refine (rright_sml o c W3 HIN.out HSM.out).mono ?_
    rintro e w5 ⟨rfl, hB5⟩
    have f5 : Below w.heap.size w w5 := fW.trans (hB5.mono fW.size)
    have HHAS : Hid (Has w5 o c) := (HIN.out.has (by have := HSM.out.nb; omega) (by have := HSM.out.es; omega) (by have := HSM.out.ps; omega)).below hB5
    have J0 : Hid (w5.heap[w.heap.size]? = some (.cells zeroOb.cells 30 (0, 0))) := (hB5.block _ (lt_of_row G0.out)).trans G0.out
    have J4 : Hid (w5.heap[w.heap.size + 1]? = some (.cells o.cells 30 (0, 0))) := (hB5.block _ (lt_of_row G4.out)).trans G4.out
    clear hB5 G0 G4 HIN
    cases hr : rightB o c with
    | false =>
      go_wp2_with (first
        | (refine wpList_build (by rfl) 30 _ (by rfl) [] (by rfl) (.agg zeroOb.cells) (HZB.out _) ?_)
        | (refine wpList_store_row (by rfl) 30 (.tmp 2) (.tmp 229) (by rfl) w.heap.size zeroOb.cells (by rfl) (by rfl) 30 _ J0.out (by rw [Ob.size]; kernel_rfl) rfl HZ1.out ?_))
      refine bodyPost_ret (v := .tuple #[.agg zeroOb.cells, .int .i64 150]) ?_ rfl (HPOST.out _ _ ⟨below_setRow' f5 (Nat.le_refl _) _, .inl ⟨.inr (.inr hr), rfl⟩⟩)
      exact results_cell_tmp Try.results8 _ _ w.heap.size 30 _ (0, 0) _ _ rfl rfl (heap_setRow_same J0.out) Try.underlying30 rfl (by rw [Ob.size]; kernel_rfl)
    | true =>
      go_wp2_with (first
        | (refine wpList_load_row (by rfl) 30 (.tmp 4) (by rfl) (w.heap.size + 1) (by rfl) 30 o.cells (0, 0) _ J4.out Try.underlying30 rfl (by rw [Ob.size]; kernel_rfl) ?_)
        | (refine wpList_store_row (by rfl) 30 (.tmp 2) (.tmp 230) (by rfl) w.heap.size o.cells (by rfl) (by rfl) 30 _ J0.out (by rw [Ob.size]; kernel_rfl) (by rw [Ob.size, Ob.size]) HONE.out ?_))
      refine bodyPost_ret (v := .tuple #[.agg o.cells, .int .i64 0]) ?_ rfl (HPOST.out _ _ ⟨below_setRow' f5 (Nat.le_refl _) _, .inr ⟨HGE.out, rfl, hr, rfl, HHAS.out.but HAP.out (setRow_but _ _ _)⟩⟩)
      exact results_cell_tmp Try.results8 _ _ w.heap.size 30 _ (0, 0) _ _ rfl rfl (heap_setRow_same J0.out) Try.underlying30 rfl (by rw [Ob.size]; kernel_rfl)
end Go.Proofs.Ytnaoaeapffgojaa
