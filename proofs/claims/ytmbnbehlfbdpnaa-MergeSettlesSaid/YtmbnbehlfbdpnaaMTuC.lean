/- The law MergeTurned answers true. -/
import Derived.Test.YtmbnbehlfbdpnaaMrgE
namespace Go.Proofs.Ytmbnbehlfbdpnaa
open Go.RowKit

theorem fi_str {f : Fi} {j : Nat} {u : Value} (h : f.cells[j]? = some u) : ∃ s, u = .string s := by
  match j with
  | 0 => exact ⟨f.path, by simpa [Fi.cells] using h.symm⟩
  | 1 => exact ⟨f.text, by simpa [Fi.cells] using h.symm⟩
  | j + 2 => simp [Fi.cells] at h
/-- Files lie as they lay when a row without texts is written. -/
theorem rows_setRow {w : World} {sp : Option Addr} {xs : List Fi} {g : Nat} {cs : Array Value} {t : TypeId} {fr : Nat × Nat} (h : RowsAt w 2 Fi.cells sp xs) (hg : w.heap[g]? = some (.cells cs t fr)) (hn : ∀ (i : Nat) s, cs[i]? ≠ some (.string s)) (x : Array Value) : RowsAt (w.setRow g x) 2 Fi.cells sp xs := fun hl => by
  obtain ⟨b, off, e, hc⟩ := h hl
  refine ⟨b, off, e, fun i y hy j u hu => ?_⟩
  have h1 := hc i y hy j u hu
  obtain ⟨s, rfl⟩ := fi_str hu
  by_cases hb : b = g
  · subst hb
    rw [cell_of_row _ _ _ _ _ _ hg] at h1
    exact absurd h1 (hn _ _)
  · exact (World.cell?_of_block (a := ⟨b, off + i * 2 + j, none⟩) (setRow_other _ _ _ _ hb)).trans h1
theorem row3_str (x y z : Sl) (i : Nat) (s : ByteArray) : (row3 x y z)[i]? ≠ some (.string s) := by
  match i with
  | 0 => simp [row3]
  | 1 => simp [row3]
  | 2 => simp [row3]
  | i + 3 => simp [row3]

set_option maxRecDepth 100000 in
set_option maxHeartbeats 4000000 in
theorem mergeTurned_all (a b c : Sl) (w : World) (ha : InF w a) (hb : InF w b) (hc : InF w c) :
    Calls Try.prog 8 #[.agg #[.slice a.sp a.fs.length a.cap, .slice b.sp b.fs.length b.cap, .slice c.sp c.fs.length c.cap]] w fun e w' => e = .returned (.bool true) ∧ Below w.heap.size w w' := by
  have HA : Hid (InF w a) := ha
  have HB : Hid (InF w b) := hb
  have HC : Hid (InF w c) := hc
  clear ha hb hc
  go_enter Try.func8, Try.ntmps8
  go_wp2_with fail
  refine calls_gen (fun W1 => Below w.heap.size w W1 ∧ W1.heap[w.heap.size]? = some (.cells (row3 a b c) 26 (0, 0))) ⟨(Below.refl _ _).alloc (Nat.le_refl _) _, heap_alloc_new _ _⟩ ?_
  rintro W1 ⟨hB1, r1⟩
  refine (wakes8_any W1).mono ?_
  rintro e W2 ⟨rfl, b2⟩
  have hB2 : Below w.heap.size w W2 := hB1.trans (b2.mono hB1.size)
  have q1 := (b2.block _ (lt_of_row r1)).trans r1
  clear r1 hB1 b2
  have c0 : W2.cell? ⟨w.heap.size, 0, none⟩ = some (.slice a.sp a.fs.length a.cap) := (cell_of_row _ _ _ _ _ _ q1).trans rfl
  have c1 : W2.cell? ⟨w.heap.size, 1, none⟩ = some (.slice b.sp b.fs.length b.cap) := (cell_of_row _ _ _ _ _ _ q1).trans rfl
  have c2 : W2.cell? ⟨w.heap.size, 2, none⟩ = some (.slice c.sp c.fs.length c.cap) := (cell_of_row _ _ _ _ _ _ q1).trans rfl
  go_wp2_with fail
  refine (few_any a b c W2 (HA.out.below hB2) (HB.out.below hB2) (HC.out.below hB2)).mono ?_
  rintro e W3 ⟨⟨X, Y, Z, he, -, ⟨sX, sY, sZ⟩, -⟩, b3⟩
  unfold row3 at he
  subst he
  have hB3 : Below w.heap.size w W3 := hB2.trans (b3.mono hB2.size)
  have q3 := (b3.block _ (lt_of_row q1)).trans q1
  have z0 : W3.frozen? ⟨w.heap.size, 0, none⟩ = false := frozen_of_row _ _ _ _ _ q3
  have z1 : W3.frozen? ⟨w.heap.size, 1, none⟩ = false := frozen_of_row _ _ _ _ _ q3
  have z2 : W3.frozen? ⟨w.heap.size, 2, none⟩ = false := frozen_of_row _ _ _ _ _ q3
  have hone : (row3 X Y Z).all (·.oneCell') = true := by simp [row3, Value.oneCell']
  have SX : Hid (SlS W3 X) := sX
  have SY : Hid (SlS W3 Y) := sY
  have SZ : Hid (SlS W3 Z) := sZ
  clear c0 c1 c2 q1 b3 hB2 sX sY sZ
  have fx : Hid (Below w.heap.size w (W3.setRow w.heap.size (row3 X Y Z)) ∧ (W3.setRow w.heap.size (row3 X Y Z)).heap[w.heap.size]? = some (.cells (row3 X Y Z) 26 (0, 0)) ∧ (SlS (W3.setRow w.heap.size (row3 X Y Z)) X ∧ SlS (W3.setRow w.heap.size (row3 X Y Z)) Y ∧ SlS (W3.setRow w.heap.size (row3 X Y Z)) Z)) :=
    have k : ∀ s : Sl, SlS W3 s → SlS (W3.setRow w.heap.size (row3 X Y Z)) s := fun s h => ⟨⟨rows_setRow h.1.1 q3 (row3_str a b c) _, h.1.2⟩, h.2⟩
    ⟨below_setRow' hB3 (Nat.le_refl _) _, heap_setRow_same q3, k X SX.out, k Y SY.out, k Z SZ.out⟩
  go_wp2_with (refine wpList_store_row (by rfl) 26 (.tmp 1) (.tmp 14) (by rfl) w.heap.size (row3 X Y Z) (by rfl) (by rfl) 26 _ q3 (by kernel_rfl) rfl hone ?_; refine wpList_gen (fun W => Below w.heap.size w W ∧ W.heap[w.heap.size]? = some (.cells (row3 X Y Z) 26 (0, 0)) ∧ (SlS W X ∧ SlS W Y ∧ SlS W Z)) fx.out ?_; intro W4 hW4; have hB4 := hW4.1; have q4 := hW4.2.1; have S4 : Hid (SlS W4 X ∧ SlS W4 Y ∧ SlS W4 Z) := hW4.2.2; have c0 : W4.cell? ⟨w.heap.size, 0, none⟩ = some (.slice X.sp X.fs.length X.cap) := (cell_of_row _ _ _ _ _ _ q4).trans rfl; have c1 : W4.cell? ⟨w.heap.size, 1, none⟩ = some (.slice Y.sp Y.fs.length Y.cap) := (cell_of_row _ _ _ _ _ _ q4).trans rfl; have c2 : W4.cell? ⟨w.heap.size, 2, none⟩ = some (.slice Z.sp Z.fs.length Z.cap) := (cell_of_row _ _ _ _ _ _ q4).trans rfl; clear hW4 fx SX SY SZ z0 z1 z2 q3 hB3)
  refine (merge_any X Y Z W4 S4.out.1 S4.out.2.1 S4.out.2.2).mono ?_
  intro e W5 hm
  obtain ⟨⟨sf, sc, df, dc, rfl, rf, rc⟩, b5⟩ := merge_out hm
  clear hm
  have hlm := mergeR_len X.fs Y.fs Z.fs
  have HSW : Hid _ := mergeR_swap X.fs Y.fs Z.fs
  generalize hR : mergeR X.fs Y.fs Z.fs = R at rf rc hlm HSW ⊢
  clear hR
  obtain ⟨fs, cs, er⟩ := R
  dsimp only at rf rc hlm HSW ⊢
  have RF : Hid (RowsAt W5 2 Fi.cells sf fs) := rf
  have RC : Hid (RowsAt W5 7 Cl.cells sc cs) := rc
  have S5 : Hid (SlS W5 X ∧ SlS W5 Y ∧ SlS W5 Z) := ⟨⟨S4.out.1.1.below b5, S4.out.1.2⟩, ⟨S4.out.2.1.1.below b5, S4.out.2.1.2⟩, ⟨S4.out.2.2.1.below b5, S4.out.2.2.2⟩⟩
  have hB5 : Below w.heap.size w W5 := hB4.trans (b5.mono hB4.size)
  have q5 := (b5.block _ (lt_of_row q4)).trans q4
  have l5 := lt_of_row q5
  clear c0 c1 c2 rf rc S4 q4 hB4 b5
  have c0 : W5.cell? ⟨w.heap.size, 0, none⟩ = some (.slice X.sp X.fs.length X.cap) := (cell_of_row _ _ _ _ _ _ q5).trans rfl
  have c1 : W5.cell? ⟨w.heap.size, 1, none⟩ = some (.slice Y.sp Y.fs.length Y.cap) := (cell_of_row _ _ _ _ _ _ q5).trans rfl
  have c2 : W5.cell? ⟨w.heap.size, 2, none⟩ = some (.slice Z.sp Z.fs.length Z.cap) := (cell_of_row _ _ _ _ _ _ q5).trans rfl
  go_wp2_with fail
  refine calls_gen (fun W6 => Below W5.heap.size W5 W6 ∧ W6.heap[W5.heap.size]? = some (.cells #[.slice sf fs.length df] 24 (0, 0))) ⟨(Below.refl _ _).alloc (Nat.le_refl _) _, heap_alloc_new _ _⟩ ?_
  rintro W6 ⟨b6, g6⟩
  have S6 : SlS W6 X ∧ SlS W6 Y ∧ SlS W6 Z := ⟨⟨S5.out.1.1.below b6, S5.out.1.2⟩, ⟨S5.out.2.1.1.below b6, S5.out.2.1.2⟩, ⟨S5.out.2.2.1.below b6, S5.out.2.2.2⟩⟩
  refine (merge_any X Z Y W6 S6.1 S6.2.2 S6.2.1).mono ?_
  intro e W7 hm
  obtain ⟨⟨tf, tc, uf, uc, he, rf, rc⟩, b7⟩ := merge_out hm
  clear hm S6
  rw [HSW.out] at he rf rc
  dsimp only at he rf rc
  rw [List.length_map] at he
  subst he
  have b57 : Below W5.heap.size W5 W7 := b6.trans (b7.mono b6.size)
  have RF7 : Hid (RowsAt W7 2 Fi.cells sf fs) := RF.out.below b57
  have RC7 : Hid (RowsAt W7 7 Cl.cells sc cs) := RC.out.below b57
  have TF7 : Hid (RowsAt W7 2 Fi.cells tf fs) := rf
  have TC7 : Hid (RowsAt W7 7 Cl.cells tc (cs.map swapC)) := rc
  have g7 := (b7.block _ (lt_of_row g6)).trans g6
  have hB7 : Below w.heap.size w W7 := hB5.trans (b57.mono hB5.size)
  clear rf rc RF RC S5 g6 b6 b7 b57 c0 c1 c2 q5 hB5 HSW
  have d1 : W7.cell? ⟨W5.heap.size, 0, none⟩ = some (.slice sf fs.length df) := (cell_of_row _ _ _ _ _ _ g7).trans rfl
  have ld := block_lt_of_cell d1
  have her : (er != er) = false := by simp
  have hln : ((cs.length : Int) != (cs.length : Int)) = false := by simp
  go_wp2_with fail
  have b8 : Below W7.heap.size W7 (W7.alloc (.cells #[.slice tf fs.length uf] 24)) := (Below.refl _ _).alloc (Nat.le_refl _) _
  refine (tsame_any sf tf df uf fs fs _ (RF7.out.below b8) (TF7.out.below b8) (by omega)).mono ?_
  rintro e W8 ⟨rfl, b89⟩
  rw [eqAll_refl fiEq_refl fs]
  have b78 : Below W7.heap.size W7 W8 := b8.trans (b89.mono b8.size)
  have RC8 : Hid (RowsAt W8 7 Cl.cells sc cs) := RC7.out.below b78
  have TC8 : Hid (RowsAt W8 7 Cl.cells tc (cs.map swapC)) := TC7.out.below b78
  have hB8 : Below w.heap.size w W8 := hB7.trans (b78.mono hB7.size)
  clear RF7 RC7 TF7 TC7 b8 b89 b78 hB7 g7 d1 ld l5
  go_wp2
  go_loopw [55] (fun i wr => ∃ t : Nat, t ≤ cs.length ∧ i = .int .i64 t ∧ Below W8.heap.size W8 wr) (fun i _ => cs.length - (intOf i).toNat)
  case atStart => exact ⟨0, Nat.zero_le _, rfl, Below.refl _ _⟩
  case round =>
    obtain ⟨t, ht, rfl, hB⟩ := hrel
    by_cases hlt : t < cs.length
    · have hd : decide ((t : Int) < cs.length) = true := by simp; omega
      obtain ⟨b1, f1, rfl, hc1⟩ := (RC8.out.below hB) (by omega)
      obtain ⟨b2, f2, rfl, hc2⟩ := (TC8.out.below hB) (by simp; omega)
      obtain ⟨x, hx⟩ : ∃ x, cs[t]? = some x := ⟨_, List.getElem?_eq_getElem hlt⟩
      have h1 : ∀ j u, x.cells[j]? = some u → wr.cell? ⟨b1, f1 + t * 7 + j, none⟩ = some u := hc1 t x hx
      have h2 : ∀ j u, (swapC x).cells[j]? = some u → wr.cell? ⟨b2, f2 + t * 7 + j, none⟩ = some u := hc2 t (swapC x) (by rw [List.getElem?_map, hx]; rfl)
      have H1 : Hid _ := h1
      have H2 : Hid _ := h2
      have HO : Hid ((swapC x).cells.all (·.oneCell') = true) := cl_one _
      clear hc1 hc2 h1 h2 hx
      go_wp2_with (first
        | (refine load_mid (by rfl) 40 (.tmp 58) (by rfl) b2 (f2 + t * 7) (by rfl) (swapC x).cells _ H2.out Try.underlying40 rfl (by kernel_rfl) ?_)
        | (refine wpList_store_row (by rfl) 40 (.tmp 10) (.tmp 59) (by rfl) wr.heap.size (swapC x).cells (by rfl) (by rfl) 40 _ (heap_alloc_new _ _) (by kernel_rfl) rfl HO.out ?_; refine wpList_gen (fun W => Below wr.heap.size wr W ∧ W.heap[wr.heap.size]? = some (.cells (swapC x).cells 40 (0, 0))) ⟨below_setRow' ((Below.refl _ _).alloc (Nat.le_refl _) _) (Nat.le_refl _) _, heap_setRow_same (heap_alloc_new _ _)⟩ ?_; intro W9 hW9; have b9 := hW9.1; have q9 := hW9.2; have u1 : W9.cell? ⟨wr.heap.size, 2, none⟩ = some (.string x.s.t.value) := (cell_of_row _ _ _ _ _ _ q9).trans rfl; have u2 : W9.cell? ⟨wr.heap.size, 3, none⟩ = some (.string x.s.o.value) := (cell_of_row _ _ _ _ _ _ q9).trans rfl; have u3 : W9.cell? ⟨wr.heap.size, 5, none⟩ = some (.bool x.s.t.there) := (cell_of_row _ _ _ _ _ _ q9).trans rfl; have u4 : W9.cell? ⟨wr.heap.size, 6, none⟩ = some (.bool x.s.o.there) := (cell_of_row _ _ _ _ _ _ q9).trans rfl; have z1 : W9.frozen? ⟨wr.heap.size, 2, none⟩ = false := frozen_of_row _ _ _ _ _ q9; have z2 : W9.frozen? ⟨wr.heap.size, 3, none⟩ = false := frozen_of_row _ _ _ _ _ q9; have z3 : W9.frozen? ⟨wr.heap.size, 5, none⟩ = false := frozen_of_row _ _ _ _ _ q9; have z4 : W9.frozen? ⟨wr.heap.size, 6, none⟩ = false := frozen_of_row _ _ _ _ _ q9; clear hW9))
      refine wp_gen (fun W => Below wr.heap.size wr W ∧ W.heap[wr.heap.size]? = some (.cells x.cells 40 (0, 0))) ⟨(((b9.setCell (p := ⟨wr.heap.size, 2, none⟩) (Nat.le_refl _) _).setCell (p := ⟨wr.heap.size, 3, none⟩) (Nat.le_refl _) _).setCell (p := ⟨wr.heap.size, 5, none⟩) (Nat.le_refl _) _).setCell (p := ⟨wr.heap.size, 6, none⟩) (Nat.le_refl _) _, heap_setCell_same _ _ 6 _ _ _ (heap_setCell_same _ _ 5 _ _ _ (heap_setCell_same _ _ 3 _ _ _ (heap_setCell_same _ _ 2 _ _ _ q9)))⟩ ?_
      rintro WA ⟨bA, qA⟩
      clear u1 u2 u3 u4 z1 z2 z3 z4 q9 b9 HO
      have e1 : ∀ m, (loadVar 40 ⟨wr.heap.size, 0, none⟩).run Try.prog (WA.drewN m) = .ok (.agg x.cells) (WA.drewN m) := fun m => run_loadVar_row _ _ 40 40 x.cells (0, 0) _ qA Try.underlying40 rfl (by kernel_rfl)
      have e2 : ∀ m, (loadVar 40 ⟨b1, f1 + t * 7, none⟩).run Try.prog (WA.drewN m) = .ok (.agg x.cells) (WA.drewN m) := fun m => run_mid (fun j u hu => (bA.cell (p := ⟨b1, f1 + t * 7 + j, none⟩) (block_lt_of_cell (H1.out j u hu))).trans (H1.out j u hu)) Try.underlying40 rfl (by kernel_rfl)
      have heq := equal_cl x x
      rw [clEq_refl x] at heq
      clear H1 H2 qA
      refine wp_region_quiet_lit (by kernel_rfl) (by kernel_rfl) ?_
      refine quiet_load (.agg x.cells) 40 (.tmp 10) ⟨wr.heap.size, 0, none⟩ (by rfl) (by rintro _ ⟨m, rfl⟩; exact e1 m) ?_
      simp only [List.setIfInBounds_toArray, List.set_cons_succ, List.set_cons_zero]
      repeat (go_big_quiet_step (fail))
      refine quiet_load (.agg x.cells) 40 (.tmp 75) ⟨b1, f1 + t * 7, none⟩ (by rfl) (by rintro _ ⟨m, rfl⟩; exact e2 m) ?_
      simp only [List.setIfInBounds_toArray, List.set_cons_succ, List.set_cons_zero]
      repeat (go_big_quiet_step (fail))
      refine wpQuiet_nil ?_
      rintro _ ⟨nq, rfl⟩
      clear e1 e2 heq
      go_wp2
      go_roundw
      case rel => exact ⟨t + 1, by omega, by go_num, hB.trans ((bA.trans (below_drawn' _ nq)).mono hB.size)⟩
      case measure => simp [intOf]; omega
    · have hd : decide ((t : Int) < cs.length) = false := by simp; omega
      go_wp2
      go_ret
      exact ⟨rfl, hB8.trans (hB.mono hB8.size)⟩
end Go.Proofs.Ytmbnbehlfbdpnaa
