/- The law RefsHold answers true. -/
import Derived.Test.YtgfjjglejlnfbaaGreatDoorFiG
import Derived.Test.YtgfjjglejlnfbaaGreatDoorMrgF
namespace Go.Proofs.YtgfjjglejlnfbaaGreatDoor
open Go.RowKit Go.Maps

theorem OwnR.caps {B : Nat} {w : World} {sp : Option Addr} {n cap : Nat} {xs : List Re} (h : OwnR B w (.slice sp n cap) xs) : xs.length ≤ cap ∧ cap ≤ 9223372036854775807 := by
  rcases h.2 with ⟨e, h0⟩ | ⟨g, cap', cur, e, h1, h2, h3, h4, h5, h6⟩
  · injection e with e1 e2 e3
    subst e3
    exact ⟨by omega, by omega⟩
  · injection e with e1 e2 e3
    subst e3
    exact ⟨h3, h4⟩
theorem bad_parts {rs : List Re} {m : Mv} (h : badX rs m = false) : refsB rs = true ∧ nameB m.name = true ∧ (noneB m.frm && noneB m.to) = false := by
  unfold badX at h
  simp only [Bool.or_eq_false_iff, Bool.not_eq_false'] at h
  exact ⟨h.1, h.2.1, h.2.2⟩
theorem name_full {s : ByteArray} (h : nameB s = true) : s.data.toList ≠ [] := by
  intro e
  simp only [nameB, Bool.and_eq_true, decide_eq_true_eq] at h
  have h1 := h.1.1.1.2
  have h2 : s.data.toList.length = s.size := by simp
  rw [e] at h2
  have h3 : s.size = 0 := h2.symm
  omega
section
variable {rs : List Re} {m : Mv} {k : Nat}
theorem get_kept (h1 : refsB rs = true) (h2 : nameB m.name = true) (hk : PartsR rs m.name k) (hm : movX rs m k (foundR rs m.name k) = 0) {b : Re} (hb : b ∈ rs) (hbn : b.name ≠ m.name) {e : Ending} (he : GetX (applyL rs m k (foundR rs m.name k)) b.name e) : e = .returned (.tuple #[.agg (arr .u8 32 b.id), .int .i64 0]) := by
  have hrx := refs_apply h1 h2 (name_full h2) hk hm
  have hbx := keep_apply (k := k) hb hbn
  rcases he with ⟨h, -⟩ | ⟨-, h, -⟩ | ⟨-, f, hf, hfn, h⟩
  · rw [hrx] at h; cases h
  · exact absurd rfl (h b hbx)
  · rw [h, up_uniq (upR_of hrx).1 hf hbx hfn]
theorem get_moved (h1 : refsB rs = true) (h2 : nameB m.name = true) (hk : PartsR rs m.name k) (hm : movX rs m k (foundR rs m.name k) = 0) {e : Ending} (he : GetX (applyL rs m k (foundR rs m.name k)) m.name e) : (noneB m.to = true ∧ e = .returned (.tuple #[.agg (arr .u8 32 noId), .int .i64 4])) ∨ (noneB m.to = false ∧ e = .returned (.tuple #[.agg (arr .u8 32 m.to), .int .i64 0])) := by
  have hrx := refs_apply h1 h2 (name_full h2) hk hm
  rcases he with ⟨h, -⟩ | ⟨-, h, he⟩ | ⟨-, f, hf, hfn, he⟩
  · rw [hrx] at h; cases h
  · left
    cases hn : noneB m.to
    · exact absurd rfl (h _ (there_apply hn))
    · exact ⟨rfl, he⟩
  · right
    cases hn : noneB m.to
    · refine ⟨rfl, ?_⟩
      rw [he, up_uniq (upR_of hrx).1 hf (there_apply hn) hfn]
    · exact absurd hfn (gone_apply (upR_of h1).1 hk hn f hf)
theorem apply_back (h1 : refsB rs = true) (h2 : nameB m.name = true) (h3 : (noneB m.frm && noneB m.to) = false) (hk : PartsR rs m.name k) (hm : movX rs m k (foundR rs m.name k) = 0) {B : Nat} {e : Ending} {W : World} (he : ApplyX (applyL rs m k (foundR rs m.name k)) (backM m) B e W) : ∃ v ys, e = .returned (.tuple #[.agg #[v], .int .i64 0]) ∧ OwnR B W v ys ∧ ys.length ≤ 1000000 ∧ eqAll reEq ys rs = true := by
  have hrx := refs_apply h1 h2 (name_full h2) hk hm
  have hu := (upR_of h1).1
  have hbd : badX (applyL rs m k (foundR rs m.name k)) (backM m) = false := by
    unfold badX backM
    rw [hrx, h2]
    simp only [Bool.not_true, Bool.false_or]
    rw [Bool.and_comm]
    exact h3
  obtain ⟨k', hk', -, hz⟩ := he.2 hbd
  obtain rfl : k' = k := parts_one hk' (parts_apply hu hk)
  have hmz := back_mov h1 hk h3 hm
  obtain ⟨v, q1, q2⟩ := hz hmz
  have hs := back_same hk hm
  have hff : foundR (applyL rs m k' (foundR rs m.name k')) (backM m).name k' = !(noneB m.to) := found_apply hu hk
  rw [hff] at q2
  refine ⟨v, _, q1, q2, ?_, hs⟩
  have := eqAll_len hs
  have := (upR_of h1).2
  omega
end
theorem build_back (m : Mv) (W : World) : (Instr.build 28 [(0, .string m.name), (1, .agg (arr .u8 32 m.to)), (2, .agg (arr .u8 32 m.frm))].toArray).run Tryz.prog W = .ok (.agg (backM m).cells) W := by kernel_rfl
/-- What the law leans on. -/
structure HolA (w W : World) (sp : Option Addr) (cap : Nat) (rs : List Re) (m : Mv) : Prop where
  below : Below w.heap.size w W
  r2 : W.heap[w.heap.size]? = some (.cells #[.slice sp rs.length cap] 24 (0, 0))
  r3 : W.heap[w.heap.size + 1]? = some (.cells m.cells 28 (0, 0))
  hr : RowsAt W 33 Re.cells sp rs
theorem HolA.grow {w W W' : World} {sp : Option Addr} {cap : Nat} {rs : List Re} {m : Mv} (h : HolA w W sp cap rs m) (hb : Below W.heap.size W W') : HolA w W' sp cap rs m :=
  ⟨h.below.trans (hb.mono h.below.size), (hb.block _ (lt_of_row h.r2)).trans h.r2, (hb.block _ (lt_of_row h.r3)).trans h.r3, RowsAt.below h.hr hb⟩
structure HolB (w W : World) (sp : Option Addr) (cap : Nat) (rs : List Re) (m : Mv) (g5 : Nat) (sx : Option Addr) (cx : Nat) (xs : List Re) : Prop where
  a : HolA w W sp cap rs m
  r5 : W.heap[g5]? = some (.cells #[.slice sx xs.length cx] 24 (0, 0))
  hx : RowsAt W 33 Re.cells sx xs
theorem HolB.grow {w W W' : World} {sp : Option Addr} {cap : Nat} {rs : List Re} {m : Mv} {g5 : Nat} {sx : Option Addr} {cx : Nat} {xs : List Re} (h : HolB w W sp cap rs m g5 sx cx xs) (hb : Below W.heap.size W W') : HolB w W' sp cap rs m g5 sx cx xs :=
  ⟨h.a.grow hb, (hb.block _ (lt_of_row h.r5)).trans h.r5, RowsAt.below h.hx hb⟩
set_option pp.deepTerms.threshold 2000 in
set_option maxRecDepth 100000 in
set_option maxHeartbeats 8000000 in
theorem refsHold_all (sp : Option Addr) (cap : Nat) (rs : List Re) (m : Mv) (w : World) (hT : Tab w kF hS) (hr : RowsAt w 33 Re.cells sp rs) (hn : sp = none → rs.length = 0 ∧ cap = 0) (hcap : rs.length ≤ cap) (hcap' : cap ≤ 9223372036854775807) (hrl : rs.length ≤ 9223372036854775807) :
    Calls Tryz.prog 7 #[.agg #[.slice sp rs.length cap], .agg m.cells] w fun e w' => e = .returned (.bool true) ∧ Below w.heap.size w w' := by
  have HT : Hid (Tab w kF hS) := hT
  have HR : Hid (RowsAt w 33 Re.cells sp rs) := hr
  have HN : Hid (sp = none → rs.length = 0 ∧ cap = 0) := hn
  clear hT hr hn
  go_enter Tryz.func7, Tryz.ntmps7
  go_wp2_with fail
  refine calls_gen (fun W => HolA w W sp cap rs m) ?_ ?_
  · have n1 := heap_alloc_new (w.alloc (.cells #[.slice sp rs.length cap] 24)) (.cells m.cells 28)
    simp only [World.size_alloc] at n1
    have b2 : Below w.heap.size w ((w.alloc (.cells #[.slice sp rs.length cap] 24)).alloc (.cells m.cells 28)) := ((Below.refl _ _).alloc (Nat.le_refl _) _).alloc (by simp) _
    exact ⟨b2, (Below.heap_alloc _ _ _ (by simp)).trans (heap_alloc_new _ _), n1, RowsAt.below HR.out b2⟩
  intro W1 hW1
  refine (wakes9_any W1 (HT.out.below hW1.below)).mono ?_
  rintro e W2 ⟨rfl, b2⟩
  have A2 : Hid (HolA w W2 sp cap rs m) := hW1.grow b2
  clear hW1 b2
  have c2 : W2.cell? ⟨w.heap.size, 0, none⟩ = some (.slice sp rs.length cap) := (cell_of_row _ _ _ _ _ _ A2.out.r2).trans rfl
  have R3 : Hid (W2.heap[w.heap.size + 1]? = some (.cells m.cells 28 (0, 0))) := A2.out.r3
  by_cases h100 : 100 < rs.length
  · have hd : decide ((rs.length : Int) > 100) = true := by simp; omega
    go_wp2
    go_ret
    exact ⟨rfl, A2.out.below⟩
  have hd : decide ((rs.length : Int) > 100) = false := by simp; omega
  go_wp2_with (refine wpList_load_row (by rfl) 28 (.tmp 3) (by rfl) (w.heap.size + 1) (by rfl) 28 m.cells (0, 0) _ R3.out Tryz.underlying28 rfl (by rw [m.size]; kernel_rfl) ?_)
  refine (xapply_any sp cap rs m W2 A2.out.hr HN.out hcap hcap' (by omega)).mono ?_
  rintro e W3 ⟨⟨hbad, hgood⟩, b3⟩
  have A3 : Hid (HolA w W3 sp cap rs m) := A2.out.grow b3
  clear c2 R3 A2
  cases hbx : badX rs m
  rotate_left
  · obtain rfl := hbad hbx
    clear hgood hbad hbx b3
    go_wp2
    go_ret
    exact ⟨rfl, A3.out.below.alloc A3.out.below.size _⟩
  obtain ⟨k, hk, hne, hok⟩ := hgood hbx
  by_cases hmv : movX rs m k (foundR rs m.name k) = 0
  rotate_left
  · obtain rfl := hne hmv
    have hmv' : (movX rs m k (foundR rs m.name k) != 0) = true := by simpa using hmv
    clear hne hok hgood hbad
    generalize movX rs m k (foundR rs m.name k) = er at *
    go_wp2
    go_ret
    exact ⟨rfl, A3.out.below.alloc A3.out.below.size _⟩
  obtain ⟨v, rfl, hO3⟩ := hok hmv
  obtain ⟨bad1, bad2, bad3⟩ := bad_parts hbx
  have GET1 : Hid (∀ b ∈ rs, b.name ≠ m.name → ∀ e, GetX (applyL rs m k (foundR rs m.name k)) b.name e → e = .returned (.tuple #[.agg (arr .u8 32 b.id), .int .i64 0])) := fun b hb hbn e he => get_kept bad1 bad2 hk hmv hb hbn he
  have GET2 : Hid (∀ e, GetX (applyL rs m k (foundR rs m.name k)) m.name e → (noneB m.to = true ∧ e = .returned (.tuple #[.agg (arr .u8 32 noId), .int .i64 4])) ∨ (noneB m.to = false ∧ e = .returned (.tuple #[.agg (arr .u8 32 m.to), .int .i64 0]))) := fun e he => get_moved bad1 bad2 hk hmv he
  have APP2 : Hid (∀ B e W, ApplyX (applyL rs m k (foundR rs m.name k)) (backM m) B e W → ∃ v ys, e = .returned (.tuple #[.agg #[v], .int .i64 0]) ∧ OwnR B W v ys ∧ ys.length ≤ 1000000 ∧ eqAll reEq ys rs = true) := fun B e W he => apply_back bad1 bad2 bad3 hk hmv he
  have hxl : (applyL rs m k (foundR rs m.name k)).length ≤ 8 := (upR_of (refs_apply bad1 bad2 (name_full bad2) hk hmv)).2
  clear hok hne hgood hbad hbx bad1 bad2 bad3 hk hmv
  generalize applyL rs m k (foundR rs m.name k) = xs at *
  obtain ⟨sx, cx, rfl, hRx, hnx⟩ := OwnR.rows hO3
  have hcx := OwnR.caps hO3
  have HNX : Hid (sx = none → xs.length = 0 ∧ cx = 0) := hnx
  have HRX : Hid (RowsAt W3 33 Re.cells sx xs) := hRx
  obtain ⟨hcx1, hcx2⟩ := hcx
  have hl2 : w.heap.size < W3.heap.size := lt_of_row A3.out.r2
  have hn2 : ¬ w.heap.size = W3.heap.size := by omega
  have c2 : W3.cell? ⟨w.heap.size, 0, none⟩ = some (.slice sp rs.length cap) := (cell_of_row _ _ _ _ _ _ A3.out.r2).trans rfl
  clear hO3 hnx hRx b3
  go_wp2
  obtain ⟨g5, hg5⟩ : ∃ g, W3.heap.size = g := ⟨_, rfl⟩
  refine wp_gen (fun W => HolB w W sp cap rs m g5 sx cx xs) ⟨A3.out.grow ((Below.refl _ _).alloc (Nat.le_refl _) _), by rw [← hg5]; exact heap_alloc_new _ _, RowsAt.below HRX.out ((Below.refl _ _).alloc (Nat.le_refl _) _)⟩ ?_
  rw [hg5]
  clear hg5 hl2 hn2 c2 A3 HRX
  intro W4 hW4
  have B4 : Hid (HolB w W4 sp cap rs m g5 sx cx xs) := hW4
  clear hW4
  go_loopw [34] (fun i wr => ∃ t : Nat, t ≤ rs.length ∧ i = .int .i64 t ∧ Below W4.heap.size W4 wr) (fun i _ => rs.length - (intOf i).toNat)
  case atStart => exact ⟨0, Nat.zero_le _, rfl, Below.refl _ _⟩
  case round =>
    obtain ⟨t, ht, rfl, hb⟩ := hrel
    have HB : Hid (Below W4.heap.size W4 wr) := hb
    have BR : Hid (HolB w wr sp cap rs m g5 sx cx xs) := B4.out.grow hb
    clear hb
    by_cases hlt : t < rs.length
    · have hd1 : decide ((t : Int) < rs.length) = true := by simp; omega
      obtain ⟨b, o, rfl, hc⟩ := BR.out.a.hr (by omega)
      obtain ⟨y, hy⟩ : ∃ y, rs[t]? = some y := ⟨_, List.getElem?_eq_getElem hlt⟩
      have HE : Hid (∀ j u, y.cells[j]? = some u → wr.cell? ⟨b, o + t * 33 + j, none⟩ = some u) := fun j u hu => hc t y hy j u hu
      have HY : Hid (y ∈ rs) := List.mem_of_getElem? hy
      clear hc hy
      by_cases hyn : y.name = m.name
      · have hyn' : (y.name.toList == m.name.toList) = true := by rw [hyn]; simp
        go_wp2_with (first
          | (refine load_mid (by rfl) 92 (.tmp 36) (by rfl) b (o + t * 33) (by rfl) y.cells _ HE.out Tryz.underlying92 rfl (by rw [y.size]; kernel_rfl) ?_)
          | (refine wpList_store_row (by rfl) 92 (.tmp 8) (.tmp 37) (by rfl) wr.heap.size y.cells (by rfl) (by rfl) 92 _ (heap_alloc_new _ _) (by rw [y.size]; kernel_rfl) (by rw [y.size]; rfl) (re_one y) ?_; refine wpList_gen (fun W => Below wr.heap.size wr W ∧ W.heap[wr.heap.size]? = some (.cells y.cells 92 (0, 0))) ⟨below_setRow' ((Below.refl _ _).alloc (Nat.le_refl _) _) (Nat.le_refl _) _, heap_setRow_same (heap_alloc_new _ _)⟩ ?_; intro W5 hW5; have HW5 : Hid (Below wr.heap.size wr W5) := hW5.1; have q8 : W5.cell? ⟨wr.heap.size, 0, none⟩ = some (.string y.name) := (cell_of_row _ _ _ _ _ _ hW5.2).trans y.cell0; have q3 : W5.cell? ⟨w.heap.size + 1, 0, none⟩ = some (.string m.name) := (cell_of_row _ _ _ _ _ _ (BR.out.grow hW5.1).a.r3).trans m.cell0; clear hW5))
        exact ⟨⟨t + 1, by omega, by go_num, HB.out.trans (HW5.out.mono HB.out.size)⟩, by simp [intOf]; omega⟩
      · have hyn' : (y.name.toList == m.name.toList) = false := by
          rw [beq_eq_false_iff_ne, bytes_list, bytes_list]
          exact fun e => hyn (name_of_list e)
        have HG : Hid (∀ W, Below wr.heap.size wr W → Calls Tryz.prog 14 #[.agg #[.slice sx xs.length cx], .string y.name] W fun e w' => e = .returned (.tuple #[.agg (arr .u8 32 y.id), .int .i64 0]) ∧ Below W.heap.size W w') := fun W h => (xget_any sx cx xs y.name W (BR.out.grow h).hx (by omega)).mono fun e w' hh => ⟨GET1.out y HY.out hyn e hh.1, hh.2⟩
        have heqq : ∀ W, (Op.equalIn 10000 26 (.agg (arr .u8 32 y.id)) (.agg (arr .u8 32 y.id))).run Tryz.prog W = .ok true W := fun W => eq_self_id W y.id
        go_wp2_with (first
          | (refine load_mid (by rfl) 92 (.tmp 36) (by rfl) b (o + t * 33) (by rfl) y.cells _ HE.out Tryz.underlying92 rfl (by rw [y.size]; kernel_rfl) ?_)
          | (refine wpList_store_row (by rfl) 92 (.tmp 8) (.tmp 37) (by rfl) wr.heap.size y.cells (by rfl) (by rfl) 92 _ (heap_alloc_new _ _) (by rw [y.size]; kernel_rfl) (by rw [y.size]; rfl) (re_one y) ?_; refine wpList_gen (fun W => Below wr.heap.size wr W ∧ W.heap[wr.heap.size]? = some (.cells y.cells 92 (0, 0))) ⟨below_setRow' ((Below.refl _ _).alloc (Nat.le_refl _) _) (Nat.le_refl _) _, heap_setRow_same (heap_alloc_new _ _)⟩ ?_; intro W5 hW5; have HW5 : Hid (Below wr.heap.size wr W5) := hW5.1; have R8 : Hid (W5.heap[wr.heap.size]? = some (.cells y.cells 92 (0, 0))) := hW5.2; have q8 : W5.cell? ⟨wr.heap.size, 0, none⟩ = some (.string y.name) := (cell_of_row _ _ _ _ _ _ hW5.2).trans y.cell0; have q3 : W5.cell? ⟨w.heap.size + 1, 0, none⟩ = some (.string m.name) := (cell_of_row _ _ _ _ _ _ (BR.out.grow hW5.1).a.r3).trans m.cell0; have q5 : W5.cell? ⟨g5, 0, none⟩ = some (.slice sx xs.length cx) := (cell_of_row _ _ _ _ _ _ (BR.out.grow hW5.1).r5).trans rfl; clear hW5)
          | (go_at_call 14; refine (HG.out _ HW5.out).mono ?_; rintro e W6 ⟨rfl, b6⟩; have HW6 : Hid (Below wr.heap.size wr W6) := HW5.out.trans (b6.mono HW5.out.size); have R8b : Hid (W6.heap[wr.heap.size]? = some (.cells y.cells 92 (0, 0))) := (b6.block _ (lt_of_row R8.out)).trans R8.out; clear b6 R8 q8 q3 q5)
          | (refine wpList_store_row (by rfl) 26 (.tmp 9) (.tmp 48) (by rfl) W6.heap.size (arr .u8 32 y.id) (by rfl) (by rfl) 26 _ (heap_alloc_new _ _) (by rw [arr_size]; kernel_rfl) (by rw [arr_size]; rfl) (arr_one _ _ _) ?_; refine wpList_gen (fun W => Below W6.heap.size W6 W ∧ W.heap[W6.heap.size]? = some (.cells (arr .u8 32 y.id) 26 (0, 0))) ⟨below_setRow' ((Below.refl _ _).alloc (Nat.le_refl _) _) (Nat.le_refl _) _, heap_setRow_same (heap_alloc_new _ _)⟩ ?_; intro W7 hW7; have HW7 : Hid (Below wr.heap.size wr W7) := HW6.out.trans (hW7.1.mono HW6.out.size); have H9 : Hid (∀ i, i < 32 → W7.cell? ⟨W6.heap.size, 0 + i, none⟩ = some (.int .u8 (y.id i))) := (fun i hi => (cell_of_row _ _ _ _ _ _ hW7.2).trans (by rw [Nat.zero_add]; exact arr_get hi)); have H8 : Hid (∀ i, i < 32 → W7.cell? ⟨wr.heap.size, 0 + 1 + i, none⟩ = some (.int .u8 (y.id i))) := (fun i hi => (cell_of_row _ _ _ _ _ _ ((hW7.1.block _ (lt_of_row R8b.out)).trans R8b.out)).trans (by rw [Nat.zero_add]; exact y.cellId i hi)); clear hW7)
          | (refine load_atg (by rfl) 26 (.tmp 9) (by rfl) W6.heap.size 0 (by rfl) .u8 32 y.id _ H9.out Tryz.underlying26 rfl (by kernel_rfl) ?_)
          | (refine load_atg (by rfl) 26 (.tmp 54) (by rfl) wr.heap.size (0 + 1) (by rfl) .u8 32 y.id _ H8.out Tryz.underlying26 rfl (by kernel_rfl) ?_))
        exact ⟨⟨t + 1, by omega, by go_num, HB.out.trans (HW7.out.mono HB.out.size)⟩, by simp [intOf]; omega⟩
    · have hd1 : decide ((t : Int) < rs.length) = false := by simp; omega
      have q3 : wr.cell? ⟨w.heap.size + 1, 0, none⟩ = some (.string m.name) := (cell_of_row _ _ _ _ _ _ BR.out.a.r3).trans m.cell0
      have q5 : wr.cell? ⟨g5, 0, none⟩ = some (.slice sx xs.length cx) := (cell_of_row _ _ _ _ _ _ BR.out.r5).trans rfl
      have HBI : Hid _ := build_no
      have HBB : Hid _ := build_back m
      go_wp2_with fail
      refine (xget_any sx cx xs m.name wr BR.out.hx (by omega)).mono ?_
      rintro e W5 ⟨hG5, b5⟩
      have B5 : Hid (HolB w W5 sp cap rs m g5 sx cx xs) := BR.out.grow b5
      clear q3 q5 b5 HB BR B4
      rcases GET2.out e hG5 with ⟨hno, rfl⟩ | ⟨hno, rfl⟩
      · have heq1 : ∀ W, (Op.equalIn 10000 26 (.agg (arr .u8 32 m.to)) (.agg (arr .u8 32 noId))).run Tryz.prog W = .ok true W := fun W => by rw [equal_id m.to noId W]; exact congrArg (fun z => Result.ok z W) hno
        have heq2 : ∀ W, (Op.equalIn 10000 26 (.agg (arr .u8 32 noId)) (.agg (arr .u8 32 m.to))).run Tryz.prog W = .ok true W := fun W => by rw [equal_id noId m.to W]; exact congrArg (fun z => Result.ok z W) ((eqTo_comm _ _ _).trans hno)
        clear hno
        go_wp2_with (first
          | (refine wpList_store_row (by rfl) 26 (.tmp 11) (.tmp 64) (by rfl) W5.heap.size (arr .u8 32 noId) (by rfl) (by rfl) 26 _ (heap_alloc_new _ _) (by rw [arr_size]; kernel_rfl) (by rw [arr_size]; rfl) (arr_one _ _ _) ?_; refine wpList_gen (fun W => Below W5.heap.size W5 W ∧ W.heap[W5.heap.size]? = some (.cells (arr .u8 32 noId) 26 (0, 0))) ⟨below_setRow' ((Below.refl _ _).alloc (Nat.le_refl _) _) (Nat.le_refl _) _, heap_setRow_same (heap_alloc_new _ _)⟩ ?_; intro W6 hW6; have B6 : Hid (HolB w W6 sp cap rs m g5 sx cx xs) := B5.out.grow hW6.1; have H11 : Hid (∀ i, i < 32 → W6.cell? ⟨W5.heap.size, 0 + i, none⟩ = some (.int .u8 (noId i))) := (fun i hi => (cell_of_row _ _ _ _ _ _ hW6.2).trans (by rw [Nat.zero_add]; exact arr_get hi)); have HTO : Hid (∀ i, i < 32 → W6.cell? ⟨w.heap.size + 1, 0 + 33 + i, none⟩ = some (.int .u8 (m.to i))) := (fun i hi => (cell_of_row _ _ _ _ _ _ B6.out.a.r3).trans (by rw [Nat.zero_add]; exact m.cellT i hi)); have HFR : Hid (∀ i, i < 32 → W6.cell? ⟨w.heap.size + 1, 0 + 1 + i, none⟩ = some (.int .u8 (m.frm i))) := (fun i hi => (cell_of_row _ _ _ _ _ _ B6.out.a.r3).trans (by rw [Nat.zero_add]; exact m.cellF i hi)); have q3 : W6.cell? ⟨w.heap.size + 1, 0, none⟩ = some (.string m.name) := (cell_of_row _ _ _ _ _ _ B6.out.a.r3).trans m.cell0; have q5 : W6.cell? ⟨g5, 0, none⟩ = some (.slice sx xs.length cx) := (cell_of_row _ _ _ _ _ _ B6.out.r5).trans rfl; clear hW6)
          | (refine load_at (by rfl) 26 (.tmp 66) (by rfl) (w.heap.size + 1) (0 + 33) (by rfl) .u8 32 m.to _ HTO.out Tryz.underlying26 rfl (by kernel_rfl) ?_)
          | (refine wpList_build (by rfl) 26 _ (by rfl) [] (by rfl) (.agg (arr .u8 32 noId)) (HBI.out _) ?_)
          | (refine load_atg (by rfl) 26 (.tmp 11) (by rfl) W5.heap.size 0 (by rfl) .u8 32 noId _ H11.out Tryz.underlying26 rfl (by kernel_rfl) ?_)
          | (refine load_atg (by rfl) 26 (.tmp 75) (by rfl) (w.heap.size + 1) (0 + 33) (by rfl) .u8 32 m.to _ HTO.out Tryz.underlying26 rfl (by kernel_rfl) ?_)
          | (refine load_at (by rfl) 26 (.tmp 83) (by rfl) (w.heap.size + 1) (0 + 33) (by rfl) .u8 32 m.to _ HTO.out Tryz.underlying26 rfl (by kernel_rfl) ?_)
          | (refine load_at (by rfl) 26 (.tmp 85) (by rfl) (w.heap.size + 1) (0 + 1) (by rfl) .u8 32 m.frm _ HFR.out Tryz.underlying26 rfl (by kernel_rfl) ?_)
          | (refine wpList_build (by rfl) 28 _ (by rfl) [(0, .string m.name), (1, .agg (arr .u8 32 m.to)), (2, .agg (arr .u8 32 m.frm))] (by rfl) (.agg (backM m).cells) (HBB.out _) ?_))
        refine (xapply_any sx cx xs (backM m) W6 B6.out.hx HNX.out hcx1 hcx2 (by omega)).mono ?_
        rintro e W7 ⟨hA7, b7⟩
        obtain ⟨v7, ys, rfl, hO7, hyl, hys⟩ := APP2.out _ _ _ hA7
        obtain ⟨sy, cy, rfl, hRy, -⟩ := OwnR.rows hO7
        have B7 : Hid (HolB w W7 sp cap rs m g5 sx cx xs) := B6.out.grow b7
        have HRY : Hid (RowsAt W7 33 Re.cells sy ys) := hRy
        have HYS : Hid (eqAll reEq ys rs = true) := hys
        have c2 : W7.cell? ⟨w.heap.size, 0, none⟩ = some (.slice sp rs.length cap) := (cell_of_row _ _ _ _ _ _ B7.out.a.r2).trans rfl
        have hl2 : w.heap.size < W7.heap.size := lt_of_row B7.out.a.r2
        have hn2 : ¬ w.heap.size = W7.heap.size := by omega
        clear hA7 b7 hO7 hRy hys q3 q5 heq1 heq2
        go_wp2_with fail
        have bA : Below W7.heap.size W7 (W7.alloc (.cells #[.slice sy ys.length cy] 24)) := (Below.refl _ _).alloc (Nat.le_refl _) _
        refine (xsame_any sy sp cy cap ys rs _ (RowsAt.below HRY.out bA) (B7.out.grow bA).a.hr (by omega)).mono ?_
        rintro e W8 ⟨rfl, b8⟩
        rw [HYS.out]
        have F8 : Hid (Below w.heap.size w W8) := ((B7.out.grow bA).grow b8).a.below
        clear bA b8 c2 hl2 hn2
        go_wp2
        go_ret
        exact ⟨rfl, F8.out⟩
      · have heq1 : ∀ W, (Op.equalIn 10000 26 (.agg (arr .u8 32 m.to)) (.agg (arr .u8 32 noId))).run Tryz.prog W = .ok false W := fun W => by rw [equal_id m.to noId W]; exact congrArg (fun z => Result.ok z W) hno
        have heq2 : ∀ W, (Op.equalIn 10000 26 (.agg (arr .u8 32 m.to)) (.agg (arr .u8 32 m.to))).run Tryz.prog W = .ok true W := fun W => by rw [equal_id m.to m.to W]; exact congrArg (fun z => Result.ok z W) (eqTo_self _ _)
        clear hno
        go_wp2_with (first
          | (refine wpList_store_row (by rfl) 26 (.tmp 11) (.tmp 64) (by rfl) W5.heap.size (arr .u8 32 m.to) (by rfl) (by rfl) 26 _ (heap_alloc_new _ _) (by rw [arr_size]; kernel_rfl) (by rw [arr_size]; rfl) (arr_one _ _ _) ?_; refine wpList_gen (fun W => Below W5.heap.size W5 W ∧ W.heap[W5.heap.size]? = some (.cells (arr .u8 32 m.to) 26 (0, 0))) ⟨below_setRow' ((Below.refl _ _).alloc (Nat.le_refl _) _) (Nat.le_refl _) _, heap_setRow_same (heap_alloc_new _ _)⟩ ?_; intro W6 hW6; have B6 : Hid (HolB w W6 sp cap rs m g5 sx cx xs) := B5.out.grow hW6.1; have H11 : Hid (∀ i, i < 32 → W6.cell? ⟨W5.heap.size, 0 + i, none⟩ = some (.int .u8 (m.to i))) := (fun i hi => (cell_of_row _ _ _ _ _ _ hW6.2).trans (by rw [Nat.zero_add]; exact arr_get hi)); have HTO : Hid (∀ i, i < 32 → W6.cell? ⟨w.heap.size + 1, 0 + 33 + i, none⟩ = some (.int .u8 (m.to i))) := (fun i hi => (cell_of_row _ _ _ _ _ _ B6.out.a.r3).trans (by rw [Nat.zero_add]; exact m.cellT i hi)); have HFR : Hid (∀ i, i < 32 → W6.cell? ⟨w.heap.size + 1, 0 + 1 + i, none⟩ = some (.int .u8 (m.frm i))) := (fun i hi => (cell_of_row _ _ _ _ _ _ B6.out.a.r3).trans (by rw [Nat.zero_add]; exact m.cellF i hi)); have q3 : W6.cell? ⟨w.heap.size + 1, 0, none⟩ = some (.string m.name) := (cell_of_row _ _ _ _ _ _ B6.out.a.r3).trans m.cell0; have q5 : W6.cell? ⟨g5, 0, none⟩ = some (.slice sx xs.length cx) := (cell_of_row _ _ _ _ _ _ B6.out.r5).trans rfl; clear hW6)
          | (refine load_at (by rfl) 26 (.tmp 66) (by rfl) (w.heap.size + 1) (0 + 33) (by rfl) .u8 32 m.to _ HTO.out Tryz.underlying26 rfl (by kernel_rfl) ?_)
          | (refine wpList_build (by rfl) 26 _ (by rfl) [] (by rfl) (.agg (arr .u8 32 noId)) (HBI.out _) ?_)
          | (refine load_atg (by rfl) 26 (.tmp 11) (by rfl) W5.heap.size 0 (by rfl) .u8 32 m.to _ H11.out Tryz.underlying26 rfl (by kernel_rfl) ?_)
          | (refine load_atg (by rfl) 26 (.tmp 75) (by rfl) (w.heap.size + 1) (0 + 33) (by rfl) .u8 32 m.to _ HTO.out Tryz.underlying26 rfl (by kernel_rfl) ?_)
          | (refine load_at (by rfl) 26 (.tmp 83) (by rfl) (w.heap.size + 1) (0 + 33) (by rfl) .u8 32 m.to _ HTO.out Tryz.underlying26 rfl (by kernel_rfl) ?_)
          | (refine load_at (by rfl) 26 (.tmp 85) (by rfl) (w.heap.size + 1) (0 + 1) (by rfl) .u8 32 m.frm _ HFR.out Tryz.underlying26 rfl (by kernel_rfl) ?_)
          | (refine wpList_build (by rfl) 28 _ (by rfl) [(0, .string m.name), (1, .agg (arr .u8 32 m.to)), (2, .agg (arr .u8 32 m.frm))] (by rfl) (.agg (backM m).cells) (HBB.out _) ?_))
        refine (xapply_any sx cx xs (backM m) W6 B6.out.hx HNX.out hcx1 hcx2 (by omega)).mono ?_
        rintro e W7 ⟨hA7, b7⟩
        obtain ⟨v7, ys, rfl, hO7, hyl, hys⟩ := APP2.out _ _ _ hA7
        obtain ⟨sy, cy, rfl, hRy, -⟩ := OwnR.rows hO7
        have B7 : Hid (HolB w W7 sp cap rs m g5 sx cx xs) := B6.out.grow b7
        have HRY : Hid (RowsAt W7 33 Re.cells sy ys) := hRy
        have HYS : Hid (eqAll reEq ys rs = true) := hys
        have c2 : W7.cell? ⟨w.heap.size, 0, none⟩ = some (.slice sp rs.length cap) := (cell_of_row _ _ _ _ _ _ B7.out.a.r2).trans rfl
        have hl2 : w.heap.size < W7.heap.size := lt_of_row B7.out.a.r2
        have hn2 : ¬ w.heap.size = W7.heap.size := by omega
        clear hA7 b7 hO7 hRy hys q3 q5 heq1 heq2
        go_wp2_with fail
        have bA : Below W7.heap.size W7 (W7.alloc (.cells #[.slice sy ys.length cy] 24)) := (Below.refl _ _).alloc (Nat.le_refl _) _
        refine (xsame_any sy sp cy cap ys rs _ (RowsAt.below HRY.out bA) (B7.out.grow bA).a.hr (by omega)).mono ?_
        rintro e W8 ⟨rfl, b8⟩
        rw [HYS.out]
        have F8 : Hid (Below w.heap.size w W8) := ((B7.out.grow bA).grow b8).a.below
        clear bA b8 c2 hl2 hn2
        go_wp2
        go_ret
        exact ⟨rfl, F8.out⟩
end Go.Proofs.YtgfjjglejlnfbaaGreatDoor
