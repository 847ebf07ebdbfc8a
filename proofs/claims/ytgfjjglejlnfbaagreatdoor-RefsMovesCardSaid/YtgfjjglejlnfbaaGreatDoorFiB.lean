/- refs' get. -/
import Derived.Test.YtgfjjglejlnfbaaGreatDoorMrgE
namespace Go.Proofs.YtgfjjglejlnfbaaGreatDoor
open Go.RowKit Go.Maps

theorem i64L_inj {a c : Int} (h : i64L a = (.lit (.int .i64 c) : DataW Unit)) : c = a := by
  simp only [i64L, DataW.lit.injEq, Lit.int.injEq, true_and] at h
  exact h.symm
theorem He.cellOb (e : He) (j : Nat) (u : Value) (h : e.ob.cells[j]? = some u) : e.cells[32 + j]? = some u := by
  unfold He.cells
  rw [Array.getElem?_append_right (by rw [arr_size]; omega), arr_size, Nat.add_sub_cancel_left]
  exact h
/-- What get begins with: a finder, an Id, an object. -/
structure GetW (w W : World) (v : Value) (b : Nat) (f : Nat → Int) : Prop where
  below : Below w.heap.size w W
  r0 : W.heap[w.heap.size]? = some (.cells #[v, .map (some b)] 105 (0, 0))
  r2 : W.heap[w.heap.size + 1 + 1]? = some (.cells zeroOb.cells 65 (0, 0))
theorem get_w (w : World) (v : Value) (b : Nat) (f : Nat → Int) (Z : Array Value) (hZ : Z = zeroOb.cells) : GetW w (((w.alloc (.cells #[v, .map (some b)] 105)).alloc (.cells (arr .u8 32 f) 26)).alloc (.cells Z 65)) v b f := by
  subst hZ
  have n2 := heap_alloc_new ((w.alloc (.cells #[v, .map (some b)] 105)).alloc (.cells (arr .u8 32 f) 26)) (.cells zeroOb.cells 65)
  simp only [World.size_alloc] at n2
  exact ⟨(((Below.refl _ _).alloc (Nat.le_refl _) _).alloc (by simp) _).alloc (by simp; omega) _, (Below.heap_alloc _ _ _ (by simp; omega)).trans ((Below.heap_alloc _ _ _ (by simp)).trans (heap_alloc_new _ _)), n2⟩
set_option pp.deepTerms.threshold 2000 in
set_option maxRecDepth 100000 in
set_option maxHeartbeats 400000 in
theorem get_no (v : Value) (b n : Nat) (D : DataW Unit) (f : Nat → Int) (kl : Lit) (w : World) (hm : MapI w b n D) (hk : keyOf Tryz.prog 26 (.agg (arr .u8 32 f)) = some kl) (hh : Maps.has D kl = false) :
    Calls Tryz.prog 78 #[.agg #[v, .map (some b)], .agg (arr .u8 32 f)] w fun e w' => e = .returned (.tuple #[.agg zeroOb.cells, .bool false]) ∧ Below w.heap.size w w' := by
  have HM : Hid (MapI w b n D) := hm
  have HK : Hid (keyOf Tryz.prog 26 (.agg (arr .u8 32 f)) = some kl) := hk
  have HO : Hid _ := ob_one zeroOb rfl rfl rfl
  have HZB : Hid _ := buildz
  clear hm hk
  go_enter Tryz.func78, Tryz.ntmps78
  go_wp2_with (first
    | (refine wpList_load_row (by rfl) 26 (.tmp 3) (by rfl) (w.heap.size + 1) (by rfl) 26 (arr .u8 32 f) (0, 0) _ (heap3 _ _ _ _) Tryz.underlying26 rfl (by rw [arr_size]; kernel_rfl) ?_; refine wpList_gen (fun W => GetW w W v b f) (get_w _ _ _ _ _ (by kernel_rfl)) ?_; intro W1 hW1; have HW : Hid (GetW w W1 v b f) := hW1; have R2 : Hid (W1.heap[w.heap.size + 1 + 1]? = some (.cells zeroOb.cells 65 (0, 0))) := hW1.r2; obtain ⟨z, ps, hlk, hv⟩ := (HM.out.below hW1.below).look_ok idLaw Tryz.underlying103 (zeroI _) (plainElem_int (H := Unit) Tryz.underlying3 (q := .i64) (a := 0) (by decide)) HK.out; obtain ⟨c, rfl, -, -⟩ := plainElem_int_inv Tryz.underlying3 hv; rw [hh] at hlk; clear hW1 hv)
    | (refine wpList_build (by rfl) 65 _ (by rfl) [] (by rfl) (.agg zeroOb.cells) (HZB.out _) ?_)
    | (refine wpList_store_row (by rfl) 65 (.tmp 4) (.tmp 17) (by rfl) (w.heap.size + 1 + 1) zeroOb.cells (by rfl) (by rfl) 65 _ R2.out (by rw [Ob.size]; kernel_rfl) (by rw [Ob.size]) HO.out ?_))
  refine bodyPost_ret (v := .tuple #[.agg zeroOb.cells, .bool false]) ?_ rfl ⟨rfl, below_setRow' HW.out.below (by omega) _⟩
  exact results_cell_tmp Tryz.results78 _ _ (w.heap.size + 1 + 1) 65 _ (0, 0) _ _ rfl rfl (heap_setRow_same R2.out) Tryz.underlying65 rfl (by rw [Ob.size]; kernel_rfl)
set_option maxRecDepth 100000 in
set_option maxHeartbeats 400000 in
theorem get_has (sp : Option Addr) (cap : Nat) (hs : List He) (b n : Nat) (D : DataW Unit) (f : Nat → Int) (kl : Lit) (i : Nat) (x : He) (w : World) (hr : RowsAt w 70 He.cells sp hs) (hl : hs.length ≤ 1000000) (hm : MapI w b n D) (hk : keyOf Tryz.prog 26 (.agg (arr .u8 32 f)) = some kl) (hh : Maps.has D kl = true) (hi : D.atKey kl (i64L 0) = i64L i) (hx : hs[i]? = some x) :
    Calls Tryz.prog 78 #[.agg #[.slice sp hs.length cap, .map (some b)], .agg (arr .u8 32 f)] w fun e w' => e = .returned (.tuple #[.agg x.ob.cells, .bool true]) ∧ Below w.heap.size w w' := by
  have HM : Hid (MapI w b n D) := hm
  have HK : Hid (keyOf Tryz.prog 26 (.agg (arr .u8 32 f)) = some kl) := hk
  have HO : Hid _ := ob_one x.ob x.h1 x.h2 x.h3
  have hil := (List.getElem?_eq_some_iff.1 hx).1
  have hd : decide ((i : Int) < hs.length) = true := by simp; omega
  obtain ⟨bb, o, rfl, hc⟩ := hr (by omega)
  have HE : Hid (∀ W, Below w.heap.size w W → ∀ j u, x.ob.cells[j]? = some u → W.cell? ⟨bb, o + i * 70 + 32 + j, none⟩ = some u) := fun W hW j u hu => by
    have h1 := hc i x hx (32 + j) u (x.cellOb j u hu)
    rw [← Nat.add_assoc] at h1
    exact (hW.cell (p := ⟨bb, o + i * 70 + 32 + j, none⟩) (block_lt_of_cell h1)).trans h1
  have HI : Hid (D.atKey kl (i64L 0) = i64L i) := hi
  clear hm hk hr hc hx hi
  go_enter Tryz.func78, Tryz.ntmps78
  go_wp2_with (first
    | (refine wpList_load_row (by rfl) 26 (.tmp 3) (by rfl) (w.heap.size + 1) (by rfl) 26 (arr .u8 32 f) (0, 0) _ (heap3 _ _ _ _) Tryz.underlying26 rfl (by rw [arr_size]; kernel_rfl) ?_; refine wpList_gen (fun W => GetW w W (.slice (some ⟨bb, o, none⟩) hs.length cap) b f) (get_w _ _ _ _ _ (by kernel_rfl)) ?_; intro W1 hW1; have HW : Hid (GetW w W1 (.slice (some ⟨bb, o, none⟩) hs.length cap) b f) := hW1; have R2 : Hid (W1.heap[w.heap.size + 1 + 1]? = some (.cells zeroOb.cells 65 (0, 0))) := hW1.r2; have c0 : W1.cell? ⟨w.heap.size, 0, none⟩ = some (.slice (some ⟨bb, o, none⟩) hs.length cap) := (cell_of_row _ _ _ _ _ _ hW1.r0).trans rfl; obtain ⟨z, ps, hlk, hv⟩ := (HM.out.below hW1.below).look_ok idLaw Tryz.underlying103 (zeroI _) (plainElem_int (H := Unit) Tryz.underlying3 (q := .i64) (a := 0) (by decide)) HK.out; obtain ⟨c, rfl, hq, -⟩ := plainElem_int_inv Tryz.underlying3 hv; have hci : c = i := i64L_inj (HI.out.symm.trans (congrArg Prod.fst hq)); subst hci; rw [hh] at hlk; have HEW : Hid (∀ j u, x.ob.cells[j]? = some u → W1.cell? ⟨bb, o + i * 70 + 32 + j, none⟩ = some u) := HE.out W1 hW1.below; clear hW1 hv hq)
    | (refine load_mid (by rfl) 65 (.tmp 22) (by rfl) bb (o + i * 70 + 32) (by rfl) x.ob.cells _ HEW.out Tryz.underlying65 rfl (by rw [Ob.size]; kernel_rfl) ?_)
    | (refine wpList_store_row (by rfl) 65 (.tmp 4) (.tmp 23) (by rfl) (w.heap.size + 1 + 1) x.ob.cells (by rfl) (by rfl) 65 _ R2.out (by rw [Ob.size]; kernel_rfl) (by rw [Ob.size, Ob.size]) HO.out ?_))
  refine bodyPost_ret (v := .tuple #[.agg x.ob.cells, .bool true]) ?_ rfl ⟨rfl, below_setRow' HW.out.below (by omega) _⟩
  exact results_cell_tmp Tryz.results78 _ _ (w.heap.size + 1 + 1) 65 _ (0, 0) _ _ rfl rfl (heap_setRow_same R2.out) Tryz.underlying65 rfl (by rw [Ob.size]; kernel_rfl)
end Go.Proofs.YtgfjjglejlnfbaaGreatDoor
