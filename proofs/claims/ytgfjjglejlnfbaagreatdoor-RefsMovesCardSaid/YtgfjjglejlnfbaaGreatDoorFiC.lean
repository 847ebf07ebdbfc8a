/- refs' missing, of objects that a heap of nothing does not have. -/
import Derived.Test.YtgfjjglejlnfbaaGreatDoorFiB
import Derived.Test.YtgfjjglejlnfbaaGreatDoorFsAx
import Derived.Test.YtgfjjglejlnfbaaGreatDoorMrgA
namespace Go.Proofs.YtgfjjglejlnfbaaGreatDoor
open Go.RowKit Go.Maps

/-- What missing leans on in each world of a round. -/
structure MisF (W : World) (v0 : Value) (b0 g2 g6 b1 n : Nat) (vo : Value) (D : DataW Unit) : Prop where
  r2 : W.heap[g2]? = some (.cells #[v0, .map (some b0)] 105 (0, 0))
  r6 : W.heap[g6]? = some (.cells #[vo, .map (some b1)] 105 (0, 0))
  m0 : MapI W b0 0 (.map [])
  m1 : MapI W b1 n D
theorem MisF.below {W W' : World} {v0 : Value} {b0 g2 g6 b1 n : Nat} {vo : Value} {D : DataW Unit} (h : MisF W v0 b0 g2 g6 b1 n vo D) (hb : Below W.heap.size W W') : MisF W' v0 b0 g2 g6 b1 n vo D :=
  ⟨(hb.block _ (lt_of_row h.r2)).trans h.r2, (hb.block _ (lt_of_row h.r6)).trans h.r6, h.m0.below hb, h.m1.below hb⟩
set_option pp.deepTerms.threshold 2000 in
set_option maxRecDepth 100000 in
set_option maxHeartbeats 8000000 in
theorem missing_any (v0 : Value) (b0 : Nat) (sp : Option Addr) (cap : Nat) (hs : List He) (ks : List Lit) (w : World) (hm0 : MapI w b0 0 (.map [])) (hr : RowsAt w 70 He.cells sp hs) (hl : hs.length ≤ 1000)
    (hk : ∀ (i : Nat) (h : He), hs[i]? = some h → keyOf Tryz.prog 26 (.agg (arr .u8 32 h.id)) = some (ks.getD i (.bool false)))
    (hf : ∀ (i : Nat) (h : He), hs[i]? = some h → Maps.has (fndD ks hs.length) (ks.getD i (.bool false)) = true ∧ (fndD ks hs.length).atKey (ks.getD i (.bool false)) (i64L 0) = i64L i)
    (ho : ∀ (i : Nat) (h : He), hs[i]? = some h → ∃ c, (∀ W, Has W h.ob c) ∧ sameB h.ob c h.ob c = true) :
    Calls Tryz.prog 60 #[.agg #[v0, .map (some b0)], .slice sp hs.length cap] w fun e w' => ∃ v, e = .returned (.tuple #[v, .int .i64 0]) ∧ OwnH w.heap.size w' v hs ∧ Below w.heap.size w w' := by
  have HM0 : Hid (MapI w b0 0 (.map [])) := hm0
  have HR : Hid (RowsAt w 70 He.cells sp hs) := hr
  have HK : Hid (∀ (i : Nat) (h : He), hs[i]? = some h → keyOf Tryz.prog 26 (.agg (arr .u8 32 h.id)) = some (ks.getD i (.bool false))) := hk
  have HF : Hid (∀ (i : Nat) (h : He), hs[i]? = some h → Maps.has (fndD ks hs.length) (ks.getD i (.bool false)) = true ∧ (fndD ks hs.length).atKey (ks.getD i (.bool false)) (i64L 0) = i64L i) := hf
  have HOO : Hid (∀ (i : Nat) (h : He), hs[i]? = some h → ∃ c, (∀ W, Has W h.ob c) ∧ sameB h.ob c h.ob c = true) := ho
  clear hm0 hr hk hf ho
  go_enter Tryz.func60, Tryz.ntmps60
  go_wp2_with fail
  have b0' : Below w.heap.size w (w.alloc (.cells #[v0, .map (some b0)] 105)) := (Below.refl _ _).alloc (Nat.le_refl _) _
  refine (find_any sp cap hs ks _ (HR.out.below b0') (by omega) HK.out).mono ?_
  rintro e W1 ⟨b1, rfl, hm1, hb1, hlb⟩
  have r2 := (hb1.block _ (lt_of_row (heap_alloc_new w _))).trans (heap_alloc_new w (.cells #[v0, .map (some b0)] 105))
  have B1 : Hid (Below w.heap.size w W1) := b0'.trans (hb1.mono (by simp))
  have R2 : Hid (W1.heap[w.heap.size]? = some (.cells #[v0, .map (some b0)] 105 (0, 0))) := r2
  have HM1 : Hid (MapI W1 b1 hs.length (fndD ks hs.length)) := hm1
  clear hb1 r2 hm1 b0' hlb
  generalize fndD ks hs.length = D at *
  go_wp2
  obtain ⟨g2, hg2, HG2⟩ : ∃ g, w.heap.size = g ∧ Hid (w.heap.size = g) := ⟨_, rfl, rfl⟩
  obtain ⟨g6, hg6⟩ : ∃ g, W1.heap.size = g := ⟨_, rfl⟩
  have hA : Below W1.heap.size W1 (W1.alloc (.cells #[.slice sp hs.length cap, .map (some b1)] 105)) := (Below.refl _ _).alloc (Nat.le_refl _) _
  refine wp_gen (fun W => Below g2 w W ∧ MisF W v0 b0 g2 g6 b1 hs.length (.slice sp hs.length cap) D) ⟨?_, ?_⟩ ?_
  · rw [← hg2]; exact B1.out.trans (hA.mono B1.out.size)
  · rw [← hg2, ← hg6]
    exact ⟨(hA.block _ (lt_of_row R2.out)).trans R2.out, heap_alloc_new _ _, (HM0.out.below B1.out).below hA, HM1.out.below hA⟩
  rw [hg2, hg6]
  clear hg2 hg6 hA B1 R2 HM1 HM0
  rintro W0 ⟨bW0, fW0⟩
  have BW0 : Hid (Below g2 w W0) := bW0
  have FW0 : Hid (MisF W0 v0 b0 g2 g6 b1 hs.length (.slice sp hs.length cap) D) := fW0
  clear bW0 fW0
  go_loopw [7, 19] (fun o i wr => ∃ t : Nat, t ≤ hs.length ∧ i = .int .i64 t ∧ OwnH W0.heap.size wr o (hs.take t) ∧ Below W0.heap.size W0 wr) (fun _ i _ => hs.length - (intOf i).toNat)
  case atStart => exact ⟨0, Nat.zero_le _, rfl, ownH_nil _ _, Below.refl _ _⟩
  case round =>
    obtain ⟨t, ht, rfl, hO, hb⟩ := hrel
    have HO : Hid (OwnH W0.heap.size wr u7 (hs.take t)) := hO
    have HB : Hid (Below W0.heap.size W0 wr) := hb
    clear hO hb
    by_cases hlt : t < hs.length
    · have hd : decide ((t : Int) < hs.length) = true := by simp; omega
      have HRW : Hid (RowsAt wr 70 He.cells sp hs) := HR.out.below (HG2.out.symm ▸ (BW0.out.trans (HB.out.mono (by rw [← HG2.out]; exact BW0.out.size))))
      obtain ⟨b, o, rfl, hc⟩ := HRW.out (by omega)
      obtain ⟨x, hx⟩ : ∃ x, hs[t]? = some x := ⟨_, List.getElem?_eq_getElem hlt⟩
      have HE : Hid (∀ j u, x.cells[j]? = some u → wr.cell? ⟨b, o + t * 70 + j, none⟩ = some u) := fun j u hu => hc t x hx j u hu
      have HKX : Hid (keyOf Tryz.prog 26 (.agg (arr .u8 32 x.id)) = some (ks.getD t (.bool false))) := HK.out t x hx
      obtain ⟨cx, HX1, HX2⟩ : ∃ c, Hid (∀ W, Has W x.ob c) ∧ Hid (sameB x.ob c x.ob c = true) := by obtain ⟨c, h1, h2⟩ := HOO.out t x hx; exact ⟨c, h1, h2⟩
      have FWR : Hid (∀ W, Below wr.heap.size wr W → MisF W v0 b0 g2 g6 b1 hs.length (.slice (some ⟨b, o, none⟩) hs.length cap) D ∧ RowsAt W 70 He.cells (some ⟨b, o, none⟩) hs) := fun W h => ⟨(FW0.out.below HB.out).below h, RowsAt.below HRW.out h⟩
      have HGT : Hid (∀ W, Below wr.heap.size wr W → Calls Tryz.prog 78 #[.agg #[.slice (some ⟨b, o, none⟩) hs.length cap, .map (some b1)], .agg (arr .u8 32 x.id)] W fun e w' => e = .returned (.tuple #[.agg x.ob.cells, .bool true]) ∧ Below W.heap.size W w') := fun W h => get_has (some ⟨b, o, none⟩) cap hs b1 hs.length D x.id _ t x W (FWR.out W h).2 (by omega) (FWR.out W h).1.m1 HKX.out (HF.out t x hx).1 (HF.out t x hx).2 hx
      have HGN : Hid (∀ W, Below wr.heap.size wr W → Calls Tryz.prog 78 #[.agg #[v0, .map (some b0)], .agg (arr .u8 32 x.id)] W fun e w' => e = .returned (.tuple #[.agg zeroOb.cells, .bool false]) ∧ Below W.heap.size W w') := fun W h => get_no v0 b0 0 (.map []) x.id _ W (FWR.out W h).1.m0 HKX.out rfl
      have HTK : Hid (hs.take (t + 1) = hs.take t ++ [x]) := by show _ = _; rw [List.take_add_one, hx]; rfl
      have HOB : Hid _ := ob_one x.ob x.h1 x.h2 x.h3
      have HOZ : Hid _ := ob_one zeroOb rfl rfl rfl
      clear hc hx
      go_wp2_with (first
        | (refine load_mid (by rfl) 85 (.tmp 21) (by rfl) b (o + t * 70) (by rfl) x.cells _ HE.out Tryz.underlying85 rfl (by rw [x.size]; kernel_rfl) ?_)
        | (refine wpList_store_row (by rfl) 85 (.tmp 9) (.tmp 22) (by rfl) wr.heap.size x.cells (by rfl) (by rfl) 85 _ (heap_alloc_new _ _) (by rw [x.size]; kernel_rfl) (by rw [x.size]; rfl) (he_one x) ?_; refine wpList_gen (fun W => Below wr.heap.size wr W ∧ W.heap[wr.heap.size]? = some (.cells x.cells 85 (0, 0))) ⟨below_setRow' ((Below.refl _ _).alloc (Nat.le_refl _) _) (Nat.le_refl _) _, heap_setRow_same (heap_alloc_new _ _)⟩ ?_; intro W1 hW1; have HW1 : Hid (Below wr.heap.size wr W1) := hW1.1; have HR9 : Hid (W1.heap[wr.heap.size]? = some (.cells x.cells 85 (0, 0))) := hW1.2; have c60 : W1.cell? ⟨g6, 0, none⟩ = some (.slice (some ⟨b, o, none⟩) hs.length cap) := (cell_of_row _ _ _ _ _ _ (FWR.out W1 hW1.1).1.r6).trans rfl; have c61 : W1.cell? ⟨g6, 1, none⟩ = some (.map (some b1)) := (cell_of_row _ _ _ _ _ _ (FWR.out W1 hW1.1).1.r6).trans rfl; have HX : Hid (∀ i, i < 32 → W1.cell? ⟨wr.heap.size, 0 + i, none⟩ = some (.int .u8 (x.id i))) := (fun i hi => (cell_of_row _ _ _ _ _ _ hW1.2).trans (by rw [Nat.zero_add]; exact x.cellId i hi)); clear hW1)
        | (refine load_at (by rfl) 26 (.tmp 25) (by rfl) wr.heap.size 0 (by rfl) .u8 32 x.id _ HX.out Tryz.underlying26 rfl (by kernel_rfl) ?_))
      refine (HGT.out W1 HW1.out).mono ?_
      rintro e W2 ⟨rfl, b2⟩
      have HW2 : Hid (Below wr.heap.size wr W2) := HW1.out.trans (b2.mono HW1.out.size)
      have HR9b : Hid (W2.heap[wr.heap.size]? = some (.cells x.cells 85 (0, 0))) := (b2.block _ (lt_of_row HR9.out)).trans HR9.out
      clear b2 HW1 HR9 c60 c61 HX
      go_wp2_with (first
        | (refine wpList_store_row (by rfl) 65 (.tmp 10) (.tmp 28) (by rfl) W2.heap.size x.ob.cells (by rfl) (by rfl) 65 _ (heap_alloc_new _ _) (by rw [Ob.size]; kernel_rfl) (by rw [Ob.size]; rfl) HOB.out ?_; refine wpList_gen (fun W => Below W2.heap.size W2 W ∧ W.heap[W2.heap.size]? = some (.cells x.ob.cells 65 (0, 0))) ⟨below_setRow' ((Below.refl _ _).alloc (Nat.le_refl _) _) (Nat.le_refl _) _, heap_setRow_same (heap_alloc_new _ _)⟩ ?_; intro W3 hW3; have HW3 : Hid (Below wr.heap.size wr W3) := HW2.out.trans (hW3.1.mono HW2.out.size); have HR9c : Hid (W3.heap[wr.heap.size]? = some (.cells x.cells 85 (0, 0))) := (hW3.1.block _ (lt_of_row HR9b.out)).trans HR9b.out; have HR10 : Hid (W3.heap[W2.heap.size]? = some (.cells x.ob.cells 65 (0, 0))) := hW3.2; have c20 : W3.cell? ⟨g2, 0, none⟩ = some v0 := (cell_of_row _ _ _ _ _ _ (FWR.out W3 HW3.out).1.r2).trans rfl; have c21 : W3.cell? ⟨g2, 1, none⟩ = some (.map (some b0)) := (cell_of_row _ _ _ _ _ _ (FWR.out W3 HW3.out).1.r2).trans rfl; have HX : Hid (∀ i, i < 32 → W3.cell? ⟨wr.heap.size, 0 + i, none⟩ = some (.int .u8 (x.id i))) := (fun i hi => (cell_of_row _ _ _ _ _ _ HR9c.out).trans (by rw [Nat.zero_add]; exact x.cellId i hi)); clear hW3)
        | (refine load_at (by rfl) 26 (.tmp 32) (by rfl) wr.heap.size 0 (by rfl) .u8 32 x.id _ HX.out Tryz.underlying26 rfl (by kernel_rfl) ?_))
      refine (HGN.out W3 HW3.out).mono ?_
      rintro e W4 ⟨rfl, b4⟩
      have HW4 : Hid (Below wr.heap.size wr W4) := HW3.out.trans (b4.mono HW3.out.size)
      have HR9d : Hid (W4.heap[wr.heap.size]? = some (.cells x.cells 85 (0, 0))) := (b4.block _ (lt_of_row HR9c.out)).trans HR9c.out
      have HR10b : Hid (W4.heap[W2.heap.size]? = some (.cells x.ob.cells 65 (0, 0))) := (b4.block _ (lt_of_row HR10.out)).trans HR10.out
      clear b4 HW3 HR9c HR10 c20 c21 HX HW2 HR9b
      go_wp2_with (first
        | (refine wpList_store_row (by rfl) 65 (.tmp 12) (.tmp 35) (by rfl) W4.heap.size zeroOb.cells (by rfl) (by rfl) 65 _ (heap_alloc_new _ _) (by rw [Ob.size]; kernel_rfl) (by rw [Ob.size]; rfl) HOZ.out ?_; refine wpList_gen (fun W => Below W4.heap.size W4 W) (below_setRow' ((Below.refl _ _).alloc (Nat.le_refl _) _) (Nat.le_refl _) _) ?_; intro W5 hW5; have HW5 : Hid (Below wr.heap.size wr W5) := HW4.out.trans (hW5.mono HW4.out.size); have HR9e : Hid (W5.heap[wr.heap.size]? = some (.cells x.cells 85 (0, 0))) := (hW5.block _ (lt_of_row HR9d.out)).trans HR9d.out; have HR10c : Hid (W5.heap[W2.heap.size]? = some (.cells x.ob.cells 65 (0, 0))) := (hW5.block _ (lt_of_row HR10b.out)).trans HR10b.out; have HXO : Hid (∀ j u, x.ob.cells[j]? = some u → W5.cell? ⟨wr.heap.size, 0 + 32 + j, none⟩ = some u) := (fun j u hu => (cell_of_row _ _ _ _ _ _ HR9e.out).trans (by rw [Nat.zero_add]; exact x.cellOb j u hu)); clear hW5)
        | (refine wpList_load_row (by rfl) 65 (.tmp 10) (by rfl) W2.heap.size (by rfl) 65 x.ob.cells (0, 0) _ HR10c.out Tryz.underlying65 rfl (by rw [Ob.size]; kernel_rfl) ?_)
        | (refine load_mid (by rfl) 65 (.tmp 38) (by rfl) wr.heap.size (0 + 32) (by rfl) x.ob.cells _ HXO.out Tryz.underlying65 rfl (by rw [Ob.size]; kernel_rfl) ?_)
        | (go_at_call 89; refine (same_any x.ob x.ob cx cx _ (HX1.out _) (HX1.out _)).mono ?_; rintro e W6 ⟨rfl, b6⟩; rw [HX2.out]; have HW6 : Hid (Below wr.heap.size wr W6) := HW5.out.trans (b6.mono HW5.out.size); have HR9f : Hid (W6.heap[wr.heap.size]? = some (.cells x.cells 85 (0, 0))) := (b6.block _ (lt_of_row HR9e.out)).trans HR9e.out; have HO6 : Hid (OwnH W0.heap.size W6 u7 (hs.take t)) := HO.out.below HW6.out; clear b6 HR9e HR10c HXO HW5)
        | (refine wpList_load_row (by rfl) 85 (.tmp 9) (by rfl) wr.heap.size (by rfl) 85 x.cells (0, 0) _ HR9f.out Tryz.underlying85 rfl (by rw [x.size]; kernel_rfl) ?_)
        | (refine wpList_buildOne (by rfl) 44 (.tmp 55) (by rfl) (.agg x.cells) (by rfl) _ (bldHe x _) ?_; refine wpList_gen (fun W => Below W6.heap.size W6 W ∧ W.heap[W6.heap.size]? = some (.cells x.cells 85 (0, 0))) ⟨(Below.refl _ _).alloc (Nat.le_refl _) _, heap_alloc_new _ _⟩ ?_; intro W7 hW7; have HW7 : Hid (Below W6.heap.size W6 W7) := hW7.1; have HR7 : Hid (W7.heap[W6.heap.size]? = some (.cells x.cells 85 (0, 0))) := hW7.2; clear hW7)
        | (refine helds_append (by rfl) (.tmp 54) (.tmp 56) (by rfl) W0.heap.size u7 (hs.take t) (by rfl) (HO6.out.below HW7.out) (some ⟨W6.heap.size, 0, none⟩) 1 [x] (by rfl) (fun h => by cases h) (oneH_rows HR7.out) (fun _ => ⟨_, _, rfl⟩) (by rw [List.length_take]; simp; omega) (by have := HB.out.size; have := HW6.out.size; have := HW7.out.size; omega) ?_; intro v8 W8 hO8 hG8 hq8))
      have hs0 := HB.out.size
      have hs6 := HW6.out.size
      have hs7 := HW7.out.size
      have f7 : Below W0.heap.size W0 W7 := (HB.out.trans (HW6.out.mono hs0)).trans (HW7.out.mono (by omega))
      have hB8 : Below W0.heap.size W0 W8 := OwnH.grown (HO6.out.below HW7.out) (Nat.le_refl _) (by omega) f7 hG8
      exact ⟨⟨t + 1, by omega, by go_num, by rw [HTK.out]; exact hO8, hB8⟩, by simp [intOf]; omega⟩
    · have hd : decide ((t : Int) < hs.length) = false := by simp; omega
      have HT : Hid (hs.take t = hs) := by show _ = _; exact List.take_of_length_le (by omega)
      go_wp2
      go_ret2
      refine ⟨u7, rfl, ?_, ?_⟩
      · rw [← HT.out]
        exact HO.out.mono (by have := BW0.out.size; omega)
      · rw [HG2.out]
        exact BW0.out.trans (HB.out.mono (by rw [← HG2.out]; exact BW0.out.size))
end Go.Proofs.YtgfjjglejlnfbaaGreatDoor
