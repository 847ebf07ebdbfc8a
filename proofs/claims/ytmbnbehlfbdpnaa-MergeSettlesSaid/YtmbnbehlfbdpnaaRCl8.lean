/- The contract of the document's Clash. -/
import Derived.Test.YtmbnbehlfbdpnaaMrgA
import Derived.Test.YtmbnbehlfbdpnaaRGt7
import Derived.Test.YtmbnbehlfbdpnaaMMer
namespace Go.Proofs.Ytmbnbehlfbdpnaa
open Go.RowKit

set_option maxRecDepth 100000 in
set_option maxHeartbeats 4000000 in
theorem r8clash_any (x y z : Sl) (p : ByteArray) (w : World) (hx : SlS w x) (hy : SlS w y) (hz : SlS w z) :
    Calls Try.prog 31 #[.agg #[.slice x.sp x.fs.length x.cap], .agg #[.slice y.sp y.fs.length y.cap], .agg #[.slice z.sp z.fs.length z.cap], .string p] w fun e w' => e = .returned (.tuple #[.agg (atC x.fs y.fs z.fs p).cells, .bool (clashB (atC x.fs y.fs z.fs p).s)]) ∧ Below w.heap.size w w' := by
  have HS : Hid (∀ W, Below w.heap.size w W → SlS W x ∧ SlS W y ∧ SlS W z) := fun W h => ⟨⟨hx.1.below h, hx.2⟩, ⟨hy.1.below h, hy.2⟩, ⟨hz.1.below h, hz.2⟩⟩
  clear hx hy hz
  go_enter Try.func31, Try.ntmps31
  go_wp2_with fail
  refine calls_gen (fun W1 => Below w.heap.size w W1 ∧ W1.heap[w.heap.size + 1]? = some (.cells #[.slice y.sp y.fs.length y.cap] 24 (0, 0)) ∧ W1.heap[w.heap.size + 1 + 1]? = some (.cells #[.slice z.sp z.fs.length z.cap] 24 (0, 0)) ∧ W1.heap[w.heap.size + 1 + 1 + 1]? = some (.cells #[.string ⟨#[]⟩, .string ⟨#[]⟩, .string ⟨#[]⟩, .string ⟨#[]⟩, .bool false, .bool false, .bool false] 40 (0, 0))) ⟨((((Below.refl _ _).alloc (Nat.le_refl _) _).alloc (by simp) _).alloc (by simp; omega) _).alloc (by simp; omega) _, ?_, ?_, ?_⟩ ?_
  · have := heap_alloc_new (w.alloc (.cells #[.slice x.sp x.fs.length x.cap] 24)) (.cells #[.slice y.sp y.fs.length y.cap] 24)
    rw [World.size_alloc] at this
    exact (Below.heap_alloc _ _ _ (by simp)).trans ((Below.heap_alloc _ _ _ (by simp)).trans this)
  · have := heap_alloc_new ((w.alloc (.cells #[.slice x.sp x.fs.length x.cap] 24)).alloc (.cells #[.slice y.sp y.fs.length y.cap] 24)) (.cells #[.slice z.sp z.fs.length z.cap] 24)
    simp only [World.size_alloc] at this
    exact (Below.heap_alloc _ _ _ (by simp)).trans this
  · have := heap_alloc_new (((w.alloc (.cells #[.slice x.sp x.fs.length x.cap] 24)).alloc (.cells #[.slice y.sp y.fs.length y.cap] 24)).alloc (.cells #[.slice z.sp z.fs.length z.cap] 24)) (.cells #[.string ⟨#[]⟩, .string ⟨#[]⟩, .string ⟨#[]⟩, .string ⟨#[]⟩, .bool false, .bool false, .bool false] 40)
    simp only [World.size_alloc] at this
    exact this
  rintro W1 ⟨b1, g1, g2, g3⟩
  have HC : Hid (∀ W, Below W1.heap.size W1 W → W.cell? ⟨w.heap.size + 1, 0, none⟩ = some (.slice y.sp y.fs.length y.cap) ∧ W.cell? ⟨w.heap.size + 1 + 1, 0, none⟩ = some (.slice z.sp z.fs.length z.cap) ∧ W.heap[w.heap.size + 1 + 1 + 1]? = some (.cells #[.string ⟨#[]⟩, .string ⟨#[]⟩, .string ⟨#[]⟩, .string ⟨#[]⟩, .bool false, .bool false, .bool false] 40 (0, 0)) ∧ Below w.heap.size w W) := fun W h =>
    ⟨(cell_of_row _ _ _ _ _ _ ((h.block _ (lt_of_row g1)).trans g1)).trans rfl, (cell_of_row _ _ _ _ _ _ ((h.block _ (lt_of_row g2)).trans g2)).trans rfl, (h.block _ (lt_of_row g3)).trans g3, b1.trans (h.mono b1.size)⟩
  obtain ⟨sx, -, -⟩ := HS.out W1 b1
  refine (r8at_any x.sp x.cap x.fs p W1 sx.1.1 sx.2.1).mono ?_
  clear sx g1 g2 g3
  rintro e W2 ⟨rfl, b2⟩
  obtain ⟨c1, c2, -, hb2⟩ := HC.out W2 b2
  obtain ⟨-, sy, -⟩ := HS.out W2 hb2
  go_wp2_with fail
  refine (r8at_any y.sp y.cap y.fs p W2 sy.1.1 sy.2.1).mono ?_
  clear sy c1 c2
  rintro e W3 ⟨rfl, b23⟩
  have b3 : Below W1.heap.size W1 W3 := b2.trans (b23.mono b2.size)
  obtain ⟨c1, c2, -, hb3⟩ := HC.out W3 b3
  obtain ⟨-, -, sz⟩ := HS.out W3 hb3
  go_wp2_with fail
  refine (r8at_any z.sp z.cap z.fs p W3 sz.1.1 sz.2.1).mono ?_
  clear sz c1 c2
  rintro e W4 ⟨rfl, b34⟩
  have b4 : Below W1.heap.size W1 W4 := b3.trans (b34.mono b3.size)
  obtain ⟨-, -, g4, hb4⟩ := HC.out W4 b4
  have HRES : Hid (atC x.fs y.fs z.fs p = ⟨p, ⟨⟨(findB x.fs p).1, (findB x.fs p).2⟩, ⟨(findB y.fs p).1, (findB y.fs p).2⟩, ⟨(findB z.fs p).1, (findB z.fs p).2⟩⟩⟩) := rfl
  have HE : Hid (∀ (cl : Cl) (e : Ending) (W : World), atC x.fs y.fs z.fs p = cl → e = .returned (.tuple #[.agg cl.cells, .bool (clashB cl.s)]) → Below w.heap.size w W → e = .returned (.tuple #[.agg (atC x.fs y.fs z.fs p).cells, .bool (clashB (atC x.fs y.fs z.fs p).s)]) ∧ Below w.heap.size w W) := fun cl e W h1 h2 h3 => ⟨by rw [h1]; exact h2, h3⟩
  clear b2 b23 b3 b34 hb2 hb3
  generalize findB x.fs p = fx at HRES ⊢
  generalize findB y.fs p = fy at HRES ⊢
  generalize findB z.fs p = fz at HRES ⊢
  obtain ⟨vb, ib⟩ := fx
  obtain ⟨vo, io⟩ := fy
  obtain ⟨vt, it⟩ := fz
  dsimp only at HRES ⊢
  have l4 := lt_of_row g4
  have g5 : (W4.alloc (.cells #[.string p, .string vb, .string vo, .string vt, .bool ib, .bool io, .bool it] 40)).heap[w.heap.size + 1 + 1 + 1]? = some (.cells #[.string ⟨#[]⟩, .string ⟨#[]⟩, .string ⟨#[]⟩, .string ⟨#[]⟩, .bool false, .bool false, .bool false] 40 (0, 0)) := (Below.heap_alloc _ _ _ l4).trans g4
  have b5 : Below w.heap.size w (W4.alloc (.cells #[.string p, .string vb, .string vo, .string vt, .bool ib, .bool io, .bool it] 40)) := hb4.alloc hb4.size _
  have HONE : Hid ((#[Value.string p, .string vb, .string vo, .string vt, .bool ib, .bool io, .bool it]).all (·.oneCell') = true) := by
    show _ = _
    simp [Value.oneCell']
  have HF : Hid (∀ bb : Bool, bb = clashB ⟨⟨vb, ib⟩, ⟨vo, io⟩, ⟨vt, it⟩⟩ → Ending.returned (.tuple #[.agg #[.string p, .string vb, .string vo, .string vt, .bool ib, .bool io, .bool it], .bool bb]) = .returned (.tuple #[.agg (atC x.fs y.fs z.fs p).cells, .bool (clashB (atC x.fs y.fs z.fs p).s)]) ∧ Below w.heap.size w ((W4.alloc (.cells #[.string p, .string vb, .string vo, .string vt, .bool ib, .bool io, .bool it] 40)).setRow (w.heap.size + 1 + 1 + 1) #[.string p, .string vb, .string vo, .string vt, .bool ib, .bool io, .bool it])) := fun bb h => HE.out _ _ _ HRES.out (by rw [h]; rfl) (below_setRow' b5 (by omega) _)
  have HG5 : Hid _ := g5
  clear g5 g4 HE HRES
  cases h1 : (vb.toList == vo.toList)
  · cases h2 : (vb.toList == vt.toList)
    · cases h3 : (vo.toList == vt.toList)
      · go_wp2_with (refine wpList_store_row (by rfl) 40 (.tmp 8) (.tmp 72) (by rfl) (w.heap.size + 1 + 1 + 1) #[.string p, .string vb, .string vo, .string vt, .bool ib, .bool io, .bool it] (by rfl) (by rfl) 40 _ HG5.out (by kernel_rfl) rfl HONE.out ?_)
        exact bodyPost_ret (v := .tuple #[.agg #[.string p, .string vb, .string vo, .string vt, .bool ib, .bool io, .bool it], .bool true]) (results_cell_tmp Try.results31 _ _ (w.heap.size + 1 + 1 + 1) 40 #[.string p, .string vb, .string vo, .string vt, .bool ib, .bool io, .bool it] (0, 0) _ _ rfl rfl (heap_setRow_same HG5.out) Try.underlying40 rfl (by kernel_rfl)) rfl (HF.out true (by unfold clashB mayEq; dsimp only; rw [h1, h2, h3] <;> rfl))
      · cases io
        · cases it
          · go_wp2_with (refine wpList_store_row (by rfl) 40 (.tmp 8) (.tmp 72) (by rfl) (w.heap.size + 1 + 1 + 1) #[.string p, .string vb, .string vo, .string vt, .bool ib, .bool false, .bool false] (by rfl) (by rfl) 40 _ HG5.out (by kernel_rfl) rfl HONE.out ?_)
            exact bodyPost_ret (v := .tuple #[.agg #[.string p, .string vb, .string vo, .string vt, .bool ib, .bool false, .bool false], .bool false]) (results_cell_tmp Try.results31 _ _ (w.heap.size + 1 + 1 + 1) 40 #[.string p, .string vb, .string vo, .string vt, .bool ib, .bool false, .bool false] (0, 0) _ _ rfl rfl (heap_setRow_same HG5.out) Try.underlying40 rfl (by kernel_rfl)) rfl (HF.out false (by unfold clashB mayEq; dsimp only; rw [h1, h2, h3] <;> rfl))
          · go_wp2_with (refine wpList_store_row (by rfl) 40 (.tmp 8) (.tmp 72) (by rfl) (w.heap.size + 1 + 1 + 1) #[.string p, .string vb, .string vo, .string vt, .bool ib, .bool false, .bool true] (by rfl) (by rfl) 40 _ HG5.out (by kernel_rfl) rfl HONE.out ?_)
            exact bodyPost_ret (v := .tuple #[.agg #[.string p, .string vb, .string vo, .string vt, .bool ib, .bool false, .bool true], .bool true]) (results_cell_tmp Try.results31 _ _ (w.heap.size + 1 + 1 + 1) 40 #[.string p, .string vb, .string vo, .string vt, .bool ib, .bool false, .bool true] (0, 0) _ _ rfl rfl (heap_setRow_same HG5.out) Try.underlying40 rfl (by kernel_rfl)) rfl (HF.out true (by unfold clashB mayEq; dsimp only; rw [h1, h2, h3] <;> rfl))
        · cases it
          · go_wp2_with (refine wpList_store_row (by rfl) 40 (.tmp 8) (.tmp 72) (by rfl) (w.heap.size + 1 + 1 + 1) #[.string p, .string vb, .string vo, .string vt, .bool ib, .bool true, .bool false] (by rfl) (by rfl) 40 _ HG5.out (by kernel_rfl) rfl HONE.out ?_)
            exact bodyPost_ret (v := .tuple #[.agg #[.string p, .string vb, .string vo, .string vt, .bool ib, .bool true, .bool false], .bool true]) (results_cell_tmp Try.results31 _ _ (w.heap.size + 1 + 1 + 1) 40 #[.string p, .string vb, .string vo, .string vt, .bool ib, .bool true, .bool false] (0, 0) _ _ rfl rfl (heap_setRow_same HG5.out) Try.underlying40 rfl (by kernel_rfl)) rfl (HF.out true (by unfold clashB mayEq; dsimp only; rw [h1, h2, h3] <;> rfl))
          · go_wp2_with (refine wpList_store_row (by rfl) 40 (.tmp 8) (.tmp 72) (by rfl) (w.heap.size + 1 + 1 + 1) #[.string p, .string vb, .string vo, .string vt, .bool ib, .bool true, .bool true] (by rfl) (by rfl) 40 _ HG5.out (by kernel_rfl) rfl HONE.out ?_)
            exact bodyPost_ret (v := .tuple #[.agg #[.string p, .string vb, .string vo, .string vt, .bool ib, .bool true, .bool true], .bool false]) (results_cell_tmp Try.results31 _ _ (w.heap.size + 1 + 1 + 1) 40 #[.string p, .string vb, .string vo, .string vt, .bool ib, .bool true, .bool true] (0, 0) _ _ rfl rfl (heap_setRow_same HG5.out) Try.underlying40 rfl (by kernel_rfl)) rfl (HF.out false (by unfold clashB mayEq; dsimp only; rw [h1, h2, h3] <;> rfl))
    · cases ib
      · cases it
        · go_wp2_with (refine wpList_store_row (by rfl) 40 (.tmp 8) (.tmp 72) (by rfl) (w.heap.size + 1 + 1 + 1) #[.string p, .string vb, .string vo, .string vt, .bool false, .bool io, .bool false] (by rfl) (by rfl) 40 _ HG5.out (by kernel_rfl) rfl HONE.out ?_)
          exact bodyPost_ret (v := .tuple #[.agg #[.string p, .string vb, .string vo, .string vt, .bool false, .bool io, .bool false], .bool false]) (results_cell_tmp Try.results31 _ _ (w.heap.size + 1 + 1 + 1) 40 #[.string p, .string vb, .string vo, .string vt, .bool false, .bool io, .bool false] (0, 0) _ _ rfl rfl (heap_setRow_same HG5.out) Try.underlying40 rfl (by kernel_rfl)) rfl (HF.out false (by unfold clashB mayEq; dsimp only; rw [h1, h2] <;> rfl))
        · cases h3 : (vo.toList == vt.toList)
          · go_wp2_with (refine wpList_store_row (by rfl) 40 (.tmp 8) (.tmp 72) (by rfl) (w.heap.size + 1 + 1 + 1) #[.string p, .string vb, .string vo, .string vt, .bool false, .bool io, .bool true] (by rfl) (by rfl) 40 _ HG5.out (by kernel_rfl) rfl HONE.out ?_)
            exact bodyPost_ret (v := .tuple #[.agg #[.string p, .string vb, .string vo, .string vt, .bool false, .bool io, .bool true], .bool true]) (results_cell_tmp Try.results31 _ _ (w.heap.size + 1 + 1 + 1) 40 #[.string p, .string vb, .string vo, .string vt, .bool false, .bool io, .bool true] (0, 0) _ _ rfl rfl (heap_setRow_same HG5.out) Try.underlying40 rfl (by kernel_rfl)) rfl (HF.out true (by unfold clashB mayEq; dsimp only; rw [h1, h2, h3] <;> rfl))
          · cases io
            · go_wp2_with (refine wpList_store_row (by rfl) 40 (.tmp 8) (.tmp 72) (by rfl) (w.heap.size + 1 + 1 + 1) #[.string p, .string vb, .string vo, .string vt, .bool false, .bool false, .bool true] (by rfl) (by rfl) 40 _ HG5.out (by kernel_rfl) rfl HONE.out ?_)
              exact bodyPost_ret (v := .tuple #[.agg #[.string p, .string vb, .string vo, .string vt, .bool false, .bool false, .bool true], .bool true]) (results_cell_tmp Try.results31 _ _ (w.heap.size + 1 + 1 + 1) 40 #[.string p, .string vb, .string vo, .string vt, .bool false, .bool false, .bool true] (0, 0) _ _ rfl rfl (heap_setRow_same HG5.out) Try.underlying40 rfl (by kernel_rfl)) rfl (HF.out true (by unfold clashB mayEq; dsimp only; rw [h1, h2, h3] <;> rfl))
            · go_wp2_with (refine wpList_store_row (by rfl) 40 (.tmp 8) (.tmp 72) (by rfl) (w.heap.size + 1 + 1 + 1) #[.string p, .string vb, .string vo, .string vt, .bool false, .bool true, .bool true] (by rfl) (by rfl) 40 _ HG5.out (by kernel_rfl) rfl HONE.out ?_)
              exact bodyPost_ret (v := .tuple #[.agg #[.string p, .string vb, .string vo, .string vt, .bool false, .bool true, .bool true], .bool false]) (results_cell_tmp Try.results31 _ _ (w.heap.size + 1 + 1 + 1) 40 #[.string p, .string vb, .string vo, .string vt, .bool false, .bool true, .bool true] (0, 0) _ _ rfl rfl (heap_setRow_same HG5.out) Try.underlying40 rfl (by kernel_rfl)) rfl (HF.out false (by unfold clashB mayEq; dsimp only; rw [h1, h2, h3] <;> rfl))
      · cases it
        · cases h3 : (vo.toList == vt.toList)
          · go_wp2_with (refine wpList_store_row (by rfl) 40 (.tmp 8) (.tmp 72) (by rfl) (w.heap.size + 1 + 1 + 1) #[.string p, .string vb, .string vo, .string vt, .bool true, .bool io, .bool false] (by rfl) (by rfl) 40 _ HG5.out (by kernel_rfl) rfl HONE.out ?_)
            exact bodyPost_ret (v := .tuple #[.agg #[.string p, .string vb, .string vo, .string vt, .bool true, .bool io, .bool false], .bool true]) (results_cell_tmp Try.results31 _ _ (w.heap.size + 1 + 1 + 1) 40 #[.string p, .string vb, .string vo, .string vt, .bool true, .bool io, .bool false] (0, 0) _ _ rfl rfl (heap_setRow_same HG5.out) Try.underlying40 rfl (by kernel_rfl)) rfl (HF.out true (by unfold clashB mayEq; dsimp only; rw [h1, h2, h3] <;> rfl))
          · cases io
            · go_wp2_with (refine wpList_store_row (by rfl) 40 (.tmp 8) (.tmp 72) (by rfl) (w.heap.size + 1 + 1 + 1) #[.string p, .string vb, .string vo, .string vt, .bool true, .bool false, .bool false] (by rfl) (by rfl) 40 _ HG5.out (by kernel_rfl) rfl HONE.out ?_)
              exact bodyPost_ret (v := .tuple #[.agg #[.string p, .string vb, .string vo, .string vt, .bool true, .bool false, .bool false], .bool false]) (results_cell_tmp Try.results31 _ _ (w.heap.size + 1 + 1 + 1) 40 #[.string p, .string vb, .string vo, .string vt, .bool true, .bool false, .bool false] (0, 0) _ _ rfl rfl (heap_setRow_same HG5.out) Try.underlying40 rfl (by kernel_rfl)) rfl (HF.out false (by unfold clashB mayEq; dsimp only; rw [h1, h2, h3] <;> rfl))
            · go_wp2_with (refine wpList_store_row (by rfl) 40 (.tmp 8) (.tmp 72) (by rfl) (w.heap.size + 1 + 1 + 1) #[.string p, .string vb, .string vo, .string vt, .bool true, .bool true, .bool false] (by rfl) (by rfl) 40 _ HG5.out (by kernel_rfl) rfl HONE.out ?_)
              exact bodyPost_ret (v := .tuple #[.agg #[.string p, .string vb, .string vo, .string vt, .bool true, .bool true, .bool false], .bool true]) (results_cell_tmp Try.results31 _ _ (w.heap.size + 1 + 1 + 1) 40 #[.string p, .string vb, .string vo, .string vt, .bool true, .bool true, .bool false] (0, 0) _ _ rfl rfl (heap_setRow_same HG5.out) Try.underlying40 rfl (by kernel_rfl)) rfl (HF.out true (by unfold clashB mayEq; dsimp only; rw [h1, h2, h3] <;> rfl))
        · go_wp2_with (refine wpList_store_row (by rfl) 40 (.tmp 8) (.tmp 72) (by rfl) (w.heap.size + 1 + 1 + 1) #[.string p, .string vb, .string vo, .string vt, .bool true, .bool io, .bool true] (by rfl) (by rfl) 40 _ HG5.out (by kernel_rfl) rfl HONE.out ?_)
          exact bodyPost_ret (v := .tuple #[.agg #[.string p, .string vb, .string vo, .string vt, .bool true, .bool io, .bool true], .bool false]) (results_cell_tmp Try.results31 _ _ (w.heap.size + 1 + 1 + 1) 40 #[.string p, .string vb, .string vo, .string vt, .bool true, .bool io, .bool true] (0, 0) _ _ rfl rfl (heap_setRow_same HG5.out) Try.underlying40 rfl (by kernel_rfl)) rfl (HF.out false (by unfold clashB mayEq; dsimp only; rw [h1, h2] <;> rfl))
  · cases ib
    · cases io
      · go_wp2_with (refine wpList_store_row (by rfl) 40 (.tmp 8) (.tmp 72) (by rfl) (w.heap.size + 1 + 1 + 1) #[.string p, .string vb, .string vo, .string vt, .bool false, .bool false, .bool it] (by rfl) (by rfl) 40 _ HG5.out (by kernel_rfl) rfl HONE.out ?_)
        exact bodyPost_ret (v := .tuple #[.agg #[.string p, .string vb, .string vo, .string vt, .bool false, .bool false, .bool it], .bool false]) (results_cell_tmp Try.results31 _ _ (w.heap.size + 1 + 1 + 1) 40 #[.string p, .string vb, .string vo, .string vt, .bool false, .bool false, .bool it] (0, 0) _ _ rfl rfl (heap_setRow_same HG5.out) Try.underlying40 rfl (by kernel_rfl)) rfl (HF.out false (by unfold clashB mayEq; dsimp only; rw [h1] <;> rfl))
      · cases h2 : (vb.toList == vt.toList)
        · cases h3 : (vo.toList == vt.toList)
          · go_wp2_with (refine wpList_store_row (by rfl) 40 (.tmp 8) (.tmp 72) (by rfl) (w.heap.size + 1 + 1 + 1) #[.string p, .string vb, .string vo, .string vt, .bool false, .bool true, .bool it] (by rfl) (by rfl) 40 _ HG5.out (by kernel_rfl) rfl HONE.out ?_)
            exact bodyPost_ret (v := .tuple #[.agg #[.string p, .string vb, .string vo, .string vt, .bool false, .bool true, .bool it], .bool true]) (results_cell_tmp Try.results31 _ _ (w.heap.size + 1 + 1 + 1) 40 #[.string p, .string vb, .string vo, .string vt, .bool false, .bool true, .bool it] (0, 0) _ _ rfl rfl (heap_setRow_same HG5.out) Try.underlying40 rfl (by kernel_rfl)) rfl (HF.out true (by unfold clashB mayEq; dsimp only; rw [h1, h2, h3] <;> rfl))
          · cases it
            · go_wp2_with (refine wpList_store_row (by rfl) 40 (.tmp 8) (.tmp 72) (by rfl) (w.heap.size + 1 + 1 + 1) #[.string p, .string vb, .string vo, .string vt, .bool false, .bool true, .bool false] (by rfl) (by rfl) 40 _ HG5.out (by kernel_rfl) rfl HONE.out ?_)
              exact bodyPost_ret (v := .tuple #[.agg #[.string p, .string vb, .string vo, .string vt, .bool false, .bool true, .bool false], .bool true]) (results_cell_tmp Try.results31 _ _ (w.heap.size + 1 + 1 + 1) 40 #[.string p, .string vb, .string vo, .string vt, .bool false, .bool true, .bool false] (0, 0) _ _ rfl rfl (heap_setRow_same HG5.out) Try.underlying40 rfl (by kernel_rfl)) rfl (HF.out true (by unfold clashB mayEq; dsimp only; rw [h1, h2, h3] <;> rfl))
            · go_wp2_with (refine wpList_store_row (by rfl) 40 (.tmp 8) (.tmp 72) (by rfl) (w.heap.size + 1 + 1 + 1) #[.string p, .string vb, .string vo, .string vt, .bool false, .bool true, .bool true] (by rfl) (by rfl) 40 _ HG5.out (by kernel_rfl) rfl HONE.out ?_)
              exact bodyPost_ret (v := .tuple #[.agg #[.string p, .string vb, .string vo, .string vt, .bool false, .bool true, .bool true], .bool false]) (results_cell_tmp Try.results31 _ _ (w.heap.size + 1 + 1 + 1) 40 #[.string p, .string vb, .string vo, .string vt, .bool false, .bool true, .bool true] (0, 0) _ _ rfl rfl (heap_setRow_same HG5.out) Try.underlying40 rfl (by kernel_rfl)) rfl (HF.out false (by unfold clashB mayEq; dsimp only; rw [h1, h2, h3] <;> rfl))
        · cases it
          · go_wp2_with (refine wpList_store_row (by rfl) 40 (.tmp 8) (.tmp 72) (by rfl) (w.heap.size + 1 + 1 + 1) #[.string p, .string vb, .string vo, .string vt, .bool false, .bool true, .bool false] (by rfl) (by rfl) 40 _ HG5.out (by kernel_rfl) rfl HONE.out ?_)
            exact bodyPost_ret (v := .tuple #[.agg #[.string p, .string vb, .string vo, .string vt, .bool false, .bool true, .bool false], .bool false]) (results_cell_tmp Try.results31 _ _ (w.heap.size + 1 + 1 + 1) 40 #[.string p, .string vb, .string vo, .string vt, .bool false, .bool true, .bool false] (0, 0) _ _ rfl rfl (heap_setRow_same HG5.out) Try.underlying40 rfl (by kernel_rfl)) rfl (HF.out false (by unfold clashB mayEq; dsimp only; rw [h1, h2] <;> rfl))
          · cases h3 : (vo.toList == vt.toList)
            · go_wp2_with (refine wpList_store_row (by rfl) 40 (.tmp 8) (.tmp 72) (by rfl) (w.heap.size + 1 + 1 + 1) #[.string p, .string vb, .string vo, .string vt, .bool false, .bool true, .bool true] (by rfl) (by rfl) 40 _ HG5.out (by kernel_rfl) rfl HONE.out ?_)
              exact bodyPost_ret (v := .tuple #[.agg #[.string p, .string vb, .string vo, .string vt, .bool false, .bool true, .bool true], .bool true]) (results_cell_tmp Try.results31 _ _ (w.heap.size + 1 + 1 + 1) 40 #[.string p, .string vb, .string vo, .string vt, .bool false, .bool true, .bool true] (0, 0) _ _ rfl rfl (heap_setRow_same HG5.out) Try.underlying40 rfl (by kernel_rfl)) rfl (HF.out true (by unfold clashB mayEq; dsimp only; rw [h1, h2, h3] <;> rfl))
            · go_wp2_with (refine wpList_store_row (by rfl) 40 (.tmp 8) (.tmp 72) (by rfl) (w.heap.size + 1 + 1 + 1) #[.string p, .string vb, .string vo, .string vt, .bool false, .bool true, .bool true] (by rfl) (by rfl) 40 _ HG5.out (by kernel_rfl) rfl HONE.out ?_)
              exact bodyPost_ret (v := .tuple #[.agg #[.string p, .string vb, .string vo, .string vt, .bool false, .bool true, .bool true], .bool false]) (results_cell_tmp Try.results31 _ _ (w.heap.size + 1 + 1 + 1) 40 #[.string p, .string vb, .string vo, .string vt, .bool false, .bool true, .bool true] (0, 0) _ _ rfl rfl (heap_setRow_same HG5.out) Try.underlying40 rfl (by kernel_rfl)) rfl (HF.out false (by unfold clashB mayEq; dsimp only; rw [h1, h2, h3] <;> rfl))
    · cases io
      · cases h2 : (vb.toList == vt.toList)
        · cases h3 : (vo.toList == vt.toList)
          · go_wp2_with (refine wpList_store_row (by rfl) 40 (.tmp 8) (.tmp 72) (by rfl) (w.heap.size + 1 + 1 + 1) #[.string p, .string vb, .string vo, .string vt, .bool true, .bool false, .bool it] (by rfl) (by rfl) 40 _ HG5.out (by kernel_rfl) rfl HONE.out ?_)
            exact bodyPost_ret (v := .tuple #[.agg #[.string p, .string vb, .string vo, .string vt, .bool true, .bool false, .bool it], .bool true]) (results_cell_tmp Try.results31 _ _ (w.heap.size + 1 + 1 + 1) 40 #[.string p, .string vb, .string vo, .string vt, .bool true, .bool false, .bool it] (0, 0) _ _ rfl rfl (heap_setRow_same HG5.out) Try.underlying40 rfl (by kernel_rfl)) rfl (HF.out true (by unfold clashB mayEq; dsimp only; rw [h1, h2, h3] <;> rfl))
          · cases it
            · go_wp2_with (refine wpList_store_row (by rfl) 40 (.tmp 8) (.tmp 72) (by rfl) (w.heap.size + 1 + 1 + 1) #[.string p, .string vb, .string vo, .string vt, .bool true, .bool false, .bool false] (by rfl) (by rfl) 40 _ HG5.out (by kernel_rfl) rfl HONE.out ?_)
              exact bodyPost_ret (v := .tuple #[.agg #[.string p, .string vb, .string vo, .string vt, .bool true, .bool false, .bool false], .bool false]) (results_cell_tmp Try.results31 _ _ (w.heap.size + 1 + 1 + 1) 40 #[.string p, .string vb, .string vo, .string vt, .bool true, .bool false, .bool false] (0, 0) _ _ rfl rfl (heap_setRow_same HG5.out) Try.underlying40 rfl (by kernel_rfl)) rfl (HF.out false (by unfold clashB mayEq; dsimp only; rw [h1, h2, h3] <;> rfl))
            · go_wp2_with (refine wpList_store_row (by rfl) 40 (.tmp 8) (.tmp 72) (by rfl) (w.heap.size + 1 + 1 + 1) #[.string p, .string vb, .string vo, .string vt, .bool true, .bool false, .bool true] (by rfl) (by rfl) 40 _ HG5.out (by kernel_rfl) rfl HONE.out ?_)
              exact bodyPost_ret (v := .tuple #[.agg #[.string p, .string vb, .string vo, .string vt, .bool true, .bool false, .bool true], .bool true]) (results_cell_tmp Try.results31 _ _ (w.heap.size + 1 + 1 + 1) 40 #[.string p, .string vb, .string vo, .string vt, .bool true, .bool false, .bool true] (0, 0) _ _ rfl rfl (heap_setRow_same HG5.out) Try.underlying40 rfl (by kernel_rfl)) rfl (HF.out true (by unfold clashB mayEq; dsimp only; rw [h1, h2, h3] <;> rfl))
        · cases it
          · cases h3 : (vo.toList == vt.toList)
            · go_wp2_with (refine wpList_store_row (by rfl) 40 (.tmp 8) (.tmp 72) (by rfl) (w.heap.size + 1 + 1 + 1) #[.string p, .string vb, .string vo, .string vt, .bool true, .bool false, .bool false] (by rfl) (by rfl) 40 _ HG5.out (by kernel_rfl) rfl HONE.out ?_)
              exact bodyPost_ret (v := .tuple #[.agg #[.string p, .string vb, .string vo, .string vt, .bool true, .bool false, .bool false], .bool true]) (results_cell_tmp Try.results31 _ _ (w.heap.size + 1 + 1 + 1) 40 #[.string p, .string vb, .string vo, .string vt, .bool true, .bool false, .bool false] (0, 0) _ _ rfl rfl (heap_setRow_same HG5.out) Try.underlying40 rfl (by kernel_rfl)) rfl (HF.out true (by unfold clashB mayEq; dsimp only; rw [h1, h2, h3] <;> rfl))
            · go_wp2_with (refine wpList_store_row (by rfl) 40 (.tmp 8) (.tmp 72) (by rfl) (w.heap.size + 1 + 1 + 1) #[.string p, .string vb, .string vo, .string vt, .bool true, .bool false, .bool false] (by rfl) (by rfl) 40 _ HG5.out (by kernel_rfl) rfl HONE.out ?_)
              exact bodyPost_ret (v := .tuple #[.agg #[.string p, .string vb, .string vo, .string vt, .bool true, .bool false, .bool false], .bool false]) (results_cell_tmp Try.results31 _ _ (w.heap.size + 1 + 1 + 1) 40 #[.string p, .string vb, .string vo, .string vt, .bool true, .bool false, .bool false] (0, 0) _ _ rfl rfl (heap_setRow_same HG5.out) Try.underlying40 rfl (by kernel_rfl)) rfl (HF.out false (by unfold clashB mayEq; dsimp only; rw [h1, h2, h3] <;> rfl))
          · go_wp2_with (refine wpList_store_row (by rfl) 40 (.tmp 8) (.tmp 72) (by rfl) (w.heap.size + 1 + 1 + 1) #[.string p, .string vb, .string vo, .string vt, .bool true, .bool false, .bool true] (by rfl) (by rfl) 40 _ HG5.out (by kernel_rfl) rfl HONE.out ?_)
            exact bodyPost_ret (v := .tuple #[.agg #[.string p, .string vb, .string vo, .string vt, .bool true, .bool false, .bool true], .bool false]) (results_cell_tmp Try.results31 _ _ (w.heap.size + 1 + 1 + 1) 40 #[.string p, .string vb, .string vo, .string vt, .bool true, .bool false, .bool true] (0, 0) _ _ rfl rfl (heap_setRow_same HG5.out) Try.underlying40 rfl (by kernel_rfl)) rfl (HF.out false (by unfold clashB mayEq; dsimp only; rw [h1, h2] <;> rfl))
      · go_wp2_with (refine wpList_store_row (by rfl) 40 (.tmp 8) (.tmp 72) (by rfl) (w.heap.size + 1 + 1 + 1) #[.string p, .string vb, .string vo, .string vt, .bool true, .bool true, .bool it] (by rfl) (by rfl) 40 _ HG5.out (by kernel_rfl) rfl HONE.out ?_)
        exact bodyPost_ret (v := .tuple #[.agg #[.string p, .string vb, .string vo, .string vt, .bool true, .bool true, .bool it], .bool false]) (results_cell_tmp Try.results31 _ _ (w.heap.size + 1 + 1 + 1) 40 #[.string p, .string vb, .string vo, .string vt, .bool true, .bool true, .bool it] (0, 0) _ _ rfl rfl (heap_setRow_same HG5.out) Try.underlying40 rfl (by kernel_rfl)) rfl (HF.out false (by unfold clashB mayEq; dsimp only; rw [h1] <;> rfl))
end Go.Proofs.Ytmbnbehlfbdpnaa
