/- The contract of tree's below: does a file stand where a path has a folder? -/
import Derived.Test.YtgfjjglejlnfbaaGreatDoorTFnd
namespace Go.Proofs.YtgfjjglejlnfbaaGreatDoor
open Go.RowKit Go.Shelf
attribute [local go_sem] Oper.semAt_some

/-- A folder's path. -/
def trimS (b : ByteArray) : ByteArray := ⟨(Lib.trimSuffix b.data.toList [47]).toArray⟩
def belowB (fs : List Fi) (p : ByteArray) : Bool := (nTo p (nN p)).any (fun x => (findB fs (trimS x.1)).2)
theorem any_nTo (fs : List Fi) (p : ByteArray) (hp : p.size ≤ 1000000) : belowB fs p = (nToS p hp (nN p)).any (fun x => (findB fs (trimS x.1.1)).2) := by unfold belowB; rw [← nToS_val p hp, List.any_map]; rfl

set_option maxRecDepth 100000 in
set_option maxHeartbeats 2000000 in
theorem below_in (n : Nat) (hn : 3 ≤ n) (p : ByteArray) (sp : Option Addr) (cap : Nat) (fs : List Fi) (g : Nat) (w : World) (hp : p.size ≤ 1000000) (hr : RowsAt w 2 Fi.cells sp fs) (hl : fs.length ≤ 1000000) (hg : w.cell? ⟨g, 0, none⟩ = some (.slice sp fs.length cap)) :
    CallsIn Fence.wide n Tryz.prog 67 #[.string p, .func (.func 94) #[] #[.pointer (some ⟨g, 0, none⟩)]] w fun e w' => e = .returned (.bool (belowB fs p)) ∧ Below w.heap.size w w' := by
  have h1 : 1 ≤ n := by omega
  have HR : Hid (RowsAt w 2 Fi.cells sp fs) := hr
  have hgl := block_lt_of_cell hg
  clear hr
  refine callsIn_of_wp_marks Tryz.func67 rfl trivial ?_ rfl
  simp only [Tryz.ntmps67, List.size_toArray, List.length_cons, List.length_nil, Nat.reduceAdd, Nat.reduceSub, Array.replicate_succ, Array.replicate_zero, List.push_toArray, List.append_toArray, List.nil_append, List.cons_append]
  gi_wp2_with (refine ⟨trivial, ?_⟩; gi_at_call 97; refine (names_any (n - 1) p _).mono ?_; rintro e w' ⟨rfl, rfl⟩)
  have c0 := cell_new_l w (.func (.func 94) #[] #[.pointer (some ⟨g, 0, none⟩)]) 134
  have c1 := cell_new_l (w.alloc (.cells #[.func (.func 94) #[] #[.pointer (some ⟨g, 0, none⟩)]] 134)) (.bool false) 4
  have c2 := cell_new_l ((w.alloc (.cells #[.func (.func 94) #[] #[.pointer (some ⟨g, 0, none⟩)]] 134)).alloc (.cells #[.bool false] 4)) (.string p) 9
  simp only [World.size_alloc] at c1 c2
  have hB0 : Below w.heap.size w (((w.alloc (.cells #[.func (.func 94) #[] #[.pointer (some ⟨g, 0, none⟩)]] 134)).alloc (.cells #[.bool false] 4)).alloc (.cells #[.string p] 9)) := (((Below.refl _ w).alloc (Nat.le_refl _) _).alloc (by simp) _).alloc (by simp; omega) _
  refine wpIn_rangeFunc_ownF rfl h1 (gf := 125) (lb := #[.pointer (some ⟨w.heap.size + 1 + 1, 0, none⟩)]) rfl trivial (enters_of Tryz.func125 (by kernel_rfl) rfl)
    (names_stops (n - 1) (by omega) (w.heap.size + 1 + 1) p hp _ (by simp) c2.1) keepB_t (keepB_b (by simp)) (Below.refl _ _) (fun _ => rfl)
    (fun pre W => (pre.any (fun x => (findB fs (trimS x.1.1)).2) = false ∧ W.cell? ⟨w.heap.size, 0, none⟩ = some (.func (.func 94) #[] #[.pointer (some ⟨g, 0, none⟩)]) ∧ W.cell? ⟨w.heap.size + 1, 0, none⟩ = some (.bool false) ∧ W.frozen? ⟨w.heap.size + 1, 0, none⟩ = false ∧ w.heap.size + 1 + 1 < W.heap.size) ∧ Below w.heap.size w W)
    (fun c pre W => (c = .ret ∧ pre.any (fun x => (findB fs (trimS x.1.1)).2) = true ∧ W.cell? ⟨w.heap.size + 1, 0, none⟩ = some (.bool true)) ∧ Below w.heap.size w W)
    (OwnFrom.and (Own.from (fun s A B row hs hg hr => ⟨hs.1, cell_kept hs.2.1 hg hr, cell_kept hs.2.2.1 hg hr, (frozen_kept hs.2.2.1 hg hr).trans hs.2.2.2.1, Nat.lt_of_lt_of_le hs.2.2.2.2 hg.size⟩) _) (ownFrom_below (Nat.le_refl _) (by simp; omega)))
    (fun c => OwnFrom.and (Own.from (fun s A B row hs hg hr => ⟨hs.1, hs.2.1, cell_kept hs.2.2 hg hr⟩) _) (ownFrom_below (Nat.le_refl _) (by simp; omega)))
    ⟨⟨rfl, cell_alloc_l _ (cell_alloc_l _ c0.1), cell_alloc_l _ c1.1, frozen_alloc_l _ c1.1 c1.2, by simp⟩, hB0⟩
    (fun x => { tmps := #[.string p, .func (.func 94) #[] #[.pointer (some ⟨g, 0, none⟩)], undef, .pointer (some ⟨w.heap.size, 0, none⟩), .pointer (some ⟨w.heap.size + 1, 0, none⟩), .string x.1.1, undef, undef, .string p, .func (.func 125) #[] #[.pointer (some ⟨w.heap.size + 1 + 1, 0, none⟩)], .string x.1.1, .string x.1.2, undef, undef, undef, undef, undef, undef, undef, undef], defers := [] }) ?assign ?body ?done ?stop
  case assign =>
    intro l x W K hK
    gi_wp2
    exact hK
  case body =>
    rintro l pre x W ⟨⟨hall, hf, hr, hrf, hs2⟩, hB⟩ hlt
    have hle := hB.size
    have hx1 : x.1.1.size ≤ 9223372036854775807 := by have := x.2.1; omega
    have hf0 := block_lt_of_cell hf
    have hr0 := block_lt_of_cell hr
    have hgW : W.cell? ⟨g, 0, none⟩ = some (.slice sp fs.length cap) := (hB.cell (p := ⟨g, 0, none⟩) hgl).trans hg
    have HRW : Hid (RowsAt W 2 Fi.cells sp fs) := RowsAt.below HR.out hB
    have hd : 1 ≤ n - 1 - 1 := by omega
    have hmx : Tryz.prog.follows .mixedOrders = true := by kernel_rfl
    have hft : Fence.wide.fn 98 := trivial
    have hff : Fence.wide.fn 94 := trivial
    gi_wp2
    gi_region_with_o (first
      | (gi_at_call 98; refine (CallsIn.inRound l (callsIn_wide.2 (Tryz.strings_TrimSuffix x.1.1 ⟨#[47]⟩ _ hx1))).mono ?_; rintro e w' ⟨rfl, rfl⟩)
      | (gi_at_call 94; refine (CallsIn.inRound l (callsIn_wide.2 (finder1_any sp cap fs (trimS x.1.1) g _ (RowsAt.below HRW.out (by first | exact Below.refl _ _ | exact (Below.refl _ _).drew)) hl (by first | exact hgW | exact hgW)))).mono ?_; rintro e w3 ⟨rfl, hB3⟩; have f3 : Below W.heap.size W w3 := (by first | exact hB3 | exact ((Below.refl _ W).drew).trans hB3 | exact (below_drawn' W _).trans hB3); clear hB3))
    all_goals (
      have hk3 : KeepsOthers W w3 := KeepsOthers.of_grownBy (grown_of f3) (fun j o e => by cases e)
      have hr3 : w3.cell? ⟨w.heap.size + 1, 0, none⟩ = some (.bool false) := (f3.cell (p := ⟨w.heap.size + 1, 0, none⟩) hr0).trans hr
      have hrf3 : w3.frozen? ⟨w.heap.size + 1, 0, none⟩ = false := (f3.frozen (p := ⟨w.heap.size + 1, 0, none⟩) hr0).trans hrf
      have hf3 : w3.cell? ⟨w.heap.size, 0, none⟩ = some (.func (.func 94) #[] #[.pointer (some ⟨g, 0, none⟩)]) := (f3.cell (p := ⟨w.heap.size, 0, none⟩) hf0).trans hf
      have hb3 : w3.heap[w.heap.size + 1 + 1]? = W.heap[w.heap.size + 1 + 1]? := f3.block _ hs2
      have hz3 := f3.size
      cases hfd : (findB fs (trimS x.1.1)).2 with
      | false =>
        gi_wp2
        exact ⟨hk3, hb3, ⟨by rw [List.any_append, hall]; simp [hfd], hf3, hr3, hrf3, by omega⟩, hB.trans (f3.mono hle)⟩
      | true =>
        gi_wp2
        exact ⟨hk3.trans (KeepsOthers.setCell _ _ _), ⟨rfl, by rw [List.any_append]; simp [hfd], World.cell?_setCell_same' _ _ _ (by rw [hr3]; rfl)⟩, (hB.trans (f3.mono hle)).setCell (p := ⟨w.heap.size + 1, 0, none⟩) (by simp) _⟩)
  case done =>
    rintro D ys W hD rfl ⟨⟨hall, hf, hr, hrf, hs2⟩, hB⟩ hK
    gi_wp2
    have hK' := (KeepsOthers.setCell W ⟨w.heap.size + 1, 0, none⟩ (.bool false)).same D _ hK rfl
    refine ⟨by simp, .inl ⟨_, _, rfl, run_takeDeferred hK', ?_⟩⟩
    have hc5 := cell_kept (World.cell?_setCell_same' W ⟨w.heap.size + 1, 0, none⟩ (.bool false) (by rw [hr]; rfl)) (grownBy_putObj' _ D (.deferred none)) (fun r e => by cases e; exact ⟨_, hK', rfl⟩)
    refine ⟨.bool false, ?_, by rw [any_nTo fs p hp, hall], (hB.setCell (p := ⟨w.heap.size + 1, 0, none⟩) (by simp) _).trans (belowK_b (w := w) (Nat.le_refl _) _ D _ _ (by simp at hD; omega) hK' rfl rfl)⟩
    simp [results, Tryz.f67, go_sem, hc5]
  case stop =>
    rintro D c pre W hD hpre ⟨⟨rfl, hall, hr⟩, hB⟩ hK
    gi_wp2
    refine ⟨by simp, .inl ⟨_, _, rfl, run_takeDeferred hK, ?_⟩⟩
    have hc5 := cell_kept hr (grownBy_putObj' _ D (.deferred none)) (fun r e => by cases e; exact ⟨_, hK, rfl⟩)
    have hpb : belowB fs p = true := by
      rw [any_nTo fs p hp, List.any_eq_true]
      obtain ⟨y, hy, hy2⟩ := List.any_eq_true.1 hall
      exact ⟨y, hpre.subset hy, hy2⟩
    refine ⟨.bool true, ?_, by rw [hpb], hB.trans (belowK_b (w := w) (Nat.le_refl _) W D _ _ (by simp at hD; omega) hK rfl rfl)⟩
    simp [results, Tryz.f67, go_sem, hc5]
theorem below_any (p : ByteArray) (sp : Option Addr) (cap : Nat) (fs : List Fi) (g : Nat) (w : World) (hp : p.size ≤ 1000000) (hr : RowsAt w 2 Fi.cells sp fs) (hl : fs.length ≤ 1000000) (hg : w.cell? ⟨g, 0, none⟩ = some (.slice sp fs.length cap)) :
    Calls Tryz.prog 67 #[.string p, .func (.func 94) #[] #[.pointer (some ⟨g, 0, none⟩)]] w fun e w' => e = .returned (.bool (belowB fs p)) ∧ Below w.heap.size w w' := (callsIn_wide (n := 3)).1 (below_in 3 (Nat.le_refl _) p sp cap fs g w hp hr hl hg)
end Go.Proofs.YtgfjjglejlnfbaaGreatDoor
