/- The contracts of the reference's Same at two rows of the same bytes, of its Constants and of its Start. -/
import Derived.Test.YtekmmmechhjggaaDoorRoot
import Derived.Test.YtekmmmechhjggaaDoorPrimes
import Derived.Test.YtekmmmechhjggaaDoorSame
namespace Go.Proofs.YtekmmmechhjggaaDoor
open Go.RowKit

theorem prF_small : ∀ i : Nat, i < 64 → 0 ≤ prF i ∧ prF i < 4294967296 := by decide +kernel
theorem roots3 : ∀ i : Nat, i < 64 → rootTo (prF i) 3 38 % 4294967296 = kF i := by decide +kernel
theorem roots2 : ∀ i : Nat, i < 8 → rootTo (prF i) 2 38 % 4294967296 = hS.fn i := by decide +kernel
/-- The first t of g, and then naught. -/
def upTo (g : Nat → Int) (t : Nat) : Nat → Int := fun i => if i < t then g i else 0
theorem upTo_succ (g : Nat → Int) (t : Nat) : upd (upTo g t) t (g t) = upTo g (t + 1) := by
  funext i
  unfold upd upTo
  by_cases h : i = t
  · subst h; simp
  · rw [if_neg h]
    by_cases h2 : i < t
    · rw [if_pos h2, if_pos (by omega)]
    · rw [if_neg h2, if_neg (by omega)]

set_option maxRecDepth 100000 in
set_option maxHeartbeats 1000000 in
theorem refSame_any (sp tp : Option Addr) (len c1 c2 : Nat) (src : Nat → Int) (w : World) (h1 : SrcAt w .u8 sp len src) (h2 : SrcAt w .u8 tp len src) (hlen : len ≤ 100000000) :
    Calls Tryd.prog 15 #[.slice sp len c1, .slice tp len c2] w fun e w' => e = .returned (.bool true) ∧ Below w.heap.size w w' := by
  have hne : ((len : Int) != (len : Int)) = false := by simp
  have H1 : Hid _ := h1
  have H2 : Hid _ := h2
  clear h1 h2
  go_enter Tryd.func15, Tryd.ntmps15
  go_wp2
  go_loopw [5] (fun i wr => ∃ t : Nat, t ≤ len ∧ i = .int .i64 t ∧ Below w.heap.size w wr) (fun i _ => len - (intOf i).toNat)
  case atStart => exact ⟨0, Nat.zero_le _, rfl, Below.refl _ _⟩
  case round =>
    obtain ⟨t, ht, rfl, hBr⟩ := hrel
    by_cases hlt : t < len
    · obtain ⟨b1, o1, rfl, hc1⟩ := (SrcAt.below H1.out hBr) (by omega)
      obtain ⟨b2, o2, rfl, hc2⟩ := (SrcAt.below H2.out hBr) (by omega)
      have e1 := hc1 t hlt
      have e2 := hc2 t hlt
      have hx : (src t != src t) = false := by simp
      clear hc1 hc2 H1 H2
      go_wp2
      go_quiet (fail)
      go_wp2
      go_roundw
      case rel => exact ⟨t + 1, by omega, by go_num, below_drewN hBr _⟩
      case measure => simp [intOf]; omega
    · clear H1 H2
      go_wp2
      go_ret
      exact ⟨rfl, hBr⟩

set_option maxRecDepth 100000 in
set_option maxHeartbeats 2000000 in
theorem refConstants_any (w : World) :
    Calls Tryd.prog 19 #[] w fun e w' => e = .returned (.agg (arr .u32 64 kF)) ∧ Below w.heap.size w w' := by
  go_enter Tryd.func19, Tryd.ntmps19
  go_wp2_with fail
  refine calls_gen (fun W1 => Below w.heap.size w W1 ∧ W1.heap[w.heap.size]? = some (.cells (arr .u32 64 fun _ => 0) 33 (0, 0)) ∧ W1.heap[w.heap.size + 1]? = some (.cells (arr .u32 64 fun _ => 0) 33 (0, 0))) ⟨?_, ?_, ?_⟩ ?_
  · exact ((Below.refl _ _).alloc (Nat.le_refl _) _).alloc (by simp) _
  · exact (heap_alloc2_old _ _ _).trans rfl
  · exact (heap_alloc2_new _ _ _).trans rfl
  intro W1 ⟨hB1, hr0, hr1⟩
  refine (primes_any 64 W1 (by omega)).mono ?_
  rintro e w2 ⟨v, rfl, hO, hB2⟩
  have H0 : Hid (w2.heap[w.heap.size]? = some (.cells (arr .u32 64 fun _ => 0) 33 (0, 0))) := (hB2.block _ (lt_of_row hr0)).trans hr0
  have H1 : Hid (w2.heap[w.heap.size + 1]? = some (.cells (arr .u32 64 fun _ => 0) 33 (0, 0))) := (hB2.block _ (lt_of_row hr1)).trans hr1
  have hBw : Below w.heap.size w w2 := hB1.trans (hB2.mono hB1.size)
  have z1 := lt_of_row hr1
  have z2 : w.heap.size + 1 < w2.heap.size := lt_of_row H1.out
  obtain ⟨sp, cap, rfl, hsrc, hcap, hmax⟩ := hO.src
  obtain ⟨g, o, rfl, hcells⟩ := hsrc (by omega)
  have hgs := block_lt_of_cell (hcells 0 (by omega))
  have hgW : W1.heap.size ≤ g := hO.ge g rfl
  have HC : Hid (∀ j : Nat, j < 64 → w2.cell? ⟨g, o + j, none⟩ = some (.int .u64 (prF j))) := hcells
  clear hr0 hr1 hB1 hB2 hO hsrc hcells
  unfold maxLen at hmax
  go_wp2
  go_loopw [3] (fun i wr => ∃ t : Nat, t ≤ 64 ∧ i = .int .i64 t ∧ Below w.heap.size w wr ∧ wr.heap[w.heap.size]? = some (.cells (arr .u32 64 fun _ => 0) 33 (0, 0)) ∧ wr.heap[w.heap.size + 1]? = some (.cells (arr .u32 64 (upTo kF t)) 33 (0, 0)) ∧ (∀ j : Nat, j < 64 → wr.cell? ⟨g, o + j, none⟩ = some (.int .u64 (prF j)))) (fun i _ => 64 - (intOf i).toNat)
  case atStart => exact ⟨0, Nat.zero_le _, rfl, hBw, H0.out, by rw [H1.out]; rfl, HC.out⟩
  case round =>
    obtain ⟨t, ht, rfl, hBr, hr0, hr1, hcs⟩ := hrel
    clear H0 H1 HC hBw
    have HR0 : Hid _ := hr0
    have HR1 : Hid _ := hr1
    have HCS : Hid _ := hcs
    by_cases hlt : t < 64
    · have hc := hcs t hlt
      have hsm := prF_small t (by omega)
      have HROOT : Hid (rootTo (prF t) 3 38 % 4294967296 = kF t) := roots3 t hlt
      clear hr0 hr1 hcs
      go_wp2_with fail
      refine (root3_any (prF t) _ hsm.1 hsm.2).mono ?_
      rintro e w3 ⟨rfl, hB3⟩
      rw [HROOT.out]
      have HR03 : Hid (w3.heap[w.heap.size]? = some (.cells (arr .u32 64 fun _ => 0) 33 (0, 0))) := (hB3.block _ (lt_of_row HR0.out)).trans HR0.out
      have hr13 : w3.heap[w.heap.size + 1]? = some (.cells (arr .u32 64 (upTo kF t)) 33 (0, 0)) := (hB3.block _ (lt_of_row HR1.out)).trans HR1.out
      have HR13 : Hid _ := hr13
      have HCS3 : Hid (∀ j : Nat, j < 64 → w3.cell? ⟨g, o + j, none⟩ = some (.int .u64 (prF j))) := fun j hj => (hB3.cell (block_lt_of_cell (HCS.out j hj))).trans (HCS.out j hj)
      have hBw3 : Below w.heap.size w w3 := hBr.trans (hB3.mono hBr.size)
      have hc0 : w3.cell? ⟨w.heap.size + 1, t, none⟩ = some (.int .u32 (upTo kF t t)) := row_cell hr13 hlt
      have hf : ∀ j, w3.frozen? ⟨w.heap.size + 1, j, none⟩ = false := fun j => frozen_of_row _ _ j _ _ hr13
      clear hr13 hB3 HR0 HR1 HCS hc
      go_wp2
      go_roundw
      case rel =>
        refine ⟨t + 1, by omega, by go_num, hBw3.setCell (by simp) _, (heap_setCell_other _ _ _ _ (by simp)).trans HR03.out, ?_, fun j hj => ?_⟩
        · rw [← upTo_succ]; exact row_set HR13.out _ _
        · rw [World.cell?_setCell_other _ _ _ _ (fun e => absurd (congrArg Addr.block e) (by simp only; omega))]; exact HCS3.out j hj
      case measure => simp [intOf]; omega
    · have htn : t = 64 := by omega
      have HT : Hid _ := htn
      clear htn hr0 hr1 hcs
      go_wp2_with (first | (refine wpList_load_row rfl 33 _ rfl (w.heap.size + 1) rfl 33 _ (0, 0) _ HR1.out Tryd.underlying33 rfl (by rw [arr_size]; kernel_rfl) ?_) | (refine wpList_store_row rfl 33 _ _ rfl w.heap.size _ rfl rfl 33 _ HR0.out (by rw [arr_size]; kernel_rfl) (by rw [arr_size, arr_size]) (arr_one _ _ _) ?_))
      refine bodyPost_ret (v := .agg (arr .u32 64 kF)) ?_ rfl ⟨rfl, ?_⟩
      · rw [show arr .u32 64 kF = arr .u32 64 (upTo kF t) from arr_congr fun i hi => by rw [HT.out]; unfold upTo; rw [if_pos hi]]
        exact results_cell_row Tryd.results19 _ _ w.heap.size 33 _ (0, 0) _ rfl (heap_setRow_same HR0.out) Tryd.underlying33 rfl (by rw [arr_size]; kernel_rfl)
      · exact below_setRow' hBr (Nat.le_refl _) _

set_option maxRecDepth 100000 in
set_option maxHeartbeats 2000000 in
theorem refStart_any (w : World) :
    Calls Tryd.prog 21 #[] w fun e w' => e = .returned (.agg (arr .u32 8 hS.fn)) ∧ Below w.heap.size w w' := by
  go_enter Tryd.func21, Tryd.ntmps21
  go_wp2_with fail
  refine calls_gen (fun W1 => Below w.heap.size w W1 ∧ W1.heap[w.heap.size]? = some (.cells (arr .u32 8 fun _ => 0) 29 (0, 0)) ∧ W1.heap[w.heap.size + 1]? = some (.cells (arr .u32 8 fun _ => 0) 29 (0, 0))) ⟨?_, ?_, ?_⟩ ?_
  · exact ((Below.refl _ _).alloc (Nat.le_refl _) _).alloc (by simp) _
  · exact (heap_alloc2_old _ _ _).trans rfl
  · exact (heap_alloc2_new _ _ _).trans rfl
  intro W1 ⟨hB1, hr0, hr1⟩
  refine (primes_any 8 W1 (by omega)).mono ?_
  rintro e w2 ⟨v, rfl, hO, hB2⟩
  have H0 : Hid (w2.heap[w.heap.size]? = some (.cells (arr .u32 8 fun _ => 0) 29 (0, 0))) := (hB2.block _ (lt_of_row hr0)).trans hr0
  have H1 : Hid (w2.heap[w.heap.size + 1]? = some (.cells (arr .u32 8 fun _ => 0) 29 (0, 0))) := (hB2.block _ (lt_of_row hr1)).trans hr1
  have hBw : Below w.heap.size w w2 := hB1.trans (hB2.mono hB1.size)
  have z1 := lt_of_row hr1
  have z2 : w.heap.size + 1 < w2.heap.size := lt_of_row H1.out
  obtain ⟨sp, cap, rfl, hsrc, hcap, hmax⟩ := hO.src
  obtain ⟨g, o, rfl, hcells⟩ := hsrc (by omega)
  have hgs := block_lt_of_cell (hcells 0 (by omega))
  have hgW : W1.heap.size ≤ g := hO.ge g rfl
  have HC : Hid (∀ j : Nat, j < 8 → w2.cell? ⟨g, o + j, none⟩ = some (.int .u64 (prF j))) := hcells
  clear hr0 hr1 hB1 hB2 hO hsrc hcells
  unfold maxLen at hmax
  go_wp2
  go_loopw [3] (fun i wr => ∃ t : Nat, t ≤ 8 ∧ i = .int .i64 t ∧ Below w.heap.size w wr ∧ wr.heap[w.heap.size]? = some (.cells (arr .u32 8 fun _ => 0) 29 (0, 0)) ∧ wr.heap[w.heap.size + 1]? = some (.cells (arr .u32 8 (upTo hS.fn t)) 29 (0, 0)) ∧ (∀ j : Nat, j < 8 → wr.cell? ⟨g, o + j, none⟩ = some (.int .u64 (prF j)))) (fun i _ => 8 - (intOf i).toNat)
  case atStart => exact ⟨0, Nat.zero_le _, rfl, hBw, H0.out, by rw [H1.out]; rfl, HC.out⟩
  case round =>
    obtain ⟨t, ht, rfl, hBr, hr0, hr1, hcs⟩ := hrel
    clear H0 H1 HC hBw
    have HR0 : Hid _ := hr0
    have HR1 : Hid _ := hr1
    have HCS : Hid _ := hcs
    by_cases hlt : t < 8
    · have hc := hcs t hlt
      have hsm := prF_small t (by omega)
      have HROOT : Hid (rootTo (prF t) 2 38 % 4294967296 = hS.fn t) := roots2 t hlt
      clear hr0 hr1 hcs
      go_wp2_with fail
      refine (root2_any (prF t) _ hsm.1 hsm.2).mono ?_
      rintro e w3 ⟨rfl, hB3⟩
      rw [HROOT.out]
      have HR03 : Hid (w3.heap[w.heap.size]? = some (.cells (arr .u32 8 fun _ => 0) 29 (0, 0))) := (hB3.block _ (lt_of_row HR0.out)).trans HR0.out
      have hr13 : w3.heap[w.heap.size + 1]? = some (.cells (arr .u32 8 (upTo hS.fn t)) 29 (0, 0)) := (hB3.block _ (lt_of_row HR1.out)).trans HR1.out
      have HR13 : Hid _ := hr13
      have HCS3 : Hid (∀ j : Nat, j < 8 → w3.cell? ⟨g, o + j, none⟩ = some (.int .u64 (prF j))) := fun j hj => (hB3.cell (block_lt_of_cell (HCS.out j hj))).trans (HCS.out j hj)
      have hBw3 : Below w.heap.size w w3 := hBr.trans (hB3.mono hBr.size)
      have hc0 : w3.cell? ⟨w.heap.size + 1, t, none⟩ = some (.int .u32 (upTo hS.fn t t)) := row_cell hr13 hlt
      have hf : ∀ j, w3.frozen? ⟨w.heap.size + 1, j, none⟩ = false := fun j => frozen_of_row _ _ j _ _ hr13
      clear hr13 hB3 HR0 HR1 HCS hc
      go_wp2
      go_roundw
      case rel =>
        refine ⟨t + 1, by omega, by go_num, hBw3.setCell (by simp) _, (heap_setCell_other _ _ _ _ (by simp)).trans HR03.out, ?_, fun j hj => ?_⟩
        · rw [← upTo_succ]; exact row_set HR13.out _ _
        · rw [World.cell?_setCell_other _ _ _ _ (fun e => absurd (congrArg Addr.block e) (by simp only; omega))]; exact HCS3.out j hj
      case measure => simp [intOf]; omega
    · have htn : t = 8 := by omega
      have HT : Hid _ := htn
      clear htn hr0 hr1 hcs
      go_wp2_with (first | (refine wpList_load_row rfl 29 _ rfl (w.heap.size + 1) rfl 29 _ (0, 0) _ HR1.out Tryd.underlying29 rfl (by rw [arr_size]; kernel_rfl) ?_) | (refine wpList_store_row rfl 29 _ _ rfl w.heap.size _ rfl rfl 29 _ HR0.out (by rw [arr_size]; kernel_rfl) (by rw [arr_size, arr_size]) (arr_one _ _ _) ?_))
      refine bodyPost_ret (v := .agg (arr .u32 8 hS.fn)) ?_ rfl ⟨rfl, ?_⟩
      · rw [show arr .u32 8 hS.fn = arr .u32 8 (upTo hS.fn t) from arr_congr fun i hi => by rw [HT.out]; unfold upTo; rw [if_pos hi]]
        exact results_cell_row Tryd.results21 _ _ w.heap.size 29 _ (0, 0) _ rfl (heap_setRow_same HR0.out) Tryd.underlying29 rfl (by rw [arr_size]; kernel_rfl)
      · exact below_setRow' hBr (Nat.le_refl _) _
end Go.Proofs.YtekmmmechhjggaaDoor
