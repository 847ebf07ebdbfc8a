/- The contract of sha.Block: what eight numbers become behind a block of 64 bytes. -/
import Derived.Test.YtgfjjglejlnfbaaGreatDoorSched
import Derived.Test.YtgfjjglejlnfbaaGreatDoorHeld
namespace Go.Proofs.YtgfjjglejlnfbaaGreatDoor
open Go.RowKit

def St.fn (s : St) : Nat → Int
  | 0 => s.a | 1 => s.b | 2 => s.c | 3 => s.d | 4 => s.e | 5 => s.f | 6 => s.g | _ => s.k
theorem St.val_arr (s : St) : s.val = .agg (arr .u32 8 s.fn) := rfl
/-- Number for number, modulo 2^32. -/
def St.add (s t : St) : St := ⟨(s.a + t.a) % 4294967296, (s.b + t.b) % 4294967296, (s.c + t.c) % 4294967296, (s.d + t.d) % 4294967296, (s.e + t.e) % 4294967296, (s.f + t.f) % 4294967296, (s.g + t.g) % 4294967296, (s.k + t.k) % 4294967296⟩
/-- The first n numbers have been added. -/
def addTo (f g : Nat → Int) : Nat → Nat → Int
  | 0 => f
  | n + 1 => upd (addTo f g n) n ((addTo f g n n + g n) % 4294967296)
theorem addTo_at (f g : Nat → Int) : ∀ n i, addTo f g n i = if i < n then (f i + g i) % 4294967296 else f i
  | 0, i => by simp [addTo]
  | n + 1, i => by
    unfold addTo upd
    by_cases h : i = n
    · subst h; simp [addTo_at f g i i]
    · rw [if_neg h, addTo_at f g n i]
      by_cases h2 : i < n
      · rw [if_pos h2, if_pos (by omega)]
      · rw [if_neg h2, if_neg (by omega)]
def blockF (K : Nat → Int) (B : Nat → Int) (s : St) : St := s.add (stAt K (schedF B) s 64)
theorem add_fn (s t : St) : arr .u32 8 (addTo s.fn t.fn 8) = arr .u32 8 (s.add t).fn := by
  refine arr_congr fun i hi => ?_
  rw [addTo_at, if_pos hi]
  match i, hi with
  | 0, _ => rfl
  | 1, _ => rfl
  | 2, _ => rfl
  | 3, _ => rfl
  | 4, _ => rfl
  | 5, _ => rfl
  | 6, _ => rfl
  | 7, _ => rfl

set_option maxRecDepth 100000 in
set_option maxHeartbeats 1000000 in
theorem block_any (s : St) (B : Nat → Int) (K : Nat → Int) (w : World) (hb : ∀ i, 0 ≤ B i ∧ B i ≤ 255)
    (hK : ∀ i : Nat, i < 64 → w.cell? ⟨2, i, none⟩ = some (.int .u32 (K i))) :
    Calls Tryz.prog 104 #[s.val, .agg (arr .u8 64 B)] w fun e w' => e = .returned (blockF K B s).val ∧ Below w.heap.size w w' := by
  have h1w : 2 < w.heap.size := block_lt_of_cell (hK 0 (by omega))
  rw [St.val_arr]
  go_enter Tryz.func104, Tryz.ntmps104
  go_wp2
  refine wp_gen (fun W1 => Below w.heap.size w W1 ∧ W1.heap[w.heap.size]? = some (.cells (arr .u32 8 s.fn) 179 (0, 0)) ∧ W1.heap[w.heap.size + 1]? = some (.cells (arr .u8 64 B) 182 (0, 0)) ∧ W1.heap[w.heap.size + 1 + 1]? = some (.cells (arr .u32 8 fun _ => 0) 179 (0, 0))) ⟨?_, ?_, ?_, ?_⟩ ?_
  · exact (((Below.refl _ _).alloc (Nat.le_refl _) _).alloc (by simp) _).alloc (by simp; omega) _
  · rw [Below.heap_alloc _ _ _ (by simp; omega), Below.heap_alloc _ _ _ (by simp), heap_alloc_new]
  · exact (heap3 _ _ _ _).trans rfl
  · have := heap_alloc2_new (w.alloc (.cells (arr .u32 8 s.fn) 179)) (.cells (arr .u8 64 B) 182) (.cells (arr .u32 8 fun _ => 0) 179)
    rw [World.size_alloc] at this
    exact this
  intro W1 ⟨hB, hrow0, hrow1, hrow2⟩
  have hK1 : ∀ i : Nat, i < 64 → W1.cell? ⟨2, i, none⟩ = some (.int .u32 (K i)) := fun i hi => (hB.cell (by exact h1w)).trans (hK i hi)
  have hlt2 := lt_of_row hrow2
  refine wp_region_held (S := fun w' => Below (w.heap.size + 1 + 1 + 1) W1 w') (by kernel_rfl) ?_
  refine take_row (i := 0) rfl (by kernel_rfl) (by kernel_rfl) (by kernel_rfl) (fun _ _ _ h => h) rfl 179 _ rfl w.heap.size rfl 179 (arr .u32 8 s.fn) rfl (0, 0) _ (fun w' hw' => by rw [hw'.block _ (by omega)]; exact hrow0) Tryz.underlying179 rfl (by rw [arr_size]; kernel_rfl) (Below.refl _ _).drew ?_
  refine take_row (i := 1) rfl (by kernel_rfl) (by kernel_rfl) (by kernel_rfl) (fun _ _ _ h => h) rfl 182 _ rfl (w.heap.size + 1) rfl 182 (arr .u8 64 B) rfl (0, 0) _ (fun w' hw' => by rw [hw'.block _ (by omega)]; exact hrow1) Tryz.underlying182 rfl (by rw [arr_size]; kernel_rfl) (Below.refl _ _).drew ?_
  refine take_run (i := 4) (.int .i64 0) rfl (by kernel_rfl) (by kernel_rfl) (by kernel_rfl) (fun _ _ _ h => h) rfl (fun _ _ => rfl) (Below.refl _ _).drew ?_
  refine next_one (i := 2) rfl (by kernel_rfl) rfl rfl ?_
  go_simp
  refine (sched_any B _ hb).mono ?_
  rintro e w1 ⟨rfl, hB1⟩
  have hS1 : Below (w.heap.size + 1 + 1 + 1) W1 w1 := (Below.refl _ _).drew.trans (hB1.mono (by simp; omega))
  refine ⟨hS1, ?_⟩
  refine next_one (i := 3) rfl (by kernel_rfl) rfl rfl ?_
  go_simp
  have hm := mix_any s (arr .u32 64 (schedF B)) (schedF B) K w1 (arr_size _ _ _) (fun i hi w => index_arr Tryz.underlying197 Tryz.underlying63 (by kernel_rfl) hi (arr_get hi) w) (fun i hi => (hS1.cell (p := ⟨2, i, none⟩) (by simp only; omega)).trans (hK1 i hi))
  rw [St.val_arr] at hm
  refine hm.mono ?_
  rintro e w2 ⟨rfl, hB2⟩
  have hS2 : Below (w.heap.size + 1 + 1 + 1) W1 w2 := hS1.trans (hB2.mono (by have := hS1.size; omega))
  refine ⟨hS2, ?_⟩
  refine wpAnyH_done (by kernel_rfl) ?_ _
  have hr0 : w2.heap[w.heap.size]? = some (.cells (arr .u32 8 s.fn) 179 (0, 0)) := by rw [hS2.block _ (by omega)]; exact hrow0
  have hr2 : w2.heap[w.heap.size + 1 + 1]? = some (.cells (arr .u32 8 fun _ => 0) 179 (0, 0)) := by rw [hS2.block _ (by omega)]; exact hrow2
  have hBw : Below w.heap.size w w2 := hB.trans (hS2.mono (by omega))
  have H0 : Hid _ := hr0
  have H2 : Hid _ := hr2
  rw [St.val_arr]
  generalize hT : stAt K (schedF B) s 64 = T
  have HT : Hid _ := hT
  clear hm hB1 hS1 hB2 hS2 hr0 hr2 hrow0 hrow1 hrow2 hB hK hK1 hlt2 hT
  have hbs : ∀ i : Nat, i < 8 → ∀ w, (Instr.index 179 (.agg (arr .u32 8 T.fn)) (.int .i64 i)).run Tryz.prog w = .ok (.int .u32 (T.fn i)) w :=
    fun i hi w => index_arr Tryz.underlying179 Tryz.underlying63 (by kernel_rfl) hi (arr_get hi) w
  have HBS : Hid _ := hbs
  clear hbs
  go_wp2
  go_loopw [11] (fun i wr => ∃ t : Nat, t ≤ 8 ∧ i = .int .i64 t ∧ Below w.heap.size w wr ∧ wr.heap[w.heap.size]? = some (.cells (arr .u32 8 (addTo s.fn T.fn t)) 179 (0, 0)) ∧ wr.heap[w.heap.size + 1 + 1]? = some (.cells (arr .u32 8 fun _ => 0) 179 (0, 0))) (fun i _ => 8 - (intOf i).toNat)
  case atStart => exact ⟨0, Nat.zero_le _, rfl, hBw, H0.out, H2.out⟩
  case round =>
    obtain ⟨t, ht, rfl, hBr, hr0, hr2⟩ := hrel
    have HR0 : Hid _ := hr0
    have HR2 : Hid _ := hr2
    by_cases hlt : t < 8
    · have hb1 := HBS.out t hlt
      have hc : wr.cell? ⟨w.heap.size, t, none⟩ = some (.int .u32 (addTo s.fn T.fn t t)) := row_cell hr0 hlt
      have hf : ∀ j, wr.frozen? ⟨w.heap.size, j, none⟩ = false := fun j => frozen_of_row _ _ j _ _ hr0
      clear hr0 hr2
      go_wp2
      go_roundw
      case rel => exact ⟨t + 1, by omega, by go_num, hBr.setCell (by simp) _, row_set HR0.out _ _, (heap_setCell_other _ _ _ _ (by simp; omega)).trans HR2.out⟩
      case measure => simp [intOf]; omega
    · have ht8 : t = 8 := by omega
      have HT8 : Hid _ := ht8
      clear ht8 hr0 hr2
      go_wp2_with (first | (refine wpList_load_row rfl 179 _ rfl w.heap.size rfl 179 _ (0, 0) _ HR0.out Tryz.underlying179 rfl (by rw [arr_size]; kernel_rfl) ?_) | (refine wpList_store_row rfl 179 _ _ rfl (w.heap.size + 1 + 1) _ rfl rfl 179 _ HR2.out (by rw [arr_size]; kernel_rfl) (by rw [arr_size, arr_size]) (arr_one _ _ _) ?_))
      refine bodyPost_ret (v := .agg (arr .u32 8 (addTo s.fn T.fn t))) ?_ rfl ⟨?_, ?_⟩
      · exact results_cell_row Tryz.results104 _ _ (w.heap.size + 1 + 1) 179 _ (0, 0) _ rfl (heap_setRow_same HR2.out) Tryz.underlying179 rfl (by rw [arr_size]; kernel_rfl)
      · rw [HT8.out, add_fn, St.val_arr, blockF, HT.out]
      · exact below_setRow' hBr (by omega) _
end Go.Proofs.YtgfjjglejlnfbaaGreatDoor
