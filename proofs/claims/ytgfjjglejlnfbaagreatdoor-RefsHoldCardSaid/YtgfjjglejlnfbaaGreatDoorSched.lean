/- The contract of sha.schedule: the 64 numbers that a block's bytes give. -/
import Derived.Test.YtgfjjglejlnfbaaGreatDoorMix
namespace Go.Proofs.YtgfjjglejlnfbaaGreatDoor
open Go.RowKit

def s0I (x : Int) : Int := bits .xor .u32 (bits .xor .u32 (turnI 7 x) (turnI 18 x)) (x / 8)
def s1I (x : Int) : Int := bits .xor .u32 (bits .xor .u32 (turnI 17 x) (turnI 19 x)) (x / 1024)
/-- The numbers behind t bytes of the block. -/
def loF (B : Nat → Int) : Nat → Nat → Int
  | 0 => fun _ => 0
  | t + 1 => upd (loF B t) (t / 4) (bits .or .u32 (loF B t (t / 4) * 256 % 4294967296) (B t))
/-- The numbers behind n rounds of the second loop. -/
def hiF (f : Nat → Int) : Nat → Nat → Int
  | 0 => f
  | n + 1 => upd (hiF f n) (n + 16) ((s1I (hiF f n (n + 14)) + hiF f n (n + 9) + s0I (hiF f n (n + 1)) + hiF f n n) % 4294967296)
theorem hiF_succ (f : Nat → Int) (t : Nat) (h : 16 ≤ t) : hiF f (t + 1 - 16) = upd (hiF f (t - 16)) t ((s1I (hiF f (t - 16) (t - 2)) + hiF f (t - 16) (t - 7) + s0I (hiF f (t - 16) (t - 15)) + hiF f (t - 16) (t - 16)) % 4294967296) := by
  obtain ⟨n, rfl⟩ : ∃ n, t = n + 16 := ⟨t - 16, by omega⟩
  have e1 : n + 16 + 1 - 16 = n + 1 := by omega
  have e2 : n + 16 - 16 = n := by omega
  have e3 : n + 16 - 2 = n + 14 := by omega
  have e4 : n + 16 - 7 = n + 9 := by omega
  have e5 : n + 16 - 15 = n + 1 := by omega
  rw [e1, e2, e3, e4, e5]; rfl
def schedF (B : Nat → Int) : Nat → Int := hiF (loF B 64) 48

set_option maxRecDepth 100000 in
set_option maxHeartbeats 1000000 in
theorem sched_any (B : Nat → Int) (w : World) (hb : ∀ i, 0 ≤ B i ∧ B i ≤ 255) :
    Calls Tryz.prog 131 #[.agg (arr .u8 64 B)] w fun e w' => e = .returned (.agg (arr .u32 64 (schedF B))) ∧ Below w.heap.size w w' := by
  have hbs : ∀ i : Nat, i < 64 → ∀ w, (Instr.index 182 (.agg (arr .u8 64 B)) (.int .i64 i)).run Tryz.prog w = .ok (.int .u8 (B i)) w :=
    fun i hi w => index_arr Tryz.underlying182 Tryz.underlying5 (by kernel_rfl) hi (arr_get hi) w
  go_enter Tryz.func131, Tryz.ntmps131
  go_wp2_with (refine wpList_load_row rfl 182 _ rfl w.heap.size rfl 182 (arr .u8 64 B) (0, 0) _ ?_ Tryz.underlying182 rfl (by rw [arr_size]; kernel_rfl) ?_)
  · rw [Below.heap_alloc _ _ _ (by simp; omega), Below.heap_alloc _ _ _ (by simp), heap_alloc_new]
  refine wp_gen (fun W1 => Below w.heap.size w W1 ∧ W1.heap[w.heap.size + 1]? = some (.cells (arr .u32 64 fun _ => 0) 197 (0, 0)) ∧ W1.heap[w.heap.size + 1 + 1]? = some (.cells (arr .u32 64 fun _ => 0) 197 (0, 0))) ⟨?_, ?_, ?_⟩ ?_
  · exact (((Below.refl _ _).alloc (Nat.le_refl _) _).alloc (by simp) _).alloc (by simp; omega) _
  · exact (heap3 _ _ _ _).trans rfl
  · have := heap_alloc2_new (w.alloc (.cells (arr .u8 64 B) 182)) (.cells (arr .u32 64 fun _ => 0) 197) (.cells (arr .u32 64 fun _ => 0) 197)
    rw [World.size_alloc] at this
    exact this
  intro W1 ⟨hB, hres, hrow⟩
  have HRES : Hid _ := hres
  have HROW : Hid _ := hrow
  clear hres hrow
  go_loopw [12] (fun i wr => ∃ t : Nat, t ≤ 64 ∧ i = .int .i64 t ∧ Below (w.heap.size + 1 + 1) W1 wr ∧ wr.heap[w.heap.size + 1 + 1]? = some (.cells (arr .u32 64 (loF B t)) 197 (0, 0))) (fun i _ => 64 - (intOf i).toNat)
  case atStart => exact ⟨0, Nat.zero_le _, rfl, Below.refl _ _, HROW.out⟩
  case round =>
    obtain ⟨t, ht, rfl, hBr, hrow⟩ := hrel
    have HR : Hid _ := hrow
    by_cases hlt : t < 64
    · have hb1 := hbs t hlt
      have hc : wr.cell? ⟨w.heap.size + 1 + 1, t / 4, none⟩ = some (.int .u32 (loF B t (t / 4))) := row_cell hrow (by omega)
      have hf : ∀ j, wr.frozen? ⟨w.heap.size + 1 + 1, j, none⟩ = false := fun j => frozen_of_row _ _ j _ _ hrow
      have hbt := hb t
      clear hbs hrow
      go_wp2
      go_roundw
      case rel => exact ⟨t + 1, by omega, by go_num, hBr.setCell (by simp) _, row_set HR.out _ _⟩
      case measure => simp [intOf]; omega
    · have ht64 : t = 64 := by omega
      have HT : Hid _ := ht64
      clear ht64 hbs hrow
      go_wp2
      go_loopw [6] (fun i wq => ∃ t : Nat, 16 ≤ t ∧ t ≤ 64 ∧ i = .int .i64 t ∧ Below (w.heap.size + 1 + 1) W1 wq ∧ wq.heap[w.heap.size + 1 + 1]? = some (.cells (arr .u32 64 (hiF (loF B 64) (t - 16))) 197 (0, 0))) (fun i _ => 64 - (intOf i).toNat)
      case atStart => exact ⟨16, by omega, by omega, rfl, hBr, by have := HR.out; rw [HT.out] at this; exact this⟩
      case round =>
        obtain ⟨q, hq0, hq, rfl, hBq, hrow⟩ := hrel
        clear hBr HR HT
        have HR : Hid _ := hrow
        by_cases hlt : q < 64
        · generalize hF : hiF (loF B 64) (q - 16) = F at hrow HR
          have HF : Hid _ := hF
          clear hF
          have hc2 : wr.cell? ⟨w.heap.size + 1 + 1, q - 2, none⟩ = some (.int .u32 (F (q - 2))) := row_cell hrow (by omega)
          have hc15 : wr.cell? ⟨w.heap.size + 1 + 1, q - 15, none⟩ = some (.int .u32 (F (q - 15))) := row_cell hrow (by omega)
          have hc7 : wr.cell? ⟨w.heap.size + 1 + 1, q - 7, none⟩ = some (.int .u32 (F (q - 7))) := row_cell hrow (by omega)
          have hc16 : wr.cell? ⟨w.heap.size + 1 + 1, q - 16, none⟩ = some (.int .u32 (F (q - 16))) := row_cell hrow (by omega)
          have hc0 : wr.cell? ⟨w.heap.size + 1 + 1, q, none⟩ = some (.int .u32 (F q)) := row_cell hrow (by omega)
          have hf : ∀ j, wr.frozen? ⟨w.heap.size + 1 + 1, j, none⟩ = false := fun j => frozen_of_row _ _ j _ _ hrow
          clear hrow
          go_wp2
          go_quiet (fail)
          go_wp2_with fail
          refine (turn_any _ _ _ (by decide) (by decide)).mono ?_; rintro e w' ⟨rfl, k1, rfl⟩
          go_wp2_with fail
          refine (turn_any _ _ _ (by decide) (by decide)).mono ?_; rintro e w' ⟨rfl, k2, rfl⟩
          go_wp2_with fail
          refine (turn_any _ _ _ (by decide) (by decide)).mono ?_; rintro e w' ⟨rfl, k3, rfl⟩
          go_wp2_with fail
          refine (turn_any _ _ _ (by decide) (by decide)).mono ?_; rintro e w' ⟨rfl, k4, rfl⟩
          go_wp2_with fail
          go_region
          go_wp2
          go_roundw
          case rel =>
            refine ⟨q + 1, by omega, by omega, by go_num, (below_drewN hBq _).setCell (by simp) _, ?_⟩
            rw [hiF_succ _ _ hq0, HF.out]
            exact row_set (w := wr.drewN _) HR.out _ _
          case measure => simp [intOf]; omega
        · have hq64 : q = 64 := by omega
          have HQ : Hid _ := hq64
          have hres : wr.heap[w.heap.size + 1]? = some (.cells (arr .u32 64 fun _ => 0) 197 (0, 0)) := by
            rw [hBq.block _ (by omega)]; exact HRES.out
          have HRS : Hid _ := hres
          clear hq64 hrow hres
          go_wp2_with (first | (refine wpList_load_row rfl 197 _ rfl (w.heap.size + 1 + 1) rfl 197 _ (0, 0) _ HR.out Tryz.underlying197 rfl (by rw [arr_size]; kernel_rfl) ?_) | (refine wpList_store_row rfl 197 _ _ rfl (w.heap.size + 1) _ rfl rfl 197 _ HRS.out (by rw [arr_size]; kernel_rfl) (by rw [arr_size, arr_size]) (arr_one _ _ _) ?_))
          refine bodyPost_ret (v := .agg (arr .u32 64 (schedF B))) ?_ rfl ⟨rfl, ?_⟩
          · rw [HQ.out]
            exact results_cell_row Tryz.results131 _ _ (w.heap.size + 1) 197 _ (0, 0) _ rfl (heap_setRow_same HRS.out) Tryz.underlying197 rfl (by rw [arr_size]; kernel_rfl)
          · exact below_setRow' (hB.trans (hBq.mono (by omega))) (by omega) _
end Go.Proofs.YtgfjjglejlnfbaaGreatDoor
