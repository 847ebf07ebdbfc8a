/- The contracts of the reference's Right, Number (of four bytes), Table and Block: Block makes of numbers and bytes what sha.Block makes of them. -/
/- The contract of the reference's Block: what it makes of numbers and bytes is what sha.Block makes of them. -/
import Derived.Test.YtnaoaeapffgojaaDoorShaL
import Derived.Test.YtnaoaeapffgojaaDoorMoves
namespace Go.Proofs.YtnaoaeapffgojaaDoor
open Go.RowKit

set_option maxHeartbeats 400000 in
theorem right_any (n : Int) (x : Int) (w : World) (hn0 : 0 ≤ n) (hn : n ≤ 31) :
    Calls Tryd.prog 56 #[.int .u64 n, .int .u32 x] w fun e w' => e = .returned (.int .u32 (turnI n x)) ∧ w' = w := by
  go_enter Tryd.func56, Tryd.ntmps56
  go_wp2
  go_ret
  exact ⟨rfl, rfl⟩

/-- The number of the first t bytes. -/
def numTo (f : Nat → Int) : Nat → Int
  | 0 => 0
  | t + 1 => numTo f t * 256 + f t
theorem numTo_le (f : Nat → Int) (hf : ∀ i, 0 ≤ f i ∧ f i ≤ 255) : ∀ t, 0 ≤ numTo f t ∧ numTo f t < 256 ^ t
  | 0 => by simp [numTo]
  | t + 1 => by
    have h := numTo_le f hf t
    have h2 := hf t
    unfold numTo
    rw [Int.pow_succ]
    omega
theorem numTo_lt4 (f : Nat → Int) (hf : ∀ i, 0 ≤ f i ∧ f i ≤ 255) (t : Nat) (ht : t ≤ 4) : 0 ≤ numTo f t ∧ numTo f t ≤ 4294967295 := by
  have h := numTo_le f hf t
  have e : t = 0 ∨ t = 1 ∨ t = 2 ∨ t = 3 ∨ t = 4 := by omega
  rcases e with rfl | rfl | rfl | rfl | rfl <;> (simp only [Int.reducePow] at h; omega)
theorem numTo_lt3 (f : Nat → Int) (hf : ∀ i, 0 ≤ f i ∧ f i ≤ 255) (t : Nat) (ht : t ≤ 3) : 0 ≤ numTo f t ∧ numTo f t ≤ 16777215 := by
  have h := numTo_le f hf t
  have e : t = 0 ∨ t = 1 ∨ t = 2 ∨ t = 3 := by omega
  rcases e with rfl | rfl | rfl | rfl <;> (simp only [Int.reducePow] at h; omega)

set_option maxRecDepth 100000 in
set_option maxHeartbeats 1000000 in
theorem rnumber_any (b off cap : Nat) (f : Nat → Int) (w : World) (hc : ∀ j, j < 4 → w.cell? ⟨b, off + j, none⟩ = some (.int .u8 (f j))) (hf : ∀ i, 0 ≤ f i ∧ f i ≤ 255) :
    Calls Tryd.prog 55 #[.slice (some ⟨b, off, none⟩) 4 cap] w fun e w' => e = .returned (.int .u64 (numTo f 4)) ∧ w' = w := by
  have HC : Hid _ := hc
  clear hc
  go_enter Tryd.func55, Tryd.ntmps55
  go_wp2
  go_loop [3, 4] (fun x i => ∃ t : Nat, t ≤ 4 ∧ i = .int .i64 t ∧ x = .int .u64 (numTo f t)) (fun _ i => 4 - (intOf i).toNat)
  case atStart => exact ⟨0, Nat.zero_le _, rfl, rfl⟩
  case round =>
    obtain ⟨t, ht, rfl, rfl⟩ := hrel
    by_cases hlt : t < 4
    · have hc1 := HC.out t hlt
      have hx := numTo_lt3 f hf t (by omega)
      have hft := hf t
      have HE : Hid (numTo f (t + 1) = numTo f t * 256 + f t) := rfl
      generalize numTo f t = x at hx HE
      generalize hft0 : f t = y at hft hc1 HE
      clear hft0
      go_wp2
      go_round
      case rel => exact ⟨t + 1, by omega, by go_num, by rw [HE.out]⟩
      case measure => simp [intOf]; omega
    · have ht4 : t = 4 := by omega
      have HT : Hid _ := ht4
      clear ht4
      go_wp2
      go_ret
      exact ⟨by rw [← HT.out]; rfl, rfl⟩

set_option maxRecDepth 100000 in
set_option maxHeartbeats 1000000 in
theorem table_any (w : World) :
    Calls Tryd.prog 47 #[] w fun e w' => e = .returned (.agg (arr .u32 64 kF)) ∧ Below w.heap.size w w' := by
  go_enter Tryd.func47, Tryd.ntmps47
  go_wp2_with (refine wpList_store_row (by rfl) 82 (.tmp 0) (.tmp 1) (by rfl) w.heap.size (arr .u32 64 kF) (by rfl) (by rfl) 82 (arr .u32 64 fun _ => 0) ((heap_alloc_new _ _).trans rfl) (by rw [arr_size]; kernel_rfl) (by rw [arr_size, arr_size]) (arr_one _ _ _) ?_)
  refine bodyPost_ret (v := .agg (arr .u32 64 kF)) ?_ rfl ⟨rfl, ?_⟩
  · exact results_cell_row Tryd.results47 _ _ w.heap.size 82 _ (0, 0) _ rfl (heap_setRow_same (heap_alloc_new _ _)) Tryd.underlying82 rfl (by rw [arr_size]; kernel_rfl)
  · exact below_setRow' ((Below.refl _ _).alloc (Nat.le_refl _) _) (Nat.le_refl _) _
end Go.Proofs.YtnaoaeapffgojaaDoor

namespace Go.Proofs.YtnaoaeapffgojaaDoor
open Go.RowKit

theorem or_shift (x b : Int) (h0 : 0 ≤ x) (h1 : x ≤ 16777215) (h2 : 0 ≤ b) (h3 : b ≤ 255) : bits .or .u32 (x * 256 % 4294967296) b = x * 256 + b := by
  rw [show x * 256 % 4294967296 = x * 256 by omega, u32_or _ _ (by omega) (by omega) h2 (by omega)]
  obtain ⟨n, rfl⟩ := Int.eq_ofNat_of_zero_le h0
  obtain ⟨m, rfl⟩ := Int.eq_ofNat_of_zero_le h2
  rw [show ((n : Int) * 256).toNat = n <<< 8 by rw [Nat.shiftLeft_eq]; omega, Int.toNat_natCast, ← Nat.shiftLeft_add_eq_or_of_lt (show m < 2 ^ 8 by omega), Nat.shiftLeft_eq]
  omega
theorem orW_num (B : Nat → Int) (hb : ∀ i, 0 ≤ B i ∧ B i ≤ 255) (t : Nat) : orW B t = numTo (fun j => B (4 * t + j)) 4 := by
  have a := hb (4 * t)
  have b := hb (4 * t + 1)
  have c := hb (4 * t + 2)
  have d := hb (4 * t + 3)
  unfold orW
  rw [or_shift 0 _ (by omega) (by omega) a.1 a.2, or_shift _ _ (by omega) (by omega) b.1 b.2, or_shift _ _ (by omega) (by omega) c.1 c.2, or_shift _ _ (by omega) (by omega) d.1 d.2]
  simp [numTo]
/-- The numbers behind t rounds of the reference's first loop. -/
def refLo (B : Nat → Int) (t : Nat) : Nat → Int := fun i => if i < t then numTo (fun j => B (4 * i + j)) 4 else 0
theorem refLo_succ (B : Nat → Int) (t : Nat) : upd (refLo B t) t (numTo (fun j => B (4 * t + j)) 4) = refLo B (t + 1) := by
  funext i
  unfold upd refLo
  by_cases h : i = t
  · subst h; rw [if_pos rfl, if_pos (by omega)]
  · rw [if_neg h]
    by_cases h2 : i < t
    · rw [if_pos h2, if_pos (by omega)]
    · rw [if_neg h2, if_neg (by omega)]
theorem refLo_all (B : Nat → Int) (hb : ∀ i, 0 ≤ B i ∧ B i ≤ 255) : arr .u32 64 (refLo B 16) = arr .u32 64 (loF B 64) := by
  refine arr_congr fun i hi => ?_
  unfold refLo
  by_cases h : i < 16
  · rw [if_pos h, loF_at B i h, orW_num B hb]
  · rw [if_neg h, loF_none B 64 i (by omega)]

set_option maxRecDepth 100000 in
set_option maxHeartbeats 4000000 in
theorem refBlock_any (s : St) (b off cap : Nat) (B : Nat → Int) (K : Nat → Int) (w : World) (hcap : 64 ≤ cap) (hcm : cap ≤ 9223372036854775807) (hc : ∀ j, j < 64 → w.cell? ⟨b, off + j, none⟩ = some (.int .u8 (B j))) (hb : ∀ i, 0 ≤ B i ∧ B i ≤ 255) :
    Calls Tryd.prog 49 #[.agg (arr .u32 8 s.fn), .slice (some ⟨b, off, none⟩) 64 cap, .agg (arr .u32 64 K)] w fun e w' => e = .returned (blockF K B s).val ∧ Below w.heap.size w w' := by
  have hbl : b < w.heap.size := block_lt_of_cell (hc 0 (by omega))
  have HC : Hid _ := hc
  clear hc
  go_enter Tryd.func49, Tryd.ntmps49
  go_wp2
  refine wp_gen (fun W1 => Below w.heap.size w W1 ∧ W1.heap[w.heap.size]? = some (.cells (arr .u32 8 s.fn) 76 (0, 0)) ∧ W1.heap[w.heap.size + 1]? = some (.cells (arr .u32 64 K) 82 (0, 0)) ∧ W1.heap[w.heap.size + 1 + 1]? = some (.cells (arr .u32 8 fun _ => 0) 76 (0, 0)) ∧ W1.heap[w.heap.size + 1 + 1 + 1]? = some (.cells (arr .u32 64 fun _ => 0) 82 (0, 0))) ⟨?_, ?_, ?_, ?_, ?_⟩ ?_
  · exact ((((Below.refl _ _).alloc (Nat.le_refl _) _).alloc (by simp) _).alloc (by simp; omega) _).alloc (by simp; omega) _
  · rw [Below.heap_alloc _ _ _ (by simp; omega), Below.heap_alloc _ _ _ (by simp; omega), Below.heap_alloc _ _ _ (by simp), heap_alloc_new]
  · rw [Below.heap_alloc _ _ _ (by simp)]; exact (heap3 _ _ _ _).trans rfl
  · have := heap3 (w.alloc (.cells (arr .u32 8 s.fn) 76)) (.cells (arr .u32 64 K) 82) (.cells (arr .u32 8 fun _ => 0) 76) (.cells (arr .u32 64 fun _ => 0) 82)
    rw [World.size_alloc] at this
    exact this
  · have := heap_alloc2_new ((w.alloc (.cells (arr .u32 8 s.fn) 76)).alloc (.cells (arr .u32 64 K) 82)) (.cells (arr .u32 8 fun _ => 0) 76) (.cells (arr .u32 64 fun _ => 0) 82)
    rw [World.size_alloc, World.size_alloc] at this
    exact this
  intro W1 ⟨hB, hr0, hr1, hr2, hr3⟩
  have H0 : Hid _ := hr0
  have H1 : Hid _ := hr1
  have H2 : Hid _ := hr2
  have H3 : Hid _ := hr3
  clear hr0 hr1 hr2 hr3
  go_loopw [8] (fun i wr => ∃ t : Nat, t ≤ 16 ∧ i = .int .i64 t ∧ Below (w.heap.size + 1 + 1 + 1) W1 wr ∧ wr.heap[w.heap.size + 1 + 1 + 1]? = some (.cells (arr .u32 64 (refLo B t)) 82 (0, 0))) (fun i _ => 16 - (intOf i).toNat)
  case atStart => exact ⟨0, Nat.zero_le _, rfl, Below.refl _ _, H3.out⟩
  case round =>
    obtain ⟨t, ht, rfl, hBr, hrow⟩ := hrel
    have HR : Hid _ := hrow
    by_cases hlt : t < 16
    · have hc0 : wr.cell? ⟨w.heap.size + 1 + 1 + 1, t, none⟩ = some (.int .u32 (refLo B t t)) := row_cell hrow (by omega)
      have hf : ∀ j, wr.frozen? ⟨w.heap.size + 1 + 1 + 1, j, none⟩ = false := fun j => frozen_of_row _ _ j _ _ hrow
      have hnb := numTo_lt4 (fun j => B (4 * t + j)) (fun j => hb _) 4 (by omega)
      have hnum : ∀ c, Calls Tryd.prog 55 #[.slice (some ⟨b, off + 4 * t, none⟩) 4 c] wr fun e w' => e = .returned (.int .u64 (numTo (fun j => B (4 * t + j)) 4)) ∧ w' = wr := fun c =>
        rnumber_any b (off + 4 * t) c (fun j => B (4 * t + j)) wr (fun j hj => by
          have h1 := HC.out (4 * t + j) (by omega)
          rw [Nat.add_assoc, hBr.cell (by simp only; omega), hB.cell (by exact hbl)]
          exact h1) (fun j => hb _)
      have HN : Hid _ := hnum
      have HRS : Hid (refLo B (t + 1) = upd (refLo B t) t (numTo (fun j => B (4 * t + j)) 4)) := (refLo_succ B t).symm
      generalize numTo (fun j => B (4 * t + j)) 4 = q at hnb HN HRS
      clear hrow hnum
      go_wp2_with fail
      refine (HN.out _).mono ?_
      rintro e w2 ⟨rfl, hw2⟩
      subst hw2
      go_wp2
      go_roundw
      case rel => exact ⟨t + 1, by omega, by go_num, hBr.setCell (by simp) _, by rw [HRS.out]; exact row_set HR.out _ _⟩
      case measure => simp [intOf]; omega
    · have ht16 : t = 16 := by omega
      have HT : Hid _ := ht16
      clear ht16 hrow
      go_wp2
      go_loopw [9] (fun i wq => ∃ t : Nat, 16 ≤ t ∧ t ≤ 64 ∧ i = .int .i64 t ∧ Below (w.heap.size + 1 + 1 + 1) W1 wq ∧ wq.heap[w.heap.size + 1 + 1 + 1]? = some (.cells (arr .u32 64 (hiF (loF B 64) (t - 16))) 82 (0, 0))) (fun i _ => 64 - (intOf i).toNat)
      case atStart => exact ⟨16, by omega, by omega, rfl, hBr, by have := HR.out; rw [HT.out, refLo_all B hb] at this; exact this⟩
      case round =>
        obtain ⟨q, hq0, hq, rfl, hBq, hrow⟩ := hrel
        clear hBr HR HT
        have HR : Hid _ := hrow
        by_cases hlt : q < 64
        · generalize hF : hiF (loF B 64) (q - 16) = F at hrow HR
          have HF : Hid _ := hF
          clear hF
          have hc2 : wr.cell? ⟨w.heap.size + 1 + 1 + 1, q - 2, none⟩ = some (.int .u32 (F (q - 2))) := row_cell hrow (by omega)
          have hc15 : wr.cell? ⟨w.heap.size + 1 + 1 + 1, q - 15, none⟩ = some (.int .u32 (F (q - 15))) := row_cell hrow (by omega)
          have hc7 : wr.cell? ⟨w.heap.size + 1 + 1 + 1, q - 7, none⟩ = some (.int .u32 (F (q - 7))) := row_cell hrow (by omega)
          have hc16 : wr.cell? ⟨w.heap.size + 1 + 1 + 1, q - 16, none⟩ = some (.int .u32 (F (q - 16))) := row_cell hrow (by omega)
          have hc0 : wr.cell? ⟨w.heap.size + 1 + 1 + 1, q, none⟩ = some (.int .u32 (F q)) := row_cell hrow (by omega)
          have hf : ∀ j, wr.frozen? ⟨w.heap.size + 1 + 1 + 1, j, none⟩ = false := fun j => frozen_of_row _ _ j _ _ hrow
          clear hrow
          go_wp2
          go_quiet ((go_at_call 56; refine Calls.quiet_of_same (right_any _ _ _ (by decide) (by decide))))
          go_wp2
          refine wp_gen (fun W2 => Below (w.heap.size + 1 + 1 + 1) W1 W2 ∧ W2.heap[w.heap.size + 1 + 1 + 1]? = some (.cells (arr .u32 64 F) 82 (0, 0))) ⟨below_drewN hBq _, HR.out⟩ ?_
          clear hc2 hc15 hc7 hc16 hc0 hf HR
          intro W2 ⟨hB2, hrow⟩
          have HR : Hid _ := hrow
          have hc2 : W2.cell? ⟨w.heap.size + 1 + 1 + 1, q - 2, none⟩ = some (.int .u32 (F (q - 2))) := row_cell hrow (by omega)
          have hc7 : W2.cell? ⟨w.heap.size + 1 + 1 + 1, q - 7, none⟩ = some (.int .u32 (F (q - 7))) := row_cell hrow (by omega)
          have hc16 : W2.cell? ⟨w.heap.size + 1 + 1 + 1, q - 16, none⟩ = some (.int .u32 (F (q - 16))) := row_cell hrow (by omega)
          have hc0 : W2.cell? ⟨w.heap.size + 1 + 1 + 1, q, none⟩ = some (.int .u32 (F q)) := row_cell hrow (by omega)
          have hf : ∀ j, W2.frozen? ⟨w.heap.size + 1 + 1 + 1, j, none⟩ = false := fun j => frozen_of_row _ _ j _ _ hrow
          clear hrow
          go_quiet ((go_at_call 56; refine Calls.quiet_of_same (right_any _ _ _ (by decide) (by decide))))
          go_wp2
          go_region
          go_wp2
          go_roundw
          case rel =>
            refine ⟨q + 1, by omega, by omega, by go_num, (below_drewN hB2 _).setCell (by simp) _, ?_⟩
            rw [hiF_succ _ _ hq0, HF.out]
            exact row_set (w := W2.drewN _) HR.out _ _
          case measure => simp [intOf]; omega
        · have hq64 : q = 64 := by omega
          have HQ : Hid _ := hq64
          have hr0 : wr.heap[w.heap.size]? = some (.cells (arr .u32 8 s.fn) 76 (0, 0)) := (hBq.block _ (by omega)).trans H0.out
          have hcs := cells8 (show wr.heap[w.heap.size]? = some (.cells #[.int .u32 s.a, .int .u32 s.b, .int .u32 s.c, .int .u32 s.d, .int .u32 s.e, .int .u32 s.f, .int .u32 s.g, .int .u32 s.k] 76 (0, 0)) from hr0)
          clear hq64 hrow hr0
          go_wp2
          go_quiet (fail)
          go_wp2
          refine wp_gen (fun W2 => Below (w.heap.size + 1 + 1 + 1) W1 W2 ∧ W2.heap[w.heap.size + 1 + 1 + 1]? = some (.cells (arr .u32 64 (schedF B)) 82 (0, 0))) ⟨below_drewN hBq _, ?_⟩ ?_
          · have := HR.out
            rw [HQ.out] at this
            exact this
          clear HR hBq HQ hcs
          intro W2 ⟨hB2, hrow⟩
          have HR : Hid _ := hrow
          clear hrow
          go_loopw [12, 13, 14, 15, 16, 17, 18, 19, 20] (fun a b c d e f g k i wr => ∃ t : Nat, t ≤ 64 ∧ i = .int .i64 t ∧ a = .int .u32 (stAt K (schedF B) s t).a
            ∧ b = .int .u32 (stAt K (schedF B) s t).b ∧ c = .int .u32 (stAt K (schedF B) s t).c
            ∧ d = .int .u32 (stAt K (schedF B) s t).d ∧ e = .int .u32 (stAt K (schedF B) s t).e
            ∧ f = .int .u32 (stAt K (schedF B) s t).f ∧ g = .int .u32 (stAt K (schedF B) s t).g
            ∧ k = .int .u32 (stAt K (schedF B) s t).k ∧ Below W2.heap.size W2 wr) (fun _ _ _ _ _ _ _ _ i _ => 64 - (intOf i).toNat)
          case atStart => exact ⟨0, Nat.zero_le _, rfl, rfl, rfl, rfl, rfl, rfl, rfl, rfl, rfl, Below.refl _ _⟩
          case round =>
            obtain ⟨z, hz, rfl, rfl, rfl, rfl, rfl, rfl, rfl, rfl, rfl, hBz⟩ := hrel
            generalize hS : stAt K (schedF B) s z = S
            have HS : Hid (stAt K (schedF B) s z = S) := hS
            clear hS
            have hl3 := lt_of_row HR.out
            have hrw : wr.heap[w.heap.size + 1 + 1 + 1]? = some (.cells (arr .u32 64 (schedF B)) 82 (0, 0)) := (hBz.block _ hl3).trans HR.out
            have hrk : wr.heap[w.heap.size + 1]? = some (.cells (arr .u32 64 K) 82 (0, 0)) := (hBz.block _ (by omega)).trans ((hB2.block _ (by omega)).trans H1.out)
            by_cases hlt64 : z < 64
            · have hk1 : wr.cell? ⟨w.heap.size + 1, z, none⟩ = some (.int .u32 (K z)) := row_cell hrk hlt64
              have hw1 : wr.cell? ⟨w.heap.size + 1 + 1 + 1, z, none⟩ = some (.int .u32 (schedF B z)) := row_cell hrw hlt64
              have HST : Hid (stAt K (schedF B) s (z + 1) = stepSt (K z) (schedF B z) S) := by rw [← HS.out]; exact rfl
              generalize schedF B z = wz at hw1 HST
              generalize K z = kz at hk1 HST
              clear hrw hrk
              go_wp2
              go_quiet ((go_at_call 56; refine Calls.quiet_of_same (right_any _ _ _ (by decide) (by decide))))
              go_wp2_with fail
              refine (right_any _ _ _ (by decide) (by decide)).mono ?_; rintro e w' ⟨rfl, rfl⟩
              go_wp2_with fail
              refine (right_any _ _ _ (by decide) (by decide)).mono ?_; rintro e w' ⟨rfl, rfl⟩
              go_wp2_with fail
              refine (right_any _ _ _ (by decide) (by decide)).mono ?_; rintro e w' ⟨rfl, rfl⟩
              go_wp2_with fail
              go_roundw
              case rel =>
                refine ⟨z + 1, by omega, by go_num, ?_⟩
                rw [HST.out]
                exact ⟨rfl, rfl, rfl, rfl, rfl, rfl, rfl, rfl, below_drewN hBz _⟩
              case measure => simp [intOf]; omega
            · have hz64 : z = 64 := by omega
              have HZ : Hid _ := hz64
              have hr0 : wr.heap[w.heap.size]? = some (.cells (arr .u32 8 s.fn) 76 (0, 0)) := (hBz.block _ (by omega)).trans ((hB2.block _ (by omega)).trans H0.out)
              have hr2 : wr.heap[w.heap.size + 1 + 1]? = some (.cells (arr .u32 8 fun _ => 0) 76 (0, 0)) := (hBz.block _ (by omega)).trans ((hB2.block _ (by omega)).trans H2.out)
              have hcs := cells8 (show wr.heap[w.heap.size]? = some (.cells #[.int .u32 s.a, .int .u32 s.b, .int .u32 s.c, .int .u32 s.d, .int .u32 s.e, .int .u32 s.f, .int .u32 s.g, .int .u32 s.k] 76 (0, 0)) from hr0)
              have HR2 : Hid _ := hr2
              clear hz64 hrw hrk hr0 hr2
              go_wp2_with (refine wpList_store_row (by rfl) 76 (.tmp 6) (.tmp 202) (by rfl) (w.heap.size + 1 + 1) (arr .u32 8 (s.add S).fn) (by rfl) (by rfl) 76 (arr .u32 8 fun _ => 0) HR2.out (by rw [arr_size]; kernel_rfl) (by rw [arr_size, arr_size]) (arr_one _ _ _) ?_)
              refine bodyPost_ret (v := .agg (arr .u32 8 (s.add S).fn)) ?_ rfl ⟨?_, ?_⟩
              · exact results_cell_row Tryd.results49 _ _ (w.heap.size + 1 + 1) 76 _ (0, 0) _ rfl (heap_setRow_same HR2.out) Tryd.underlying76 rfl (by rw [arr_size]; kernel_rfl)
              · rw [blockF, ← HZ.out, HS.out]; rfl
              · exact below_setRow' (hB.trans ((hB2.mono (by omega)).trans (hBz.mono (by omega)))) (by omega) _
end Go.Proofs.YtnaoaeapffgojaaDoor
