/- The contracts of sha.turn[uint32], of bits.Len64 at the one number that it is asked for, and of sha.mix: what the 64 steps make of eight numbers. -/
/- The contract of sha.schedule: the 64 numbers that a block's bytes give. -/
/- The contract of sha.Block: what eight numbers become behind a block of 64 bytes. -/
/- The contract of sha.Pad. -/
/- The contract of sha.Sum. -/
import Derived.Test.YtgfjjglejlnfbaaGreatDoorBase
import Derived.Test.YtgfjjglejlnfbaaGreatDoorHeld
import Derived.Test.YtgfjjglejlnfbaaGreatDoorPut
namespace Go.Proofs.YtgfjjglejlnfbaaGreatDoor
open Go.RowKit

def turnI (n x : Int) : Int := bits .or .u32 (x / 2 ^ n.toNat) (x * 2 ^ (32 - n).toNat % 4294967296)
set_option maxRecDepth 100000 in
set_option maxHeartbeats 400000 in
theorem len64_at (w : World) :
    Calls Tryz.prog 143 #[.int .u64 4294967295] w fun e w' => e = .returned (.int .i64 32) ∧ w' = w := by
  go_enter Tryz.func143, Tryz.ntmps143
  go_wp2
  go_ret
  exact ⟨ret_int (by decide +kernel), rfl⟩
set_option maxHeartbeats 400000 in
theorem turn_any (n : Int) (x : Int) (w : World) (hn0 : 0 ≤ n) (hn : n ≤ 31) :
    Calls Tryz.prog 151 #[.int .i64 n, .int .u32 x] w fun e w' => e = .returned (.int .u32 (turnI n x)) ∧ ∃ k, w' = w.drewN k := by
  go_enter Tryz.func151, Tryz.ntmps151
  go_wp2_with (go_at_call 143; refine (len64_at _).mono ?_; rintro e w' ⟨rfl, rfl⟩)
  go_quiet (fail)
  go_wp2
  go_ret
  exact ⟨rfl, nq, rfl⟩
structure St where
  a : Int
  b : Int
  c : Int
  d : Int
  e : Int
  f : Int
  g : Int
  k : Int
def t1I (kt wt : Int) (s : St) : Int :=
  (s.k + bits .xor .u32 (bits .xor .u32 (turnI 6 s.e) (turnI 11 s.e)) (turnI 25 s.e) +
    bits .xor .u32 (bits .and .u32 s.e s.f) (bits .and .u32 (bits .xor .u32 IntKind.u32.max s.e) s.g) + kt + wt) % 4294967296
def t2I (s : St) : Int :=
  (bits .xor .u32 (bits .xor .u32 (turnI 2 s.a) (turnI 13 s.a)) (turnI 22 s.a) +
    bits .xor .u32 (bits .xor .u32 (bits .and .u32 s.a s.b) (bits .and .u32 s.a s.c)) (bits .and .u32 s.b s.c)) % 4294967296
def stepSt (kt wt : Int) (s : St) : St := ⟨(t1I kt wt s + t2I s) % 4294967296, s.a, s.b, s.c, (s.d + t1I kt wt s) % 4294967296, s.e, s.f, s.g⟩
def stAt (K W : Nat → Int) (s : St) : Nat → St
  | 0 => s
  | t + 1 => stepSt (K t) (W t) (stAt K W s t)
def St.val (s : St) : Value := .agg #[.int .u32 s.a, .int .u32 s.b, .int .u32 s.c, .int .u32 s.d, .int .u32 s.e, .int .u32 s.f, .int .u32 s.g, .int .u32 s.k]
set_option maxRecDepth 100000 in
set_option maxHeartbeats 1000000 in
theorem mix_any (s : St) (ws : Array Value) (W : Nat → Int) (K : Nat → Int) (w : World) (hsz : ws.size = 64)
    (hws : ∀ i : Nat, i < 64 → ∀ w, (Instr.index 197 (.agg ws) (.int .i64 i)).run Tryz.prog w = .ok (.int .u32 (W i)) w)
    (hK : ∀ i : Nat, i < 64 → w.cell? ⟨2, i, none⟩ = some (.int .u32 (K i)))  :
    Calls Tryz.prog 130 #[s.val, .agg ws] w fun e w' => e = .returned (stAt K W s 64).val ∧ Below w.heap.size w w' := by
  have h1w : 2 < w.heap.size := block_lt_of_cell (hK 0 (by omega))
  unfold St.val
  go_enter Tryz.func130, Tryz.ntmps130
  go_wp2
  go_quiet (fail)
  go_wp2_with (refine wpList_load_row rfl 197 _ rfl (w.heap.size + 1) rfl 197 ws (0, 0) _ ?_ Tryz.underlying197 rfl (by rw [hsz]; kernel_rfl) ?_)
  · exact heap3 _ _ _ _
  refine wp_gen (fun W1 => Below w.heap.size w W1 ∧ W1.heap[w.heap.size + 2]? = some (.cells #[.int .u32 0, .int .u32 0, .int .u32 0, .int .u32 0, .int .u32 0, .int .u32 0, .int .u32 0, .int .u32 0] 179 (0, 0))) ⟨?_, ?_⟩ ?_
  · exact below_drewN ((((Below.refl _ _).alloc (Nat.le_refl _) _).alloc (by simp) _).alloc (by simp; omega) _) _
  · have := heap_alloc2_new (w.alloc (.cells #[.int .u32 s.a, .int .u32 s.b, .int .u32 s.c, .int .u32 s.d, .int .u32 s.e, .int .u32 s.f, .int .u32 s.g, .int .u32 s.k] 179)) (.cells ws 197) (.cells #[.int .u32 0, .int .u32 0, .int .u32 0, .int .u32 0, .int .u32 0, .int .u32 0, .int .u32 0, .int .u32 0] 179 (0, 0))
    simpa using this
  intro W1 ⟨hB, hrow⟩
  have hK1 : ∀ i : Nat, i < 64 → W1.cell? ⟨2, i, none⟩ = some (.int .u32 (K i)) := fun i hi => (hB.cell (by exact h1w)).trans (hK i hi)
  have HR : Hid _ := hrow
  clear hrow
  go_loopw [5, 6, 7, 8, 9, 10, 11, 12, 34] (fun a b c d e f g k i wr => ∃ t : Nat, t ≤ 64 ∧ i = .int .i64 t ∧ a = .int .u32 (stAt K W s t).a
    ∧ b = .int .u32 (stAt K W s t).b ∧ c = .int .u32 (stAt K W s t).c
    ∧ d = .int .u32 (stAt K W s t).d ∧ e = .int .u32 (stAt K W s t).e
    ∧ f = .int .u32 (stAt K W s t).f ∧ g = .int .u32 (stAt K W s t).g
    ∧ k = .int .u32 (stAt K W s t).k ∧ Below W1.heap.size W1 wr) (fun _ _ _ _ _ _ _ _ i _ => 64 - (intOf i).toNat)
  case atStart => exact ⟨0, Nat.zero_le _, rfl, rfl, rfl, rfl, rfl, rfl, rfl, rfl, rfl, Below.refl _ _⟩
  case round =>
    obtain ⟨t, ht, rfl, rfl, rfl, rfl, rfl, rfl, rfl, rfl, rfl, hBr⟩ := hrel
    have HK1 := hK1
    clear hK hK1
    generalize hS : stAt K W s t = S
    have HS : Hid (stAt K W s t = S) := hS
    clear hS
    by_cases hlt : t < 64
    · have hk1 : wr.cell? ⟨2, t, none⟩ = some (.int .u32 (K t)) := (hBr.cell (p := ⟨2, t, none⟩) (by have := hB.size; simp only; omega)).trans (HK1 t hlt)
      have hw1 := hws t hlt
      clear hws HK1
      go_wp2
      go_quiet ((go_at_call 151; refine Calls.quiet_of (turn_any _ _ _ (by decide) (by decide))))
      go_wp2_with fail
      refine (turn_any _ _ _ (by decide) (by decide)).mono ?_; rintro e w' ⟨rfl, kk, rfl⟩
      go_wp2_with fail
      refine (turn_any _ _ _ (by decide) (by decide)).mono ?_; rintro e w' ⟨rfl, kk2, rfl⟩
      go_wp2_with fail
      refine (turn_any _ _ _ (by decide) (by decide)).mono ?_; rintro e w' ⟨rfl, kk3, rfl⟩
      go_wp2_with fail
      go_roundw
      case rel =>
        refine ⟨t + 1, by omega, by go_num, ?_⟩
        simp only [stAt, HS.out]
        exact ⟨rfl, rfl, rfl, rfl, rfl, rfl, rfl, rfl, below_drewN hBr _⟩
      case measure => simp [intOf]; omega
    · have hr : wr.heap[w.heap.size + 2]? = some (.cells #[.int .u32 0, .int .u32 0, .int .u32 0, .int .u32 0, .int .u32 0, .int .u32 0, .int .u32 0, .int .u32 0] 179 (0, 0)) := by
        rw [hBr.block _ (lt_of_row HR.out)]; exact HR.out
      clear hws HK1
      have hc := cells8 hr
      have hz := fun j => frozen_of_row _ _ j _ _ hr
      clear hr
      go_wp2
      have ht64 : t = 64 := by omega
      refine bodyPost_ret (v := S.val) (by simp [results, Tryz.results130, go_sem, St.val, hc]) rfl ⟨?_, ?_⟩
      · have h := HS.out; rw [ht64] at h; subst h; rfl
      · refine hB.trans ((hBr.mono hB.size).trans ?_)
        refine Below.setCell (Below.setCell (Below.setCell (Below.setCell (Below.setCell (Below.setCell (Below.setCell (Below.setCell (Below.refl _ _) ?_ _) ?_ _) ?_ _) ?_ _) ?_ _) ?_ _) ?_ _) ?_ _ <;> (simp only; omega)
end Go.Proofs.YtgfjjglejlnfbaaGreatDoor

namespace Go.Proofs.YtgfjjglejlnfbaaGreatDoor
open Go.RowKit

def s0I (x : Int) : Int := bits .xor .u32 (bits .xor .u32 (turnI 7 x) (turnI 18 x)) (x / 8)
def s1I (x : Int) : Int := bits .xor .u32 (bits .xor .u32 (turnI 17 x) (turnI 19 x)) (x / 1024)
/-- The numbers behind t bytes of the block. -/
def loF (B : Nat → Int) : Nat → Nat → Int
  | 0 => fun _ => 0
  | t + 1 => upd (loF B t) (t / 4) (bits .or .u32 (loF B t (t / 4) * 256 % 4294967296) (B t))
/-- The numbers behind n rounds of the second loop. -/
def hiF (f : Nat → Int) : Nat → Nat → Int
  | 0 => f
  | n + 1 => upd (hiF f n) (n + 16) ((s1I (hiF f n (n + 14)) + hiF f n (n + 9) + s0I (hiF f n (n + 1)) + hiF f n n) % 4294967296)
theorem hiF_succ (f : Nat → Int) (t : Nat) (h : 16 ≤ t) : hiF f (t + 1 - 16) = upd (hiF f (t - 16)) t ((s1I (hiF f (t - 16) (t - 2)) + hiF f (t - 16) (t - 7) + s0I (hiF f (t - 16) (t - 15)) + hiF f (t - 16) (t - 16)) % 4294967296) := by
  obtain ⟨n, rfl⟩ : ∃ n, t = n + 16 := ⟨t - 16, by omega⟩
  have e1 : n + 16 + 1 - 16 = n + 1 := by omega
  have e2 : n + 16 - 16 = n := by omega
  have e3 : n + 16 - 2 = n + 14 := by omega
  have e4 : n + 16 - 7 = n + 9 := by omega
  have e5 : n + 16 - 15 = n + 1 := by omega
  rw [e1, e2, e3, e4, e5]; rfl
def schedF (B : Nat → Int) : Nat → Int := hiF (loF B 64) 48

set_option maxRecDepth 100000 in
set_option maxHeartbeats 1000000 in
theorem sched_any (B : Nat → Int) (w : World) (hb : ∀ i, 0 ≤ B i ∧ B i ≤ 255) :
    Calls Tryz.prog 131 #[.agg (arr .u8 64 B)] w fun e w' => e = .returned (.agg (arr .u32 64 (schedF B))) ∧ Below w.heap.size w w' := by
  have hbs : ∀ i : Nat, i < 64 → ∀ w, (Instr.index 182 (.agg (arr .u8 64 B)) (.int .i64 i)).run Tryz.prog w = .ok (.int .u8 (B i)) w :=
    fun i hi w => index_arr Tryz.underlying182 Tryz.underlying5 (by kernel_rfl) hi (arr_get hi) w
  go_enter Tryz.func131, Tryz.ntmps131
  go_wp2_with (refine wpList_load_row rfl 182 _ rfl w.heap.size rfl 182 (arr .u8 64 B) (0, 0) _ ?_ Tryz.underlying182 rfl (by rw [arr_size]; kernel_rfl) ?_)
  · rw [Below.heap_alloc _ _ _ (by simp; omega), Below.heap_alloc _ _ _ (by simp), heap_alloc_new]
  refine wp_gen (fun W1 => Below w.heap.size w W1 ∧ W1.heap[w.heap.size + 1]? = some (.cells (arr .u32 64 fun _ => 0) 197 (0, 0)) ∧ W1.heap[w.heap.size + 1 + 1]? = some (.cells (arr .u32 64 fun _ => 0) 197 (0, 0))) ⟨?_, ?_, ?_⟩ ?_
  · exact (((Below.refl _ _).alloc (Nat.le_refl _) _).alloc (by simp) _).alloc (by simp; omega) _
  · exact (heap3 _ _ _ _).trans rfl
  · have := heap_alloc2_new (w.alloc (.cells (arr .u8 64 B) 182)) (.cells (arr .u32 64 fun _ => 0) 197) (.cells (arr .u32 64 fun _ => 0) 197)
    rw [World.size_alloc] at this
    exact this
  intro W1 ⟨hB, hres, hrow⟩
  have HRES : Hid _ := hres
  have HROW : Hid _ := hrow
  clear hres hrow
  go_loopw [12] (fun i wr => ∃ t : Nat, t ≤ 64 ∧ i = .int .i64 t ∧ Below (w.heap.size + 1 + 1) W1 wr ∧ wr.heap[w.heap.size + 1 + 1]? = some (.cells (arr .u32 64 (loF B t)) 197 (0, 0))) (fun i _ => 64 - (intOf i).toNat)
  case atStart => exact ⟨0, Nat.zero_le _, rfl, Below.refl _ _, HROW.out⟩
  case round =>
    obtain ⟨t, ht, rfl, hBr, hrow⟩ := hrel
    have HR : Hid _ := hrow
    by_cases hlt : t < 64
    · have hb1 := hbs t hlt
      have hc : wr.cell? ⟨w.heap.size + 1 + 1, t / 4, none⟩ = some (.int .u32 (loF B t (t / 4))) := row_cell hrow (by omega)
      have hf : ∀ j, wr.frozen? ⟨w.heap.size + 1 + 1, j, none⟩ = false := fun j => frozen_of_row _ _ j _ _ hrow
      have hbt := hb t
      clear hbs hrow
      go_wp2
      go_roundw
      case rel => exact ⟨t + 1, by omega, by go_num, hBr.setCell (by simp) _, row_set HR.out _ _⟩
      case measure => simp [intOf]; omega
    · have ht64 : t = 64 := by omega
      have HT : Hid _ := ht64
      clear ht64 hbs hrow
      go_wp2
      go_loopw [6] (fun i wq => ∃ t : Nat, 16 ≤ t ∧ t ≤ 64 ∧ i = .int .i64 t ∧ Below (w.heap.size + 1 + 1) W1 wq ∧ wq.heap[w.heap.size + 1 + 1]? = some (.cells (arr .u32 64 (hiF (loF B 64) (t - 16))) 197 (0, 0))) (fun i _ => 64 - (intOf i).toNat)
      case atStart => exact ⟨16, by omega, by omega, rfl, hBr, by have := HR.out; rw [HT.out] at this; exact this⟩
      case round =>
        obtain ⟨q, hq0, hq, rfl, hBq, hrow⟩ := hrel
        clear hBr HR HT
        have HR : Hid _ := hrow
        by_cases hlt : q < 64
        · generalize hF : hiF (loF B 64) (q - 16) = F at hrow HR
          have HF : Hid _ := hF
          clear hF
          have hc2 : wr.cell? ⟨w.heap.size + 1 + 1, q - 2, none⟩ = some (.int .u32 (F (q - 2))) := row_cell hrow (by omega)
          have hc15 : wr.cell? ⟨w.heap.size + 1 + 1, q - 15, none⟩ = some (.int .u32 (F (q - 15))) := row_cell hrow (by omega)
          have hc7 : wr.cell? ⟨w.heap.size + 1 + 1, q - 7, none⟩ = some (.int .u32 (F (q - 7))) := row_cell hrow (by omega)
          have hc16 : wr.cell? ⟨w.heap.size + 1 + 1, q - 16, none⟩ = some (.int .u32 (F (q - 16))) := row_cell hrow (by omega)
          have hc0 : wr.cell? ⟨w.heap.size + 1 + 1, q, none⟩ = some (.int .u32 (F q)) := row_cell hrow (by omega)
          have hf : ∀ j, wr.frozen? ⟨w.heap.size + 1 + 1, j, none⟩ = false := fun j => frozen_of_row _ _ j _ _ hrow
          clear hrow
          go_wp2
          go_quiet (fail)
          go_wp2_with fail
          refine (turn_any _ _ _ (by decide) (by decide)).mono ?_; rintro e w' ⟨rfl, k1, rfl⟩
          go_wp2_with fail
          refine (turn_any _ _ _ (by decide) (by decide)).mono ?_; rintro e w' ⟨rfl, k2, rfl⟩
          go_wp2_with fail
          refine (turn_any _ _ _ (by decide) (by decide)).mono ?_; rintro e w' ⟨rfl, k3, rfl⟩
          go_wp2_with fail
          refine (turn_any _ _ _ (by decide) (by decide)).mono ?_; rintro e w' ⟨rfl, k4, rfl⟩
          go_wp2_with fail
          go_region
          go_wp2
          go_roundw
          case rel =>
            refine ⟨q + 1, by omega, by omega, by go_num, (below_drewN hBq _).setCell (by simp) _, ?_⟩
            rw [hiF_succ _ _ hq0, HF.out]
            exact row_set (w := wr.drewN _) HR.out _ _
          case measure => simp [intOf]; omega
        · have hq64 : q = 64 := by omega
          have HQ : Hid _ := hq64
          have hres : wr.heap[w.heap.size + 1]? = some (.cells (arr .u32 64 fun _ => 0) 197 (0, 0)) := by
            rw [hBq.block _ (by omega)]; exact HRES.out
          have HRS : Hid _ := hres
          clear hq64 hrow hres
          go_wp2_with (first | (refine wpList_load_row rfl 197 _ rfl (w.heap.size + 1 + 1) rfl 197 _ (0, 0) _ HR.out Tryz.underlying197 rfl (by rw [arr_size]; kernel_rfl) ?_) | (refine wpList_store_row rfl 197 _ _ rfl (w.heap.size + 1) _ rfl rfl 197 _ HRS.out (by rw [arr_size]; kernel_rfl) (by rw [arr_size, arr_size]) (arr_one _ _ _) ?_))
          refine bodyPost_ret (v := .agg (arr .u32 64 (schedF B))) ?_ rfl ⟨rfl, ?_⟩
          · rw [HQ.out]
            exact results_cell_row Tryz.results131 _ _ (w.heap.size + 1) 197 _ (0, 0) _ rfl (heap_setRow_same HRS.out) Tryz.underlying197 rfl (by rw [arr_size]; kernel_rfl)
          · exact below_setRow' (hB.trans (hBq.mono (by omega))) (by omega) _
end Go.Proofs.YtgfjjglejlnfbaaGreatDoor

namespace Go.Proofs.YtgfjjglejlnfbaaGreatDoor
open Go.RowKit

def St.fn (s : St) : Nat → Int
  | 0 => s.a | 1 => s.b | 2 => s.c | 3 => s.d | 4 => s.e | 5 => s.f | 6 => s.g | _ => s.k
theorem St.val_arr (s : St) : s.val = .agg (arr .u32 8 s.fn) := rfl
/-- Number for number, modulo 2^32. -/
def St.add (s t : St) : St := ⟨(s.a + t.a) % 4294967296, (s.b + t.b) % 4294967296, (s.c + t.c) % 4294967296, (s.d + t.d) % 4294967296, (s.e + t.e) % 4294967296, (s.f + t.f) % 4294967296, (s.g + t.g) % 4294967296, (s.k + t.k) % 4294967296⟩
/-- The first n numbers have been added. -/
def addTo (f g : Nat → Int) : Nat → Nat → Int
  | 0 => f
  | n + 1 => upd (addTo f g n) n ((addTo f g n n + g n) % 4294967296)
theorem addTo_at (f g : Nat → Int) : ∀ n i, addTo f g n i = if i < n then (f i + g i) % 4294967296 else f i
  | 0, i => by simp [addTo]
  | n + 1, i => by
    unfold addTo upd
    by_cases h : i = n
    · subst h; simp [addTo_at f g i i]
    · rw [if_neg h, addTo_at f g n i]
      by_cases h2 : i < n
      · rw [if_pos h2, if_pos (by omega)]
      · rw [if_neg h2, if_neg (by omega)]
def blockF (K : Nat → Int) (B : Nat → Int) (s : St) : St := s.add (stAt K (schedF B) s 64)
theorem add_fn (s t : St) : arr .u32 8 (addTo s.fn t.fn 8) = arr .u32 8 (s.add t).fn := by
  refine arr_congr fun i hi => ?_
  rw [addTo_at, if_pos hi]
  match i, hi with
  | 0, _ => rfl
  | 1, _ => rfl
  | 2, _ => rfl
  | 3, _ => rfl
  | 4, _ => rfl
  | 5, _ => rfl
  | 6, _ => rfl
  | 7, _ => rfl

set_option maxRecDepth 100000 in
set_option maxHeartbeats 1000000 in
theorem block_any (s : St) (B : Nat → Int) (K : Nat → Int) (w : World) (hb : ∀ i, 0 ≤ B i ∧ B i ≤ 255)
    (hK : ∀ i : Nat, i < 64 → w.cell? ⟨2, i, none⟩ = some (.int .u32 (K i))) :
    Calls Tryz.prog 104 #[s.val, .agg (arr .u8 64 B)] w fun e w' => e = .returned (blockF K B s).val ∧ Below w.heap.size w w' := by
  have h1w : 2 < w.heap.size := block_lt_of_cell (hK 0 (by omega))
  rw [St.val_arr]
  go_enter Tryz.func104, Tryz.ntmps104
  go_wp2
  refine wp_gen (fun W1 => Below w.heap.size w W1 ∧ W1.heap[w.heap.size]? = some (.cells (arr .u32 8 s.fn) 179 (0, 0)) ∧ W1.heap[w.heap.size + 1]? = some (.cells (arr .u8 64 B) 182 (0, 0)) ∧ W1.heap[w.heap.size + 1 + 1]? = some (.cells (arr .u32 8 fun _ => 0) 179 (0, 0))) ⟨?_, ?_, ?_, ?_⟩ ?_
  · exact (((Below.refl _ _).alloc (Nat.le_refl _) _).alloc (by simp) _).alloc (by simp; omega) _
  · rw [Below.heap_alloc _ _ _ (by simp; omega), Below.heap_alloc _ _ _ (by simp), heap_alloc_new]
  · exact (heap3 _ _ _ _).trans rfl
  · have := heap_alloc2_new (w.alloc (.cells (arr .u32 8 s.fn) 179)) (.cells (arr .u8 64 B) 182) (.cells (arr .u32 8 fun _ => 0) 179)
    rw [World.size_alloc] at this
    exact this
  intro W1 ⟨hB, hrow0, hrow1, hrow2⟩
  have hK1 : ∀ i : Nat, i < 64 → W1.cell? ⟨2, i, none⟩ = some (.int .u32 (K i)) := fun i hi => (hB.cell (by exact h1w)).trans (hK i hi)
  have hlt2 := lt_of_row hrow2
  refine wp_region_held (S := fun w' => Below (w.heap.size + 1 + 1 + 1) W1 w') (by kernel_rfl) ?_
  refine take_row (i := 0) rfl (by kernel_rfl) (by kernel_rfl) (by kernel_rfl) (fun _ _ _ h => h) rfl 179 _ rfl w.heap.size rfl 179 (arr .u32 8 s.fn) rfl (0, 0) _ (fun w' hw' => by rw [hw'.block _ (by omega)]; exact hrow0) Tryz.underlying179 rfl (by rw [arr_size]; kernel_rfl) (Below.refl _ _).drew ?_
  refine take_row (i := 1) rfl (by kernel_rfl) (by kernel_rfl) (by kernel_rfl) (fun _ _ _ h => h) rfl 182 _ rfl (w.heap.size + 1) rfl 182 (arr .u8 64 B) rfl (0, 0) _ (fun w' hw' => by rw [hw'.block _ (by omega)]; exact hrow1) Tryz.underlying182 rfl (by rw [arr_size]; kernel_rfl) (Below.refl _ _).drew ?_
  refine take_run (i := 4) (.int .i64 0) rfl (by kernel_rfl) (by kernel_rfl) (by kernel_rfl) (fun _ _ _ h => h) rfl (fun _ _ => rfl) (Below.refl _ _).drew ?_
  refine next_one (i := 2) rfl (by kernel_rfl) rfl rfl ?_
  go_simp
  refine (sched_any B _ hb).mono ?_
  rintro e w1 ⟨rfl, hB1⟩
  have hS1 : Below (w.heap.size + 1 + 1 + 1) W1 w1 := (Below.refl _ _).drew.trans (hB1.mono (by simp; omega))
  refine ⟨hS1, ?_⟩
  refine next_one (i := 3) rfl (by kernel_rfl) rfl rfl ?_
  go_simp
  have hm := mix_any s (arr .u32 64 (schedF B)) (schedF B) K w1 (arr_size _ _ _) (fun i hi w => index_arr Tryz.underlying197 Tryz.underlying63 (by kernel_rfl) hi (arr_get hi) w) (fun i hi => (hS1.cell (p := ⟨2, i, none⟩) (by simp only; omega)).trans (hK1 i hi))
  rw [St.val_arr] at hm
  refine hm.mono ?_
  rintro e w2 ⟨rfl, hB2⟩
  have hS2 : Below (w.heap.size + 1 + 1 + 1) W1 w2 := hS1.trans (hB2.mono (by have := hS1.size; omega))
  refine ⟨hS2, ?_⟩
  refine wpAnyH_done (by kernel_rfl) ?_ _
  have hr0 : w2.heap[w.heap.size]? = some (.cells (arr .u32 8 s.fn) 179 (0, 0)) := by rw [hS2.block _ (by omega)]; exact hrow0
  have hr2 : w2.heap[w.heap.size + 1 + 1]? = some (.cells (arr .u32 8 fun _ => 0) 179 (0, 0)) := by rw [hS2.block _ (by omega)]; exact hrow2
  have hBw : Below w.heap.size w w2 := hB.trans (hS2.mono (by omega))
  have H0 : Hid _ := hr0
  have H2 : Hid _ := hr2
  rw [St.val_arr]
  generalize hT : stAt K (schedF B) s 64 = T
  have HT : Hid _ := hT
  clear hm hB1 hS1 hB2 hS2 hr0 hr2 hrow0 hrow1 hrow2 hB hK hK1 hlt2 hT
  have hbs : ∀ i : Nat, i < 8 → ∀ w, (Instr.index 179 (.agg (arr .u32 8 T.fn)) (.int .i64 i)).run Tryz.prog w = .ok (.int .u32 (T.fn i)) w :=
    fun i hi w => index_arr Tryz.underlying179 Tryz.underlying63 (by kernel_rfl) hi (arr_get hi) w
  have HBS : Hid _ := hbs
  clear hbs
  go_wp2
  go_loopw [11] (fun i wr => ∃ t : Nat, t ≤ 8 ∧ i = .int .i64 t ∧ Below w.heap.size w wr ∧ wr.heap[w.heap.size]? = some (.cells (arr .u32 8 (addTo s.fn T.fn t)) 179 (0, 0)) ∧ wr.heap[w.heap.size + 1 + 1]? = some (.cells (arr .u32 8 fun _ => 0) 179 (0, 0))) (fun i _ => 8 - (intOf i).toNat)
  case atStart => exact ⟨0, Nat.zero_le _, rfl, hBw, H0.out, H2.out⟩
  case round =>
    obtain ⟨t, ht, rfl, hBr, hr0, hr2⟩ := hrel
    have HR0 : Hid _ := hr0
    have HR2 : Hid _ := hr2
    by_cases hlt : t < 8
    · have hb1 := HBS.out t hlt
      have hc : wr.cell? ⟨w.heap.size, t, none⟩ = some (.int .u32 (addTo s.fn T.fn t t)) := row_cell hr0 hlt
      have hf : ∀ j, wr.frozen? ⟨w.heap.size, j, none⟩ = false := fun j => frozen_of_row _ _ j _ _ hr0
      clear hr0 hr2
      go_wp2
      go_roundw
      case rel => exact ⟨t + 1, by omega, by go_num, hBr.setCell (by simp) _, row_set HR0.out _ _, (heap_setCell_other _ _ _ _ (by simp; omega)).trans HR2.out⟩
      case measure => simp [intOf]; omega
    · have ht8 : t = 8 := by omega
      have HT8 : Hid _ := ht8
      clear ht8 hr0 hr2
      go_wp2_with (first | (refine wpList_load_row rfl 179 _ rfl w.heap.size rfl 179 _ (0, 0) _ HR0.out Tryz.underlying179 rfl (by rw [arr_size]; kernel_rfl) ?_) | (refine wpList_store_row rfl 179 _ _ rfl (w.heap.size + 1 + 1) _ rfl rfl 179 _ HR2.out (by rw [arr_size]; kernel_rfl) (by rw [arr_size, arr_size]) (arr_one _ _ _) ?_))
      refine bodyPost_ret (v := .agg (arr .u32 8 (addTo s.fn T.fn t))) ?_ rfl ⟨?_, ?_⟩
      · exact results_cell_row Tryz.results104 _ _ (w.heap.size + 1 + 1) 179 _ (0, 0) _ rfl (heap_setRow_same HR2.out) Tryz.underlying179 rfl (by rw [arr_size]; kernel_rfl)
      · rw [HT8.out, add_fn, St.val_arr, blockF, HT.out]
      · exact below_setRow' hBr (by omega) _
end Go.Proofs.YtgfjjglejlnfbaaGreatDoor

namespace Go.Proofs.YtgfjjglejlnfbaaGreatDoor
open Go.RowKit

set_option maxRecDepth 100000 in
theorem put64_any (sp : Option Addr) (len cap : Nat) (src : Nat → Int) (x : Int) (w : World) (hsrc : SrcAt w .u8 sp len src) (hlen : len ≤ 1000000) (hx0 : 0 ≤ x) (hx : x < 18446744073709551616) :
    Calls Tryz.prog 129 #[.slice sp len cap, .int .u64 x] w fun e w' => e = .returned (.slice (some ⟨w.heap.size, 0, none⟩) (len + 8) (len + 8)) ∧ w'.heap[w.heap.size]? = some (.cells (arr .u8 (len + 8) (putF src len 8 x 8)) 5 (0, 0)) ∧ Below w.heap.size w w' := by
  go_enter Tryz.func129, Tryz.ntmps129
  go_wp2_with fail
  have h := put_any sp len cap src x 8 w hsrc hlen (by omega) hx0 hx
  refine h.mono ?_
  rintro e w1 ⟨rfl, h1, h2⟩
  clear h
  have H1 : Hid _ := h1
  clear h1
  go_wp2
  go_ret
  exact ⟨rfl, H1.out, h2⟩

theorem and63 (x : Int) : bits .and .i64 x 63 = x % 64 := by
  show IntKind.i64.wrap ((BitVec.ofInt 64 x &&& BitVec.ofInt 64 63).toNat : Int) = _
  have h1 : (BitVec.ofInt 64 (63 : Int)).toNat = 2 ^ 6 - 1 := by decide
  rw [BitVec.toNat_and, h1, Nat.and_two_pow_sub_one_eq_mod, BitVec.toNat_ofInt, IntKind.wrap_i64]
  omega

/-- How many noughts are laid. -/
def padZ (len : Nat) : Nat := ((55 - (len : Int)) % 64).toNat
theorem padZ_lt (len : Nat) : padZ len < 64 := by unfold padZ; omega
theorem padZ_mod (len : Nat) : (len + 1 + padZ len) % 64 = 56 := by unfold padZ; omega
/-- The bytes ahead of the length. -/
def pad1F (src : Nat → Int) (len : Nat) : Nat → Int := upd (fun i => if i < len then src i else 0) len 128
def padLen (len : Nat) : Nat := len + 1 + padZ len + 8
def padF (src : Nat → Int) (len : Nat) : Nat → Int := putF (pad1F src len) (len + 1 + padZ len) 8 (8 * len) 8

set_option maxRecDepth 100000 in
set_option maxHeartbeats 1000000 in
theorem pad_any (sp : Option Addr) (len cap : Nat) (src : Nat → Int) (w : World) (hsrc : SrcAt w .u8 sp len src) (hlen : len ≤ 100000) :
    Calls Tryz.prog 103 #[.slice sp len cap] w fun e w' => ∃ g, e = .returned (.slice (some ⟨g, 0, none⟩) (padLen len) (padLen len)) ∧ w.heap.size ≤ g ∧ w'.heap[g]? = some (.cells (arr .u8 (padLen len) (padF src len)) 5 (0, 0)) ∧ Below w.heap.size w w' := by
  have hz : bits .and .i64 (55 - (len : Int)) 63 = (padZ len : Int) := by rw [and63]; unfold padZ; omega
  have hzl := padZ_lt len
  have hmk := make_bytes (len + 1 + padZ len) (by omega)
  rw [Int.natCast_add, Int.natCast_add, Int.natCast_one] at hmk
  generalize hZ : padZ len = z at hz hzl hmk
  have HZ : Hid _ := hZ
  clear hZ
  go_enter Tryz.func103, Tryz.ntmps103
  go_wp2_with (refine copy_bytes (by rfl) (.tmp 15) (.tmp 16) (by rfl) w.heap.size (len + 1 + z) (len + 1 + z) len cap sp (by rfl) (by rfl) (fun _ => 0) src (heap_alloc_new _ _) (hsrc.below ((Below.refl _ _).alloc (Nat.le_refl _) _)) (by omega) w.heap.size w ((Below.refl _ _).alloc (Nat.le_refl _) _) (Nat.le_refl _) ?_; intro W1 hrow hB1; have hc : W1.cell? ⟨w.heap.size, len, none⟩ = some (.int .u8 0) := (row_cell hrow.out (by omega)).trans (by simp); have hf := fun j => frozen_of_row _ _ j _ _ hrow.out)
  have hW2 := row_set hrow.out len 128
  have hB2 := hB1.setCell (p := ⟨w.heap.size, len, none⟩) (Nat.le_refl _) (.int .u8 128)
  have hsz := lt_of_row hW2
  have h := put64_any (some ⟨w.heap.size, 0, none⟩) (len + 1 + z) (len + 1 + z) (pad1F src len) (8 * len) (W1.setCell ⟨w.heap.size, len, none⟩ (.int .u8 128)) (srcAt_row hW2 (Nat.le_refl _)) (by omega) (by omega) (by omega)
  refine h.mono ?_
  rintro e w1 ⟨rfl, h1, h2⟩
  clear h hW2 hc hf hmk
  have H1 : Hid _ := h1
  clear h1
  go_wp2
  go_ret
  have e1 : (W1.setCell ⟨w.heap.size, len, none⟩ (.int .u8 128)).heap.size = W1.heap.size := by simp [World.setCell]
  refine ⟨W1.heap.size, ?_, by omega, ?_, hB2.trans (h2.mono (by omega))⟩
  · unfold padLen; rw [HZ.out]; rfl
  · have h := H1.out
    rw [e1] at h
    unfold padLen padF; rw [HZ.out]; exact h
end Go.Proofs.YtgfjjglejlnfbaaGreatDoor

namespace Go.Proofs.YtgfjjglejlnfbaaGreatDoor
open Go.RowKit

def St.ok (s : St) : Prop := ∀ i, 0 ≤ s.fn i ∧ s.fn i < 4294967296
theorem St.add_ok (s t : St) : (s.add t).ok := by
  intro i
  unfold St.add St.fn
  split <;> (simp only; omega)
/-- What the numbers have become behind i blocks. -/
def hAt (K : Nat → Int) (p : Nat → Int) (s : St) : Nat → St
  | 0 => s
  | i + 1 => blockF K (fun j => p (64 * i + j)) (hAt K p s i)
theorem hAt_ok (K p : Nat → Int) (s : St) (hs : s.ok) : ∀ i, (hAt K p s i).ok
  | 0 => hs
  | _ + 1 => St.add_ok _ _
/-- The bytes of eight numbers, highest first. -/
def outF (s : St) : Nat → Int := fun i => s.fn (i / 4) / 256 ^ (3 - i % 4) % 256
theorem out_put (s : St) (t i : Nat) (hi : i < 4 * t + 4) : putF (outF s) (4 * t) 4 (s.fn t) 4 i = outF s i := by
  unfold putF
  by_cases h : i < 4 * t
  · rw [if_pos h]
  · rw [if_neg h, if_pos (by omega)]
    unfold outF
    rw [show i / 4 = t by omega, show 4 * t + 4 - 1 - i = 3 - i % 4 by omega]
theorem padLen_mod (len : Nat) : padLen len % 64 = 0 := by have := padZ_mod len; unfold padLen; omega
theorem pad_bytes (src : Nat → Int) (len : Nat) (hs : ∀ i, 0 ≤ src i ∧ src i ≤ 255) (i : Nat) : 0 ≤ padF src len i ∧ padF src len i ≤ 255 := by
  unfold padF putF pad1F upd
  dsimp only
  split
  · split
    · omega
    · split
      · exact hs i
      · omega
  · split
    · generalize (8 * (len : Int)) / 256 ^ _ = q; omega
    · omega

/-- A slice as an array's address. -/
theorem run_toArray {P : Program} (ty : TypeId) (n : Nat) (e : TypeId) (hu : P.underlying ty = some (.array n e)) {o : Oper} (x : Operand) (ho : o.op = .sliceToArrayPointer ty x) {a : Act} (ad : Addr) (len cap : Nat) (hx : a.eval x = .slice (some ad) len cap) (hn : n ≤ len) {w : World} :
    (execOp a.eval o).run P w = .ok (.value (.pointer (some ad))) w := by
  unfold execOp
  simp [ho, hx, Instr.arrayAt, run_underlying hu, show ¬ len < n by omega]
theorem rest_step (L i g : Nat) (_hlt : 64 * i < L) : ∃ ad : Addr, Value.slice (if L - 64 * i = 64 then some ⟨g, 64 * i, none⟩ else some ⟨g, 64 * i + 64, none⟩) (L - 64 * i - 64) (L - 64 * i - 64) = .slice (some ad) (L - 64 * (i + 1)) (L - 64 * (i + 1)) ∧ (64 * (i + 1) < L → ad = ⟨g, 64 * (i + 1), none⟩) := by
  rw [show L - 64 * i - 64 = L - 64 * (i + 1) by omega]
  by_cases h : L - 64 * i = 64
  · rw [if_pos h]; exact ⟨_, rfl, fun h' => by omega⟩
  · rw [if_neg h]; exact ⟨_, rfl, fun _ => rfl⟩
def sliceLen : Value → Nat | .slice _ n _ => n | _ => 0
def sumF (K : Nat → Int) (H : St) (src : Nat → Int) (len : Nat) : St := hAt K (padF src len) H (padLen len / 64)

set_option maxRecDepth 100000 in
set_option maxHeartbeats 1000000 in
theorem sum_any (sp : Option Addr) (len cap : Nat) (src : Nat → Int) (K : Nat → Int) (H : St) (w : World) (hsrc : SrcAt w .u8 sp len src) (hlen : len ≤ 100000) (hs : ∀ i, 0 ≤ src i ∧ src i ≤ 255)
    (hK : ∀ i : Nat, i < 64 → w.cell? ⟨2, i, none⟩ = some (.int .u32 (K i))) (hH : ∀ i : Nat, i < 8 → w.cell? ⟨0, i, none⟩ = some (.int .u32 (H.fn i))) (hok : H.ok) :
    Calls Tryz.prog 69 #[.slice sp len cap] w fun e w' => e = .returned (.agg (arr .u8 32 (outF (sumF K H src len)))) ∧ Below w.heap.size w w' := by
  have h1w : 2 < w.heap.size := block_lt_of_cell (hK 0 (by omega))
  go_enter Tryz.func69, Tryz.ntmps69
  go_wp2_with (first
    | (refine load_cells (by rfl) 179 (.global 0) (by rfl) 0 (by rfl) .u32 8 H.fn _ (fun i hi => (((Below.refl _ _).alloc (Nat.le_refl _) _).cell (p := ⟨0, i, none⟩) (by simp only; omega)).trans (hH i hi)) Tryz.underlying179 rfl (by kernel_rfl) ?_)
    | (refine wpList_store_row (by rfl) 179 (.tmp 3) (.tmp 8) (by rfl) (w.heap.size + 1) _ (by rfl) (by rfl) 179 (arr .u32 8 fun _ => 0) ((heap_alloc2_new _ _ _).trans rfl) (by rw [arr_size]; kernel_rfl) (by rw [arr_size, arr_size]) (arr_one _ _ _) ?_))
  refine calls_gen (fun W1 => Below w.heap.size w W1 ∧ W1.heap[w.heap.size]? = some (.cells (arr .u8 32 fun _ => 0) 26 (0, 0)) ∧ W1.heap[w.heap.size + 1]? = some (.cells (arr .u32 8 H.fn) 179 (0, 0))) ⟨?_, ?_, ?_⟩ ?_
  · exact below_setRow' (((Below.refl _ _).alloc (Nat.le_refl _) _).alloc (by simp) _) (by omega) _
  · rw [setRow_other _ _ _ _ (by omega), heap_alloc2_old]; rfl
  · exact heap_setRow_same (heap_alloc2_new _ _ _)
  intro W1 ⟨hB1, hres, hrh⟩
  refine (pad_any sp len cap src W1 (hsrc.below hB1) hlen).mono ?_
  rintro e w2 ⟨g, rfl, hg, hpad, hB2⟩
  have hz1 := lt_of_row hrh
  have hB : Below w.heap.size w w2 := hB1.trans (hB2.mono hB1.size)
  have HP : Hid _ := hpad
  have HRES : Hid (w2.heap[w.heap.size]? = some (.cells (arr .u8 32 fun _ => 0) 26 (0, 0))) := (hB2.block _ (by omega)).trans hres
  have HRH : Hid (w2.heap[w.heap.size + 1]? = some (.cells (arr .u32 8 H.fn) 179 (0, 0))) := (hB2.block _ (by omega)).trans hrh
  have hL := padLen_mod len
  have hL1 : padLen len ≤ len + 72 := by have := padZ_lt len; unfold padLen; omega
  have hpb := pad_bytes src len hs
  have HSUM : Hid (sumF K H src len = hAt K (padF src len) H (padLen len / 64)) := rfl
  generalize hPL : padLen len = L at *
  generalize hPF : padF src len = p at *
  clear hpad hres hrh hPL hPF hB1 hB2
  have HHOK := hAt_ok K p H hok
  go_wp2
  go_loopw [4] (fun v wr => ∃ i : Nat, ∃ ad : Addr, 64 * i ≤ L ∧ v = .slice (some ad) (L - 64 * i) (L - 64 * i) ∧ (64 * i < L → ad = ⟨g, 64 * i, none⟩) ∧ Below w.heap.size w wr ∧ wr.heap[g]? = some (.cells (arr .u8 L p) 5 (0, 0)) ∧ wr.heap[w.heap.size]? = some (.cells (arr .u8 32 fun _ => 0) 26 (0, 0)) ∧ wr.heap[w.heap.size + 1]? = some (.cells (arr .u32 8 (hAt K p H i).fn) 179 (0, 0))) (fun v _ => sliceLen v)
  case atStart => exact ⟨0, ⟨g, 0, none⟩, by omega, rfl, fun _ => rfl, hB, HP.out, HRES.out, HRH.out⟩
  case round =>
    obtain ⟨i, ad, hi, rfl, had, hBr, hrp, hr0, hr1⟩ := hrel
    clear hB HP HRES HRH
    have H0 : Hid _ := hr0
    have H1 : Hid _ := hr1
    have HP : Hid _ := hrp
    have HAD : Hid _ := had
    clear hr0 hr1 hrp had
    by_cases hlt : 64 * i < L
    · obtain rfl := HAD.out hlt
      go_wp2
      refine wp_region_held (S := fun w' => w'.heap[g]? = some (.cells (arr .u8 L p) 5 (0, 0))) (by kernel_rfl) ?_
      refine take_run (i := 1) (.slice (some ⟨g, 64 * i, none⟩) (L - 64 * i) (L - 64 * i)) rfl (by kernel_rfl) (by kernel_rfl) (by kernel_rfl) (fun _ _ _ h => h) rfl (fun _ _ => rfl) HP.out ?_
      refine take_run (i := 2) (.pointer (some ⟨g, 64 * i, none⟩)) rfl (by kernel_rfl) (by kernel_rfl) (by kernel_rfl) (fun _ _ _ h => h) rfl (fun w' _ => ?_) HP.out ?_
      · exact run_toArray 182 64 5 Tryz.underlying182 _ rfl _ _ _ rfl (by omega)
      refine take_part (i := 3) rfl (by kernel_rfl) (by kernel_rfl) (by kernel_rfl) (fun _ _ _ h => h) rfl 182 _ rfl g (64 * i) rfl 5 .u8 L 64 p rfl (0, 0) _ (fun _ h => h) (by omega) Tryz.underlying182 rfl (by kernel_rfl) HP.out ?_
      refine next_one (i := 0) rfl (by kernel_rfl) rfl rfl ?_
      refine wp_load_row 179 _ rfl (w.heap.size + 1) rfl 179 _ (0, 0) _ H1.out Tryz.underlying179 rfl (by rw [arr_size]; kernel_rfl) ⟨HP.out, ?_⟩
      refine next_one (i := 4) rfl (by kernel_rfl) rfl rfl ?_
      go_simp
      have hb := block_any (hAt K p H i) (fun j => p (64 * i + j)) K wr.drew (fun j => hpb _) (fun j hj => (hBr.drew.cell (p := ⟨2, j, none⟩) (by simp only; omega)).trans (hK j hj))
      rw [St.val_arr] at hb
      refine hb.mono ?_
      rintro e w3 ⟨rfl, hB3⟩
      clear hb
      have hlg := lt_of_row HP.out
      have hl1 := lt_of_row H1.out
      have hl0 := lt_of_row H0.out
      have hP3 : w3.heap[g]? = some (.cells (arr .u8 L p) 5 (0, 0)) := (hB3.block _ hlg).trans HP.out
      have h13 : w3.heap[w.heap.size + 1]? = some (.cells (arr .u32 8 (hAt K p H i).fn) 179 (0, 0)) := (hB3.block _ hl1).trans H1.out
      have h03 : w3.heap[w.heap.size]? = some (.cells (arr .u8 32 fun _ => 0) 26 (0, 0)) := (hB3.block _ hl0).trans H0.out
      refine ⟨hP3, ?_⟩
      refine next_one (i := 5) rfl (by kernel_rfl) rfl rfl ?_
      rw [St.val_arr]
      refine wp_store_row 179 _ _ rfl (w.heap.size + 1) _ rfl rfl 179 _ h13 (by rw [arr_size]; kernel_rfl) (by rw [arr_size, arr_size]) (arr_one _ _ _) ?_
      have hP4 : (w3.setRow (w.heap.size + 1) (arr .u32 8 (hAt K p H (i + 1)).fn)).heap[g]? = some (.cells (arr .u8 L p) 5 (0, 0)) := (setRow_other _ _ _ _ (by omega)).trans hP3
      refine ⟨hP4, ?_⟩
      refine wpAnyH_done (by kernel_rfl) ?_ _
      have HP4 : Hid _ := hP4
      have H14 : Hid _ := heap_setRow_same (cs := arr .u32 8 (hAt K p H (i + 1)).fn) h13
      have H04 : Hid ((w3.setRow (w.heap.size + 1) (arr .u32 8 (hAt K p H (i + 1)).fn)).heap[w.heap.size]? = some (.cells (arr .u8 32 fun _ => 0) 26 (0, 0))) := (setRow_other _ _ _ _ (by omega)).trans h03
      have hB4 : Below w.heap.size w (w3.setRow (w.heap.size + 1) (arr .u32 8 (hAt K p H (i + 1)).fn)) := below_setRow' (hBr.drew.trans (hB3.mono (Nat.le_of_lt hl0))) (by omega) _
      have e4 : arr .u32 8 (blockF K (fun j => p (64 * i + j)) (hAt K p H i)).fn = arr .u32 8 (hAt K p H (i + 1)).fn := rfl
      rw [e4]
      generalize w3.setRow (w.heap.size + 1) (arr .u32 8 (hAt K p H (i + 1)).fn) = w4 at *
      clear hP3 h13 h03 hP4 hB3 H0 H1 HP HAD e4
      go_wp2
      go_roundw
      case rel =>
        obtain ⟨ad, h1, h2⟩ := rest_step L i g hlt
        exact ⟨i + 1, ad, by omega, h1, h2, hB4, HP4.out, H04.out, H14.out⟩
      case measure => simp [sliceLen]; omega
    · have hil : i = L / 64 := by omega
      have hfin : Hid (hAt K p H i = sumF K H src len) := by rw [HSUM.out, hil]; exact rfl
      have hokI := HHOK i
      generalize hAt K p H i = T at H1 hfin hokI
      clear hil HSUM HHOK hpb HP HAD hsrc hH hK hok
      have hix : ∀ j : Nat, j < 8 → ∀ w, (Instr.index 179 (.agg (arr .u32 8 T.fn)) (.int .i64 j)).run Tryz.prog w = .ok (.int .u32 (T.fn j)) w :=
        fun j hj w => index_arr Tryz.underlying179 Tryz.underlying63 (by kernel_rfl) hj (arr_get hj) w
      have HIX : Hid _ := hix
      clear hix
      go_wp2_with (refine wpList_load_row (by rfl) 179 (.tmp 3) (by rfl) (w.heap.size + 1) (by rfl) 179 _ (0, 0) _ H1.out Tryz.underlying179 rfl (by rw [arr_size]; kernel_rfl) ?_)
      go_loopw [5, 22] (fun v c wq => ∃ t : Nat, ∃ sq : Option Addr, ∃ cq : Nat, t ≤ 8 ∧ c = .int .i64 t ∧ v = .slice sq (4 * t) cq ∧ SrcAt wq .u8 sq (4 * t) (outF T) ∧ Below w.heap.size w wq ∧ wq.heap[w.heap.size]? = some (.cells (arr .u8 32 fun _ => 0) 26 (0, 0))) (fun _ c _ => 8 - (intOf c).toNat)
      case atStart => exact ⟨0, none, 0, by omega, rfl, rfl, fun h => absurd h (by omega), hBr, H0.out⟩
      case round =>
        obtain ⟨t, sq, cq, ht, rfl, rfl, hsq, hBq, hrq⟩ := hrel
        have HQ : Hid _ := hrq
        have HS : Hid _ := hsq
        clear hrq hsq
        by_cases hlt8 : t < 8
        · have hb1 := HIX.out t hlt8
          go_wp2_with fail
          refine (put32_any sq (4 * t) cq (outF T) (T.fn t) _ HS.out (by omega) (hokI t).1 (hokI t).2).mono ?_
          rintro e w5 ⟨rfl, h5, hB5⟩
          have H5 : Hid _ := h5
          clear h5
          have hlr := lt_of_row HQ.out
          go_wp2
          go_roundw
          case rel =>
            refine ⟨t + 1, _, 4 * t + 4, by omega, by go_num, rfl, ?_, hBq.trans (hB5.mono (by omega)), (hB5.block _ hlr).trans HQ.out⟩
            exact (srcAt_row H5.out (Nat.le_refl _)).congr fun j hj => out_put T t j (by omega)
          case measure => simp [intOf]; omega
        · have ht8 : t = 8 := by omega
          subst ht8
          obtain ⟨b, off, rfl, hcs⟩ := HS.out (by omega)
          have HCS : Hid _ := hcs
          have har : ∀ w', (Instr.arrayAt 26 (.slice (some ⟨b, off, none⟩) 32 cq)).run Tryz.prog w' = .ok (.pointer (some ⟨b, off, none⟩)) w' := fun w' => by simp [Instr.arrayAt, run_underlying Tryz.underlying26]
          clear hcs HS
          go_wp2_with (first
            | (refine load_at (by rfl) 26 (.tmp 30) (by rfl) b off (by rfl) .u8 32 (outF T) _ HCS.out Tryz.underlying26 rfl (by kernel_rfl) ?_)
            | (refine wpList_store_row (by rfl) 26 (.tmp 2) (.tmp 31) (by rfl) w.heap.size _ (by rfl) (by rfl) 26 _ HQ.out (by rw [arr_size]; kernel_rfl) (by rw [arr_size, arr_size]) (arr_one _ _ _) ?_))
          refine bodyPost_ret (v := .agg (arr .u8 32 (outF T))) ?_ rfl ⟨by rw [hfin.out], ?_⟩
          · exact results_cell_row Tryz.results69 _ _ w.heap.size 26 _ (0, 0) _ rfl (heap_setRow_same HQ.out) Tryz.underlying26 rfl (by rw [arr_size]; kernel_rfl)
          · exact below_setRow' hBq (Nat.le_refl _) _
end Go.Proofs.YtgfjjglejlnfbaaGreatDoor
