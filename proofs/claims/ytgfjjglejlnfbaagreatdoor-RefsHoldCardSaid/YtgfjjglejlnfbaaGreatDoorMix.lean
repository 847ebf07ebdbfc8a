/- The contracts of sha.turn[uint32], of bits.Len64 at the one number that it is asked for, and of sha.mix: what the 64 steps make of eight numbers. -/
import Derived.Test.YtgfjjglejlnfbaaGreatDoorBase
namespace Go.Proofs.YtgfjjglejlnfbaaGreatDoor
open Go.RowKit

def turnI (n x : Int) : Int := bits .or .u32 (x / 2 ^ n.toNat) (x * 2 ^ (32 - n).toNat % 4294967296)
set_option maxRecDepth 100000 in
set_option maxHeartbeats 400000 in
theorem len64_at (w : World) :
    Calls Tryz.prog 143 #[.int .u64 4294967295] w fun e w' => e = .returned (.int .i64 32) ∧ w' = w := by
  go_enter Tryz.func143, Tryz.ntmps143
  go_wp2
  go_ret
  exact ⟨ret_int (by decide +kernel), rfl⟩
set_option maxHeartbeats 400000 in
theorem turn_any (n : Int) (x : Int) (w : World) (hn0 : 0 ≤ n) (hn : n ≤ 31) :
    Calls Tryz.prog 151 #[.int .i64 n, .int .u32 x] w fun e w' => e = .returned (.int .u32 (turnI n x)) ∧ ∃ k, w' = w.drewN k := by
  go_enter Tryz.func151, Tryz.ntmps151
  go_wp2_with (go_at_call 143; refine (len64_at _).mono ?_; rintro e w' ⟨rfl, rfl⟩)
  go_quiet (fail)
  go_wp2
  go_ret
  exact ⟨rfl, nq, rfl⟩
structure St where
  a : Int
  b : Int
  c : Int
  d : Int
  e : Int
  f : Int
  g : Int
  k : Int
def t1I (kt wt : Int) (s : St) : Int :=
  (s.k + bits .xor .u32 (bits .xor .u32 (turnI 6 s.e) (turnI 11 s.e)) (turnI 25 s.e) +
    bits .xor .u32 (bits .and .u32 s.e s.f) (bits .and .u32 (bits .xor .u32 IntKind.u32.max s.e) s.g) + kt + wt) % 4294967296
def t2I (s : St) : Int :=
  (bits .xor .u32 (bits .xor .u32 (turnI 2 s.a) (turnI 13 s.a)) (turnI 22 s.a) +
    bits .xor .u32 (bits .xor .u32 (bits .and .u32 s.a s.b) (bits .and .u32 s.a s.c)) (bits .and .u32 s.b s.c)) % 4294967296
def stepSt (kt wt : Int) (s : St) : St := ⟨(t1I kt wt s + t2I s) % 4294967296, s.a, s.b, s.c, (s.d + t1I kt wt s) % 4294967296, s.e, s.f, s.g⟩
def stAt (K W : Nat → Int) (s : St) : Nat → St
  | 0 => s
  | t + 1 => stepSt (K t) (W t) (stAt K W s t)
def St.val (s : St) : Value := .agg #[.int .u32 s.a, .int .u32 s.b, .int .u32 s.c, .int .u32 s.d, .int .u32 s.e, .int .u32 s.f, .int .u32 s.g, .int .u32 s.k]
set_option maxRecDepth 100000 in
set_option maxHeartbeats 1000000 in
theorem mix_any (s : St) (ws : Array Value) (W : Nat → Int) (K : Nat → Int) (w : World) (hsz : ws.size = 64)
    (hws : ∀ i : Nat, i < 64 → ∀ w, (Instr.index 197 (.agg ws) (.int .i64 i)).run Tryz.prog w = .ok (.int .u32 (W i)) w)
    (hK : ∀ i : Nat, i < 64 → w.cell? ⟨2, i, none⟩ = some (.int .u32 (K i)))  :
    Calls Tryz.prog 130 #[s.val, .agg ws] w fun e w' => e = .returned (stAt K W s 64).val ∧ Below w.heap.size w w' := by
  have h1w : 2 < w.heap.size := block_lt_of_cell (hK 0 (by omega))
  unfold St.val
  go_enter Tryz.func130, Tryz.ntmps130
  go_wp2
  go_quiet (fail)
  go_wp2_with (refine wpList_load_row rfl 197 _ rfl (w.heap.size + 1) rfl 197 ws (0, 0) _ ?_ Tryz.underlying197 rfl (by rw [hsz]; kernel_rfl) ?_)
  · exact heap3 _ _ _ _
  refine wp_gen (fun W1 => Below w.heap.size w W1 ∧ W1.heap[w.heap.size + 2]? = some (.cells #[.int .u32 0, .int .u32 0, .int .u32 0, .int .u32 0, .int .u32 0, .int .u32 0, .int .u32 0, .int .u32 0] 179 (0, 0))) ⟨?_, ?_⟩ ?_
  · exact below_drewN ((((Below.refl _ _).alloc (Nat.le_refl _) _).alloc (by simp) _).alloc (by simp; omega) _) _
  · have := heap_alloc2_new (w.alloc (.cells #[.int .u32 s.a, .int .u32 s.b, .int .u32 s.c, .int .u32 s.d, .int .u32 s.e, .int .u32 s.f, .int .u32 s.g, .int .u32 s.k] 179)) (.cells ws 197) (.cells #[.int .u32 0, .int .u32 0, .int .u32 0, .int .u32 0, .int .u32 0, .int .u32 0, .int .u32 0, .int .u32 0] 179 (0, 0))
    simpa using this
  intro W1 ⟨hB, hrow⟩
  have hK1 : ∀ i : Nat, i < 64 → W1.cell? ⟨2, i, none⟩ = some (.int .u32 (K i)) := fun i hi => (hB.cell (by exact h1w)).trans (hK i hi)
  have HR : Hid _ := hrow
  clear hrow
  go_loopw [5, 6, 7, 8, 9, 10, 11, 12, 34] (fun a b c d e f g k i wr => ∃ t : Nat, t ≤ 64 ∧ i = .int .i64 t ∧ a = .int .u32 (stAt K W s t).a
    ∧ b = .int .u32 (stAt K W s t).b ∧ c = .int .u32 (stAt K W s t).c
    ∧ d = .int .u32 (stAt K W s t).d ∧ e = .int .u32 (stAt K W s t).e
    ∧ f = .int .u32 (stAt K W s t).f ∧ g = .int .u32 (stAt K W s t).g
    ∧ k = .int .u32 (stAt K W s t).k ∧ Below W1.heap.size W1 wr) (fun _ _ _ _ _ _ _ _ i _ => 64 - (intOf i).toNat)
  case atStart => exact ⟨0, Nat.zero_le _, rfl, rfl, rfl, rfl, rfl, rfl, rfl, rfl, rfl, Below.refl _ _⟩
  case round =>
    obtain ⟨t, ht, rfl, rfl, rfl, rfl, rfl, rfl, rfl, rfl, rfl, hBr⟩ := hrel
    have HK1 := hK1
    clear hK hK1
    generalize hS : stAt K W s t = S
    have HS : Hid (stAt K W s t = S) := hS
    clear hS
    by_cases hlt : t < 64
    · have hk1 : wr.cell? ⟨2, t, none⟩ = some (.int .u32 (K t)) := (hBr.cell (p := ⟨2, t, none⟩) (by have := hB.size; simp only; omega)).trans (HK1 t hlt)
      have hw1 := hws t hlt
      clear hws HK1
      go_wp2
      go_quiet ((go_at_call 151; refine Calls.quiet_of (turn_any _ _ _ (by decide) (by decide))))
      go_wp2_with fail
      refine (turn_any _ _ _ (by decide) (by decide)).mono ?_; rintro e w' ⟨rfl, kk, rfl⟩
      go_wp2_with fail
      refine (turn_any _ _ _ (by decide) (by decide)).mono ?_; rintro e w' ⟨rfl, kk2, rfl⟩
      go_wp2_with fail
      refine (turn_any _ _ _ (by decide) (by decide)).mono ?_; rintro e w' ⟨rfl, kk3, rfl⟩
      go_wp2_with fail
      go_roundw
      case rel =>
        refine ⟨t + 1, by omega, by go_num, ?_⟩
        simp only [stAt, HS.out]
        exact ⟨rfl, rfl, rfl, rfl, rfl, rfl, rfl, rfl, below_drewN hBr _⟩
      case measure => simp [intOf]; omega
    · have hr : wr.heap[w.heap.size + 2]? = some (.cells #[.int .u32 0, .int .u32 0, .int .u32 0, .int .u32 0, .int .u32 0, .int .u32 0, .int .u32 0, .int .u32 0] 179 (0, 0)) := by
        rw [hBr.block _ (lt_of_row HR.out)]; exact HR.out
      clear hws HK1
      have hc := cells8 hr
      have hz := fun j => frozen_of_row _ _ j _ _ hr
      clear hr
      go_wp2
      have ht64 : t = 64 := by omega
      refine bodyPost_ret (v := S.val) (by simp [results, Tryz.results130, go_sem, St.val, hc]) rfl ⟨?_, ?_⟩
      · have h := HS.out; rw [ht64] at h; subst h; rfl
      · refine hB.trans ((hBr.mono hB.size).trans ?_)
        refine Below.setCell (Below.setCell (Below.setCell (Below.setCell (Below.setCell (Below.setCell (Below.setCell (Below.setCell (Below.refl _ _) ?_ _) ?_ _) ?_ _) ?_ _) ?_ _) ?_ _) ?_ _) ?_ _ <;> (simp only; omega)
end Go.Proofs.YtgfjjglejlnfbaaGreatDoor
