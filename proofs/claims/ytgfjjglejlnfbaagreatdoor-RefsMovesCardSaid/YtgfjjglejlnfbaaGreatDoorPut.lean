/- Bytes that a slice holds; 'make' and 'copy' of bytes; the contracts of octet.put, Put32 and Put64. -/
import Derived.Test.YtgfjjglejlnfbaaGreatDoorHeld
import Derived.Laws.CopyOwn
import Derived.Laws.BitsAllLaws
namespace Go.Proofs.YtgfjjglejlnfbaaGreatDoor
open Go.RowKit

/-- The first len elements behind sp are the numbers src. -/
def SrcAt (w : World) (k : IntKind) (sp : Option Addr) (len : Nat) (src : Nat → Int) : Prop :=
  0 < len → ∃ b off, sp = some ⟨b, off, none⟩ ∧ ∀ j, j < len → w.cell? ⟨b, off + j, none⟩ = some (.int k (src j))
theorem SrcAt.below {w w' : World} {k : IntKind} {sp : Option Addr} {len : Nat} {src : Nat → Int} (h : SrcAt w k sp len src) (hb : Below w.heap.size w w') : SrcAt w' k sp len src := fun hl => by
  obtain ⟨b, off, hs, hc⟩ := h hl
  exact ⟨b, off, hs, fun j hj => (hb.cell (block_lt_of_cell (hc j hj))).trans (hc j hj)⟩
theorem SrcAt.congr {w : World} {k : IntKind} {sp : Option Addr} {len : Nat} {src src' : Nat → Int} (h : SrcAt w k sp len src) (hs : ∀ i, i < len → src i = src' i) : SrcAt w k sp len src' := fun hl => by
  obtain ⟨b, off, he, hc⟩ := h hl
  exact ⟨b, off, he, fun j hj => by rw [← hs j hj]; exact hc j hj⟩
theorem srcAt_row {w : World} {k : IntKind} {g n : Nat} {f : Nat → Int} {t : TypeId} {fr : Nat × Nat} (h : w.heap[g]? = some (.cells (arr k n f) t fr)) {len : Nat} (hl : len ≤ n) : SrcAt w k (some ⟨g, 0, none⟩) len f :=
  fun _ => ⟨g, 0, rfl, fun j hj => by rw [Nat.zero_add]; exact row_cell h (by omega)⟩

theorem made_arr (n : Nat) : madeCells #[.int .u8 0] n = arr .u8 n fun _ => 0 := by
  apply Array.ext
  · simp [madeCells, arr]
  · intro i h1 h2
    have e : i % 1 = 0 := Nat.mod_one i
    simp [madeCells, arr, e]

theorem info5 : (Tryz.prog.info? 5).map (fun i => (i.zero, i.size, i.bytes)) = some (some (.int .u8 0), 1, 1) := by kernel_rfl

theorem make_bytes (n : Nat) (hn : n ≤ 281474976710656) (w : World) : (Instr.makeSlice 61 (.int .i64 n) (.int .i64 n)).run Tryz.prog w = .ok (.slice (some ⟨w.heap.size, 0, none⟩) n n) (w.alloc (.cells (arr .u8 n fun _ => 0) 5)) := by
  obtain ⟨i0, hi, hz0, hz1, hz2⟩ := info_parts info5
  have h := run_make (P := Tryz.prog) w 61 5 i0 (.int .u8 0) Tryz.underlying61 hi hz0 .i64 .i64 n n (by omega) (by omega) (by rw [hz2]; omega) (by omega)
  rw [h, hz1]
  simp only [Int.toNat_natCast, Nat.mul_one]
  rw [show (Value.int IntKind.u8 0).cells = #[.int .u8 0] from rfl, made_arr]

/-- 'copy' of bytes into the head of a row of bytes. -/
theorem copy_bytes {w : World} {ops : Array Oper} {rest : List Oper} {o : Oper} {a : Act} {Q : Exit → Act → World → Prop} (hgd : o.guard = none) (d s : Operand)
    (ho : o.op = .call { callee := .builtin .copy, args := #[d, s], argTypes := #[61, 61] }) (g n cap len sCap : Nat) (sp : Option Addr) (hd : a.eval d = .slice (some ⟨g, 0, none⟩) n cap) (hs : a.eval s = .slice sp len sCap)
    (f src : Nat → Int) (hg : w.heap[g]? = some (.cells (arr .u8 n f) 5 (0, 0))) (hsrc : SrcAt w .u8 sp len src) (hln : len ≤ n) (B : Nat) (w0 : World) (hb : Below B w0 w) (hBg : B ≤ g)
    (h : ∀ w', Hid (w'.heap[g]? = some (.cells (arr .u8 n fun i => if i < len then src i else f i) 5 (0, 0))) → Below B w0 w' → wpList Tryz.prog ops Q rest (a.put o.dst (goInt len)) w') :
    wpList Tryz.prog ops Q (o :: rest) a w := by
  have hcl : ((List.range len).map fun i => Value.int .u8 (src i)).length = len := by simp
  refine wpList_copy_splice hgd d s 61 61 ho 5 Tryz.underlying61 (by kernel_rfl) (some ⟨g, 0, none⟩) sp n cap len sCap hd hs g 0 (arr .u8 n f).toList 5 (by simpa using hg)
    ((List.range len).map fun i => .int .u8 (src i)) (by rw [hcl]; exact (Nat.min_eq_left hln).symm) ?_ (by rw [hcl]; simp [arr_size]; exact hln) ?_ B w0 hb hBg ?_
  · intro hpos
    rw [hcl] at hpos
    obtain ⟨b, off, rfl, hc⟩ := hsrc hpos
    refine ⟨rfl, _, rfl, fun j v hv => ?_⟩
    have hj : j < len := by
      by_cases hj : j < len
      · exact hj
      · rw [List.getElem?_eq_none (by rw [hcl]; omega)] at hv; cases hv
    have hv' : v = .int .u8 (src j) := by simpa [hj] using hv.symm
    rw [hv']
    have hadd : (⟨b, off, none⟩ : Addr).add j = ⟨b, off + j, none⟩ := by unfold Addr.add; split <;> simp_all
    rw [hadd]; exact hc j hj
  · intro v hv
    obtain ⟨i, _, rfl⟩ := List.mem_map.1 hv
    rfl
  · intro w' hw' hB'
    rw [hcl]
    refine h w' ?_ hB'
    have e : (splice (arr .u8 n f).toList 0 ((List.range len).map fun i => Value.int .u8 (src i))).toArray = arr .u8 n fun i => if i < len then src i else f i := by
      apply Array.ext
      · simp [splice, arr_size]; omega
      · intro i h1 h2
        have hi : i < n := by simpa [arr_size] using h2
        simp [splice, arr, List.getElem_append]
        split
        · rfl
        · rename_i hge; simp [show len + (i - len) = i by omega]
    have := hw'.out
    rw [e] at this
    exact this

/-- The bytes behind r rounds of put: the number's lowest r bytes lie at the end. -/
def putF (src : Nat → Int) (len n : Nat) (x : Int) (r : Nat) : Nat → Int := fun i => if i < len then src i else if len + n ≤ i + r then x / 256 ^ (len + n - 1 - i) % 256 else 0
theorem or_zero_u8 (x : Int) (h0 : 0 ≤ x) (h : x < 256) : bits .or .u8 0 x = x := by
  rw [u8_or 0 x (by omega) (by omega) h0 h]
  simp
  omega
theorem putF_zero (src : Nat → Int) (len n : Nat) (x : Int) : arr .u8 (len + n) (putF src len n x 0) = arr .u8 (len + n) fun i => if i < len then src i else 0 := by
  refine arr_congr fun i hi => ?_
  unfold putF
  by_cases h : i < len
  · rw [if_pos h, if_pos h]
  · rw [if_neg h, if_neg h, if_neg (by omega)]
theorem putF_succ (src : Nat → Int) (len n : Nat) (x : Int) (r : Nat) (hr : r < n) : upd (putF src len n x r) (len + n - 1 - r) (x / 256 ^ r % 256) = putF src len n x (r + 1) := by
  funext i
  unfold upd putF
  by_cases h : i = len + n - 1 - r
  · subst h
    rw [if_pos rfl, if_neg (by omega), if_pos (by omega), show len + n - 1 - (len + n - 1 - r) = r by omega]
  · rw [if_neg h]
    by_cases h1 : i < len
    · rw [if_pos h1, if_pos h1]
    · rw [if_neg h1, if_neg h1]
      by_cases h2 : len + n ≤ i + r
      · rw [if_pos h2, if_pos (by omega)]
      · rw [if_neg h2, if_neg (by omega)]

set_option maxRecDepth 100000 in
set_option maxHeartbeats 1000000 in
theorem put_any (sp : Option Addr) (len cap : Nat) (src : Nat → Int) (x : Int) (n : Nat) (w : World) (hsrc : SrcAt w .u8 sp len src) (hlen : len ≤ 1000000) (hn : n ≤ 8) (hx0 : 0 ≤ x) (_hx : x < 18446744073709551616) :
    Calls Tryz.prog 128 #[.slice sp len cap, .int .u64 x, .int .i64 n] w fun e w' => e = .returned (.slice (some ⟨w.heap.size, 0, none⟩) (len + n) (len + n)) ∧ w'.heap[w.heap.size]? = some (.cells (arr .u8 (len + n) (putF src len n x n)) 5 (0, 0)) ∧ Below w.heap.size w w' := by
  have hmk := make_bytes (len + n) (by omega)
  rw [Int.natCast_add] at hmk
  go_enter Tryz.func128, Tryz.ntmps128
  go_wp2_with (refine copy_bytes (by rfl) (.tmp 14) (.tmp 15) (by rfl) w.heap.size (len + n) (len + n) len cap sp (by rfl) (by rfl) (fun _ => 0) src (heap_alloc_new _ _) (hsrc.below ((Below.refl _ _).alloc (Nat.le_refl _) _)) (by omega) w.heap.size w ((Below.refl _ _).alloc (Nat.le_refl _) _) (Nat.le_refl _) ?_; intro W1 hrow hB1)
  go_loopw [1, 8] (fun y i wr => ∃ r : Nat, r ≤ n ∧ i = .int .i64 ((len : Int) + n - 1 - r) ∧ y = .int .u64 (x / 256 ^ r) ∧ Below w.heap.size w wr ∧ wr.heap[w.heap.size]? = some (.cells (arr .u8 (len + n) (putF src len n x r)) 5 (0, 0))) (fun _ i _ => (intOf i + 1 - len).toNat)
  case atStart => exact ⟨0, Nat.zero_le _, by go_num, by simp, hB1, by rw [putF_zero]; exact hrow.out⟩
  case round =>
    obtain ⟨r, hr, rfl, rfl, hBr, hrw⟩ := hrel
    have HR : Hid _ := hrw
    have hy0 : 0 ≤ x / 256 ^ r := Int.ediv_nonneg hx0 (Int.le_of_lt (Int.pow_pos (by omega)))
    have hy : x / 256 ^ r ≤ x := Int.ediv_le_self _ hx0
    generalize hY : x / 256 ^ r = y at hy0 hy
    have HY : Hid _ := hY
    clear hY hmk
    by_cases hlt : r < n
    · have hc : wr.cell? ⟨w.heap.size, len + n - 1 - r, none⟩ = some (.int .u8 0) := by
        rw [row_cell hrw (by omega)]; unfold putF; rw [if_neg (by omega), if_neg (by omega)]
      have hf : ∀ j, wr.frozen? ⟨w.heap.size, j, none⟩ = false := fun j => frozen_of_row _ _ j _ _ hrw
      clear hrw
      go_wp2
      go_roundw
      case rel =>
        refine ⟨r + 1, by omega, by go_num, ?_, hBr.setCell (by simp) _, ?_⟩
        · rw [← HY.out, Int.pow_succ, Int.ediv_ediv_of_nonneg (Int.pow_nonneg (by omega))]
        · rw [or_zero_u8 _ (by omega) (by omega), ← HY.out, ← putF_succ src len n x r hlt]
          exact row_set HR.out _ _
      case measure => simp [intOf]; omega
    · have hrn : r = n := by omega
      have HRN : Hid _ := hrn
      clear hrn hrw
      go_wp2
      go_ret
      exact ⟨rfl, by have := HR.out; rw [HRN.out] at this; exact this, hBr⟩

set_option maxRecDepth 100000 in
theorem put32_any (sp : Option Addr) (len cap : Nat) (src : Nat → Int) (x : Int) (w : World) (hsrc : SrcAt w .u8 sp len src) (hlen : len ≤ 1000000) (hx0 : 0 ≤ x) (hx : x < 4294967296) :
    Calls Tryz.prog 101 #[.slice sp len cap, .int .u32 x] w fun e w' => e = .returned (.slice (some ⟨w.heap.size, 0, none⟩) (len + 4) (len + 4)) ∧ w'.heap[w.heap.size]? = some (.cells (arr .u8 (len + 4) (putF src len 4 x 4)) 5 (0, 0)) ∧ Below w.heap.size w w' := by
  go_enter Tryz.func101, Tryz.ntmps101
  go_wp2_with fail
  have h := put_any sp len cap src x 4 w hsrc hlen (by omega) hx0 (by omega)
  refine h.mono ?_
  rintro e w1 ⟨rfl, h1, h2⟩
  clear h
  have H1 : Hid _ := h1
  clear h1
  go_wp2
  go_ret
  exact ⟨rfl, H1.out, h2⟩

set_option maxRecDepth 100000 in
theorem put16_any (sp : Option Addr) (len cap : Nat) (src : Nat → Int) (x : Int) (w : World) (hsrc : SrcAt w .u8 sp len src) (hlen : len ≤ 1000000) (hx0 : 0 ≤ x) (hx : x < 65536) :
    Calls Tryz.prog 99 #[.slice sp len cap, .int .u16 x] w fun e w' => e = .returned (.slice (some ⟨w.heap.size, 0, none⟩) (len + 2) (len + 2)) ∧ w'.heap[w.heap.size]? = some (.cells (arr .u8 (len + 2) (putF src len 2 x 2)) 5 (0, 0)) ∧ Below w.heap.size w w' := by
  go_enter Tryz.func99, Tryz.ntmps99
  go_wp2_with fail
  have h := put_any sp len cap src x 2 w hsrc hlen (by omega) hx0 (by omega)
  refine h.mono ?_
  rintro e w1 ⟨rfl, h1, h2⟩
  clear h
  have H1 : Hid _ := h1
  clear h1
  go_wp2
  go_ret
  exact ⟨rfl, H1.out, h2⟩

end Go.Proofs.YtgfjjglejlnfbaaGreatDoor
