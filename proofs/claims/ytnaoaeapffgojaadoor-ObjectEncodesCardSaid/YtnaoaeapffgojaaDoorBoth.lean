/- Bytes that the call itself gathers by append; the contracts of the reference's Both and High. -/
import Derived.Test.YtnaoaeapffgojaaDoorPut
namespace Go.Proofs.YtnaoaeapffgojaaDoor
open Go.RowKit

def vals (n : Nat) (f : Nat → Int) : List Value := (List.range n).map fun i => Value.int .u8 (f i)
theorem vals_succ (n : Nat) (f : Nat → Int) : vals n f ++ [.int .u8 (f n)] = vals (n + 1) f := by
  unfold vals
  rw [List.range_succ, List.map_append]
  rfl
theorem vals_congr {n : Nat} {f g : Nat → Int} (h : ∀ i, i < n → f i = g i) : vals n f = vals n g := by
  unfold vals
  apply List.map_congr_left
  intro i hi
  rw [h i (List.mem_range.1 hi)]
/-- v owns n bytes f, among the blocks from B on. -/
def OwnB (w : World) (B : Nat) (v : Value) (n : Nat) (f : Nat → Int) : Prop := w.ownsRow B 5 1 v n (vals n f)
theorem OwnB.src {w : World} {B : Nat} {v : Value} {n : Nat} {f : Nat → Int} (h : OwnB w B v n f) : ∃ sp cap, v = .slice sp n cap ∧ SrcAt w .u8 sp n f ∧ n ≤ cap ∧ cap ≤ maxLen := by
  rcases h.2 with ⟨rfl, rfl⟩ | ⟨g, cap, cur, rfl, hg, hh, h1, h2, _, htake⟩
  · exact ⟨none, 0, rfl, fun h => absurd h (by omega), Nat.le_refl _, Nat.zero_le _⟩
  · refine ⟨some ⟨g, 0, none⟩, cap, rfl, fun _ => ⟨g, 0, rfl, fun j hj => ?_⟩, h1, h2⟩
    have hc := World.ownsRow.cellAt h j (by omega)
    rw [Nat.zero_add, hc]
    simp [vals, hj]
theorem OwnB.below {w w' : World} {B : Nat} {v : Value} {n : Nat} {f : Nat → Int} (h : OwnB w B v n f) (hb : Below w.heap.size w w') : OwnB w' B v n f := by
  refine ⟨h.1, ?_⟩
  rcases h.2 with h | ⟨g, cap, cur, hv, hg, hh, r⟩
  · exact .inl h
  · exact .inr ⟨g, cap, cur, hv, hg, (hb.block _ (lt_of_row hh)).trans hh, r⟩
theorem OwnB.ge {w : World} {B : Nat} {v : Value} {n : Nat} {f : Nat → Int} (h : OwnB w B v n f) : ∀ k, v.ownBlock = some k → B ≤ k := by
  intro k hk
  rcases h.2 with ⟨rfl, _⟩ | ⟨g, cap, cur, rfl, hg, _⟩
  · cases hk
  · simp [Value.ownBlock] at hk; omega
theorem OwnB.congr {w : World} {B : Nat} {v : Value} {n : Nat} {f g : Nat → Int} (h : OwnB w B v n f) (hfg : ∀ i, i < n → f i = g i) : OwnB w B v n g := by
  unfold OwnB at *
  rw [← vals_congr hfg]; exact h

/-- One byte more. -/
theorem append_one {w : World} {ops : Array Oper} {rest : List Oper} {o : Oper} {a : Act} {Q : Exit → Act → World → Prop} (hgd : o.guard = none) (s x : Operand)
    (ho : o.op = .call { callee := .builtin .append, args := #[s, x], argTypes := #[22, 22] }) (B : Nat) (v : Value) (n : Nat) (f : Nat → Int) (y : Int) (hs : a.eval s = v) (W : World) (hW : w = W.alloc (.cells #[.int .u8 y] 5)) (hx : a.eval x = .slice (some ⟨W.heap.size, 0, none⟩) 1 1)
    (hown : OwnB W B v n f) (hy : f n = y) (hn : n ≤ 1000000) (w0 : World) (hb : Below B w0 W) (hBW : B ≤ W.heap.size)
    (h : ∀ v' w', Hid (OwnB w' B v' (n + 1) f) → Below B w0 w' → wpList Tryd.prog ops Q rest (a.put o.dst v') w') : wpList Tryd.prog ops Q (o :: rest) a w := by
  subst hW
  obtain ⟨i0, hi, hz0, hz1, hz2⟩ := info_parts info5
  refine wpList_append_own _ hgd s x 22 ho B 5 i0 (.int .u8 0) 1 1 Tryd.underlying22 hi hz0 hz1 hz2 rfl (by omega) v n (vals n f) hs (hown.alloc _) ⟨W.heap.size, 0, none⟩ 1 1 [.int .u8 y] hx rfl ?_ ?_ ?_ (by omega) (by simp; omega) ?_
  · intro j u hj
    match j, hj with
    | 0, hj => simp at hj; subst hj; simp [Addr.add]
  · intro u hu; simp at hu; subst hu; rfl
  · unfold maxLen; omega
  · intro v' w' hown' hgrow _
    refine h v' w' ?_ ?_
    · have e : vals n f ++ [.int .u8 y] = vals (n + 1) f := by rw [← hy]; exact vals_succ n f
      rw [e] at hown'
      exact hown'
    · exact ((hb.alloc hBW _).grown hgrow (by simp; omega) hown.ge)

def bothF (f : Nat → Int) (la : Nat) (g : Nat → Int) : Nat → Int := fun i => if i < la then f i else g (i - la)

set_option maxRecDepth 100000 in
set_option maxHeartbeats 1000000 in
theorem both_any (sp tp : Option Addr) (la lb ca cb : Nat) (f g : Nat → Int) (w : World) (h1 : SrcAt w .u8 sp la f) (h2 : SrcAt w .u8 tp lb g) (hla : la ≤ 100000) (hlb : lb ≤ 100000) :
    Calls Tryd.prog 26 #[.slice sp la ca, .slice tp lb cb] w fun e w' => ∃ v, e = .returned v ∧ OwnB w' w.heap.size v (la + lb) (bothF f la g) ∧ Below w.heap.size w w' := by
  obtain ⟨i0, hi, hz0, hz1, hz2⟩ := info_parts info5
  have H1 : Hid (SrcAt w .u8 sp la f) := h1
  have H2 : Hid (SrcAt w .u8 tp lb g) := h2
  clear h1 h2
  go_enter Tryd.func26, Tryd.ntmps26
  go_wp2_with (at_make; refine wpList_make_own w (by rfl) (.const (.int .i64 0)) (.tmp 12) 22 (by rfl) w.heap.size 5 i0 (.int .u8 0) 1 Tryd.underlying22 hi hz0 hz1 .i64 .i64 ((la : Int) + lb) (la + lb) (by rfl) (by rfl) (by omega) (by rw [hz2]; omega) (by unfold maxLen; omega) (Nat.le_refl _) ?_; intro w1 hown hgrow)
  have hB1 : Below w.heap.size w w1 := (Below.refl _ _).grown hgrow (Nat.le_refl _) (fun k hk => by cases hk)
  have HO : Hid (OwnB w1 w.heap.size (.slice (some ⟨w.heap.size, 0, none⟩) 0 (la + lb)) 0 (bothF f la g)) := hown
  clear hown hgrow hi hz0 hz1 hz2
  go_loopw [5, 6] (fun v i wr => ∃ t : Nat, t ≤ la ∧ i = .int .i64 t ∧ OwnB wr w.heap.size v t (bothF f la g) ∧ Below w.heap.size w wr) (fun _ i _ => la - (intOf i).toNat)
  case atStart => exact ⟨0, Nat.zero_le _, rfl, HO.out, hB1⟩
  case round =>
    obtain ⟨t, ht, rfl, hown, hBr⟩ := hrel
    clear HO hB1
    have HO : Hid (OwnB wr w.heap.size u5 t (bothF f la g)) := hown
    clear hown
    by_cases hlt : t < la
    · obtain ⟨b, off, rfl, hc⟩ := H1.out (by omega)
      have hct := hc t hlt
      have hc1 : wr.cell? ⟨b, off + t, none⟩ = some (.int .u8 (f t)) := (hBr.cell (block_lt_of_cell hct)).trans hct
      have hbf : bothF f la g t = f t := by unfold bothF; rw [if_pos hlt]
      have HBF : Hid _ := hbf
      clear hc hct hbf
      generalize f t = y at hc1 HBF
      go_wp2_with (at_builtin; refine append_one (by rfl) (.tmp 20) (.tmp 25) (by rfl) w.heap.size u5 t (bothF f la g) y (by rfl) wr (by rfl) (by rfl) HO.out HBF.out (by omega) w hBr hBr.size ?_; intro v1 w2 hO2 hB2)
      go_roundw
      case rel => exact ⟨t + 1, by omega, by go_num, hO2.out, hB2⟩
      case measure => simp [intOf]; omega
    · have hta : t = la := by omega
      have HTA : Hid _ := hta
      clear hta
      go_wp2
      go_loopw [5, 7] (fun v i wq => ∃ r : Nat, r ≤ lb ∧ i = .int .i64 r ∧ OwnB wq w.heap.size v (la + r) (bothF f la g) ∧ Below w.heap.size w wq) (fun _ i _ => lb - (intOf i).toNat)
      case atStart => exact ⟨0, Nat.zero_le _, rfl, by have := HO.out; rw [HTA.out] at this; exact this, hBr⟩
      case round =>
        obtain ⟨r, hr, rfl, hown, hBq⟩ := hrel
        clear HO hBr HTA
        have HO : Hid (OwnB wr w.heap.size u5 (la + r) (bothF f la g)) := hown
        clear hown
        by_cases hltb : r < lb
        · obtain ⟨b, off, rfl, hc⟩ := H2.out (by omega)
          have hct := hc r hltb
          have hc1 : wr.cell? ⟨b, off + r, none⟩ = some (.int .u8 (g r)) := (hBq.cell (block_lt_of_cell hct)).trans hct
          have hbf : bothF f la g (la + r) = g r := by unfold bothF; rw [if_neg (by omega), show la + r - la = r by omega]
          have HBF : Hid _ := hbf
          clear hc hct hbf
          generalize g r = y at hc1 HBF
          go_wp2_with (at_builtin; refine append_one (by rfl) (.tmp 33) (.tmp 38) (by rfl) w.heap.size u5 (la + r) (bothF f la g) y (by rfl) wr (by rfl) (by rfl) HO.out HBF.out (by omega) w hBq hBq.size ?_; intro v1 w2 hO2 hB2)
          go_roundw
          case rel => exact ⟨r + 1, by omega, by go_num, hO2.out, hB2⟩
          case measure => simp [intOf]; omega
        · have hrb : r = lb := by omega
          have HRB : Hid _ := hrb
          clear hrb
          go_wp2
          go_ret
          exact ⟨u5, rfl, by have := HO.out; rw [HRB.out] at this; exact this, hBq⟩

/-- The number's bytes, the highest first. -/
def highTo (x : Int) (n r : Nat) : Nat → Int := fun i => if n ≤ i + r then x / 256 ^ (n - 1 - i) % 256 else 0
theorem highTo_succ (x : Int) (n r : Nat) (hr : r < n) : upd (highTo x n r) (n - 1 - r) (x / 256 ^ r % 256) = highTo x n (r + 1) := by
  funext i
  unfold upd highTo
  by_cases h : i = n - 1 - r
  · subst h
    rw [if_pos rfl, if_pos (by omega), show n - 1 - (n - 1 - r) = r by omega]
  · rw [if_neg h]
    by_cases h2 : n ≤ i + r
    · rw [if_pos h2, if_pos (by omega)]
    · rw [if_neg h2, if_neg (by omega)]

set_option maxRecDepth 100000 in
set_option maxHeartbeats 1000000 in
theorem high_any (x : Int) (n : Nat) (w : World) (hn : n ≤ 8) (hx0 : 0 ≤ x) (hx : x < 18446744073709551616) :
    Calls Tryd.prog 27 #[.int .u64 x, .int .i64 n] w fun e w' => e = .returned (.slice (some ⟨w.heap.size, 0, none⟩) n n) ∧ w'.heap[w.heap.size]? = some (.cells (arr .u8 n (highTo x n n)) 5 (0, 0)) ∧ Below w.heap.size w w' := by
  have hmk := make_bytes n (by omega)
  go_enter Tryd.func27, Tryd.ntmps27
  go_wp2
  refine wp_gen (fun W1 => Below w.heap.size w W1 ∧ W1.heap[w.heap.size]? = some (.cells (arr .u8 n fun _ => 0) 5 (0, 0))) ⟨?_, ?_⟩ ?_
  · exact (Below.refl _ _).alloc (Nat.le_refl _) _
  · exact (heap_alloc_new _ _)
  intro W1 ⟨hB1, hrow⟩
  have HROW : Hid _ := hrow
  clear hrow hmk
  go_loopw [0, 6] (fun y i wr => ∃ r : Nat, r ≤ n ∧ i = .int .i64 ((n : Int) - 1 - r) ∧ y = .int .u64 (x / 256 ^ r) ∧ Below w.heap.size w wr ∧ wr.heap[w.heap.size]? = some (.cells (arr .u8 n (highTo x n r)) 5 (0, 0))) (fun _ i _ => (intOf i + 1).toNat)
  case atStart => exact ⟨0, Nat.zero_le _, by go_num, by simp, hB1, by
    have e : arr .u8 n (highTo x n 0) = arr .u8 n fun _ => 0 := arr_congr fun i hi => by unfold highTo; rw [if_neg (by omega)]
    rw [e]; exact HROW.out⟩
  case round =>
    obtain ⟨r, hr, rfl, rfl, hBr, hrw⟩ := hrel
    have HR : Hid _ := hrw
    have hy0 : 0 ≤ x / 256 ^ r := Int.ediv_nonneg hx0 (Int.le_of_lt (Int.pow_pos (by omega)))
    have hy : x / 256 ^ r ≤ 18446744073709551615 := by have := Int.ediv_le_self (256 ^ r) hx0; omega
    generalize hY : x / 256 ^ r = y at hy0 hy
    have HY : Hid _ := hY
    clear hY
    by_cases hlt : r < n
    · have hc : wr.cell? ⟨w.heap.size, n - 1 - r, none⟩ = some (.int .u8 0) := by
        rw [row_cell hrw (by omega)]; unfold highTo; rw [if_neg (by omega)]
      have hf : ∀ j, wr.frozen? ⟨w.heap.size, j, none⟩ = false := fun j => frozen_of_row _ _ j _ _ hrw
      clear hrw
      go_wp2
      go_roundw
      case rel =>
        refine ⟨r + 1, by omega, by go_num, ?_, hBr.setCell (by simp) _, ?_⟩
        · rw [← HY.out, Int.pow_succ, Int.ediv_ediv_of_nonneg (Int.pow_nonneg (by omega))]
        · rw [← HY.out, ← highTo_succ x n r hlt]
          exact row_set HR.out _ _
      case measure => simp [intOf]; omega
    · have hrn : r = n := by omega
      have HRN : Hid _ := hrn
      clear hrn hrw
      go_wp2
      go_ret
      exact ⟨rfl, by have := HR.out; rw [HRN.out] at this; exact this, hBr⟩
end Go.Proofs.YtnaoaeapffgojaaDoor
