/- The walk through the law ObjectAgain: it answers true, whatever the bytes. -/
import Derived.Test.YtnaoaeapffgojaaWakC
namespace Go.Proofs.Ytnaoaeapffgojaa
open Go.RowKit

theorem has_zero (w : World) : Has w zeroOb ⟨0, fun _ => 0, [], []⟩ :=
  ⟨⟨none, 0, rfl, fun h => absurd h (Nat.lt_irrefl 0)⟩, ⟨none, 0, rfl, RowsAt.none⟩, ⟨none, 0, rfl, RowsAt.none⟩, fun i hi => by simp at hi, fun n cap h => by injection h with _ _ h; exact h.symm, by simp, by simp, by simp⟩
theorem same_zero : sameB zeroOb ⟨0, fun _ => 0, [], []⟩ zeroOb ⟨0, fun _ => 0, [], []⟩ = true := by
  simp [sameB, eqTo, eqAll]
theorem own_list {n : Nat} {src : Nat → Int} {L : List Int} (hL : L = (List.range n).map src) : (n == L.length && eqTo src (fun i => L.getD i 0) n) = true := by
  subst hL
  rw [Bool.and_eq_true, eqTo_iff]
  refine ⟨by simp, fun i hi => ?_⟩
  simp [hi]

set_option maxRecDepth 100000 in
set_option maxHeartbeats 2000000 in
theorem again_all (sp : Option Addr) (n cap : Nat) (src : Nat → Int) (w : World) (hsrc : SrcAt w .u8 sp n src) (hcap : sp = none → cap = 0 ∧ n = 0) (hok : ∀ i, 0 ≤ src i ∧ src i ≤ 255) (_hml : n ≤ maxLen) :
    Calls Try.prog 5 #[.slice sp n cap] w fun e w' => e = .returned (.bool true) ∧ Below w.heap.size w w' := by
  go_enter Try.func5, Try.ntmps5
  go_wp2_with fail
  refine (wakes_any w).mono ?_
  rintro e w1 ⟨rfl, hB1⟩
  have hs1 := hsrc.below hB1
  clear hsrc
  have HS1 : Hid _ := hs1
  clear hs1
  by_cases hn : 20000 < n
  · have hd : decide (20000 < (n : Int)) = true := by simp; omega
    go_wp2_with fail
    go_ret
    exact ⟨rfl, hB1⟩
  have hd : decide (20000 < (n : Int)) = false := by simp; omega
  go_wp2_with fail
  refine (decode_any sp n cap src w1 HS1.out hcap (by omega) (fun i _ => hok i)).mono ?_
  rintro e w2 ⟨sq, cq, hB2, hc⟩
  have f2 : Below w.heap.size w w2 := hB1.trans (hB2.mono hB1.size)
  have HS2 : Hid (SrcAt w2 .u8 sp n src) := SrcAt.below HS1.out hB2
  have hcase : (∃ x : Int, x ≠ 0 ∧ e = .returned (.tuple #[.agg zeroOb.cells, .int .i64 x])) ∨ (rightB (decO ((List.range n).map src) sq cq) (decC ((List.range n).map src)) = true ∧ encB (decO ((List.range n).map src) sq cq) (decC ((List.range n).map src)) = (List.range n).map src ∧ e = .returned (.tuple #[.agg (decO ((List.range n).map src) sq cq).cells, .int .i64 0]) ∧ Has w2 (decO ((List.range n).map src) sq cq) (decC ((List.range n).map src))) := by
    rcases hc with ⟨hp, h⟩ | ⟨-, -, h⟩ | ⟨-, hr, hE, h, hH⟩
    · exact .inl ⟨_, hp, h⟩
    · exact .inl ⟨150, by omega, h⟩
    · exact .inr ⟨hr, hE, h, hH⟩
  clear hc hB1 hB2 HS1
  rcases hcase with ⟨x, hx, rfl⟩ | ⟨hr, hE, rfl, hH⟩
  · have hx' : (x != 0) = true := by simpa using hx
    have HO : Hid _ := ob_one zeroOb rfl rfl rfl
    have HZB : Hid _ := buildz
    go_wp2_with (first
      | (refine wpList_build (by rfl) 30 _ (by rfl) [] (by rfl) (.agg zeroOb.cells) (HZB.out _) ?_)
      | (refine wpList_store_row (by rfl) 30 (.tmp 3) (.tmp 15) (by rfl) w2.heap.size zeroOb.cells (by rfl) (by rfl) 30 _ (heap_alloc_new _ _) (by rw [Ob.size]; kernel_rfl) (by rw [Ob.size]; rfl) HO.out ?_; refine wpList_gen (fun W => Below w2.heap.size w2 W ∧ W.heap[w2.heap.size]? = some (.cells zeroOb.cells 30 (0, 0))) ⟨below_setRow' ((Below.refl _ _).alloc (Nat.le_refl _) _) (Nat.le_refl _) _, heap_setRow_same (heap_alloc_new _ _)⟩ ?_; intro W3 hW3; have HW3 : Hid _ := hW3; clear hW3 HO)
      | (refine wpList_load_row (by rfl) 30 (.tmp 3) (by rfl) w2.heap.size (by rfl) 30 zeroOb.cells (0, 0) _ HW3.out.2 Try.underlying30 rfl (by rw [Ob.size]; kernel_rfl) ?_))
    refine (same_any zeroOb zeroOb ⟨0, fun _ => 0, [], []⟩ ⟨0, fun _ => 0, [], []⟩ _ (has_zero _) (has_zero _)).mono ?_
    rintro e w4 ⟨rfl, hB4⟩
    rw [same_zero]
    have f4 : Below w.heap.size w w4 := f2.trans ((HW3.out.1.trans (hB4.mono HW3.out.1.size)).mono f2.size)
    go_wp2
    go_ret
    exact ⟨rfl, f4⟩
  · have hF := dec_fit (L := (List.range n).map src) (fun x hx => by obtain ⟨i, -, rfl⟩ := List.mem_map.1 hx; exact hok i) sq cq
    have hone : (decO ((List.range n).map src) sq cq).cells.all (·.oneCell') = true := by
      obtain ⟨_, _, h1, _⟩ := hH.b
      obtain ⟨_, _, h2, _⟩ := hH.e
      obtain ⟨_, _, h3, _⟩ := hH.p
      exact ob_one _ (by rw [h1]; rfl) (by rw [h2]; rfl) (by rw [h3]; rfl)
    generalize decO ((List.range n).map src) sq cq = o at *
    generalize decC ((List.range n).map src) = c at *
    have HO : Hid _ := hone
    have HH : Hid _ := hH
    have HE : Hid _ := hE
    clear hone hH hE
    go_wp2_with (first
      | (refine wpList_store_row (by rfl) 30 (.tmp 3) (.tmp 15) (by rfl) w2.heap.size o.cells (by rfl) (by rfl) 30 _ (heap_alloc_new _ _) (by rw [Ob.size]; kernel_rfl) (by rw [Ob.size]; rfl) HO.out ?_; refine wpList_gen (fun W => Below w2.heap.size w2 W ∧ W.heap[w2.heap.size]? = some (.cells o.cells 30 (0, 0))) ⟨below_setRow' ((Below.refl _ _).alloc (Nat.le_refl _) _) (Nat.le_refl _) _, heap_setRow_same (heap_alloc_new _ _)⟩ ?_; intro W3 hW3; have HW3 : Hid _ := hW3; clear hW3 HO)
      | (refine wpList_load_row (by rfl) 30 (.tmp 3) (by rfl) w2.heap.size (by rfl) 30 o.cells (0, 0) _ HW3.out.2 Try.underlying30 rfl (by rw [Ob.size]; kernel_rfl) ?_))
    refine (encode_any o c W3 (HH.out.below HW3.out.1) hF.n).mono ?_
    rintro e w4 ⟨hB4, hc⟩
    rcases hc with ⟨-, v, rfl, hO, -⟩ | ⟨hr', -⟩
    rotate_left
    · rw [hr] at hr'; cases hr'
    obtain ⟨sv, cv, rfl, hS⟩ := Own.src hO
    have f34 : Below w2.heap.size w2 w4 := HW3.out.1.trans (hB4.mono HW3.out.1.size)
    have f4 : Below w.heap.size w w4 := f2.trans (f34.mono f2.size)
    have HS4 : Hid (SrcAt w4 .u8 sp n src) := SrcAt.below HS2.out f34
    have HSV : Hid (SrcAt w4 .u8 sv (encB o c).length fun i => (encB o c).getD i 0) := hS
    have hok' : ∀ i, 0 ≤ (encB o c).getD i 0 ∧ (encB o c).getD i 0 ≤ 255 := fun i => getD_ok (enc_ok hr hF HH.out.bok) i
    clear hO hS hB4 f34
    go_wp2_with fail
    refine (equal_any sp sv n (encB o c).length cap cv src (fun i => (encB o c).getD i 0) w4 HS4.out HSV.out (fun i _ => hok i) (fun i _ => hok' i) (by omega)).mono ?_
    rintro e w5 ⟨rfl, rfl⟩
    rw [own_list HE.out]
    go_wp2
    go_ret
    exact ⟨rfl, f4⟩
end Go.Proofs.Ytnaoaeapffgojaa
