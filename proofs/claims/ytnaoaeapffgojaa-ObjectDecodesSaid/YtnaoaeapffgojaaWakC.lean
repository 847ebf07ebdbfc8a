/- The contract of the law's wakes: it answers true. -/
import Derived.Test.YtnaoaeapffgojaaDecA
namespace Go.Proofs.Ytnaoaeapffgojaa
open Go.RowKit

def aOb (k : Nat) : Ob := ⟨1, .slice (some ⟨k, 0, none⟩) 1 1, .slice none 0 0, fun _ => 0, .slice none 0 0, 0, ⟨#[]⟩⟩
def aCo : Co := ⟨1, fun _ => 97, [], []⟩
theorem a_right (k : Nat) : rightB (aOb k) aCo = true := by
  simp [rightB, sameB, countedO, countedCo, mayB, aOb, aCo, eqTo, eqAll]
theorem a_enc (k : Nat) : encB (aOb k) aCo = [1, 0, 1, 97] := by
  simp [encB, aOb, aCo]
  decide
def nF : Nat → Int := fun i => if i = 0 then 2 else 0
theorem n_list : (List.range 2).map nF = [2, 0] := by decide
theorem n_x : decX [2, 0] = 2 := by decide
theorem n_e : decE [2, 0] = ((2, 0), []) := by rfl
theorem n_right (sq : Option Addr) (cq : Nat) : rightB { zeroOb with kind := 2, es := .slice sq 0 cq } ⟨0, fun _ => 0, [], []⟩ = true := by
  simp [rightB, sameB, countedO, countedCo, mayB, zeroOb, eqTo, eqAll, namedFrom]
theorem n_enc (sq : Option Addr) (cq : Nat) : encB { zeroOb with kind := 2, es := .slice sq 0 cq } ⟨0, fun _ => 0, [], []⟩ = [2, 0] := by
  simp [encB]
theorem n_name : nameB ⟨#[97, 46, 103, 111]⟩ = true := by decide +kernel

set_option maxRecDepth 100000 in
set_option maxHeartbeats 2000000 in
theorem wakes_any (w : World) : Calls Try.prog 6 #[] w fun e w' => e = .returned (.bool true) ∧ Below w.heap.size w w' := by
  have HB1 : Hid _ := build1 1 (some ⟨w.heap.size, 0, none⟩) 1 1
  go_enter Try.func6, Try.ntmps6
  go_wp2_with (refine wpList_build (by rfl) 30 _ (by rfl) [(0, .int .i64 1), (1, .slice (some ⟨w.heap.size, 0, none⟩) 1 1)] (by rfl) (.agg (aOb w.heap.size).cells) (HB1.out _) ?_)
  refine calls_gen (fun W1 => Below w.heap.size w W1 ∧ SrcAt W1 .u8 (some ⟨w.heap.size, 0, none⟩) 1 (fun _ => 97)) ⟨(Below.refl _ _).alloc (Nat.le_refl _) _, srcAt_one' rfl⟩ ?_
  intro W1 ⟨hB1, hs1⟩
  refine (encode_any (aOb w.heap.size) aCo W1 ⟨⟨_, _, rfl, hs1⟩, ⟨none, 0, rfl, RowsAt.none⟩, ⟨none, 0, rfl, RowsAt.none⟩, fun i _ => by show (0 : Int) ≤ 97 ∧ (97 : Int) ≤ 255; omega, fun n cap h => (by injection h with h; cases h), by show 1 ≤ 100000000; omega, by show 0 ≤ 100000000; omega, by show 0 ≤ 100000000; omega⟩ ⟨Int.le_refl 0, by show (0 : Int) < 4294967296; omega⟩).mono ?_
  rintro e w2 ⟨hB2, hc⟩
  rcases hc with ⟨-, v, rfl, hO, -⟩ | ⟨hr, -⟩
  rotate_left
  · rw [a_right] at hr; cases hr
  rw [a_enc] at hO
  obtain ⟨sv, cv, rfl, hS⟩ := Own.src hO
  obtain ⟨bv, ov, rfl, hcv⟩ := hS (by show 0 < 4; omega)
  have hc3 : w2.cell? ⟨bv, ov + 3, none⟩ = some (.int .u8 97) := hcv 3 (by show 3 < 4; omega)
  have f2 : Below w.heap.size w w2 := hB1.trans (hB2.mono hB1.size)
  clear hB1 hs1 hB2 hO hS hcv HB1
  have HC3 : Hid _ := hc3
  have hb3 : bv < w2.heap.size := block_lt_of_cell hc3
  clear hc3
  go_wp2_with fail
  refine calls_gen (fun W3 => Below w2.heap.size w2 W3 ∧ SrcAt W3 .u8 (some ⟨w2.heap.size, 0, none⟩) 2 nF) ⟨(Below.refl _ _).alloc (Nat.le_refl _) _, srcAt_row (n := 2) (f := nF) (heap_alloc_new _ _) (Nat.le_refl _)⟩ ?_
  intro W3 ⟨hB3, hs3⟩
  refine (decode_tree (some ⟨w2.heap.size, 0, none⟩) 2 2 nF W3 hs3 (fun h => by cases h) (by omega) (fun i _ => by unfold nF; split <;> omega) (by rw [n_list]; exact n_x)).mono ?_
  rw [n_list, n_e]
  rintro e w4 ⟨sq, cq, hB4, hc⟩
  rcases hc with ⟨hp, -⟩ | ⟨-, hp, -⟩ | ⟨-, -, -, rfl, -⟩
  · exact absurd rfl hp
  · rcases hp with hp | hp
    · rw [show ([] : List Ent).length = 0 from rfl, n_right] at hp; cases hp
    · exact absurd (n_enc sq cq) hp
  have f4 : Below w2.heap.size w2 w4 := hB3.trans (hB4.mono hB3.size)
  have hc3 : w4.cell? ⟨bv, ov + 3, none⟩ = some (.int .u8 97) := (f4.cell (p := ⟨bv, ov + 3, none⟩) hb3).trans HC3.out
  have hb4 : bv < w4.heap.size := block_lt_of_cell hc3
  have f5 : Below w.heap.size w w4 := f2.trans (f4.mono f2.size)
  clear hB3 hs3 hB4 HC3 f4 f2 hb3
  generalize ([] : List Ent).length = z
  have hone : ({ zeroOb with kind := 2, es := .slice sq z cq } : Ob).cells.all (·.oneCell') = true := ob_one _ rfl rfl rfl
  have HC3 : Hid _ := hc3
  have HO : Hid _ := hone
  clear hc3 hone
  have HK : Hid (({ zeroOb with kind := 2, es := .slice sq z cq } : Ob).cells[0]? = some (.int .i64 2)) := Ob.cell0 _
  generalize ({ zeroOb with kind := 2, es := .slice sq z cq } : Ob) = o at HO HK
  go_wp2_with (refine wpList_store_row (by rfl) 30 (.tmp 3) (.tmp 14) (by rfl) w4.heap.size o.cells (by rfl) (by rfl) 30 _ (heap_alloc_new _ _) (by rw [Ob.size]; kernel_rfl) (by rw [Ob.size]; rfl) HO.out ?_; refine wpList_gen (fun W => Below w4.heap.size w4 W ∧ W.cell? ⟨w4.heap.size, 0, none⟩ = some (.int .i64 2) ∧ W.cell? ⟨bv, ov + 3, none⟩ = some (.int .u8 97)) ⟨below_setRow' ((Below.refl _ _).alloc (Nat.le_refl _) _) (Nat.le_refl _) _, (cell_of_row _ _ _ _ _ _ (heap_setRow_same (heap_alloc_new _ _))).trans HK.out, ((below_setRow' ((Below.refl _ _).alloc (Nat.le_refl _) _) (Nat.le_refl _) _).cell (p := ⟨bv, ov + 3, none⟩) hb4).trans HC3.out⟩ ?_; intro W5 hW5; have h50 := hW5.2.1; have h53 := hW5.2.2; have HW5 : Hid _ := hW5; clear hW5 HC3 HO HK)
  refine (name_any _ W5).mono ?_
  rintro e w6 ⟨rfl, hB6⟩
  rw [n_name]
  have f6 : Below w.heap.size w w6 := f5.trans ((HW5.out.1.trans (hB6.mono HW5.out.1.size)).mono f5.size)
  go_wp2
  go_ret
  exact ⟨rfl, f6⟩
end Go.Proofs.Ytnaoaeapffgojaa
