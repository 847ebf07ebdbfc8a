/- The contract of the law package's wakes: true, where the two tables lie as the program's text lays them. -/
import Derived.Test.YtekmmmechhjggaaDoorAbc
import Derived.Lib.SlBytesConst
namespace Go.Proofs.YtekmmmechhjggaaDoor
open Go.RowKit

/-- The two tables lie. -/
def Laid (w : World) : Prop := (∀ i : Nat, i < 64 → w.cell? ⟨1, i, none⟩ = some (.int .u32 (kF i))) ∧ (∀ i : Nat, i < 8 → w.cell? ⟨0, i, none⟩ = some (.int .u32 (hS.fn i)))
theorem Laid.below {w w' : World} (h : Laid w) (hb : Below w.heap.size w w') : Laid w' :=
  ⟨fun i hi => (hb.cell (block_lt_of_cell (h.1 i hi))).trans (h.1 i hi), fun i hi => (hb.cell (block_lt_of_cell (h.2 i hi))).trans (h.2 i hi)⟩
theorem hS_ok : hS.ok := by
  intro i
  unfold St.fn hS
  split <;> (simp only; omega)
theorem out_bytes (s : St) (i : Nat) : 0 ≤ outF s i ∧ outF s i ≤ 255 := by
  unfold outF
  generalize s.fn (i / 4) / 256 ^ _ = q
  omega
theorem abcF_bytes (i : Nat) : 0 ≤ abcF i ∧ abcF i ≤ 255 := by
  unfold abcF
  match i with
  | 0 => decide
  | 1 => decide
  | 2 => decide
  | n + 3 => simp

set_option maxRecDepth 100000 in
set_option maxHeartbeats 1000000 in
theorem wakes_any (w : World) (hl : Laid w) :
    Calls Tryd.prog 9 #[] w fun e w' => e = .returned (.bool true) ∧ Below w.heap.size w w' := by
  have hcv := Lib.run_convert_bytes_const (P := Tryd.prog) w 22 5 #[.int .u8 97, .int .u8 98, .int .u8 99] 3 3 Tryd.underlying22 Tryd.underlying5
  go_enter Tryd.func9, Tryd.ntmps9
  go_wp2_with fail
  refine calls_gen (fun W1 => Below w.heap.size w W1 ∧ W1.heap[w.heap.size]? = some (.cells (arr .u8 3 abcF) 5 (3, 4))) ⟨?_, ?_⟩ ?_
  · exact (Below.refl _ _).alloc (Nat.le_refl _) _
  · exact (heap_alloc_new _ _).trans rfl
  intro W1 ⟨hB1, hrow⟩
  have hl1 := hl.below hB1
  refine (sum_any (some ⟨w.heap.size, 0, none⟩) 3 3 abcF kF hS W1 (srcAt_row hrow (Nat.le_refl _)) (by omega) abcF_bytes hl1.1 hl1.2 hS_ok).mono ?_
  rintro e w2 ⟨rfl, hB2⟩
  clear hcv hrow
  have HL : Hid _ := hl1
  clear hl1 hl
  go_wp2_with fail
  refine (text_any _ _ (out_bytes _)).mono ?_
  rintro e w3 ⟨rfl, hB3⟩
  have ht := abc_text
  generalize textF (outF (sumF kF hS abcF 3)) = T at ht
  go_wp2
  go_ret
  exact ⟨rfl, hB1.trans ((hB2.mono hB1.size).trans (hB3.mono (Nat.le_trans hB1.size hB2.size)))⟩
end Go.Proofs.YtekmmmechhjggaaDoor
