/- The document's Both and High, over lists of bytes. -/
import Derived.Test.YtnaoaeapffgojaaDoorBoth
import Derived.Test.YtnaoaeapffgojaaDoorLrgC
namespace Go.Proofs.YtnaoaeapffgojaaDoor
open Go.RowKit

theorem vals_cells (n : Nat) (f : Nat → Int) : vals n f = cellsU ((List.range n).map f) := by simp [vals, cellsU]
theorem both_list (A B : List Int) : (List.range (A.length + B.length)).map (bothF (fun i => A.getD i 0) A.length (fun i => B.getD i 0)) = A ++ B := by
  rw [List.range_add, List.map_append]
  congr 1
  · have h := range_getD A
    conv => rhs; rw [← h]
    refine List.map_congr_left fun i hi => ?_
    unfold bothF
    rw [if_pos (List.mem_range.1 hi)]
  · rw [List.map_map]
    have h := range_getD B
    conv => rhs; rw [← h]
    refine List.map_congr_left fun i hi => ?_
    simp only [Function.comp, bothF]
    rw [if_neg (by omega), Nat.add_sub_cancel_left]
theorem both_own (sp tp : Option Addr) (ca cb : Nat) (A B : List Int) (w : World) (h1 : SrcAt w .u8 sp A.length (fun i => A.getD i 0)) (h2 : SrcAt w .u8 tp B.length (fun i => B.getD i 0)) (hla : A.length ≤ 100000) (hlb : B.length ≤ 100000) :
    Calls Tryd.prog 26 #[.slice sp A.length ca, .slice tp B.length cb] w fun e w' => ∃ v, e = .returned v ∧ Own w' v (A ++ B) ∧ (∀ k, v.ownBlock = some k → w.heap.size ≤ k) ∧ Below w.heap.size w w' := by
  refine (both_any sp tp A.length B.length ca cb _ _ w h1 h2 hla hlb).mono fun e w' ⟨v, he, hO, hB⟩ => ⟨v, he, ?_, hO.ge, hB⟩
  have hO' : w'.ownsRow w.heap.size 5 1 v (A.length + B.length) (vals (A.length + B.length) (bothF (fun i => A.getD i 0) A.length (fun i => B.getD i 0))) := hO
  rw [vals_cells, both_list, ← List.length_append] at hO'
  refine ⟨hO'.1, ?_⟩
  rcases hO'.2 with ⟨q1, q2⟩ | ⟨g, cap, cur, q1, q2, q3⟩
  · exact .inl ⟨q1, q2⟩
  · exact .inr ⟨g, cap, cur, q1, Nat.zero_le _, q3⟩
theorem src_list {w : World} {sp : Option Addr} {n : Nat} {f : Nat → Int} (h : SrcAt w .u8 sp n f) : SrcAt w .u8 sp ((List.range n).map f).length (fun i => ((List.range n).map f).getD i 0) := by
  rw [List.length_map, List.length_range]
  exact h.congr fun i hi => by simp [hi]
theorem high_list (x : Int) (n : Nat) : (List.range n).map (highTo x n n) = beBytes n x := by
  unfold beBytes
  refine List.map_congr_left fun i _ => ?_
  unfold highTo
  rw [if_pos (by omega)]
theorem high_own (x : Int) (n : Nat) (w : World) (hn : n ≤ 8) (hx0 : 0 ≤ x) (hx : x < 18446744073709551616) :
    Calls Tryd.prog 27 #[.int .u64 x, .int .i64 n] w fun e w' => e = .returned (.slice (some ⟨w.heap.size, 0, none⟩) n n) ∧ SrcAt w' .u8 (some ⟨w.heap.size, 0, none⟩) (beBytes n x).length (fun i => (beBytes n x).getD i 0) ∧ Below w.heap.size w w' := by
  refine (high_any x n w hn hx0 hx).mono fun e w' ⟨he, hr, hB⟩ => ⟨he, ?_, hB⟩
  have h := src_list (srcAt_row hr (Nat.le_refl n))
  rw [high_list] at h
  exact h
end Go.Proofs.YtnaoaeapffgojaaDoor
