/- The contracts of the laws' one and wakes. -/
import Derived.Test.YtmbnbehlfbdpnabMMer
namespace Go.Proofs.Ytmbnbehlfbdpnab
open Go.RowKit

set_option maxRecDepth 100000 in
set_option maxHeartbeats 1000000 in
theorem one_any (p t : ByteArray) (w : World) :
    Calls Try.prog 10 #[.string p, .string t] w fun e w' => (∃ g, e = .returned (.agg #[.slice (some ⟨g, 0, none⟩) 1 1]) ∧ RowsAt w' 2 Fi.cells (some ⟨g, 0, none⟩) [⟨p, t⟩]) ∧ Below w.heap.size w w' := by
  go_enter Try.func10, Try.ntmps10
  go_wp2
  have h1 : ((w.alloc (.cells #[.slice (some ⟨w.heap.size + 1, 0, none⟩) 1 1] 24)).alloc (.cells (Fi.cells ⟨p, t⟩) 46)).heap[w.heap.size + 1]? = some (.cells (Fi.cells ⟨p, t⟩) 46 (0, 0)) := by
    have := heap_alloc_new (w.alloc (.cells #[.slice (some ⟨w.heap.size + 1, 0, none⟩) 1 1] 24)) (.cells (Fi.cells ⟨p, t⟩) 46)
    rw [World.size_alloc] at this
    exact this
  have h2 : ((w.alloc (.cells #[.slice (some ⟨w.heap.size + 1, 0, none⟩) 1 1] 24)).alloc (.cells (Fi.cells ⟨p, t⟩) 46)).heap[w.heap.size]? = some (.cells #[.slice (some ⟨w.heap.size + 1, 0, none⟩) 1 1] 24 (0, 0)) := (Below.heap_alloc _ _ _ (by simp)).trans (heap_alloc_new _ _)
  refine bodyPost_ret (v := .agg #[.slice (some ⟨w.heap.size + 1, 0, none⟩) 1 1]) (results_cell Try.results10 _ _ w.heap.size 24 _ (0, 0) _ rfl h2 Try.underlying24 rfl (by kernel_rfl)) rfl ⟨⟨_, rfl, oneF_rows h1⟩, ((Below.refl _ _).alloc (Nat.le_refl _) _).alloc (by simp) _⟩
/-- One file, as it is handed on. -/
theorem one_sl {w : World} {g : Nat} {f : Fi} (h : RowsAt w 2 Fi.cells (some ⟨g, 0, none⟩) [f]) (hp : f.path.size ≤ 1000000) (ht : f.text.size ≤ 1000000) : SlS w ⟨some ⟨g, 0, none⟩, 1, [f]⟩ :=
  ⟨⟨h, Nat.le_refl _, by show 1 ≤ maxLen; unfold maxLen; omega⟩, by simp, fun x hx => by
    obtain rfl : x = f := by simpa using hx
    exact ⟨hp, ht⟩⟩

def sA : ByteArray := ⟨#[97]⟩
def s1 : ByteArray := ⟨#[49]⟩
def s2 : ByteArray := ⟨#[50]⟩
def s3 : ByteArray := ⟨#[51]⟩
theorem wk1 : right3 [⟨sA, s1⟩] [⟨sA, s2⟩] [⟨sA, s1⟩] = true := by decide +kernel
theorem wk2 : joinC (pathsA [⟨sA, s1⟩] [⟨sA, s2⟩] [⟨sA, s1⟩]) = [] := by kernel_rfl
theorem wk3 : joinF (pathsA [⟨sA, s1⟩] [⟨sA, s2⟩] [⟨sA, s1⟩]) = [⟨sA, s2⟩] := by kernel_rfl
theorem wk4 : repoB [⟨sA, s2⟩] = true := by decide +kernel
theorem wk5 : right3 [⟨sA, s1⟩] [⟨sA, s2⟩] [⟨sA, s3⟩] = true := by decide +kernel
theorem wk6 : joinC (pathsA [⟨sA, s1⟩] [⟨sA, s2⟩] [⟨sA, s3⟩]) = [⟨sA, ⟨⟨s1, true⟩, ⟨s2, true⟩, ⟨s3, true⟩⟩⟩] := by kernel_rfl
set_option maxRecDepth 100000 in
set_option maxHeartbeats 1000000 in
theorem wakes8_any (w : World) : Calls Try.prog 4 #[] w fun e w' => e = .returned (.bool true) ∧ Below w.heap.size w w' := by
  go_enter Try.func4, Try.ntmps4
  go_wp2_with fail
  refine (one_any sA s1 w).mono ?_
  rintro e W1 ⟨⟨g1, rfl, q1⟩, b1⟩
  go_wp2_with fail
  refine (one_any sA s2 W1).mono ?_
  rintro e W2 ⟨⟨g2, rfl, q2⟩, b2⟩
  go_wp2_with fail
  refine (one_any sA s1 W2).mono ?_
  rintro e W3 ⟨⟨g3, rfl, q3⟩, b3⟩
  go_wp2_with fail
  have b23 : Below W1.heap.size W1 W3 := b2.trans (b3.mono b2.size)
  refine (merge_any ⟨some ⟨g1, 0, none⟩, 1, [⟨sA, s1⟩]⟩ ⟨some ⟨g2, 0, none⟩, 1, [⟨sA, s2⟩]⟩ ⟨some ⟨g3, 0, none⟩, 1, [⟨sA, s1⟩]⟩ W3 (one_sl (q1.below b23) (by decide) (by decide)) (one_sl (q2.below b3) (by decide) (by decide)) (one_sl q3 (by decide) (by decide))).mono ?_
  rintro e W4 ⟨hm, b4⟩
  dsimp only at hm
  rw [if_pos wk1, if_pos wk2, wk3, if_pos wk4] at hm
  obtain ⟨vf, rfl, hof⟩ := hm
  obtain ⟨sf, cf, rfl, hrf, -⟩ := hof.rows
  obtain ⟨bf, of', rfl, hcf⟩ := hrf (by simp)
  have cf1 : W4.cell? ⟨bf, of' + 1, none⟩ = some (.string s2) := hcf 0 _ rfl 1 _ rfl
  have bw4 : Below w.heap.size w W4 := (b1.trans (b23.mono b1.size)).trans (b4.mono (b1.trans (b23.mono b1.size)).size)
  clear q1 q2 q3 b1 b2 b3 b4 b23 hof hrf hcf
  have hlf := block_lt_of_cell cf1
  go_wp2_with fail
  refine calls_gen (fun W5 => Below w.heap.size w W5 ∧ W5.cell? ⟨bf, of' + 1, none⟩ = some (.string s2) ∧ W5.cell? ⟨W4.heap.size, 0, none⟩ = some (.slice (some ⟨bf, of', none⟩) 1 cf)) ⟨bw4.alloc bw4.size _, cell_alloc_l _ cf1, (cell_new_l _ _ _).1⟩ ?_
  rintro W5 ⟨bw5, cf5, cr5⟩
  clear bw4 cf1 hlf
  refine (one_any sA s1 W5).mono ?_
  rintro e W6 ⟨⟨g1, rfl, q1⟩, b1⟩
  go_wp2_with fail
  refine (one_any sA s2 W6).mono ?_
  rintro e W7 ⟨⟨g2, rfl, q2⟩, b2⟩
  go_wp2_with fail
  refine (one_any sA s3 W7).mono ?_
  rintro e W8 ⟨⟨g3, rfl, q3⟩, b3⟩
  go_wp2_with fail
  have b23 : Below W6.heap.size W6 W8 := b2.trans (b3.mono b2.size)
  refine (merge_any ⟨some ⟨g1, 0, none⟩, 1, [⟨sA, s1⟩]⟩ ⟨some ⟨g2, 0, none⟩, 1, [⟨sA, s2⟩]⟩ ⟨some ⟨g3, 0, none⟩, 1, [⟨sA, s3⟩]⟩ W8 (one_sl (q1.below b23) (by decide) (by decide)) (one_sl (q2.below b3) (by decide) (by decide)) (one_sl q3 (by decide) (by decide))).mono ?_
  rintro e W9 ⟨hm, b4⟩
  dsimp only at hm
  rw [if_pos wk5, wk6, if_neg (by simp)] at hm
  obtain ⟨vc, rfl, hoc⟩ := hm
  obtain ⟨sc, cc, rfl, hrc, -⟩ := hoc.rows
  obtain ⟨bc, oc, rfl, hcc⟩ := hrc (by simp)
  have cc3 : W9.cell? ⟨bc, oc + 3, none⟩ = some (.string s3) := hcc 0 _ rfl 3 _ rfl
  have b59 : Below W5.heap.size W5 W9 := (b1.trans (b23.mono b1.size)).trans (b4.mono (b1.trans (b23.mono b1.size)).size)
  have cf9 : W9.cell? ⟨bf, of' + 1, none⟩ = some (.string s2) := (b59.cell (p := ⟨bf, of' + 1, none⟩) (block_lt_of_cell cf5)).trans cf5
  have cr9 : W9.cell? ⟨W4.heap.size, 0, none⟩ = some (.slice (some ⟨bf, of', none⟩) 1 cf) := (b59.cell (p := ⟨W4.heap.size, 0, none⟩) (block_lt_of_cell cr5)).trans cr5
  have bw9 : Below w.heap.size w W9 := bw5.trans (b59.mono bw5.size)
  have l1 := block_lt_of_cell cc3
  have l2 := block_lt_of_cell cf9
  have l3 := block_lt_of_cell cr9
  have e2 : s2.toList = [50] := by decide +kernel
  have e3 : s3.toList = [51] := by decide +kernel
  clear q1 q2 q3 b1 b2 b3 b4 b23 hoc hrc hcc cf5 cr5 b59 bw5
  go_wp2
  go_ret
  exact ⟨rfl, bw9.alloc bw9.size _⟩
end Go.Proofs.Ytmbnbehlfbdpnab
