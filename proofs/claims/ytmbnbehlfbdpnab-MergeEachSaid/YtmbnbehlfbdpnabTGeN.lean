/- The contracts of tree's Get and checked. -/
import Derived.Test.YtmbnbehlfbdpnabTChk
import Derived.Test.YtmbnbehlfbdpnabMObs
namespace Go.Proofs.Ytmbnbehlfbdpnab
open Go.RowKit

set_option maxRecDepth 100000 in
set_option maxHeartbeats 2000000 in
theorem get_any (sp : Option Addr) (cap : Nat) (fs : List Fi) (path : ByteArray) (w : World) (hr : RowsAt w 2 Fi.cells sp fs) (hl : fs.length ≤ 1000000) (hsm : FiS fs) :
    Calls Try.prog 8 #[.agg #[.slice sp fs.length cap], .string path] w fun e w' => ((repoB fs = false ∧ e = .returned (.tuple #[.string ⟨#[]⟩, .int .i64 170])) ∨ (repoB fs = true ∧ (findB fs path).2 = false ∧ e = .returned (.tuple #[.string ⟨#[]⟩, .int .i64 4])) ∨
      (repoB fs = true ∧ (findB fs path).2 = true ∧ e = .returned (.tuple #[.string (findB fs path).1, .int .i64 0]))) ∧ Below w.heap.size w w' := by
  have HR : Hid (RowsAt w 2 Fi.cells sp fs) := hr
  have c0 := (cell_new_l w (.slice sp fs.length cap) 24).1
  clear hr
  go_enter Try.func8, Try.ntmps8
  go_wp2_with fail
  refine calls_gen (fun W1 => Below w.heap.size w W1 ∧ W1.cell? ⟨w.heap.size, 0, none⟩ = some (.slice sp fs.length cap)) ⟨(Below.refl _ _).alloc (Nat.le_refl _) _, c0⟩ ?_
  intro W1 ⟨f1, c1⟩
  refine (tcheck_any sp cap fs W1 (RowsAt.below HR.out f1) hl hsm).mono ?_
  rintro e w2 ⟨rfl, hB2⟩
  have f2 : Below w.heap.size w w2 := f1.trans (hB2.mono f1.size)
  have c2 : w2.cell? ⟨w.heap.size, 0, none⟩ = some (.slice sp fs.length cap) := (hB2.cell (p := ⟨w.heap.size, 0, none⟩) (block_lt_of_cell c1)).trans c1
  clear c0 c1 hB2 f1
  cases hrb : repoB fs with
  | false =>
    have hc : checkR fs = 170 := by unfold checkR; rw [hrb]; rfl
    rw [hc]
    go_wp2
    exact bodyPost_ret (v := .tuple #[.string ⟨#[]⟩, .int .i64 170]) (results_two Try.results8 _ _ _ _ rfl rfl) rfl ⟨.inl ⟨by first | exact hrb | rfl, rfl⟩, f2⟩
  | true =>
    have hc : checkR fs = 0 := by unfold checkR; rw [hrb]; rfl
    rw [hc]
    go_wp2_with fail
    refine (finder_any (.slice sp fs.length cap) w2).mono ?_
    rintro e w3 ⟨rfl, rfl⟩
    have c3 := (cell_new_l w2 (.slice sp fs.length cap) 24).1
    have f3 : Below w.heap.size w (w2.alloc (.cells #[.slice sp fs.length cap] 24)) := f2.alloc f2.size _
    go_wp2_with fail
    refine calls_gen (fun W3 => Below w.heap.size w W3 ∧ W3.cell? ⟨w2.heap.size, 0, none⟩ = some (.slice sp fs.length cap)) ⟨f3, c3⟩ ?_
    intro W3 ⟨g3, d3⟩
    refine (finder1_any sp cap fs path w2.heap.size W3 (RowsAt.below HR.out g3) hl d3).mono ?_
    rintro e w4 ⟨rfl, hB4⟩
    have f4 : Below w.heap.size w w4 := g3.trans (hB4.mono g3.size)
    clear c2 c3 f3 g3 d3 hB4
    cases hfb : (findB fs path).2 with
    | false =>
      go_wp2
      exact bodyPost_ret (v := .tuple #[.string ⟨#[]⟩, .int .i64 4]) (results_two Try.results8 _ _ _ _ rfl rfl) rfl ⟨.inr (.inl ⟨by first | exact hrb | rfl, by first | exact hfb | rfl, rfl⟩), f4⟩
    | true =>
      go_wp2
      exact bodyPost_ret (v := .tuple #[.string (findB fs path).1, .int .i64 0]) (results_two Try.results8 _ _ _ _ rfl rfl) rfl ⟨.inr (.inr ⟨by first | exact hrb | rfl, by first | exact hfb | rfl, rfl⟩), f4⟩
end Go.Proofs.Ytmbnbehlfbdpnab
