/- The contract of merge's join. -/
import Derived.Test.YtmbnbehlfbdpnabMIt
import Derived.Test.YtmbnbehlfbdpnabMOwC
import Derived.Test.YtmbnbehlfbdpnabTChk
namespace Go.Proofs.Ytmbnbehlfbdpnab
open Go.RowKit Go.Shelf
attribute [local go_sem] Oper.semAt_some

/-- The files that stand there, merged; the paths that clash. -/
def fileOf (p : Ps) : List Fi := if (mergedR p.2).2 then (if (mergedR p.2).1.there then [⟨p.1, (mergedR p.2).1.value⟩] else []) else []
def clashOf (p : Ps) : List Cl := if (mergedR p.2).2 then [] else [⟨p.1, p.2⟩]
def joinF (ps : List Ps) : List Fi := ps.flatMap fileOf
def joinC (ps : List Ps) : List Cl := ps.flatMap clashOf
theorem fileOf_len (p : Ps) : (fileOf p).length ≤ 1 := by unfold fileOf; split <;> (try split) <;> simp
theorem clashOf_len (p : Ps) : (clashOf p).length ≤ 1 := by unfold clashOf; split <;> simp
theorem joinF_len (ps : List Ps) : (joinF ps).length ≤ ps.length := by
  induction ps with
  | nil => exact Nat.le_refl _
  | cons a r ih => have := fileOf_len a; simp only [joinF, List.flatMap_cons, List.length_append, List.length_cons] at ih ⊢; omega
theorem joinC_len (ps : List Ps) : (joinC ps).length ≤ ps.length := by
  induction ps with
  | nil => exact Nat.le_refl _
  | cons a r ih => have := clashOf_len a; simp only [joinC, List.flatMap_cons, List.length_append, List.length_cons] at ih ⊢; omega
theorem joinF_one (ps : List Ps) (p : Ps) : joinF (ps ++ [p]) = joinF ps ++ fileOf p := by simp [joinF]
theorem joinC_one (ps : List Ps) (p : Ps) : joinC (ps ++ [p]) = joinC ps ++ clashOf p := by simp [joinC]

/-- Between two rounds of join's loop: fb, cb: the boxes of files and of clashes. -/
def JI (w : World) (fb cb : Nat) (pre : List Ps) (W : World) : Prop :=
  (∃ vf vc, Boxed W fb 22 vf ∧ Boxed W cb 29 vc ∧ OwnF w.heap.size W vf (joinF pre) ∧ OwnC w.heap.size W vc (joinC pre)) ∧ Below w.heap.size w W
theorem box_kept {W W' : World} {row : Option Nat} {B : Nat} {t : TypeId} {v : Value} (h : Boxed W B t v) (hg : W.grownBy W' row) (hr : ∀ r, row = some r → W.heap[r]? ≠ some (.cells #[v] t (0, 0))) : Boxed W' B t v :=
  h.kept hg fun e => hr B e.symm h
theorem JI.own {w : World} {fb cb B : Nat} (hB : w.heap.size ≤ B) : OwnFrom B (JI w fb cb) := by
  rintro s W W' row ⟨⟨vf, vc, h1, h2, h3, h4⟩, h5⟩ hg hr
  have hn : ∀ r, row = some r → ∀ cs t, W.heap[r]? ≠ some (.cells cs t (0, 0)) := fun r e cs t h => by
    obtain ⟨-, o, ho, hc⟩ := hr r e
    rw [h] at ho
    injection ho with ho
    subst ho
    cases hc
  refine ⟨⟨vf, vc, box_kept h1 hg fun r e => hn r e _ _, box_kept h2 hg fun r e => hn r e _ _, h3.keep fun k hk => ?_, h4.keep fun k hk => ?_⟩, h5.grown hg h5.size fun k e => ?_⟩
  · obtain ⟨cs, hcs⟩ := h3.row hk
    exact hg.block k (h3.lt hk).2 fun e => hn k e.symm _ _ hcs
  · obtain ⟨cs, hcs⟩ := h4.row hk
    exact hg.block k (h4.lt hk).2 fun e => hn k e.symm _ _ hcs
  · have := (hr k e).1
    omega
theorem not_it {t : TypeId} (h : t = 22 ∨ t = 29 ∨ t = 46 ∨ t = 44) : ¬ ItT t := by
  unfold ItT
  rcases h with rfl | rfl | rfl | rfl <;> decide
theorem JI.stays {w : World} {fb cb B : Nat} (hB : w.heap.size ≤ B) : Stays B (JI w fb cb) := by
  rintro s W W' row ⟨⟨vf, vc, h1, h2, h3, h4⟩, h5⟩ hg hr
  have hn : ∀ r, row = some r → ∀ cs t, W.heap[r]? = some (.cells cs t (0, 0)) → ItT t := fun r e cs t h => by
    obtain ⟨-, cs', t', ho, hc⟩ := hr r e
    rw [h] at ho
    injection ho with ho
    injection ho with _ ho
    subst ho
    exact hc
  refine ⟨⟨vf, vc, box_kept h1 hg fun r e h => not_it (.inl rfl) (hn r e _ _ h), box_kept h2 hg fun r e h => not_it (.inr (.inl rfl)) (hn r e _ _ h), h3.keep fun k hk => ?_, h4.keep fun k hk => ?_⟩, h5.grown hg h5.size fun k e => ?_⟩
  · obtain ⟨cs, hcs⟩ := h3.row hk
    exact hg.block k (h3.lt hk).2 fun e => not_it (.inr (.inr (.inl rfl))) (hn k e.symm _ _ hcs)
  · obtain ⟨cs, hcs⟩ := h4.row hk
    exact hg.block k (h4.lt hk).2 fun e => not_it (.inr (.inr (.inr rfl))) (hn k e.symm _ _ hcs)
  · have := (hr k e).1
    omega
end Go.Proofs.Ytmbnbehlfbdpnab
