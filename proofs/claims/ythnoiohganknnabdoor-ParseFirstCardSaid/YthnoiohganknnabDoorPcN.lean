/- What Text tells, as a tree that may be empty, and its bounds. No function of the program is walked here. -/
import Derived.Test.YthnoiohganknnabDoorPcS
namespace Go.Proofs.YthnoiohganknnabDoor
open Go.RowKit

/-- The nodes that are told. -/
def trO (r : (Int × Int) ⊕ Pt) : List Nd := match r with | .inl _ => [] | .inr t => layP 0 t
/-- The error that is told, and its place. -/
def spO (r : (Int × Int) ⊕ Pt) : Int × Int := match r with | .inl p => p | .inr _ => (0, 0)
theorem prp_tr {w w' : World} {r : (Int × Int) ⊕ Pt} {e : Ending} (h : PrP w r e w') : Below w.heap.size w w' ∧ ∃ v, e = .returned (.tuple #[.agg #[v], .agg #[.int .i64 (spO r).1, .int .i64 (spO r).2]]) ∧ TrAt w.heap.size w' v (trO r) := by
  obtain ⟨h1, h2⟩ := h
  refine ⟨h1, ?_⟩
  cases r with
  | inl p => exact ⟨_, h2, TrAt.nil _ _⟩
  | inr t => exact h2
theorem par_bnd (ts : List Tok) : (trO (parO ts)).length ≤ 2048 ∧ ∀ d ∈ trO (parO ts), (∀ k ∈ d.kids, k < (trO (parO ts)).length) ∧ d.kids.length ≤ 2048 := by
  unfold parO
  split
  · simp [trO]
  split
  · simp [trO]
  split
  · split
    · simp [trO]
    split
    · simp [trO]
    · rename_i t q _ h _
      have e := lay_cnt t 0
      refine ⟨by show (layP 0 t).length ≤ 2048; omega, fun d hd => ?_⟩
      have hb := lay_bnd t 0 d hd
      refine ⟨fun k hk => ?_, by omega⟩
      show k < (layP 0 t).length
      have := hb.1 k hk
      omega
  · simp [trO]
  · simp [trO]
theorem txt_bnd (s : List UInt8) : (trO (txtO s)).length ≤ 2048 ∧ ∀ d ∈ trO (txtO s), (∀ k ∈ d.kids, k < (trO (txtO s)).length) ∧ d.kids.length ≤ 2048 := by
  unfold txtO
  split
  · exact par_bnd _
  · simp [trO]
end Go.Proofs.YthnoiohganknnabDoor
