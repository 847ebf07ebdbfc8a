/- The tokens of a text are few, small and near: so Text stands for every text. -/
import Derived.Test.YthnoiohganknnabDoorPbE
import Derived.Test.YthnoiohganknnabDoorMrgD
namespace Go.Proofs.YthnoiohganknnabDoor
open Go.RowKit

theorem lexG_bnd {L : List UInt8} (hL : L.length ≤ 4096) : ∀ (f p : Nat) (ts : List Tok), p ≤ L.length → ts.length ≤ 1024 → (∀ t ∈ ts, 0 ≤ t.pos ∧ t.pos ≤ 4096 ∧ t.text.size ≤ 4096) →
    (lexG L f p ts).1.length ≤ 1024 ∧ ∀ t ∈ (lexG L f p ts).1, 0 ≤ t.pos ∧ t.pos ≤ 4096 ∧ t.text.size ≤ 4096 := by
  intro f
  induction f with
  | zero => exact fun p ts _ h1 h2 => ⟨h1, h2⟩
  | succ f ih =>
    intro p ts hp h1 h2
    rw [lexG]
    have hn : (p < L.length ∨ clo (lastT ts) = true) → (lookR (L.drop p) (clo (lastT ts))).2.2 = 0 → p + (lookR (L.drop p) (clo (lastT ts))).2.1 ≤ L.length := fun hc he => by
      have h := (look_size (L := L.drop p) (en := clo (lastT ts)) (k := (lookR (L.drop p) (clo (lastT ts))).1) (n := (lookR (L.drop p) (clo (lastT ts))).2.1) (by rw [← he]) fun hd => by
        rcases hc with hc | hc
        · have := List.length_drop (i := p) (l := L)
          rw [hd] at this
          simp at this
          omega
        · exact hc).1
      rw [List.length_drop] at h
      omega
    generalize lookR (L.drop p) (clo (lastT ts)) = r at hn ⊢
    split
    · rename_i hcond
      split
      · simp
      · rename_i he
        have hn := hn hcond (by simpa using he)
        split
        · exact ih _ _ hn h1 h2
        · split
          · simp
          · refine ih _ _ hn (by rw [List.length_append]; simp; omega) fun t ht => ?_
            rcases List.mem_append.1 ht with ht | ht
            · exact h2 t ht
            · obtain rfl := List.mem_singleton.1 ht
              refine ⟨Int.natCast_nonneg _, by show (p : Int) ≤ 4096; omega, ?_⟩
              show (strU ((L.drop p).take r.2.1)).size ≤ 4096
              have : (strU ((L.drop p).take r.2.1)).size = ((L.drop p).take r.2.1).length := by simp [strU, ByteArray.size]
              rw [this, List.length_take, List.length_drop]
              omega
    · exact ⟨h1, h2⟩
theorem lexO_bnd (L : List UInt8) : (lexO L).1.length ≤ 1024 ∧ ∀ t ∈ (lexO L).1, 0 ≤ t.pos ∧ t.pos ≤ 4096 ∧ t.text.size ≤ 4096 := by
  unfold lexO
  split
  · simp
  · exact lexG_bnd (by omega) _ _ _ (Nat.zero_le _) (by simp) (by simp)
theorem text_all (w : World) (x : ByteArray) (hT : Tabl w) : Calls Tryd.prog 8 #[.string x] w (PrP w (txtO x.data.toList)) := by
  have h := lexO_bnd x.data.toList
  exact text_any w x hT (by omega) fun t ht => by have := h.2 t ht; omega
end Go.Proofs.YthnoiohganknnabDoor
