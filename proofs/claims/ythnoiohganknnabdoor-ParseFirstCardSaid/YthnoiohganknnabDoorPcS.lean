/- Which trees are the same: the contract of parse's Same. -/
import Derived.Test.YthnoiohganknnabDoorPbF
import Derived.Test.YthnoiohganknnabDoorMrgD
namespace Go.Proofs.YthnoiohganknnabDoor
open Go.RowKit

/-- Are two nodes the same, but for their places? -/
def ndEq (a b : Nd) : Bool := (a.kind == b.kind) && (a.text.toList == b.text.toList) && (a.num == b.num) && (a.kids == b.kids)
theorem ndEq_refl (a : Nd) : ndEq a a = true := by simp [ndEq]
theorem Rep.below {w w' : World} {S : Nat → Prop} {N : List NdM} {L : List Nd} (h : Rep w S N L) (hb : Below w.heap.size w w') : Rep w' S N L :=
  ⟨h.1, fun i m d h1 h2 => by
    obtain ⟨a, b, c, e, f⟩ := h.2 i m d h1 h2
    exact ⟨a, b, c.below hb, e, f⟩⟩
theorem map_cast : ∀ xs ys : List Nat, (xs.map fun k : Nat => (k : Int)) = ys.map (fun k : Nat => (k : Int)) → xs = ys
  | [], [], _ => rfl
  | [], _ :: _, h => by simp at h
  | _ :: _, [], h => by simp at h
  | a :: r, b :: q, h => by
    rw [List.map_cons, List.map_cons] at h
    injection h with h1 h2
    rw [map_cast r q h2, Int.ofNat.inj h1]
theorem cast_take {xs ys : List Nat} : ((xs.map fun k : Nat => (k : Int)).take xs.length == (ys.map fun k : Nat => (k : Int)).take ys.length) = (xs == ys) := by
  rw [List.take_of_length_le (by simp), List.take_of_length_le (by simp)]
  by_cases h : xs = ys
  · subst h; simp
  · have h2 : ¬ (xs.map fun k : Nat => (k : Int)) = ys.map fun k : Nat => (k : Int) := fun e => h (map_cast xs ys e)
    rw [beq_eq_false_iff_ne.2 h2, beq_eq_false_iff_ne.2 h]
theorem ints_cell {w : World} {b o : Nat} {xs : List Nat} (h : RowsAt w 1 intC (some ⟨b, o, none⟩) xs) : ∀ j, j < (xs.map fun k : Nat => (k : Int)).length → w.cell? ⟨b, o + j, none⟩ = some (.int .i64 ((xs.map fun k : Nat => (k : Int)).getD j 0)) := fun j hj => by
  have hj' : j < xs.length := by simpa using hj
  obtain ⟨b', o', e, hc⟩ := h (by omega)
  injection e with e
  injection e with e1 e2
  subst e1 e2
  have := hc j _ (List.getElem?_eq_getElem hj') 0 (.int .i64 (xs[j]'hj')) rfl
  rw [Nat.mul_one, Nat.add_zero] at this
  rw [this, List.getD_eq_getElem?_getD, List.getElem?_map, List.getElem?_eq_getElem hj']
  rfl
theorem below_dN {B : Nat} (w : World) (n : Nat) : Below B w (w.drewN n) := ⟨rfl, rfl, rfl, Nat.le_refl _, fun _ _ => rfl⟩
/-- A node in memory is this one. -/
def NdAt (w : World) (m : NdM) (d : Nd) : Prop := (m.k = d.kind ∧ m.x = d.text ∧ m.n = d.num ∧ m.a = d.pos ∧ m.f = d.frm ∧ m.t = d.to) ∧ m.kn = d.kids.length ∧ RowsAt w 1 intC m.ks d.kids
theorem NdAt.low {w w' : World} {m : NdM} {d : Nd} (h : NdAt w m d) (hb : Below w.heap.size w w') : NdAt w' m d := ⟨h.1, h.2.1, h.2.2.below hb⟩
theorem node_cells {w : World} {b o i : Nat} {N : List NdM} (h : RowsAt w 7 NdM.cells (some ⟨b, o, none⟩) N) {m : NdM} (hm : N[i]? = some m) : w.cell? ⟨b, o + i * 7, none⟩ = some (.int .i64 m.k) ∧ w.cell? ⟨b, o + i * 7 + 1, none⟩ = some (.string m.x) ∧ w.cell? ⟨b, o + i * 7 + 2, none⟩ = some (.int .i64 m.n) ∧ w.cell? ⟨b, o + i * 7 + 3, none⟩ = some (.slice m.ks m.kn m.kc) ∧ w.cell? ⟨b, o + i * 7 + 4, none⟩ = some (.int .i64 m.a) ∧ w.cell? ⟨b, o + i * 7 + 5, none⟩ = some (.int .i64 m.f) ∧ w.cell? ⟨b, o + i * 7 + 6, none⟩ = some (.int .i64 m.t) :=
  ⟨node_cell h hm 0 _ rfl, node_cell h hm 1 _ rfl, node_cell h hm 2 _ rfl, node_cell h hm 3 _ rfl, node_cell h hm 4 _ rfl, node_cell h hm 5 _ rfl, node_cell h hm 6 _ rfl⟩
theorem Rep.at {w : World} {S : Nat → Prop} {N : List NdM} {L : List Nd} (h : Rep w S N L) {i : Nat} {m : NdM} {d : Nd} (h1 : N[i]? = some m) (h2 : L[i]? = some d) : NdAt w m d := by
  obtain ⟨a, b, c, -⟩ := h.2 i m d h1 h2
  exact ⟨a, b, c⟩
end Go.Proofs.YthnoiohganknnabDoor
