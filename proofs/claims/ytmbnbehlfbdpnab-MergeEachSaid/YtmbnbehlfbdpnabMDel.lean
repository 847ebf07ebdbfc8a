/- Deltas that are gathered by append. No function of the program is walked here. -/
import Derived.Test.YtmbnbehlfbdpnabMStr
import Derived.Test.YtmbnbehlfbdpnabMOwC
namespace Go.Proofs.Ytmbnbehlfbdpnab
open Go.RowKit

/-- A difference. -/
structure De where
  path : ByteArray
  was : Bool
  is : Bool
  old : ByteArray
  new : ByteArray
def De.cells (d : De) : Array Value := #[.string d.path, .bool d.was, .bool d.is, .string d.old, .string d.new]
theorem De.size (d : De) : d.cells.size = 5 := rfl
theorem infoD : (Try.prog.info? 57).map (fun i => (i.zero, i.size, i.bytes)) = some (some (.agg (De.cells ⟨⟨#[]⟩, false, false, ⟨#[]⟩, ⟨#[]⟩⟩)), 5, 56) := by kernel_rfl
abbrev deC (e : De) : List Value := e.cells.toList
theorem deC_len (e : De) : (deC e).length = 5 := rfl
theorem de_one (f : De) : f.cells.all (·.oneCell') = true := by simp [De.cells, Value.oneCell']
theorem flatD_length (xs : List De) : (xs.flatMap deC).length = xs.length * 5 := by
  induction xs with
  | nil => rfl
  | cons a r ih => rw [List.flatMap_cons, List.length_append, ih, deC_len, List.length_cons, Nat.add_mul]; omega
theorem flatD_at : ∀ (xs : List De) (i j : Nat) (x : De), xs[i]? = some x → j < 5 → (xs.flatMap deC)[i * 5 + j]? = (deC x)[j]?
  | [], i, j, x, h, _ => by simp at h
  | a :: r, 0, j, x, h, hj => by
    have h' : a = x := by simpa using h
    subst h'
    rw [List.flatMap_cons, Nat.zero_mul, Nat.zero_add, List.getElem?_append_left (by rw [deC_len]; exact hj)]
  | a :: r, i + 1, j, x, h, hj => by
    have h' : r[i]? = some x := by simpa using h
    rw [List.flatMap_cons, List.getElem?_append_right (by rw [deC_len, Nat.add_mul]; omega), deC_len, show (i + 1) * 5 + j - 5 = i * 5 + j by rw [Nat.add_mul]; omega]
    exact flatD_at r i j x h' hj
/-- A slice of clashes that the call owns. -/
def OwnD (B : Nat) (w : World) (v : Value) (xs : List De) : Prop := w.ownsRow B 57 5 v xs.length (xs.flatMap deC)
theorem ownD_nil (B : Nat) (w : World) : OwnD B w (.slice none 0 0) [] := ⟨rfl, .inl ⟨rfl, rfl⟩⟩
theorem OwnD.rows {B : Nat} {w : World} {v : Value} {xs : List De} (h : OwnD B w v xs) : ∃ sp cap, v = .slice sp xs.length cap ∧ RowsAt w 5 De.cells sp xs ∧ (sp = none → xs.length = 0 ∧ cap = 0) ∧ xs.length ≤ cap ∧ cap ≤ maxLen := by
  rcases h.2 with ⟨rfl, h0⟩ | ⟨g, cap, cur, rfl, h1, h2, h3, h4, h5, h6⟩
  · exact ⟨none, 0, by rw [h0], fun hl => by omega, fun _ => ⟨h0, rfl⟩, by omega, Nat.zero_le _⟩
  · refine ⟨_, cap, rfl, fun _ => ⟨g, 0, rfl, fun i x hx j u hu => ?_⟩, (fun hq => by cases hq), h3, h4⟩
    have hi : i < xs.length := (List.getElem?_eq_some_iff.1 hx).1
    have hj : j < 5 := by have := (Array.getElem?_eq_some_iff.1 hu).1; rwa [De.size] at this
    rw [Nat.zero_add, cell_of_row _ _ _ _ _ _ h2, ← Array.getElem?_toList]
    have : (cur.toList.take (xs.length * 5))[i * 5 + j]? = (xs.flatMap deC)[i * 5 + j]? := by rw [h6]
    rw [List.getElem?_take, if_pos (by omega), flatD_at xs i j x hx hj, Array.getElem?_toList, Array.getElem?_toList, hu] at this
    rw [Array.getElem?_toList]
    exact this
theorem OwnD.keep {B : Nat} {w w' : World} {v : Value} {xs : List De} (h : OwnD B w v xs) (hh : ∀ k, v.ownBlock = some k → w'.heap[k]? = w.heap[k]?) : OwnD B w' v xs := by
  refine ⟨h.1, ?_⟩
  rcases h.2 with ⟨rfl, h0⟩ | ⟨g, cap, cur, rfl, h1, h2, h3⟩
  · exact .inl ⟨rfl, h0⟩
  · exact .inr ⟨g, cap, cur, rfl, h1, (hh g rfl).trans h2, h3⟩
theorem OwnD.lt {B : Nat} {w : World} {v : Value} {xs : List De} (h : OwnD B w v xs) {k : Nat} (hk : v.ownBlock = some k) : B ≤ k ∧ k < w.heap.size := World.ownsRow.lt h k hk
theorem OwnD.below {B : Nat} {w w' : World} {v : Value} {xs : List De} (h : OwnD B w v xs) (hb : Below w.heap.size w w') : OwnD B w' v xs := h.keep fun _ hk => hb.block _ (h.lt hk).2
theorem OwnD.grown {B C : Nat} {w W W' : World} {v : Value} {xs : List De} (hv : OwnD B W v xs) (hC : C ≤ B) (hB : C ≤ W.heap.size) (fW : Below C w W) (hg : W.grownBy W' v.ownBlock) : Below C w W' := by
  refine ⟨hg.os.trans fW.os, hg.tape.trans fW.tape, hg.output.trans fW.output, Nat.le_trans fW.size hg.size, fun k hk => ?_⟩
  rw [hg.block k (by omega) (fun e => ?_)]
  · exact fW.block k hk
  · have := (hv.lt e.symm).1
    omega
/-- The row of a slice that the call owns bears its elements' type. -/
theorem OwnD.row {B : Nat} {w : World} {v : Value} {xs : List De} (h : OwnD B w v xs) {k : Nat} (hk : v.ownBlock = some k) : ∃ cs, w.heap[k]? = some (.cells cs 57 (0, 0)) := by
  rcases h.2 with ⟨rfl, h0⟩ | ⟨g, cap, cur, rfl, h1, h2, h3⟩
  · cases hk
  · cases hk
    exact ⟨cur, h2⟩
theorem oneD_rows {w : World} {g : Nat} {f : De} {t : TypeId} {fr : Nat × Nat} (h : w.heap[g]? = some (.cells f.cells t fr)) : ∀ j u, (deC f)[j]? = some u → w.cell? ((⟨g, 0, none⟩ : Addr).add j) = some u := fun j u hu => by
  rw [Addr.add_mid, Nat.zero_add, cell_of_row _ _ _ _ _ _ h, ← Array.getElem?_toList]
  exact hu
/-- A clash appended. -/
theorem delta_run {B : Nat} {w : World} {v : Value} {xs : List De} {g : Nat} {f : De} {t : TypeId} (ty : TypeId) (hown : OwnD B w v xs) (hg : w.heap[g]? = some (.cells f.cells t (0, 0))) (hlen : xs.length + 1 ≤ 100000) (hB : B ≤ w.heap.size) :
    ∃ v' w', (Builtin.append_ #[53, 53] ty #[v, .slice (some ⟨g, 0, none⟩) 1 1]).run Try.prog w = .ok v' w' ∧ OwnD B w' v' (xs ++ [f]) ∧ w.grownBy w' v.ownBlock := by
  obtain ⟨i, hi, hz0, hz1, hz2⟩ := info_parts infoD
  have hone : ∀ u ∈ deC f, u.oneCell' = true := fun u hu => by
    have := de_one f
    rw [Array.all_eq_true_iff_forall_mem] at this
    exact this u (by simpa using hu)
  obtain ⟨v', w', q1, q2, q3, -, q5⟩ := run_append_own_at (P := Try.prog) (w := w) B 53 ty 57 i _ 5 56 Try.underlying53 hi hz0 hz1 hz2 rfl (by omega) v xs.length _ hown ⟨g, 0, none⟩ 1 1 (deC f) rfl (oneD_rows hg) hone (by unfold maxLen; omega) (by omega) hB
  refine ⟨v', w', q1, ?_, q3⟩
  unfold OwnD
  rw [List.length_append, List.flatMap_append]
  simpa using q2
end Go.Proofs.Ytmbnbehlfbdpnab
