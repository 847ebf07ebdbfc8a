/- Clashes that are gathered by append. No function of the program is walked here. -/
import Derived.Test.YtmbnbehlfbdpnabMMay
import Derived.Test.YtmbnbehlfbdpnabTOwn
namespace Go.Proofs.Ytmbnbehlfbdpnab
open Go.RowKit

theorem infoC : (Try.prog.info? 44).map (fun i => (i.zero, i.size, i.bytes)) = some (some (.agg (Cl.cells ⟨⟨#[]⟩, ⟨no, no, no⟩⟩)), 7, 72) := by kernel_rfl
abbrev clC (e : Cl) : List Value := e.cells.toList
theorem clC_len (e : Cl) : (clC e).length = 7 := rfl
theorem cl_one (f : Cl) : f.cells.all (·.oneCell') = true := by simp [Cl.cells, Value.oneCell']
theorem flatC_length (xs : List Cl) : (xs.flatMap clC).length = xs.length * 7 := by
  induction xs with
  | nil => rfl
  | cons a r ih => rw [List.flatMap_cons, List.length_append, ih, clC_len, List.length_cons, Nat.add_mul]; omega
theorem flatC_at : ∀ (xs : List Cl) (i j : Nat) (x : Cl), xs[i]? = some x → j < 7 → (xs.flatMap clC)[i * 7 + j]? = (clC x)[j]?
  | [], i, j, x, h, _ => by simp at h
  | a :: r, 0, j, x, h, hj => by
    have h' : a = x := by simpa using h
    subst h'
    rw [List.flatMap_cons, Nat.zero_mul, Nat.zero_add, List.getElem?_append_left (by rw [clC_len]; exact hj)]
  | a :: r, i + 1, j, x, h, hj => by
    have h' : r[i]? = some x := by simpa using h
    rw [List.flatMap_cons, List.getElem?_append_right (by rw [clC_len, Nat.add_mul]; omega), clC_len, show (i + 1) * 7 + j - 7 = i * 7 + j by rw [Nat.add_mul]; omega]
    exact flatC_at r i j x h' hj
/-- A slice of clashes that the call owns. -/
def OwnC (B : Nat) (w : World) (v : Value) (xs : List Cl) : Prop := w.ownsRow B 44 7 v xs.length (xs.flatMap clC)
theorem ownC_nil (B : Nat) (w : World) : OwnC B w (.slice none 0 0) [] := ⟨rfl, .inl ⟨rfl, rfl⟩⟩
theorem OwnC.rows {B : Nat} {w : World} {v : Value} {xs : List Cl} (h : OwnC B w v xs) : ∃ sp cap, v = .slice sp xs.length cap ∧ RowsAt w 7 Cl.cells sp xs ∧ (sp = none → xs.length = 0 ∧ cap = 0) ∧ xs.length ≤ cap ∧ cap ≤ maxLen := by
  rcases h.2 with ⟨rfl, h0⟩ | ⟨g, cap, cur, rfl, h1, h2, h3, h4, h5, h6⟩
  · exact ⟨none, 0, by rw [h0], fun hl => by omega, fun _ => ⟨h0, rfl⟩, by omega, Nat.zero_le _⟩
  · refine ⟨_, cap, rfl, fun _ => ⟨g, 0, rfl, fun i x hx j u hu => ?_⟩, (fun hq => by cases hq), h3, h4⟩
    have hi : i < xs.length := (List.getElem?_eq_some_iff.1 hx).1
    have hj : j < 7 := by have := (Array.getElem?_eq_some_iff.1 hu).1; rwa [Cl.size] at this
    rw [Nat.zero_add, cell_of_row _ _ _ _ _ _ h2, ← Array.getElem?_toList]
    have : (cur.toList.take (xs.length * 7))[i * 7 + j]? = (xs.flatMap clC)[i * 7 + j]? := by rw [h6]
    rw [List.getElem?_take, if_pos (by omega), flatC_at xs i j x hx hj, Array.getElem?_toList, Array.getElem?_toList, hu] at this
    rw [Array.getElem?_toList]
    exact this
theorem OwnC.keep {B : Nat} {w w' : World} {v : Value} {xs : List Cl} (h : OwnC B w v xs) (hh : ∀ k, v.ownBlock = some k → w'.heap[k]? = w.heap[k]?) : OwnC B w' v xs := by
  refine ⟨h.1, ?_⟩
  rcases h.2 with ⟨rfl, h0⟩ | ⟨g, cap, cur, rfl, h1, h2, h3⟩
  · exact .inl ⟨rfl, h0⟩
  · exact .inr ⟨g, cap, cur, rfl, h1, (hh g rfl).trans h2, h3⟩
theorem OwnC.lt {B : Nat} {w : World} {v : Value} {xs : List Cl} (h : OwnC B w v xs) {k : Nat} (hk : v.ownBlock = some k) : B ≤ k ∧ k < w.heap.size := World.ownsRow.lt h k hk
theorem OwnC.below {B : Nat} {w w' : World} {v : Value} {xs : List Cl} (h : OwnC B w v xs) (hb : Below w.heap.size w w') : OwnC B w' v xs := h.keep fun _ hk => hb.block _ (h.lt hk).2
theorem OwnC.grown {B C : Nat} {w W W' : World} {v : Value} {xs : List Cl} (hv : OwnC B W v xs) (hC : C ≤ B) (hB : C ≤ W.heap.size) (fW : Below C w W) (hg : W.grownBy W' v.ownBlock) : Below C w W' := by
  refine ⟨hg.os.trans fW.os, hg.tape.trans fW.tape, hg.output.trans fW.output, Nat.le_trans fW.size hg.size, fun k hk => ?_⟩
  rw [hg.block k (by omega) (fun e => ?_)]
  · exact fW.block k hk
  · have := (hv.lt e.symm).1
    omega
/-- The row of a slice that the call owns bears its elements' type. -/
theorem OwnC.row {B : Nat} {w : World} {v : Value} {xs : List Cl} (h : OwnC B w v xs) {k : Nat} (hk : v.ownBlock = some k) : ∃ cs, w.heap[k]? = some (.cells cs 44 (0, 0)) := by
  rcases h.2 with ⟨rfl, h0⟩ | ⟨g, cap, cur, rfl, h1, h2, h3⟩
  · cases hk
  · cases hk
    exact ⟨cur, h2⟩
theorem OwnF.row {B : Nat} {w : World} {v : Value} {xs : List Fi} (h : OwnF B w v xs) {k : Nat} (hk : v.ownBlock = some k) : ∃ cs, w.heap[k]? = some (.cells cs 46 (0, 0)) := by
  rcases h.2 with ⟨rfl, h0⟩ | ⟨g, cap, cur, rfl, h1, h2, h3⟩
  · cases hk
  · cases hk
    exact ⟨cur, h2⟩
theorem oneC_rows {w : World} {g : Nat} {f : Cl} {t : TypeId} {fr : Nat × Nat} (h : w.heap[g]? = some (.cells f.cells t fr)) : ∀ j u, (clC f)[j]? = some u → w.cell? ((⟨g, 0, none⟩ : Addr).add j) = some u := fun j u hu => by
  rw [Addr.add_mid, Nat.zero_add, cell_of_row _ _ _ _ _ _ h, ← Array.getElem?_toList]
  exact hu
/-- A clash appended. -/
theorem clash_run {B : Nat} {w : World} {v : Value} {xs : List Cl} {g : Nat} {f : Cl} {t : TypeId} (ty : TypeId) (hown : OwnC B w v xs) (hg : w.heap[g]? = some (.cells f.cells t (0, 0))) (hlen : xs.length + 1 ≤ 100000) (hB : B ≤ w.heap.size) :
    ∃ v' w', (Builtin.append_ #[29, 29] ty #[v, .slice (some ⟨g, 0, none⟩) 1 1]).run Try.prog w = .ok v' w' ∧ OwnC B w' v' (xs ++ [f]) ∧ w.grownBy w' v.ownBlock := by
  obtain ⟨i, hi, hz0, hz1, hz2⟩ := info_parts infoC
  have hone : ∀ u ∈ clC f, u.oneCell' = true := fun u hu => by
    have := cl_one f
    rw [Array.all_eq_true_iff_forall_mem] at this
    exact this u (by simpa using hu)
  obtain ⟨v', w', q1, q2, q3, -, q5⟩ := run_append_own_at (P := Try.prog) (w := w) B 29 ty 44 i _ 7 72 Try.underlying29 hi hz0 hz1 hz2 rfl (by omega) v xs.length _ hown ⟨g, 0, none⟩ 1 1 (clC f) rfl (oneC_rows hg) hone (by unfold maxLen; omega) (by omega) hB
  refine ⟨v', w', q1, ?_, q3⟩
  unfold OwnC
  rw [List.length_append, List.flatMap_append]
  simpa using q2
end Go.Proofs.Ytmbnbehlfbdpnab
