/- Entries that are gathered by append. No function of the program is walked here. -/
import Derived.Test.YtnaoaeapffgojaaIdsA
namespace Go.Proofs.Ytnaoaeapffgojaa
open Go.RowKit

abbrev enC (e : Ent) : List Value := e.cells.toList
theorem enC_len (e : Ent) : (enC e).length = 34 := by rw [enC, Array.length_toList, Ent.size]
theorem flatE_length (xs : List Ent) : (xs.flatMap enC).length = xs.length * 34 := by
  induction xs with
  | nil => rfl
  | cons a r ih => rw [List.flatMap_cons, List.length_append, ih, enC_len, List.length_cons, Nat.add_mul]; omega
theorem flatE_at : ∀ (xs : List Ent) (i j : Nat) (x : Ent), xs[i]? = some x → j < 34 → (xs.flatMap enC)[i * 34 + j]? = (enC x)[j]?
  | [], i, j, x, h, _ => by simp at h
  | a :: r, 0, j, x, h, hj => by
    have h' : a = x := by simpa using h
    subst h'
    rw [List.flatMap_cons, Nat.zero_mul, Nat.zero_add, List.getElem?_append_left (by rw [enC_len]; exact hj)]
  | a :: r, i + 1, j, x, h, hj => by
    have h' : r[i]? = some x := by simpa using h
    rw [List.flatMap_cons, List.getElem?_append_right (by rw [enC_len, Nat.add_mul]; omega), enC_len, show (i + 1) * 34 + j - 34 = i * 34 + j by rw [Nat.add_mul]; omega]
    exact flatE_at r i j x h' hj
/-- A slice of entries that the call owns. -/
def OwnE (B : Nat) (w : World) (v : Value) (xs : List Ent) : Prop := w.ownsRow B 40 34 v xs.length (xs.flatMap enC)
theorem ownE_nil (B : Nat) (w : World) : OwnE B w (.slice none 0 0) [] := ⟨rfl, .inl ⟨rfl, rfl⟩⟩
theorem OwnE.rows {B : Nat} {w : World} {v : Value} {xs : List Ent} (h : OwnE B w v xs) : ∃ sp cap, v = .slice sp xs.length cap ∧ RowsAt w 34 Ent.cells sp xs ∧ (sp = none → xs.length = 0 ∧ cap = 0) := by
  rcases h.2 with ⟨rfl, h0⟩ | ⟨g, cap, cur, rfl, h1, h2, h3, h4, h5, h6⟩
  · exact ⟨none, 0, by rw [h0], fun hl => by omega, fun _ => ⟨h0, rfl⟩⟩
  · refine ⟨_, cap, rfl, fun _ => ⟨g, 0, rfl, fun i x hx j u hu => ?_⟩, fun hq => by cases hq⟩
    have hi : i < xs.length := (List.getElem?_eq_some_iff.1 hx).1
    have hj : j < 34 := by have := (Array.getElem?_eq_some_iff.1 hu).1; rwa [Ent.size] at this
    rw [Nat.zero_add, cell_of_row _ _ _ _ _ _ h2, ← Array.getElem?_toList]
    have : (cur.toList.take (xs.length * 34))[i * 34 + j]? = (xs.flatMap enC)[i * 34 + j]? := by rw [h6]
    rw [List.getElem?_take, if_pos (by omega), flatE_at xs i j x hx hj, Array.getElem?_toList, Array.getElem?_toList, hu] at this
    rw [Array.getElem?_toList]
    exact this
theorem OwnE.keep {B : Nat} {w w' : World} {v : Value} {xs : List Ent} (h : OwnE B w v xs) (hh : ∀ k, v.ownBlock = some k → w'.heap[k]? = w.heap[k]?) : OwnE B w' v xs := by
  refine ⟨h.1, ?_⟩
  rcases h.2 with ⟨rfl, h0⟩ | ⟨g, cap, cur, rfl, h1, h2, h3⟩
  · exact .inl ⟨rfl, h0⟩
  · exact .inr ⟨g, cap, cur, rfl, h1, (hh g rfl).trans h2, h3⟩
theorem OwnE.lt {B : Nat} {w : World} {v : Value} {xs : List Ent} (h : OwnE B w v xs) {k : Nat} (hk : v.ownBlock = some k) : B ≤ k ∧ k < w.heap.size := World.ownsRow.lt h k hk
theorem OwnE.below {B : Nat} {w w' : World} {v : Value} {xs : List Ent} (h : OwnE B w v xs) (hb : Below w.heap.size w w') : OwnE B w' v xs := h.keep fun _ hk => hb.block _ (h.lt hk).2
theorem rowsE_news {w : World} {b off : Nat} {ys : List Ent} (hr : RowsAt w 34 Ent.cells (some ⟨b, off, none⟩) ys) : ∀ j u, (ys.flatMap enC)[j]? = some u → w.cell? ((⟨b, off, none⟩ : Addr).add j) = some u := fun j u hu => by
  have hj : j < ys.length * 34 := by
    by_cases hj : j < ys.length * 34
    · exact hj
    · rw [List.getElem?_eq_none (by rw [flatE_length]; omega)] at hu; cases hu
  have hi : j / 34 < ys.length := by omega
  have hx : ys[j / 34]? = some (ys[j / 34]'hi) := List.getElem?_eq_getElem hi
  have e : j / 34 * 34 + j % 34 = j := by omega
  have h1 := flatE_at ys (j / 34) (j % 34) _ hx (by omega)
  rw [e, hu] at h1
  obtain ⟨b', off', hs, hc⟩ := hr (by omega)
  injection hs with hs
  injection hs with hs1 hs2
  subst hs1 hs2
  have h2 := hc _ _ hx (j % 34) u (by rw [← Array.getElem?_toList]; exact h1.symm)
  rw [Addr.add_mid, show off + j = off + j / 34 * 34 + j % 34 by omega]
  exact h2
theorem oneE_rows {w : World} {g : Nat} {f : Ent} {t : TypeId} {fr : Nat × Nat} (h : w.heap[g]? = some (.cells f.cells t fr)) : RowsAt w 34 Ent.cells (some ⟨g, 0, none⟩) [f] := fun _ => by
  refine ⟨g, 0, rfl, fun i x hx j u hu => ?_⟩
  have hi : i = 0 := by have := (List.getElem?_eq_some_iff.1 hx).1; simp at this; omega
  subst hi
  have hx' : f = x := by simpa using hx
  subst hx'
  rw [Nat.zero_mul, Nat.zero_add]
  exact (cell_of_row _ _ _ _ _ _ h).trans hu
/-- What an append of entries leaves. -/
theorem ents_run {B : Nat} {w : World} {v : Value} {xs ys : List Ent} {sp : Option Addr} {cap : Nat} (ty : TypeId) (hown : OwnE B w v xs) (hn : sp = none → ys.length = 0 ∧ cap = 0) (hr : RowsAt w 34 Ent.cells sp ys) (hsp : 0 < ys.length → ∃ b off, sp = some ⟨b, off, none⟩) (hlen : xs.length + ys.length ≤ 100000) (hB : B ≤ w.heap.size) :
    ∃ v' w', (Builtin.append_ #[24, 24] ty #[v, .slice sp ys.length cap]).run Try.prog w = .ok v' w' ∧ OwnE B w' v' (xs ++ ys) ∧ w.grownBy w' v.ownBlock ∧ (v'.ownBlock = v.ownBlock ∨ v'.ownBlock = some w.heap.size) := by
  obtain ⟨i, hi, hz0, hz1, hz2⟩ := info_parts infoE
  cases sp with
  | none =>
    obtain ⟨h1, h2⟩ := hn rfl
    have hy : ys = [] := List.eq_nil_of_length_eq_zero h1
    subst hy h2
    refine ⟨v, w, run_append_owned_none (P := Try.prog) (w := w) B 24 ty 40 i 34 Try.underlying24 hi v xs.length _ hown, by rw [List.append_nil]; exact hown, ⟨rfl, rfl, rfl, Nat.le_refl _, fun _ _ _ => rfl⟩, .inl rfl⟩
  | some a =>
    have hone : ∀ u ∈ ys.flatMap enC, u.oneCell' = true := fun u hu => by
      obtain ⟨y, -, hy⟩ := List.mem_flatMap.1 hu
      have := ent_one y
      rw [Array.all_eq_true_iff_forall_mem] at this
      exact this u (by simpa using hy)
    have hnews : ∀ j u, (ys.flatMap enC)[j]? = some u → w.cell? (a.add j) = some u := by
      by_cases h0 : 0 < ys.length
      · obtain ⟨b, off, hs⟩ := hsp h0
        injection hs with hs
        subst hs
        exact rowsE_news hr
      · have hy : ys = [] := List.eq_nil_of_length_eq_zero (by omega)
        subst hy
        intro j u hu
        simp at hu
    obtain ⟨v', w', q1, q2, q3, -, q5⟩ := run_append_own_at (P := Try.prog) (w := w) B 24 ty 40 i (.agg (Ent.cells ⟨⟨#[]⟩, false, fun _ => 0⟩)) 34 56 Try.underlying24 hi hz0 hz1 hz2 (Ent.size _) (by omega) v xs.length _ hown a ys.length cap (ys.flatMap enC) (flatE_length ys) hnews hone (by unfold maxLen; omega) (by omega) hB
    refine ⟨v', w', q1, ?_, q3, q5⟩
    unfold OwnE
    rw [List.length_append, List.flatMap_append]
    exact q2
theorem ents_append {w : World} {ops : Array Oper} {rest : List Oper} {o : Oper} {a : Act} {Q : Exit → Act → World → Prop} (hgd : o.guard = none) (s x : Operand)
    (ho : o.op = .call { callee := .builtin .append, args := #[s, x], argTypes := #[24, 24] }) (B : Nat) (v : Value) (xs : List Ent) (hs : a.eval s = v) (hown : OwnE B w v xs)
    (sp : Option Addr) (cap : Nat) (ys : List Ent) (hx : a.eval x = .slice sp ys.length cap) (hn : sp = none → ys.length = 0 ∧ cap = 0) (hr : RowsAt w 34 Ent.cells sp ys) (hsp : 0 < ys.length → ∃ b off, sp = some ⟨b, off, none⟩) (hlen : xs.length + ys.length ≤ 100000) (hB : B ≤ w.heap.size)
    (h : ∀ v' w', OwnE B w' v' (xs ++ ys) → w.grownBy w' v.ownBlock → (v'.ownBlock = v.ownBlock ∨ v'.ownBlock = some w.heap.size) → wpList Try.prog ops Q rest (a.put o.dst v') w') : wpList Try.prog ops Q (o :: rest) a w := by
  obtain ⟨v', w', q1, q2, q3, q4⟩ := ents_run (xs := xs) o.type hown hn hr hsp hlen hB
  refine wpList_plain hgd fun _ hK => op_append s x 24 ho hs hx q1 (hK _ _ (h v' w' q2 q3 q4))
theorem OwnE.grown {B C : Nat} {w W W' : World} {v : Value} {xs : List Ent} (hv : OwnE B W v xs) (hC : C ≤ B) (hB : C ≤ W.heap.size) (fW : Below C w W) (hg : W.grownBy W' v.ownBlock) : Below C w W' := by
  refine ⟨hg.os.trans fW.os, hg.tape.trans fW.tape, hg.output.trans fW.output, Nat.le_trans fW.size hg.size, fun k hk => ?_⟩
  rw [hg.block k (by omega) (fun e => ?_)]
  · exact fW.block k hk
  · have := (hv.lt e.symm).1
    omega
theorem OwnE.mono {B C : Nat} {w : World} {v : Value} {xs : List Ent} (h : OwnE B w v xs) (hC : C ≤ B) : OwnE C w v xs := by
  refine ⟨h.1, ?_⟩
  rcases h.2 with ⟨rfl, h0⟩ | ⟨g, cap, cur, rfl, h1, h2⟩
  · exact .inl ⟨rfl, h0⟩
  · exact .inr ⟨g, cap, cur, rfl, by omega, h2⟩
theorem bldEn (e : Ent) (W : World) : (Instr.buildSlice 24 1 #[(0, .agg e.cells)]).run Try.prog W = .ok (.slice (some ⟨W.heap.size, 0, none⟩) 1 1) (W.alloc (.cells e.cells 40)) := by kernel_rfl
/-- A slice of a slice of bytes. -/
theorem SrcAt.sub {w : World} {k : IntKind} {b off n : Nat} {src : Nat → Int} (h : SrcAt w k (some ⟨b, off, none⟩) n src) {i m : Nat} (hm : i + m ≤ n) : SrcAt w k (some ⟨b, off + i, none⟩) m (fun j => src (i + j)) := fun hl => by
  obtain ⟨b', off', hs, hc⟩ := h (by omega)
  injection hs with hs
  injection hs with h1 h2
  subst h1 h2
  exact ⟨b, off + i, rfl, fun j hj => by rw [Nat.add_assoc]; exact hc (i + j) (by omega)⟩
end Go.Proofs.Ytnaoaeapffgojaa
