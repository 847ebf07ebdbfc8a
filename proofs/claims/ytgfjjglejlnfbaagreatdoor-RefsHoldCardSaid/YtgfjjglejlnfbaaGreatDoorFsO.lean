/- Branches that are gathered by append. No function of the program is walked here. -/
import Derived.Test.YtgfjjglejlnfbaaGreatDoorFsM
import Derived.Deep.Upon
import Derived.Deep.AppendSrc
namespace Go.Proofs.YtgfjjglejlnfbaaGreatDoor
open Go.RowKit

theorem infoR : (Tryz.prog.info? 92).map (fun i => (i.zero, i.size, i.bytes)) = some (some (.agg (Re.cells ⟨⟨#[]⟩, noId⟩)), 33, 48) := by kernel_rfl
theorem op_append {P : Program} {Q : Exit → Act → World → Prop} {K : Act → World → Prop} {a : Act} {w w' : World} {o : Oper} {v' vs vx : Value} (s x : Operand) (t : TypeId) (ho : o.op = .call { callee := .builtin .append, args := #[s, x], argTypes := #[t, t] }) (hs : a.eval s = vs) (hx : a.eval x = vx)
    (hr : (Builtin.append_ #[t, t] o.type #[vs, vx]).run P w = .ok v' w') (h : K (a.put o.dst v') w') : o.wp P a w K Q := by
  unfold Oper.wp execOp
  simp only [ho, resolve, invoke, builtin, Sem.run_bind, Sem.run_pure, Result.andThen_ok, List.map_toArray, List.map_cons, List.map_nil, hs, hx, hr]
  exact h
abbrev reC (e : Re) : List Value := e.cells.toList
theorem reC_len (e : Re) : (reC e).length = 33 := by rw [reC, Array.length_toList, Re.size]
theorem flatR_length (xs : List Re) : (xs.flatMap reC).length = xs.length * 33 := by
  induction xs with
  | nil => rfl
  | cons a r ih => rw [List.flatMap_cons, List.length_append, ih, reC_len, List.length_cons, Nat.add_mul]; omega
theorem flatR_at : ∀ (xs : List Re) (i j : Nat) (x : Re), xs[i]? = some x → j < 33 → (xs.flatMap reC)[i * 33 + j]? = (reC x)[j]?
  | [], i, j, x, h, _ => by simp at h
  | a :: r, 0, j, x, h, hj => by
    have h' : a = x := by simpa using h
    subst h'
    rw [List.flatMap_cons, Nat.zero_mul, Nat.zero_add, List.getElem?_append_left (by rw [reC_len]; exact hj)]
  | a :: r, i + 1, j, x, h, hj => by
    have h' : r[i]? = some x := by simpa using h
    rw [List.flatMap_cons, List.getElem?_append_right (by rw [reC_len, Nat.add_mul]; omega), reC_len, show (i + 1) * 33 + j - 33 = i * 33 + j by rw [Nat.add_mul]; omega]
    exact flatR_at r i j x h' hj
/-- A slice of entries that the call owns. -/
def OwnR (B : Nat) (w : World) (v : Value) (xs : List Re) : Prop := w.ownsRow B 92 33 v xs.length (xs.flatMap reC)
theorem ownR_nil (B : Nat) (w : World) : OwnR B w (.slice none 0 0) [] := ⟨rfl, .inl ⟨rfl, rfl⟩⟩
theorem OwnR.rows {B : Nat} {w : World} {v : Value} {xs : List Re} (h : OwnR B w v xs) : ∃ sp cap, v = .slice sp xs.length cap ∧ RowsAt w 33 Re.cells sp xs ∧ (sp = none → xs.length = 0 ∧ cap = 0) := by
  rcases h.2 with ⟨rfl, h0⟩ | ⟨g, cap, cur, rfl, h1, h2, h3, h4, h5, h6⟩
  · exact ⟨none, 0, by rw [h0], fun hl => by omega, fun _ => ⟨h0, rfl⟩⟩
  · refine ⟨_, cap, rfl, fun _ => ⟨g, 0, rfl, fun i x hx j u hu => ?_⟩, fun hq => by cases hq⟩
    have hi : i < xs.length := (List.getElem?_eq_some_iff.1 hx).1
    have hj : j < 33 := by have := (Array.getElem?_eq_some_iff.1 hu).1; rwa [Re.size] at this
    rw [Nat.zero_add, cell_of_row _ _ _ _ _ _ h2, ← Array.getElem?_toList]
    have : (cur.toList.take (xs.length * 33))[i * 33 + j]? = (xs.flatMap reC)[i * 33 + j]? := by rw [h6]
    rw [List.getElem?_take, if_pos (by omega), flatR_at xs i j x hx hj, Array.getElem?_toList, Array.getElem?_toList, hu] at this
    rw [Array.getElem?_toList]
    exact this
theorem OwnR.keep {B : Nat} {w w' : World} {v : Value} {xs : List Re} (h : OwnR B w v xs) (hh : ∀ k, v.ownBlock = some k → w'.heap[k]? = w.heap[k]?) : OwnR B w' v xs := by
  refine ⟨h.1, ?_⟩
  rcases h.2 with ⟨rfl, h0⟩ | ⟨g, cap, cur, rfl, h1, h2, h3⟩
  · exact .inl ⟨rfl, h0⟩
  · exact .inr ⟨g, cap, cur, rfl, h1, (hh g rfl).trans h2, h3⟩
theorem OwnR.lt {B : Nat} {w : World} {v : Value} {xs : List Re} (h : OwnR B w v xs) {k : Nat} (hk : v.ownBlock = some k) : B ≤ k ∧ k < w.heap.size := World.ownsRow.lt h k hk
theorem OwnR.below {B : Nat} {w w' : World} {v : Value} {xs : List Re} (h : OwnR B w v xs) (hb : Below w.heap.size w w') : OwnR B w' v xs := h.keep fun _ hk => hb.block _ (h.lt hk).2
theorem rowsR_news {w : World} {b off : Nat} {ys : List Re} (hr : RowsAt w 33 Re.cells (some ⟨b, off, none⟩) ys) : ∀ j u, (ys.flatMap reC)[j]? = some u → w.cell? ((⟨b, off, none⟩ : Addr).add j) = some u := fun j u hu => by
  have hj : j < ys.length * 33 := by
    by_cases hj : j < ys.length * 33
    · exact hj
    · rw [List.getElem?_eq_none (by rw [flatR_length]; omega)] at hu; cases hu
  have hi : j / 33 < ys.length := by omega
  have hx : ys[j / 33]? = some (ys[j / 33]'hi) := List.getElem?_eq_getElem hi
  have e : j / 33 * 33 + j % 33 = j := by omega
  have h1 := flatR_at ys (j / 33) (j % 33) _ hx (by omega)
  rw [e, hu] at h1
  obtain ⟨b', off', hs, hc⟩ := hr (by omega)
  injection hs with hs
  injection hs with hs1 hs2
  subst hs1 hs2
  have h2 := hc _ _ hx (j % 33) u (by rw [← Array.getElem?_toList]; exact h1.symm)
  rw [Addr.add_mid, show off + j = off + j / 33 * 33 + j % 33 by omega]
  exact h2
theorem oneR_rows {w : World} {g : Nat} {f : Re} {t : TypeId} {fr : Nat × Nat} (h : w.heap[g]? = some (.cells f.cells t fr)) : RowsAt w 33 Re.cells (some ⟨g, 0, none⟩) [f] := fun _ => by
  refine ⟨g, 0, rfl, fun i x hx j u hu => ?_⟩
  have hi : i = 0 := by have := (List.getElem?_eq_some_iff.1 hx).1; simp at this; omega
  subst hi
  have hx' : f = x := by simpa using hx
  subst hx'
  rw [Nat.zero_mul, Nat.zero_add]
  exact (cell_of_row _ _ _ _ _ _ h).trans hu
/-- What an append of entries leaves. -/
theorem refs_run {B : Nat} {w : World} {v : Value} {xs ys : List Re} {sp : Option Addr} {cap : Nat} (ty : TypeId) (hown : OwnR B w v xs) (hn : sp = none → ys.length = 0 ∧ cap = 0) (hr : RowsAt w 33 Re.cells sp ys) (hsp : 0 < ys.length → ∃ b off, sp = some ⟨b, off, none⟩) (hlen : xs.length + ys.length ≤ 100000) (hB : B ≤ w.heap.size) :
    ∃ v' w', (Builtin.append_ #[22, 22] ty #[v, .slice sp ys.length cap]).run Tryz.prog w = .ok v' w' ∧ OwnR B w' v' (xs ++ ys) ∧ w.grownBy w' v.ownBlock ∧ (v'.ownBlock = v.ownBlock ∨ v'.ownBlock = some w.heap.size) := by
  obtain ⟨i, hi, hz0, hz1, hz2⟩ := info_parts infoR
  cases sp with
  | none =>
    obtain ⟨h1, h2⟩ := hn rfl
    have hy : ys = [] := List.eq_nil_of_length_eq_zero h1
    subst hy h2
    refine ⟨v, w, run_append_owned_none (P := Tryz.prog) (w := w) B 22 ty 92 i 33 Tryz.underlying22 hi v xs.length _ hown, by rw [List.append_nil]; exact hown, ⟨rfl, rfl, rfl, Nat.le_refl _, fun _ _ _ => rfl⟩, .inl rfl⟩
  | some a =>
    have hone : ∀ u ∈ ys.flatMap reC, u.oneCell' = true := fun u hu => by
      obtain ⟨y, -, hy⟩ := List.mem_flatMap.1 hu
      have := re_one y
      rw [Array.all_eq_true_iff_forall_mem] at this
      exact this u (by simpa using hy)
    have hnews : ∀ j u, (ys.flatMap reC)[j]? = some u → w.cell? (a.add j) = some u := by
      by_cases h0 : 0 < ys.length
      · obtain ⟨b, off, hs⟩ := hsp h0
        injection hs with hs
        subst hs
        exact rowsR_news hr
      · have hy : ys = [] := List.eq_nil_of_length_eq_zero (by omega)
        subst hy
        intro j u hu
        simp at hu
    obtain ⟨v', w', q1, q2, q3, -, q5⟩ := run_append_own_at (P := Tryz.prog) (w := w) B 22 ty 92 i (.agg (Re.cells ⟨⟨#[]⟩, noId⟩)) 33 48 Tryz.underlying22 hi hz0 hz1 hz2 (Re.size _) (by omega) v xs.length _ hown a ys.length cap (ys.flatMap reC) (flatR_length ys) hnews hone (by unfold maxLen; omega) (by omega) hB
    refine ⟨v', w', q1, ?_, q3, q5⟩
    unfold OwnR
    rw [List.length_append, List.flatMap_append]
    exact q2
theorem refs_append {w : World} {ops : Array Oper} {rest : List Oper} {o : Oper} {a : Act} {Q : Exit → Act → World → Prop} (hgd : o.guard = none) (s x : Operand)
    (ho : o.op = .call { callee := .builtin .append, args := #[s, x], argTypes := #[22, 22] }) (B : Nat) (v : Value) (xs : List Re) (hs : a.eval s = v) (hown : OwnR B w v xs)
    (sp : Option Addr) (cap : Nat) (ys : List Re) (hx : a.eval x = .slice sp ys.length cap) (hn : sp = none → ys.length = 0 ∧ cap = 0) (hr : RowsAt w 33 Re.cells sp ys) (hsp : 0 < ys.length → ∃ b off, sp = some ⟨b, off, none⟩) (hlen : xs.length + ys.length ≤ 100000) (hB : B ≤ w.heap.size)
    (h : ∀ v' w', OwnR B w' v' (xs ++ ys) → w.grownBy w' v.ownBlock → (v'.ownBlock = v.ownBlock ∨ v'.ownBlock = some w.heap.size) → wpList Tryz.prog ops Q rest (a.put o.dst v') w') : wpList Tryz.prog ops Q (o :: rest) a w := by
  obtain ⟨v', w', q1, q2, q3, q4⟩ := refs_run (xs := xs) o.type hown hn hr hsp hlen hB
  refine wpList_plain hgd fun _ hK => op_append s x 22 ho hs hx q1 (hK _ _ (h v' w' q2 q3 q4))
theorem OwnR.grown {B C : Nat} {w W W' : World} {v : Value} {xs : List Re} (hv : OwnR B W v xs) (hC : C ≤ B) (hB : C ≤ W.heap.size) (fW : Below C w W) (hg : W.grownBy W' v.ownBlock) : Below C w W' := by
  refine ⟨hg.os.trans fW.os, hg.tape.trans fW.tape, hg.output.trans fW.output, Nat.le_trans fW.size hg.size, fun k hk => ?_⟩
  rw [hg.block k (by omega) (fun e => ?_)]
  · exact fW.block k hk
  · have := (hv.lt e.symm).1
    omega
theorem OwnR.mono {B C : Nat} {w : World} {v : Value} {xs : List Re} (h : OwnR B w v xs) (hC : C ≤ B) : OwnR C w v xs := by
  refine ⟨h.1, ?_⟩
  rcases h.2 with ⟨rfl, h0⟩ | ⟨g, cap, cur, rfl, h1, h2⟩
  · exact .inl ⟨rfl, h0⟩
  · exact .inr ⟨g, cap, cur, rfl, by omega, h2⟩
theorem bldRe (e : Re) (W : World) : (Instr.buildSlice 22 1 #[(0, .agg e.cells)]).run Tryz.prog W = .ok (.slice (some ⟨W.heap.size, 0, none⟩) 1 1) (W.alloc (.cells e.cells 92)) := by kernel_rfl
end Go.Proofs.YtgfjjglejlnfbaaGreatDoor
