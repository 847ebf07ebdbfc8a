/- Ids that are gathered by append. No function of the program is walked here. -/
import Derived.Test.YtnaoaeapffgojaaCopC
import Derived.Laws.AppendOwnNone
import Derived.Maps.AppendAt
namespace Go.Proofs.Ytnaoaeapffgojaa
open Go.RowKit

abbrev idC (f : Nat → Int) : List Value := (arr .u8 32 f).toList
theorem idC_len (f : Nat → Int) : (idC f).length = 32 := by rw [idC, Array.length_toList, arr_size]
theorem flat_length (xs : List (Nat → Int)) : (xs.flatMap idC).length = xs.length * 32 := by
  induction xs with
  | nil => rfl
  | cons a r ih => rw [List.flatMap_cons, List.length_append, ih, idC_len, List.length_cons, Nat.add_mul]; omega
theorem flat_at : ∀ (xs : List (Nat → Int)) (i j : Nat) (x : Nat → Int), xs[i]? = some x → j < 32 → (xs.flatMap idC)[i * 32 + j]? = (idC x)[j]?
  | [], i, j, x, h, _ => by simp at h
  | a :: r, 0, j, x, h, hj => by
    have h' : a = x := by simpa using h
    subst h'
    rw [List.flatMap_cons, Nat.zero_mul, Nat.zero_add, List.getElem?_append_left (by rw [idC_len]; exact hj)]
  | a :: r, i + 1, j, x, h, hj => by
    have h' : r[i]? = some x := by simpa using h
    rw [List.flatMap_cons, List.getElem?_append_right (by rw [idC_len, Nat.add_mul]; omega), idC_len, show (i + 1) * 32 + j - 32 = i * 32 + j by rw [Nat.add_mul]; omega]
    exact flat_at r i j x h' hj
/-- A slice of Ids that the call owns. -/
def OwnI (B : Nat) (w : World) (v : Value) (xs : List (Nat → Int)) : Prop := w.ownsRow B 26 32 v xs.length (xs.flatMap idC)
theorem ownI_nil (B : Nat) (w : World) : OwnI B w (.slice none 0 0) [] := ⟨rfl, .inl ⟨rfl, rfl⟩⟩
theorem OwnI.rows {B : Nat} {w : World} {v : Value} {xs : List (Nat → Int)} (h : OwnI B w v xs) : ∃ sp cap, v = .slice sp xs.length cap ∧ RowsAt w 32 (arr .u8 32) sp xs ∧ (sp = none → xs.length = 0 ∧ cap = 0) := by
  rcases h.2 with ⟨rfl, h0⟩ | ⟨g, cap, cur, rfl, h1, h2, h3, h4, h5, h6⟩
  · exact ⟨none, 0, by rw [h0], fun hl => by omega, fun _ => ⟨h0, rfl⟩⟩
  · refine ⟨_, cap, rfl, fun _ => ⟨g, 0, rfl, fun i x hx j u hu => ?_⟩, fun hq => by cases hq⟩
    have hi : i < xs.length := (List.getElem?_eq_some_iff.1 hx).1
    have hj : j < 32 := by have := (Array.getElem?_eq_some_iff.1 hu).1; rwa [arr_size] at this
    rw [Nat.zero_add, cell_of_row _ _ _ _ _ _ h2, ← Array.getElem?_toList]
    have : (cur.toList.take (xs.length * 32))[i * 32 + j]? = (xs.flatMap idC)[i * 32 + j]? := by rw [h6]
    rw [List.getElem?_take, if_pos (by omega), flat_at xs i j x hx hj, Array.getElem?_toList, Array.getElem?_toList, hu] at this
    rw [Array.getElem?_toList]
    exact this
theorem OwnI.keep {B : Nat} {w w' : World} {v : Value} {xs : List (Nat → Int)} (h : OwnI B w v xs) (hh : ∀ k, v.ownBlock = some k → w'.heap[k]? = w.heap[k]?) : OwnI B w' v xs := by
  refine ⟨h.1, ?_⟩
  rcases h.2 with ⟨rfl, h0⟩ | ⟨g, cap, cur, rfl, h1, h2, h3⟩
  · exact .inl ⟨rfl, h0⟩
  · exact .inr ⟨g, cap, cur, rfl, h1, (hh g rfl).trans h2, h3⟩
theorem OwnI.lt {B : Nat} {w : World} {v : Value} {xs : List (Nat → Int)} (h : OwnI B w v xs) {k : Nat} (hk : v.ownBlock = some k) : B ≤ k ∧ k < w.heap.size := World.ownsRow.lt h k hk
theorem OwnI.below {B : Nat} {w w' : World} {v : Value} {xs : List (Nat → Int)} (h : OwnI B w v xs) (hb : Below w.heap.size w w') : OwnI B w' v xs := h.keep fun _ hk => hb.block _ (h.lt hk).2
theorem rows_news {w : World} {b off : Nat} {ys : List (Nat → Int)} (hr : RowsAt w 32 (arr .u8 32) (some ⟨b, off, none⟩) ys) : ∀ j u, (ys.flatMap idC)[j]? = some u → w.cell? ((⟨b, off, none⟩ : Addr).add j) = some u := fun j u hu => by
  have hj : j < ys.length * 32 := by
    by_cases hj : j < ys.length * 32
    · exact hj
    · rw [List.getElem?_eq_none (by rw [flat_length]; omega)] at hu; cases hu
  have hi : j / 32 < ys.length := by omega
  have hx : ys[j / 32]? = some (ys[j / 32]'hi) := List.getElem?_eq_getElem hi
  have e : j / 32 * 32 + j % 32 = j := by omega
  have h1 := flat_at ys (j / 32) (j % 32) _ hx (by omega)
  rw [e, hu] at h1
  obtain ⟨b', off', hs, hc⟩ := hr (by omega)
  injection hs with hs
  injection hs with hs1 hs2
  subst hs1 hs2
  have h2 := hc _ _ hx (j % 32) u (by rw [← Array.getElem?_toList]; exact h1.symm)
  rw [Addr.add_mid, show off + j = off + j / 32 * 32 + j % 32 by omega]
  exact h2
theorem one_rows {w : World} {g : Nat} {f : Nat → Int} {t : TypeId} {fr : Nat × Nat} (h : w.heap[g]? = some (.cells (arr .u8 32 f) t fr)) : RowsAt w 32 (arr .u8 32) (some ⟨g, 0, none⟩) [f] := fun _ => by
  refine ⟨g, 0, rfl, fun i x hx j u hu => ?_⟩
  have hi : i = 0 := by have := (List.getElem?_eq_some_iff.1 hx).1; simp at this; omega
  subst hi
  have hx' : f = x := by simpa using hx
  subst hx'
  rw [Nat.zero_mul, Nat.zero_add]
  exact (cell_of_row _ _ _ _ _ _ h).trans hu
theorem info_id : (Try.prog.info? 26).map (fun i => (i.zero, i.size, i.bytes)) = some (some (.agg (arr .u8 32 fun _ => 0)), 32, 32) := by kernel_rfl
/-- What an append of Ids leaves. -/
theorem ids_run {B : Nat} {w : World} {v : Value} {xs ys : List (Nat → Int)} {sp : Option Addr} {cap : Nat} (ty : TypeId) (hown : OwnI B w v xs) (hn : sp = none → ys.length = 0 ∧ cap = 0) (hr : RowsAt w 32 (arr .u8 32) sp ys) (hsp : 0 < ys.length → ∃ b off, sp = some ⟨b, off, none⟩) (hlen : xs.length + ys.length ≤ 100000) (hB : B ≤ w.heap.size) :
    ∃ v' w', (Builtin.append_ #[27, 27] ty #[v, .slice sp ys.length cap]).run Try.prog w = .ok v' w' ∧ OwnI B w' v' (xs ++ ys) ∧ w.grownBy w' v.ownBlock ∧ (v'.ownBlock = v.ownBlock ∨ v'.ownBlock = some w.heap.size) := by
  obtain ⟨i, hi, hz0, hz1, hz2⟩ := info_parts info_id
  cases sp with
  | none =>
    obtain ⟨h1, h2⟩ := hn rfl
    have hy : ys = [] := List.eq_nil_of_length_eq_zero h1
    subst hy h2
    refine ⟨v, w, run_append_owned_none (P := Try.prog) (w := w) B 27 ty 26 i 32 Try.underlying27 hi v xs.length _ hown, by rw [List.append_nil]; exact hown, ⟨rfl, rfl, rfl, Nat.le_refl _, fun _ _ _ => rfl⟩, .inl rfl⟩
  | some a =>
    have hone : ∀ u ∈ ys.flatMap idC, u.oneCell' = true := fun u hu => by
      obtain ⟨y, -, hy⟩ := List.mem_flatMap.1 hu
      have := arr_one .u8 32 y
      rw [Array.all_eq_true_iff_forall_mem] at this
      exact this u (by simpa using hy)
    have hnews : ∀ j u, (ys.flatMap idC)[j]? = some u → w.cell? (a.add j) = some u := by
      by_cases h0 : 0 < ys.length
      · obtain ⟨b, off, hs⟩ := hsp h0
        injection hs with hs
        subst hs
        exact rows_news hr
      · have hy : ys = [] := List.eq_nil_of_length_eq_zero (by omega)
        subst hy
        intro j u hu
        simp at hu
    obtain ⟨v', w', q1, q2, q3, -, q5⟩ := run_append_own_at (P := Try.prog) (w := w) B 27 ty 26 i (.agg (arr .u8 32 fun _ => 0)) 32 32 Try.underlying27 hi hz0 hz1 hz2 (arr_size .u8 32 fun _ => 0) (by omega) v xs.length _ hown a ys.length cap (ys.flatMap idC) (flat_length ys) hnews hone (by unfold maxLen; omega) (by omega) hB
    refine ⟨v', w', q1, ?_, q3, q5⟩
    unfold OwnI
    rw [List.length_append, List.flatMap_append]
    exact q2
theorem ids_append {w : World} {ops : Array Oper} {rest : List Oper} {o : Oper} {a : Act} {Q : Exit → Act → World → Prop} (hgd : o.guard = none) (s x : Operand)
    (ho : o.op = .call { callee := .builtin .append, args := #[s, x], argTypes := #[27, 27] }) (B : Nat) (v : Value) (xs : List (Nat → Int)) (hs : a.eval s = v) (hown : OwnI B w v xs)
    (sp : Option Addr) (cap : Nat) (ys : List (Nat → Int)) (hx : a.eval x = .slice sp ys.length cap) (hn : sp = none → ys.length = 0 ∧ cap = 0) (hr : RowsAt w 32 (arr .u8 32) sp ys) (hsp : 0 < ys.length → ∃ b off, sp = some ⟨b, off, none⟩) (hlen : xs.length + ys.length ≤ 100000) (hB : B ≤ w.heap.size)
    (h : ∀ v' w', OwnI B w' v' (xs ++ ys) → w.grownBy w' v.ownBlock → (v'.ownBlock = v.ownBlock ∨ v'.ownBlock = some w.heap.size) → wpList Try.prog ops Q rest (a.put o.dst v') w') : wpList Try.prog ops Q (o :: rest) a w := by
  obtain ⟨v', w', q1, q2, q3, q4⟩ := ids_run (xs := xs) o.type hown hn hr hsp hlen hB
  refine wpList_plain hgd fun _ hK => op_append s x 27 ho hs hx q1 (hK _ _ (h v' w' q2 q3 q4))
theorem bld1 (f : Nat → Int) (W : World) : (Instr.buildSlice 27 1 #[(0, .agg (arr .u8 32 f))]).run Try.prog W = .ok (.slice (some ⟨W.heap.size, 0, none⟩) 1 1) (W.alloc (.cells (arr .u8 32 f) 26)) := by kernel_rfl
theorem wpList_buildS {P : Program} {ops : Array Oper} {Q : Exit → Act → World → Prop} {a : Act} {w w' : World} {rest : List Oper} {o : Oper} (hgd : o.guard = none) (ty : TypeId) (x : Operand) (ho : o.op = .buildSlice ty 1 #[(0, x)]) (u : Value) (hx : a.eval x = u) (v : Value)
    (hr : (Instr.buildSlice ty 1 #[(0, u)]).run P w = .ok v w') (h : wpList P ops Q rest (a.put o.dst v) w') : wpList P ops Q (o :: rest) a w :=
  wpList_plain hgd fun _ hK => by
    unfold Oper.wp execOp
    simp only [ho, Sem.run_bind, Sem.run_pure, Result.andThen_ok, List.map_toArray, List.map_cons, List.map_nil, hx, hr]
    exact hK _ _ h
theorem OwnI.grown {B C : Nat} {w W W' : World} {v : Value} {xs : List (Nat → Int)} (hv : OwnI B W v xs) (hC : C ≤ B) (hB : C ≤ W.heap.size) (fW : Below C w W) (hg : W.grownBy W' v.ownBlock) : Below C w W' := by
  refine ⟨hg.os.trans fW.os, hg.tape.trans fW.tape, hg.output.trans fW.output, Nat.le_trans fW.size hg.size, fun k hk => ?_⟩
  rw [hg.block k (by omega) (fun e => ?_)]
  · exact fW.block k hk
  · have := (hv.lt e.symm).1
    omega
theorem OwnI.mono {B C : Nat} {w : World} {v : Value} {xs : List (Nat → Int)} (h : OwnI B w v xs) (hC : C ≤ B) : OwnI C w v xs := by
  refine ⟨h.1, ?_⟩
  rcases h.2 with ⟨rfl, h0⟩ | ⟨g, cap, cur, rfl, h1, h2⟩
  · exact .inl ⟨rfl, h0⟩
  · exact .inr ⟨g, cap, cur, rfl, by omega, h2⟩
end Go.Proofs.Ytnaoaeapffgojaa
