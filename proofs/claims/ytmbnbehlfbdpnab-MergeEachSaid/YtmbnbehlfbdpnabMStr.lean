/- Texts that are gathered by append, sorted, and each left once. -/
import Derived.Test.YtmbnbehlfbdpnabTCon
import Derived.Test.YtmbnbehlfbdpnabShelf
import Derived.Sort.OwnSorted
namespace Go.Proofs.Ytmbnbehlfbdpnab
open Go.RowKit Go.Sort

theorem infoS : (Try.prog.info? 9).map (fun i => (i.zero, i.size, i.bytes)) = some (some (.string ⟨#[]⟩), 1, 16) := by kernel_rfl
/-- A slice of texts that the call owns. -/
def OwnS (B : Nat) (w : World) (v : Value) (ss : List (List UInt8)) : Prop := w.ownsRow B 9 1 v ss.length (ss.map encStr)
theorem ownS_nil (B : Nat) (w : World) : OwnS B w (.slice none 0 0) [] := ⟨rfl, .inl ⟨rfl, rfl⟩⟩
theorem OwnS.keep {B : Nat} {w w' : World} {v : Value} {xs : List (List UInt8)} (h : OwnS B w v xs) (hh : ∀ k, v.ownBlock = some k → w'.heap[k]? = w.heap[k]?) : OwnS B w' v xs := by
  refine ⟨h.1, ?_⟩
  rcases h.2 with ⟨rfl, h0⟩ | ⟨g, cap, cur, rfl, h1, h2, h3⟩
  · exact .inl ⟨rfl, h0⟩
  · exact .inr ⟨g, cap, cur, rfl, h1, (hh g rfl).trans h2, h3⟩
theorem OwnS.lt {B : Nat} {w : World} {v : Value} {xs : List (List UInt8)} (h : OwnS B w v xs) {k : Nat} (hk : v.ownBlock = some k) : B ≤ k ∧ k < w.heap.size := World.ownsRow.lt h k hk
theorem OwnS.below {B : Nat} {w w' : World} {v : Value} {xs : List (List UInt8)} (h : OwnS B w v xs) (hb : Below w.heap.size w w') : OwnS B w' v xs := h.keep fun _ hk => hb.block _ (h.lt hk).2
theorem OwnS.grown {B C : Nat} {w W W' : World} {v : Value} {xs : List (List UInt8)} (hv : OwnS B W v xs) (hC : C ≤ B) (hB : C ≤ W.heap.size) (fW : Below C w W) (hg : W.grownBy W' v.ownBlock) : Below C w W' := by
  refine ⟨hg.os.trans fW.os, hg.tape.trans fW.tape, hg.output.trans fW.output, Nat.le_trans fW.size hg.size, fun k hk => ?_⟩
  rw [hg.block k (by omega) (fun e => ?_)]
  · exact fW.block k hk
  · have := (hv.lt e.symm).1
    omega
theorem OwnS.row {B : Nat} {w : World} {v : Value} {xs : List (List UInt8)} (h : OwnS B w v xs) {k : Nat} (hk : v.ownBlock = some k) : ∃ cs, w.heap[k]? = some (.cells cs 9 (0, 0)) := by
  rcases h.2 with ⟨rfl, h0⟩ | ⟨g, cap, cur, rfl, h1, h2, h3⟩
  · cases hk
  · cases hk
    exact ⟨cur, h2⟩
theorem OwnS.shape {B : Nat} {w : World} {v : Value} {xs : List (List UInt8)} (h : OwnS B w v xs) : ∃ sp cap, v = .slice sp xs.length cap ∧ ∀ i x, xs[i]? = some x → ∃ b, sp = some ⟨b, 0, none⟩ ∧ w.cell? ⟨b, i, none⟩ = some (.string ⟨x.toArray⟩) := by
  rcases h.2 with ⟨rfl, h0⟩ | ⟨g, cap, cur, rfl, h1, h2, h3, h4, h5, h6⟩
  · refine ⟨none, 0, by rw [h0], fun i x hx => ?_⟩
    have := (List.getElem?_eq_some_iff.1 hx).1
    omega
  · refine ⟨_, cap, rfl, fun i x hx => ⟨g, rfl, ?_⟩⟩
    have hi : i < xs.length := (List.getElem?_eq_some_iff.1 hx).1
    rw [cell_of_row _ _ _ _ _ _ h2, ← Array.getElem?_toList]
    have : (cur.toList.take (xs.length * 1))[i]? = (xs.map encStr)[i]? := by rw [h6]
    rw [List.getElem?_take, if_pos (by omega), List.getElem?_map, hx] at this
    exact this
/-- A text appended. -/
theorem text_run {B : Nat} {w : World} {v : Value} {xs : List (List UInt8)} {g : Nat} {s : ByteArray} {t : TypeId} (ty : TypeId) (hown : OwnS B w v xs) (hg : w.heap[g]? = some (.cells #[.string s] t (0, 0))) (hlen : xs.length + 1 ≤ 100000) (hB : B ≤ w.heap.size) :
    ∃ v' w', (Builtin.append_ #[33, 33] ty #[v, .slice (some ⟨g, 0, none⟩) 1 1]).run Try.prog w = .ok v' w' ∧ OwnS B w' v' (xs ++ [s.data.toList]) ∧ w.grownBy w' v.ownBlock := by
  obtain ⟨i, hi, hz0, hz1, hz2⟩ := info_parts infoS
  obtain ⟨v', w', q1, q2, q3, -, q5⟩ := run_append_own_at (P := Try.prog) (w := w) B 33 ty 9 i _ 1 16 Try.underlying33 hi hz0 hz1 hz2 rfl (by omega) v xs.length _ hown ⟨g, 0, none⟩ 1 1 [.string s] rfl (fun j u hu => by
    have hj : j = 0 := by have := (List.getElem?_eq_some_iff.1 hu).1; simpa using this
    subst hj
    have : Value.string s = u := by simpa using hu
    subst this
    exact (cell_of_row _ _ _ _ _ _ hg).trans rfl) (fun u hu => by
    have : u = .string s := by simpa using hu
    subst this
    rfl) (by unfold maxLen; omega) (by omega) hB
  refine ⟨v', w', q1, ?_, q3⟩
  unfold OwnS
  rw [List.length_append, List.map_append]
  have e : ([s.data.toList].map encStr) = [Value.string s] := by simp [encStr]
  rw [e]
  exact q2
/-- Sorted. -/
def sortS (ss : List (List UInt8)) : List (List UInt8) := ss.mergeSort fun x y => decide (x ≤ y)
theorem sort_own {B : Nat} {w : World} {v : Value} {ss : List (List UInt8)} (h : OwnS B w v ss) (hl : ss.length ≤ 100000) :
    Calls Try.prog 22 #[v] w fun e w' => e = .returned (.tuple #[]) ∧ OwnS B w' v (sortS ss) ∧ w.grownBy w' v.ownBlock := by
  have hlen : (sortS ss).length = ss.length := by unfold sortS; simp
  rcases h.2 with ⟨rfl, h0⟩ | ⟨g, cap, cur, rfl, h1, h2, h3, h4, h5, h6⟩
  · have e : ss = [] := List.eq_nil_of_length_eq_zero h0
    subst e
    refine (Try.slices_Sort_string_none none 0 w).mono ?_
    rintro e w' ⟨rfl, rfl⟩
    exact ⟨rfl, by unfold sortS; simpa using ownS_nil _ _, ⟨rfl, rfl, rfl, Nat.le_refl _, fun _ _ _ => rfl⟩⟩
  · refine (Try.slices_Sort_string g 0 cap ss w (holds_of_block h2 (by simpa using h6)) (lt_of_row h2) (by omega)).mono ?_
    rintro e w' ⟨rfl, n, os, rfl⟩
    refine ⟨rfl, ?_, grownBy_sorted _⟩
    have := ownsRow_sorted (base := B) (n := n) (os := os) (ts := sortS ss) hlen h1 h2 h3 h4 h5
    unfold OwnS
    rw [hlen]
    exact this
/-- Each left once. -/
theorem compact_le (ss : List (List UInt8)) : (Lib.compact ss).length ≤ ss.length := by
  unfold Lib.compact Lib.compactUpTo
  rw [List.length_map]
  exact Nat.le_trans (List.length_filter_le _ _) (by simp)
theorem compact_own {B : Nat} {w : World} {v : Value} {ss : List (List UInt8)} (h : OwnS B w v ss) (hl : ss.length ≤ 100000) :
    Calls Try.prog 23 #[v] w fun e w' => ∃ v', e = .returned v' ∧ OwnS B w' v' (Lib.compact ss) ∧ w.grownBy w' v.ownBlock := by
  have hle := compact_le ss
  rcases h.2 with ⟨rfl, h0⟩ | ⟨g, cap, cur, rfl, h1, h2, h3, h4, h5, h6⟩
  · have e : ss = [] := List.eq_nil_of_length_eq_zero h0
    subst e
    refine (Try.slices_Compact_string_empty none 0 w).mono ?_
    rintro e w' ⟨rfl, rfl⟩
    exact ⟨_, rfl, ownS_nil _ _, ⟨rfl, rfl, rfl, Nat.le_refl _, fun _ _ _ => rfl⟩⟩
  · refine (Try.slices_Compact_string g 0 cap ss w (holds_of_block h2 (by simpa using h6)) (by omega) h3).mono ?_
    rintro e w' ⟨rfl, q, rfl⟩
    have hgr := grownBy_sorted (w := w) (g := g) (n := q) (os := #[]) (Lib.compact ss ++ List.replicate (ss.length - (Lib.compact ss).length) []).toArray
    have hb := heap_sorted (w := w) (g := g) (n := q) (os := #[]) (Lib.compact ss ++ List.replicate (ss.length - (Lib.compact ss).length) []).toArray h2
    rw [grow_empty] at hgr hb
    refine ⟨_, rfl, ⟨by simp, .inr ⟨g, cap, _, rfl, h1, hb, by omega, h4, by simp [putCells, h5], ?_⟩⟩, hgr⟩
    have ht := take_putCells cur (Lib.compact ss ++ List.replicate (ss.length - (Lib.compact ss).length) []) (by simp; omega)
    have ht2 := congrArg (List.take (Lib.compact ss).length) ht
    rw [List.take_take, List.map_append, List.take_append_of_le_length (by simp), Nat.min_eq_left (by simp)] at ht2
    rw [Nat.mul_one, ht2, List.take_of_length_le (by simp)]
end Go.Proofs.Ytmbnbehlfbdpnab
