/- Branches that are gathered by append. No function of the program is walked here. -/
/- The contract of slices.Grow of no branches. -/
/- The contract of slices.Concat of branches. -/
/- Three slices of branches put together. -/
import Derived.Test.YtgfjjglejlnfbaaGreatDoorFsM
import Derived.Deep.Upon
import Derived.Deep.AppendSrc
import Derived.Deep.RegionWith
namespace Go.Proofs.YtgfjjglejlnfbaaGreatDoor
open Go.RowKit

theorem infoR : (Tryz.prog.info? 92).map (fun i => (i.zero, i.size, i.bytes)) = some (some (.agg (Re.cells ⟨⟨#[]⟩, noId⟩)), 33, 48) := by kernel_rfl
theorem op_append {P : Program} {Q : Exit → Act → World → Prop} {K : Act → World → Prop} {a : Act} {w w' : World} {o : Oper} {v' vs vx : Value} (s x : Operand) (t : TypeId) (ho : o.op = .call { callee := .builtin .append, args := #[s, x], argTypes := #[t, t] }) (hs : a.eval s = vs) (hx : a.eval x = vx)
    (hr : (Builtin.append_ #[t, t] o.type #[vs, vx]).run P w = .ok v' w') (h : K (a.put o.dst v') w') : o.wp P a w K Q := by
  unfold Oper.wp execOp
  simp only [ho, resolve, invoke, builtin, Sem.run_bind, Sem.run_pure, Result.andThen_ok, List.map_toArray, List.map_cons, List.map_nil, hs, hx, hr]
  exact h
abbrev reC (e : Re) : List Value := e.cells.toList
theorem reC_len (e : Re) : (reC e).length = 33 := by rw [reC, Array.length_toList, Re.size]
theorem flatR_length (xs : List Re) : (xs.flatMap reC).length = xs.length * 33 := by
  induction xs with
  | nil => rfl
  | cons a r ih => rw [List.flatMap_cons, List.length_append, ih, reC_len, List.length_cons, Nat.add_mul]; omega
theorem flatR_at : ∀ (xs : List Re) (i j : Nat) (x : Re), xs[i]? = some x → j < 33 → (xs.flatMap reC)[i * 33 + j]? = (reC x)[j]?
  | [], i, j, x, h, _ => by simp at h
  | a :: r, 0, j, x, h, hj => by
    have h' : a = x := by simpa using h
    subst h'
    rw [List.flatMap_cons, Nat.zero_mul, Nat.zero_add, List.getElem?_append_left (by rw [reC_len]; exact hj)]
  | a :: r, i + 1, j, x, h, hj => by
    have h' : r[i]? = some x := by simpa using h
    rw [List.flatMap_cons, List.getElem?_append_right (by rw [reC_len, Nat.add_mul]; omega), reC_len, show (i + 1) * 33 + j - 33 = i * 33 + j by rw [Nat.add_mul]; omega]
    exact flatR_at r i j x h' hj
/-- A slice of entries that the call owns. -/
def OwnR (B : Nat) (w : World) (v : Value) (xs : List Re) : Prop := w.ownsRow B 92 33 v xs.length (xs.flatMap reC)
theorem ownR_nil (B : Nat) (w : World) : OwnR B w (.slice none 0 0) [] := ⟨rfl, .inl ⟨rfl, rfl⟩⟩
theorem OwnR.rows {B : Nat} {w : World} {v : Value} {xs : List Re} (h : OwnR B w v xs) : ∃ sp cap, v = .slice sp xs.length cap ∧ RowsAt w 33 Re.cells sp xs ∧ (sp = none → xs.length = 0 ∧ cap = 0) := by
  rcases h.2 with ⟨rfl, h0⟩ | ⟨g, cap, cur, rfl, h1, h2, h3, h4, h5, h6⟩
  · exact ⟨none, 0, by rw [h0], fun hl => by omega, fun _ => ⟨h0, rfl⟩⟩
  · refine ⟨_, cap, rfl, fun _ => ⟨g, 0, rfl, fun i x hx j u hu => ?_⟩, fun hq => by cases hq⟩
    have hi : i < xs.length := (List.getElem?_eq_some_iff.1 hx).1
    have hj : j < 33 := by have := (Array.getElem?_eq_some_iff.1 hu).1; rwa [Re.size] at this
    rw [Nat.zero_add, cell_of_row _ _ _ _ _ _ h2, ← Array.getElem?_toList]
    have : (cur.toList.take (xs.length * 33))[i * 33 + j]? = (xs.flatMap reC)[i * 33 + j]? := by rw [h6]
    rw [List.getElem?_take, if_pos (by omega), flatR_at xs i j x hx hj, Array.getElem?_toList, Array.getElem?_toList, hu] at this
    rw [Array.getElem?_toList]
    exact this
theorem OwnR.keep {B : Nat} {w w' : World} {v : Value} {xs : List Re} (h : OwnR B w v xs) (hh : ∀ k, v.ownBlock = some k → w'.heap[k]? = w.heap[k]?) : OwnR B w' v xs := by
  refine ⟨h.1, ?_⟩
  rcases h.2 with ⟨rfl, h0⟩ | ⟨g, cap, cur, rfl, h1, h2, h3⟩
  · exact .inl ⟨rfl, h0⟩
  · exact .inr ⟨g, cap, cur, rfl, h1, (hh g rfl).trans h2, h3⟩
theorem OwnR.lt {B : Nat} {w : World} {v : Value} {xs : List Re} (h : OwnR B w v xs) {k : Nat} (hk : v.ownBlock = some k) : B ≤ k ∧ k < w.heap.size := World.ownsRow.lt h k hk
theorem OwnR.below {B : Nat} {w w' : World} {v : Value} {xs : List Re} (h : OwnR B w v xs) (hb : Below w.heap.size w w') : OwnR B w' v xs := h.keep fun _ hk => hb.block _ (h.lt hk).2
theorem rowsR_news {w : World} {b off : Nat} {ys : List Re} (hr : RowsAt w 33 Re.cells (some ⟨b, off, none⟩) ys) : ∀ j u, (ys.flatMap reC)[j]? = some u → w.cell? ((⟨b, off, none⟩ : Addr).add j) = some u := fun j u hu => by
  have hj : j < ys.length * 33 := by
    by_cases hj : j < ys.length * 33
    · exact hj
    · rw [List.getElem?_eq_none (by rw [flatR_length]; omega)] at hu; cases hu
  have hi : j / 33 < ys.length := by omega
  have hx : ys[j / 33]? = some (ys[j / 33]'hi) := List.getElem?_eq_getElem hi
  have e : j / 33 * 33 + j % 33 = j := by omega
  have h1 := flatR_at ys (j / 33) (j % 33) _ hx (by omega)
  rw [e, hu] at h1
  obtain ⟨b', off', hs, hc⟩ := hr (by omega)
  injection hs with hs
  injection hs with hs1 hs2
  subst hs1 hs2
  have h2 := hc _ _ hx (j % 33) u (by rw [← Array.getElem?_toList]; exact h1.symm)
  rw [Addr.add_mid, show off + j = off + j / 33 * 33 + j % 33 by omega]
  exact h2
theorem oneR_rows {w : World} {g : Nat} {f : Re} {t : TypeId} {fr : Nat × Nat} (h : w.heap[g]? = some (.cells f.cells t fr)) : RowsAt w 33 Re.cells (some ⟨g, 0, none⟩) [f] := fun _ => by
  refine ⟨g, 0, rfl, fun i x hx j u hu => ?_⟩
  have hi : i = 0 := by have := (List.getElem?_eq_some_iff.1 hx).1; simp at this; omega
  subst hi
  have hx' : f = x := by simpa using hx
  subst hx'
  rw [Nat.zero_mul, Nat.zero_add]
  exact (cell_of_row _ _ _ _ _ _ h).trans hu
/-- What an append of entries leaves. -/
theorem refs_run {B : Nat} {w : World} {v : Value} {xs ys : List Re} {sp : Option Addr} {cap : Nat} (ty : TypeId) (hown : OwnR B w v xs) (hn : sp = none → ys.length = 0 ∧ cap = 0) (hr : RowsAt w 33 Re.cells sp ys) (hsp : 0 < ys.length → ∃ b off, sp = some ⟨b, off, none⟩) (hlen : xs.length + ys.length ≤ 100000) (hB : B ≤ w.heap.size) :
    ∃ v' w', (Builtin.append_ #[22, 22] ty #[v, .slice sp ys.length cap]).run Tryz.prog w = .ok v' w' ∧ OwnR B w' v' (xs ++ ys) ∧ w.grownBy w' v.ownBlock ∧ (v'.ownBlock = v.ownBlock ∨ v'.ownBlock = some w.heap.size) := by
  obtain ⟨i, hi, hz0, hz1, hz2⟩ := info_parts infoR
  cases sp with
  | none =>
    obtain ⟨h1, h2⟩ := hn rfl
    have hy : ys = [] := List.eq_nil_of_length_eq_zero h1
    subst hy h2
    refine ⟨v, w, run_append_owned_none (P := Tryz.prog) (w := w) B 22 ty 92 i 33 Tryz.underlying22 hi v xs.length _ hown, by rw [List.append_nil]; exact hown, ⟨rfl, rfl, rfl, Nat.le_refl _, fun _ _ _ => rfl⟩, .inl rfl⟩
  | some a =>
    have hone : ∀ u ∈ ys.flatMap reC, u.oneCell' = true := fun u hu => by
      obtain ⟨y, -, hy⟩ := List.mem_flatMap.1 hu
      have := re_one y
      rw [Array.all_eq_true_iff_forall_mem] at this
      exact this u (by simpa using hy)
    have hnews : ∀ j u, (ys.flatMap reC)[j]? = some u → w.cell? (a.add j) = some u := by
      by_cases h0 : 0 < ys.length
      · obtain ⟨b, off, hs⟩ := hsp h0
        injection hs with hs
        subst hs
        exact rowsR_news hr
      · have hy : ys = [] := List.eq_nil_of_length_eq_zero (by omega)
        subst hy
        intro j u hu
        simp at hu
    obtain ⟨v', w', q1, q2, q3, -, q5⟩ := run_append_own_at (P := Tryz.prog) (w := w) B 22 ty 92 i (.agg (Re.cells ⟨⟨#[]⟩, noId⟩)) 33 48 Tryz.underlying22 hi hz0 hz1 hz2 (Re.size _) (by omega) v xs.length _ hown a ys.length cap (ys.flatMap reC) (flatR_length ys) hnews hone (by unfold maxLen; omega) (by omega) hB
    refine ⟨v', w', q1, ?_, q3, q5⟩
    unfold OwnR
    rw [List.length_append, List.flatMap_append]
    exact q2
theorem refs_append {w : World} {ops : Array Oper} {rest : List Oper} {o : Oper} {a : Act} {Q : Exit → Act → World → Prop} (hgd : o.guard = none) (s x : Operand)
    (ho : o.op = .call { callee := .builtin .append, args := #[s, x], argTypes := #[22, 22] }) (B : Nat) (v : Value) (xs : List Re) (hs : a.eval s = v) (hown : OwnR B w v xs)
    (sp : Option Addr) (cap : Nat) (ys : List Re) (hx : a.eval x = .slice sp ys.length cap) (hn : sp = none → ys.length = 0 ∧ cap = 0) (hr : RowsAt w 33 Re.cells sp ys) (hsp : 0 < ys.length → ∃ b off, sp = some ⟨b, off, none⟩) (hlen : xs.length + ys.length ≤ 100000) (hB : B ≤ w.heap.size)
    (h : ∀ v' w', OwnR B w' v' (xs ++ ys) → w.grownBy w' v.ownBlock → (v'.ownBlock = v.ownBlock ∨ v'.ownBlock = some w.heap.size) → wpList Tryz.prog ops Q rest (a.put o.dst v') w') : wpList Tryz.prog ops Q (o :: rest) a w := by
  obtain ⟨v', w', q1, q2, q3, q4⟩ := refs_run (xs := xs) o.type hown hn hr hsp hlen hB
  refine wpList_plain hgd fun _ hK => op_append s x 22 ho hs hx q1 (hK _ _ (h v' w' q2 q3 q4))
theorem OwnR.grown {B C : Nat} {w W W' : World} {v : Value} {xs : List Re} (hv : OwnR B W v xs) (hC : C ≤ B) (hB : C ≤ W.heap.size) (fW : Below C w W) (hg : W.grownBy W' v.ownBlock) : Below C w W' := by
  refine ⟨hg.os.trans fW.os, hg.tape.trans fW.tape, hg.output.trans fW.output, Nat.le_trans fW.size hg.size, fun k hk => ?_⟩
  rw [hg.block k (by omega) (fun e => ?_)]
  · exact fW.block k hk
  · have := (hv.lt e.symm).1
    omega
theorem OwnR.mono {B C : Nat} {w : World} {v : Value} {xs : List Re} (h : OwnR B w v xs) (hC : C ≤ B) : OwnR C w v xs := by
  refine ⟨h.1, ?_⟩
  rcases h.2 with ⟨rfl, h0⟩ | ⟨g, cap, cur, rfl, h1, h2⟩
  · exact .inl ⟨rfl, h0⟩
  · exact .inr ⟨g, cap, cur, rfl, by omega, h2⟩
theorem bldRe (e : Re) (W : World) : (Instr.buildSlice 22 1 #[(0, .agg e.cells)]).run Tryz.prog W = .ok (.slice (some ⟨W.heap.size, 0, none⟩) 1 1) (W.alloc (.cells e.cells 92)) := by kernel_rfl
end Go.Proofs.YtgfjjglejlnfbaaGreatDoor

namespace Go.Proofs.YtgfjjglejlnfbaaGreatDoor
open Go.RowKit

/-- An append of a make to nothing. -/
theorem run_append_make {P : Program} (w : World) (t u ty e : TypeId) (k : IntKind) (i : TypeInfo) (z : Value) (ht : P.underlying t = some (.slice e)) (hu : P.underlying u = some (.int k)) (hi : P.info? e = some i) (hz : i.zero = some z)
    (n : Nat) (h0 : 0 < n) (hs : 0 < i.size) (h63 : (n : Int) ≤ 9223372036854775807) (h48 : n * i.bytes ≤ 281474976710656) :
    (Builtin.append_ #[t, u] ty #[.slice none 0 0, .int .i64 n]).run P w =
      .ok (.slice (some ⟨w.heap.size, 0, none⟩) n (grownCap w n 0 e))
        (w.drew.alloc (.cells (Builtin.zeroCells z.cells n ++ Builtin.zeroCells z.cells (grownCap w n 0 e - n)) e)) := by
  have hn : n ≠ 0 := by omega
  have h63' : ¬ (9223372036854775807 < (n : Int)) := by omega
  have h48' : ¬ (281474976710656 < Builtin.nextslicecap n 0 * i.bytes) := by rw [nextslicecap_zero h0]; omega
  have hw : IntKind.i64.wrap (n : Int) = n := by rw [IntKind.wrap_i64]; omega
  have hneg : ¬ ((n : Int) < 0) := by omega
  have h48i : ¬ (281474976710656 < (n : Int) * (i.bytes : Int)) := by
    rw [← Int.natCast_mul]
    exact Int.not_lt.2 (Int.ofNat_le.2 h48)
  simp [Builtin.append_, run_underlying ht, run_underlying hu, sizeOf, typeInfo, zeroValue, hi, hz, Builtin.firstCells, asInt, asIntOf, hw, hneg, h48i, hn, h63', h48', Question.forced, newRow, grownCap]
  exact fun h => absurd h (Nat.ne_of_gt (Nat.mul_pos h0 hs))

set_option maxRecDepth 100000 in
set_option maxHeartbeats 1000000 in
theorem growR_zero (w : World) :
    Calls Tryz.prog 75 #[.slice none 0 0, .int .i64 0] w fun e w' => e = .returned (.slice none 0 0) ∧ Below w.heap.size w w' := by
  go_enter Tryz.func75, Tryz.ntmps75
  go_wp2
  go_ret
  exact ⟨rfl, Below.refl _ _⟩
theorem op_append2 {P : Program} {Q : Exit → Act → World → Prop} {K : Act → World → Prop} {a : Act} {w w' : World} {o : Oper} {v' vs vx : Value} (s x : Operand) (t u : TypeId) (ho : o.op = .call { callee := .builtin .append, args := #[s, x], argTypes := #[t, u] }) (hs : a.eval s = vs) (hx : a.eval x = vx)
    (hr : (Builtin.append_ #[t, u] o.type #[vs, vx]).run P w = .ok v' w') (h : K (a.put o.dst v') w') : o.wp P a w K Q := by
  unfold Oper.wp execOp
  simp only [ho, resolve, invoke, builtin, Sem.run_bind, Sem.run_pure, Result.andThen_ok, List.map_toArray, List.map_cons, List.map_nil, hs, hx, hr]
  exact h
/-- Room for files where there are none. -/
theorem refs_make {w : World} {ops : Array Oper} {rest : List Oper} {o : Oper} {a : Act} {Q : Exit → Act → World → Prop} (hgd : o.guard = none) (s x : Operand)
    (ho : o.op = .call { callee := .builtin .append, args := #[s, x], argTypes := #[22, 3] }) (n : Nat) (hs : a.eval s = .slice none 0 0) (hx : a.eval x = .int .i64 n) (h0 : 0 < n) (hn : n ≤ 100000)
    (h : ∀ cap w', n ≤ cap → Below w.heap.size w w' → OwnR w.heap.size w' (.slice (some ⟨w.heap.size, 0, none⟩) 0 cap) [] → wpList Tryz.prog ops Q rest (a.put o.dst (.slice (some ⟨w.heap.size, 0, none⟩) n cap)) w') : wpList Tryz.prog ops Q (o :: rest) a w := by
  obtain ⟨i, hi, hz0, hz1, hz2⟩ := info_parts infoR
  have er := run_append_make (P := Tryz.prog) w 22 3 o.type 92 .i64 i _ Tryz.underlying22 Tryz.underlying3 hi hz0 n h0 (by omega) (by omega) (by rw [hz2]; omega)
  refine wpList_plain hgd fun _ hK => op_append2 s x 22 3 ho hs hx er (hK _ _ (h _ _ (grownCap_ge w n 0 _) ((Below.refl _ _).drew.alloc (by simp) _) ⟨rfl, .inr ⟨w.heap.size, _, _, rfl, Nat.le_refl _, heap_alloc_new w.drew _, Nat.zero_le _, grownCap_le_maxLen w n 0 _ (by unfold maxLen; omega), ?_, by simp⟩⟩))
  rw [Array.size_append, size_zeroCells, size_zeroCells, ← Nat.add_mul]
  have := grownCap_ge w n 0 92
  rw [show n + (grownCap w n 0 92 - n) = grownCap w n 0 92 by omega]
  rfl
set_option maxRecDepth 100000 in
set_option maxHeartbeats 1000000 in
theorem growR_any (n : Nat) (w : World) (h0 : 0 < n) (hn : n ≤ 100000) :
    Calls Tryz.prog 75 #[.slice none 0 0, .int .i64 n] w fun e w' => (∃ v, e = .returned v ∧ OwnR w.heap.size w' v []) ∧ Below w.heap.size w w' := by
  have hd : decide ((n : Int) < 0) = false := by simp
  have hd2 : decide ((0 : Int) < n) = true := by simp; omega
  go_enter Tryz.func75, Tryz.ntmps75
  go_wp2_with (refine refs_make (by rfl) (.tmp 20) (.tmp 21) (by rfl) n (by rfl) (by rfl) h0 hn ?_; intro cap w2 hcap hB2 hO2; have HO2 : Hid _ := hO2; clear hO2; have hc0 : ¬ cap = 0 := by omega)
  go_ret
  exact ⟨⟨_, rfl, HO2.out⟩, hB2⟩
end Go.Proofs.YtgfjjglejlnfbaaGreatDoor

namespace Go.Proofs.YtgfjjglejlnfbaaGreatDoor
open Go.RowKit

/-- A slice of branches among several. -/
structure Pt where
  sp : Option Addr
  fs : List Re
  cap : Nat
def Pt.cells (p : Pt) : Array Value := #[.slice p.sp p.fs.length p.cap]
def sizeP (ps : List Pt) : Nat := (ps.map (·.fs.length)).sum
def flatP (ps : List Pt) : List Re := ps.flatMap (·.fs)
/-- Each lies there. -/
def PtsAt (w : World) (ps : List Pt) : Prop := ∀ p ∈ ps, RowsAt w 33 Re.cells p.sp p.fs ∧ (p.sp = none → p.fs.length = 0 ∧ p.cap = 0)

theorem growR_all (n : Nat) (w : World) (hn : n ≤ 100000) :
    Calls Tryz.prog 75 #[.slice none 0 0, .int .i64 n] w fun e w' => (∃ v, e = .returned v ∧ OwnR w.heap.size w' v []) ∧ Below w.heap.size w w' := by
  by_cases h : n = 0
  · subst h
    exact (growR_zero w).mono fun e w' h => ⟨⟨_, h.1, ownR_nil _ _⟩, h.2⟩
  · exact growR_any n w (by omega) hn
theorem sizeP_take {ps : List Pt} {t : Nat} {p : Pt} (h : ps[t]? = some p) : sizeP (ps.take (t + 1)) = sizeP (ps.take t) + p.fs.length := by
  unfold sizeP
  rw [List.take_add_one, h]
  simp
theorem flatP_take {ps : List Pt} {t : Nat} {p : Pt} (h : ps[t]? = some p) : flatP (ps.take (t + 1)) = flatP (ps.take t) ++ p.fs := by
  unfold flatP
  rw [List.take_add_one, h]
  simp
theorem sizeP_le {ps : List Pt} (t : Nat) : sizeP (ps.take t) ≤ sizeP ps := by
  have h : sizeP ps = sizeP (ps.take t) + sizeP (ps.drop t) := by
    unfold sizeP
    rw [← List.sum_append, ← List.map_append, List.take_append_drop]
  omega
theorem flatP_len (ps : List Pt) : (flatP ps).length = sizeP ps := by
  unfold flatP sizeP
  rw [List.length_flatMap]
theorem pt_cell {w : World} {b off i : Nat} {ps : List Pt} (h : RowsAt w 1 Pt.cells (some ⟨b, off, none⟩) ps) {p : Pt} (hp : ps[i]? = some p) : w.cell? ⟨b, off + i, none⟩ = some (.slice p.sp p.fs.length p.cap) := by
  obtain ⟨b', off', e, hc⟩ := h (by have := (List.getElem?_eq_some_iff.1 hp).1; omega)
  injection e with e
  injection e with e1 e2
  subst e1 e2
  have := hc i p hp 0 (.slice p.sp p.fs.length p.cap) rfl
  simpa using this

set_option maxRecDepth 100000 in
set_option maxHeartbeats 2000000 in
theorem concatR_any (sp : Option Addr) (cap : Nat) (ps : List Pt) (w : World) (hr : RowsAt w 1 Pt.cells sp ps) (hp : PtsAt w ps) (hl : ps.length ≤ 1000) (hz : sizeP ps ≤ 10000) :
    Calls Tryz.prog 40 #[.slice sp ps.length cap] w fun e w' => (∃ v, e = .returned v ∧ OwnR w.heap.size w' v (flatP ps)) ∧ Below w.heap.size w w' := by
  have HR : Hid (RowsAt w 1 Pt.cells sp ps) := hr
  have HP : Hid (PtsAt w ps) := hp
  clear hr hp
  go_enter Tryz.func40, Tryz.ntmps40
  go_wp2
  go_loopw [3, 11] (fun s i wr => ∃ t : Nat, t ≤ ps.length ∧ i = .int .i64 t ∧ s = .int .i64 (sizeP (ps.take t) : Nat) ∧ wr = w) (fun _ i _ => ps.length - (intOf i).toNat)
  case atStart => exact ⟨0, Nat.zero_le _, rfl, rfl, rfl⟩
  case round =>
    obtain ⟨t, ht, rfl, rfl, hw⟩ := hrel
    obtain rfl : w = wr := hw.symm
    clear hw
    by_cases hlt : t < ps.length
    · obtain ⟨b, off, rfl, -⟩ := HR.out (by omega)
      obtain ⟨p, hp⟩ : ∃ p, ps[t]? = some p := ⟨_, List.getElem?_eq_getElem hlt⟩
      have hc := pt_cell HR.out hp
      have hst := sizeP_take hp
      have hle := sizeP_le (ps := ps) (t + 1)
      have hd : decide ((t : Int) < (ps.length : Int)) = true := by simp; omega
      generalize hS : sizeP (ps.take t) = S at *
      have HST : Hid _ := hst
      have hSl : S + p.fs.length ≤ 10000 := by omega
      clear hst hle
      go_wp2
      go_roundw
      case rel => exact ⟨t + 1, by omega, by go_num, by rw [HST.out]; go_num, trivial⟩
      case measure => simp [intOf]; omega
    · obtain rfl : t = ps.length := by omega
      rw [List.take_length]
      have hd : decide ((ps.length : Int) < (ps.length : Int)) = false := by simp
      go_wp2_with (go_at_call 75; refine (growR_all (sizeP ps) w (by omega)).mono ?_; rintro e w2 ⟨⟨v, rfl, hO2⟩, hB2⟩; have HO2 : Hid _ := hO2; clear hO2)
      go_loopw [6, 27] (fun v i W => ∃ t : Nat, t ≤ ps.length ∧ i = .int .i64 t ∧ OwnR w.heap.size W v (flatP (ps.take t)) ∧ Below w.heap.size w W) (fun _ i _ => ps.length - (intOf i).toNat)
      case atStart => exact ⟨0, Nat.zero_le _, rfl, HO2.out, hB2⟩
      case round =>
        obtain ⟨t, ht, rfl, hO, hB⟩ := hrel
        have HO : Hid _ := hO
        clear hO HO2 hB2
        by_cases hlt : t < ps.length
        · obtain ⟨b, off, rfl, -⟩ := HR.out (by omega)
          obtain ⟨p, hp⟩ : ∃ p, ps[t]? = some p := ⟨_, List.getElem?_eq_getElem hlt⟩
          have hc := pt_cell (RowsAt.below HR.out hB) hp
          have HPP : Hid _ := HP.out p (List.mem_of_getElem? hp)
          have hr2 : Hid _ := RowsAt.below HPP.out.1 hB
          have HF : Hid _ := flatP_take hp
          have HL : Hid ((flatP (ps.take t)).length + p.fs.length ≤ 100000) := by
            have h1 := sizeP_le (ps := ps) (t + 1)
            have h2 := congrArg List.length (flatP_take hp)
            rw [flatP_len, List.length_append] at h2
            exact (show (flatP (ps.take t)).length + p.fs.length ≤ 100000 by omega)
          have hd' : decide ((t : Int) < (ps.length : Int)) = true := by simp; omega
          clear hp
          go_wp2_with (refine refs_append (by rfl) (.tmp 31) (.tmp 32) (by rfl) w.heap.size _ (flatP (ps.take t)) (by rfl) HO.out p.sp p.cap p.fs (by rfl) HPP.out.2 hr2.out (fun h => by obtain ⟨b', off', h', -⟩ := hr2.out h; exact ⟨b', off', h'⟩) HL.out hB.size ?_; intro v' w3 hO3 hg3 _; have HO3 : Hid _ := hO3; clear hO3; have hB3 := OwnR.grown (xs := flatP (ps.take t)) HO.out (Nat.le_refl _) hB.size hB hg3; clear hg3)
          go_roundw
          case rel => exact ⟨t + 1, by omega, by go_num, by rw [HF.out]; exact HO3.out, hB3⟩
          case measure => simp [intOf]; omega
        · obtain rfl : t = ps.length := by omega
          rw [List.take_length] at HO
          have hd' : decide ((ps.length : Int) < (ps.length : Int)) = false := by simp
          go_wp2
          go_ret
          exact ⟨⟨_, rfl, HO.out⟩, hB⟩
end Go.Proofs.YtgfjjglejlnfbaaGreatDoor

namespace Go.Proofs.YtgfjjglejlnfbaaGreatDoor
open Go.RowKit

theorem rowsR_take {w : World} {sp : Option Addr} {fs : List Re} (h : RowsAt w 33 Re.cells sp fs) (k : Nat) : RowsAt w 33 Re.cells sp (fs.take k) := fun hl => by
  obtain ⟨b, off, e, hc⟩ := h (by rw [List.length_take] at hl; omega)
  refine ⟨b, off, e, fun i x hx => hc i x ?_⟩
  have hi := (List.getElem?_eq_some_iff.1 hx).1
  rw [List.length_take] at hi
  rw [List.getElem?_take, if_pos (by omega)] at hx
  exact hx
theorem rowsR_drop {w : World} {b off off2 : Nat} {fs : List Re} (h : RowsAt w 33 Re.cells (some ⟨b, off, none⟩) fs) (k : Nat) (h2 : k < fs.length → off2 = off + k * 33) : RowsAt w 33 Re.cells (some ⟨b, off2, none⟩) (fs.drop k) := fun hl => by
  rw [List.length_drop] at hl
  obtain ⟨b', off', e, hc⟩ := h (by omega)
  injection e with e
  injection e with e1 e2
  subst e1 e2
  refine ⟨b, off2, rfl, fun i x hx j u hu => ?_⟩
  rw [List.getElem?_drop] at hx
  rw [h2 (by omega), show off + k * 33 + i * 33 + j = off + (k + i) * 33 + j by omega]
  exact hc _ x hx j u hu
theorem concat_three {W : World} {g n1 n2 n3 c1 c2 c3 : Nat} {sp1 sp2 sp3 : Option Addr} {l1 l2 l3 : List Re} {t : TypeId} (hg : W.heap[g]? = some (.cells #[.slice sp1 n1 c1, .slice sp2 n2 c2, .slice sp3 n3 c3] t (0, 0))) (e1 : l1.length = n1) (e2 : l2.length = n2) (e3 : l3.length = n3)
    (h1 : RowsAt W 33 Re.cells sp1 l1 ∧ (sp1 = none → l1.length = 0 ∧ c1 = 0)) (h2 : RowsAt W 33 Re.cells sp2 l2 ∧ (sp2 = none → l2.length = 0 ∧ c2 = 0)) (h3 : RowsAt W 33 Re.cells sp3 l3 ∧ (sp3 = none → l3.length = 0 ∧ c3 = 0)) (hz : n1 + n2 + n3 ≤ 10000) :
    Calls Tryz.prog 40 #[.slice (some ⟨g, 0, none⟩) 3 3] W fun e w' => (∃ v, e = .returned v ∧ OwnR W.heap.size w' v (l1 ++ (l2 ++ l3))) ∧ Below W.heap.size W w' := by
  subst e1 e2 e3
  have hR : RowsAt W 1 Pt.cells (some ⟨g, 0, none⟩) [⟨sp1, l1, c1⟩, ⟨sp2, l2, c2⟩, ⟨sp3, l3, c3⟩] := fun _ => by
    refine ⟨g, 0, rfl, fun i x hx j u hu => ?_⟩
    rw [cell_of_row _ _ _ _ _ _ hg]
    match i with
    | 0 =>
      obtain rfl : _ = x := by simpa using hx
      match j with
      | 0 => simpa [Pt.cells] using hu
      | j + 1 => simp [Pt.cells] at hu
    | 1 =>
      obtain rfl : _ = x := by simpa using hx
      match j with
      | 0 => simpa [Pt.cells] using hu
      | j + 1 => simp [Pt.cells] at hu
    | 2 =>
      obtain rfl : _ = x := by simpa using hx
      match j with
      | 0 => simpa [Pt.cells] using hu
      | j + 1 => simp [Pt.cells] at hu
    | i + 3 => simp at hx
  have hP : PtsAt W [⟨sp1, l1, c1⟩, ⟨sp2, l2, c2⟩, ⟨sp3, l3, c3⟩] := fun p hp => by
    rcases List.mem_cons.1 hp with rfl | hp
    · exact h1
    · rcases List.mem_cons.1 hp with rfl | hp
      · exact h2
      · obtain rfl : p = _ := by simpa using hp
        exact h3
  refine (concatR_any (some ⟨g, 0, none⟩) 3 _ W hR hP (by simp) (by simp [sizeP]; omega)).mono fun e w' h => ?_
  obtain ⟨⟨v, rfl, hO⟩, hB⟩ := h
  refine ⟨⟨v, rfl, ?_⟩, hB⟩
  simpa [flatP] using hO
end Go.Proofs.YtgfjjglejlnfbaaGreatDoor
