/- Slices of elements of any kind that a call gathers by append. No function of the program is walked here. -/
import Derived.Test.YthnoiohganknnabDoorLxA
import Derived.Deep.Upon
import Derived.Deep.AppendSrc
namespace Go.Proofs.YthnoiohganknnabDoor
open Go.RowKit

theorem op_append {P : Program} {Q : Exit → Act → World → Prop} {K : Act → World → Prop} {a : Act} {w w' : World} {o : Oper} {v' vs vx : Value} (s x : Operand) (t : TypeId) (ho : o.op = .call { callee := .builtin .append, args := #[s, x], argTypes := #[t, t] }) (hs : a.eval s = vs) (hx : a.eval x = vx)
    (hr : (Builtin.append_ #[t, t] o.type #[vs, vx]).run P w = .ok v' w') (h : K (a.put o.dst v') w') : o.wp P a w K Q := by
  unfold Oper.wp execOp
  simp only [ho, resolve, invoke, builtin, Sem.run_bind, Sem.run_pure, Result.andThen_ok, List.map_toArray, List.map_cons, List.map_nil, hs, hx, hr]
  exact h
/-- An append, its guard open, where its run is known. -/
theorem list_appendg {P : Program} {ops : Array Oper} {rest : List Oper} {Q : Exit → Act → World → Prop} {a : Act} {w w' : World} {o : Oper} {v' vs vx : Value} (s x : Operand) (t : TypeId)
    (ho : o.op = .call { callee := .builtin .append, args := #[s, x], argTypes := #[t, t] }) (hw : Region.wanted o (yielded ops a.tmps) = true) (hs : a.eval s = vs) (hx : a.eval x = vx) (hr : (Builtin.append_ #[t, t] o.type #[vs, vx]).run P w = .ok v' w') (h : wpList P ops Q rest (a.put o.dst v') w') : wpList P ops Q (o :: rest) a w :=
  wpList_step fun _ hK => by rw [if_pos hw]; exact op_append s x t ho hs hx hr (hK _ _ h)

/-- What is known of a kind of element: its slice's type, its own, how many cells, which. -/
structure El {α : Type} (t e : TypeId) (m : Nat) (f : α → Array Value) : Prop where
  ht : Tryd.prog.underlying t = some (.slice e)
  hi : ∃ i z, Tryd.prog.info? e = some i ∧ i.zero = some z ∧ i.size = m ∧ i.bytes ≤ 100 ∧ z.cells.size = m
  hf : ∀ x, (f x).size = m
  h1 : ∀ x, (f x).all (·.oneCell') = true
  hm : 0 < m
def flatG {α : Type} (f : α → Array Value) (xs : List α) : List Value := xs.flatMap fun x => (f x).toList
section
variable {α : Type} {t e : TypeId} {m : Nat} {f : α → Array Value}
theorem flatG_length (E : El t e m f) (xs : List α) : (flatG f xs).length = xs.length * m := by
  induction xs with
  | nil => simp [flatG]
  | cons a r ih => rw [flatG, List.flatMap_cons, List.length_append, ← flatG, ih, Array.length_toList, E.hf, List.length_cons, Nat.add_mul]; omega
theorem flatG_at (E : El t e m f) : ∀ (xs : List α) (i j : Nat) (x : α), xs[i]? = some x → j < m → (flatG f xs)[i * m + j]? = (f x)[j]?
  | [], i, j, x, h, _ => by simp at h
  | a :: r, 0, j, x, h, hj => by
    have h' : a = x := by simpa using h
    subst h'
    rw [flatG, List.flatMap_cons, Nat.zero_mul, Nat.zero_add, List.getElem?_append_left (by rw [Array.length_toList, E.hf]; exact hj), Array.getElem?_toList]
  | a :: r, i + 1, j, x, h, hj => by
    have h' : r[i]? = some x := by simpa using h
    rw [flatG, List.flatMap_cons, List.getElem?_append_right (by rw [Array.length_toList, E.hf, Nat.add_mul]; omega), Array.length_toList, E.hf, show (i + 1) * m + j - m = i * m + j by rw [Nat.add_mul]; omega]
    exact flatG_at E r i j x h' hj
/-- A slice that the call owns. -/
def OwnG (e : TypeId) (m : Nat) (f : α → Array Value) (B : Nat) (w : World) (v : Value) (xs : List α) : Prop := w.ownsRow B e m v xs.length (flatG f xs)
theorem ownG_nil (B : Nat) (w : World) : OwnG e m f B w (.slice none 0 0) [] := ⟨by simp [flatG], .inl ⟨rfl, rfl⟩⟩
theorem OwnG.rows (E : El t e m f) {B : Nat} {w : World} {v : Value} {xs : List α} (h : OwnG e m f B w v xs) : ∃ sp cap, v = .slice sp xs.length cap ∧ RowsAt w m f sp xs ∧ (sp = none → xs.length = 0 ∧ cap = 0) ∧ xs.length ≤ cap ∧ cap ≤ maxLen := by
  rcases h.2 with ⟨rfl, h0⟩ | ⟨g, cap, cur, rfl, h1, h2, h3, h4, h5, h6⟩
  · exact ⟨none, 0, by rw [h0], fun hl => by omega, fun _ => ⟨h0, rfl⟩, by omega, Nat.zero_le _⟩
  · refine ⟨_, cap, rfl, fun _ => ⟨g, 0, rfl, fun i x hx j u hu => ?_⟩, fun hq => by (cases hq), h3, h4⟩
    have hi : i < xs.length := (List.getElem?_eq_some_iff.1 hx).1
    have hj : j < m := by have := (Array.getElem?_eq_some_iff.1 hu).1; rwa [E.hf] at this
    rw [Nat.zero_add, cell_of_row _ _ _ _ _ _ h2, ← Array.getElem?_toList]
    have hlt : i * m + j < xs.length * m := by
      have := Nat.mul_le_mul_right m (show i + 1 ≤ xs.length by omega)
      rw [Nat.add_mul, Nat.one_mul] at this
      omega
    have : (cur.toList.take (xs.length * m))[i * m + j]? = (flatG f xs)[i * m + j]? := by rw [h6]
    rw [List.getElem?_take, if_pos hlt, flatG_at E xs i j x hx hj, hu] at this
    exact this
theorem OwnG.keep {B : Nat} {w w' : World} {v : Value} {xs : List α} (h : OwnG e m f B w v xs) (hh : ∀ k, v.ownBlock = some k → w'.heap[k]? = w.heap[k]?) : OwnG e m f B w' v xs := by
  refine ⟨h.1, ?_⟩
  rcases h.2 with ⟨rfl, h0⟩ | ⟨g, cap, cur, rfl, h1, h2, h3⟩
  · exact .inl ⟨rfl, h0⟩
  · exact .inr ⟨g, cap, cur, rfl, h1, (hh g rfl).trans h2, h3⟩
theorem OwnG.lt {B : Nat} {w : World} {v : Value} {xs : List α} (h : OwnG e m f B w v xs) {k : Nat} (hk : v.ownBlock = some k) : B ≤ k ∧ k < w.heap.size := World.ownsRow.lt h k hk
theorem OwnG.below {B : Nat} {w w' : World} {v : Value} {xs : List α} (h : OwnG e m f B w v xs) (hb : Below w.heap.size w w') : OwnG e m f B w' v xs := h.keep fun _ hk => hb.block _ (h.lt hk).2
theorem OwnG.mono {B C : Nat} {w : World} {v : Value} {xs : List α} (h : OwnG e m f B w v xs) (hC : C ≤ B) : OwnG e m f C w v xs := by
  refine ⟨h.1, ?_⟩
  rcases h.2 with ⟨rfl, h0⟩ | ⟨g, cap, cur, rfl, h1, h2⟩
  · exact .inl ⟨rfl, h0⟩
  · exact .inr ⟨g, cap, cur, rfl, by omega, h2⟩
theorem OwnG.shape {B : Nat} {w : World} {v : Value} {xs : List α} (h : OwnG e m f B w v xs) : ∃ sp cap, v = .slice sp xs.length cap := by
  rcases h.2 with ⟨rfl, h0⟩ | ⟨g, cap, cur, rfl, h1, h2⟩
  · exact ⟨none, 0, by rw [h0]⟩
  · exact ⟨_, _, rfl⟩
theorem OwnG.grown {B C : Nat} {w W W' : World} {v : Value} {xs : List α} (hv : OwnG e m f B W v xs) (hC : C ≤ B) (hB : C ≤ W.heap.size) (fW : Below C w W) (hg : W.grownBy W' v.ownBlock) : Below C w W' := by
  refine ⟨hg.os.trans fW.os, hg.tape.trans fW.tape, hg.output.trans fW.output, Nat.le_trans fW.size hg.size, fun k hk => ?_⟩
  rw [hg.block k (by omega) (fun e => ?_)]
  · exact fW.block k hk
  · have := (hv.lt e.symm).1
    omega
theorem rowsG_news (E : El t e m f) {w : World} {b off : Nat} {ys : List α} (hr : RowsAt w m f (some ⟨b, off, none⟩) ys) : ∀ j u, (flatG f ys)[j]? = some u → w.cell? ((⟨b, off, none⟩ : Addr).add j) = some u := fun j u hu => by
  have hm := E.hm
  have hj : j < ys.length * m := by
    by_cases hj : j < ys.length * m
    · exact hj
    · rw [List.getElem?_eq_none (by rw [flatG_length E]; omega)] at hu; cases hu
  have hi : j / m < ys.length := (Nat.div_lt_iff_lt_mul hm).2 hj
  have hx : ys[j / m]? = some (ys[j / m]'hi) := List.getElem?_eq_getElem hi
  have e : j / m * m + j % m = j := by rw [Nat.mul_comm]; exact Nat.div_add_mod j m
  have h1 := flatG_at E ys (j / m) (j % m) _ hx (Nat.mod_lt _ hm)
  rw [e, hu] at h1
  obtain ⟨b', off', hs, hc⟩ := hr (Nat.lt_of_le_of_lt (Nat.zero_le _) hi)
  injection hs with hs
  injection hs with hs1 hs2
  subst hs1 hs2
  have h2 := hc _ _ hx (j % m) u h1.symm
  rw [Addr.add_mid, show off + j = off + j / m * m + j % m by omega]
  exact h2
/-- What an append leaves. -/
theorem own_run (E : El t e m f) {B : Nat} {w : World} {v : Value} {xs ys : List α} {sp : Option Addr} {cap : Nat} (ty : TypeId) (hown : OwnG e m f B w v xs) (hn : sp = none → ys.length = 0 ∧ cap = 0) (hr : RowsAt w m f sp ys) (hlen : xs.length + ys.length ≤ 1000000) (hB : B ≤ w.heap.size) :
    ∃ v' w', (Builtin.append_ #[t, t] ty #[v, .slice sp ys.length cap]).run Tryd.prog w = .ok v' w' ∧ OwnG e m f B w' v' (xs ++ ys) ∧ w.grownBy w' v.ownBlock ∧ (v'.ownBlock = v.ownBlock ∨ v'.ownBlock = some w.heap.size) := by
  obtain ⟨i, z, hi, hz0, hz1, hz2, hz3⟩ := E.hi
  cases sp with
  | none =>
    obtain ⟨h1, h2⟩ := hn rfl
    have hy : ys = [] := List.eq_nil_of_length_eq_zero h1
    subst hy h2
    refine ⟨v, w, run_append_owned_none (P := Tryd.prog) (w := w) B t ty e i m E.ht hi v xs.length _ hown, by rw [List.append_nil]; exact hown, ⟨rfl, rfl, rfl, Nat.le_refl _, fun _ _ _ => rfl⟩, .inl rfl⟩
  | some a =>
    have hone : ∀ u ∈ flatG f ys, u.oneCell' = true := fun u hu => by
      obtain ⟨y, -, hy⟩ := List.mem_flatMap.1 hu
      have := E.h1 y
      rw [Array.all_eq_true_iff_forall_mem] at this
      exact this u (by simpa using hy)
    have hnews : ∀ j u, (flatG f ys)[j]? = some u → w.cell? (a.add j) = some u := by
      by_cases h0 : 0 < ys.length
      · obtain ⟨b, off, hs, -⟩ := hr h0
        injection hs with hs
        subst hs
        exact rowsG_news E hr
      · have hy : ys = [] := List.eq_nil_of_length_eq_zero (by omega)
        subst hy
        intro j u hu
        simp [flatG] at hu
    obtain ⟨v', w', q1, q2, q3, -, q5⟩ := run_append_own_at (P := Tryd.prog) (w := w) B t ty e i z m i.bytes E.ht hi hz0 hz1 rfl hz3 E.hm v xs.length _ hown a ys.length cap (flatG f ys) (flatG_length E ys) hnews hone (by unfold maxLen; omega) (by
      have := Nat.mul_le_mul hlen hz2
      omega) hB
    refine ⟨v', w', q1, ?_, q3, q5⟩
    unfold OwnG
    rw [List.length_append, flatG, List.flatMap_append]
    exact q2
theorem oneG_rows {w : World} {g : Nat} {x : α} {ty : TypeId} {fr : Nat × Nat} (h : w.heap[g]? = some (.cells (f x) ty fr)) : RowsAt w m f (some ⟨g, 0, none⟩) [x] := fun _ => by
  refine ⟨g, 0, rfl, fun i y hx j u hu => ?_⟩
  have hi : i = 0 := by have := (List.getElem?_eq_some_iff.1 hx).1; simp at this; omega
  subst hi
  have hx' : x = y := by simpa using hx
  subst hx'
  rw [Nat.zero_mul, Nat.zero_add]
  exact (cell_of_row _ _ _ _ _ _ h).trans hu
/-- The first k elements of a slice of one's own. -/
theorem OwnG.take (E : El t e m f) {B : Nat} {w : World} {v : Value} {xs : List α} (h : OwnG e m f B w v xs) (k : Nat) (hk : k ≤ xs.length) : ∃ sp cap, v = .slice sp xs.length cap ∧ OwnG e m f B w (.slice sp k cap) (xs.take k) := by
  rcases h.2 with ⟨rfl, h0⟩ | ⟨g, cap, cur, rfl, h1, h2, h3, h4, h5, h6⟩
  · obtain rfl : k = 0 := by omega
    exact ⟨none, 0, by rw [h0], by rw [List.take_zero]; exact ownG_nil _ _⟩
  · refine ⟨_, cap, rfl, ?_⟩
    have el : (xs.take k).length = k := by rw [List.length_take]; omega
    refine ⟨flatG_length E _, .inr ⟨g, cap, cur, by rw [el], h1, h2, by rw [el]; omega, h4, h5, ?_⟩⟩
    rw [el]
    have hle : k * m ≤ xs.length * m := Nat.mul_le_mul_right m hk
    have e1 : (cur.toList.take (xs.length * m)).take (k * m) = cur.toList.take (k * m) := by rw [List.take_take, Nat.min_eq_left hle]
    rw [← e1, h6]
    have e2 : flatG f xs = flatG f (xs.take k) ++ flatG f (xs.drop k) := by
      conv => lhs; rw [← List.take_append_drop k xs]
      simp only [flatG, List.flatMap_append]
    rw [e2, List.take_append_of_le_length (by rw [flatG_length E, el]; exact Nat.le_refl _), List.take_of_length_le (by rw [flatG_length E, el]; exact Nat.le_refl _)]
end
/-- A byte's cell. -/
def byC (c : UInt8) : Array Value := #[.int .u8 c.toNat]
theorem elB : El 45 5 1 byC := by
  have h : (Tryd.prog.info? 5).map (fun i => (i.zero, i.size, i.bytes)) = some (some (.int .u8 0), 1, 1) := by kernel_rfl
  refine ⟨Tryd.underlying45, ?_, fun _ => rfl, fun _ => by simp [byC, Value.oneCell'], by omega⟩
  cases hi : Tryd.prog.info? 5 with
  | none => rw [hi] at h; cases h
  | some i =>
    rw [hi] at h
    simp only [Option.map_some, Option.some.injEq, Prod.mk.injEq] at h
    exact ⟨i, _, rfl, h.1, h.2.1, by omega, rfl⟩
theorem elT : El 22 35 3 Tok.cells := by
  have h : (Tryd.prog.info? 35).map (fun i => (i.zero, i.size, i.bytes)) = some (some (.agg (Tok.cells ⟨0, ⟨#[]⟩, 0⟩)), 3, 32) := by kernel_rfl
  refine ⟨Tryd.underlying22, ?_, fun _ => rfl, fun _ => by simp [Tok.cells, Value.oneCell'], by omega⟩
  cases hi : Tryd.prog.info? 35 with
  | none => rw [hi] at h; cases h
  | some i =>
    rw [hi] at h
    simp only [Option.map_some, Option.some.injEq, Prod.mk.injEq] at h
    exact ⟨i, _, rfl, h.1, h.2.1, by omega, rfl⟩
abbrev OwnB := OwnG 5 1 byC
abbrev OwnT := OwnG 35 3 Tok.cells
abbrev RowsT (w : World) (sp : Option Addr) (ts : List Tok) : Prop := RowsAt w 3 Tok.cells sp ts
theorem BA.of_rows {w : World} {sp : Option Addr} {L : List UInt8} (h : RowsAt w 1 byC sp L) : BA w sp L := fun hl => by
  obtain ⟨b, o, e, hc⟩ := h hl
  exact ⟨b, o, e, fun i c hi => by have := hc i c hi 0 (.int .u8 c.toNat) rfl; simpa using this⟩
theorem BA.rows {w : World} {sp : Option Addr} {L : List UInt8} (h : BA w sp L) : RowsAt w 1 byC sp L := fun hl => by
  obtain ⟨b, o, e, hc⟩ := h hl
  refine ⟨b, o, e, fun i c hi j u hu => ?_⟩
  have hj : j = 0 := by have := (Array.getElem?_eq_some_iff.1 hu).1; simp [byC] at this; omega
  subst hj
  have hu' : Value.int .u8 c.toNat = u := by simpa [byC] using hu
  rw [← hu', Nat.mul_one, Nat.add_zero]
  exact hc i c hi
theorem tok_cell {w : World} {b off i : Nat} {ts : List Tok} (h : RowsT w (some ⟨b, off, none⟩) ts) {t : Tok} (ht : ts[i]? = some t) :
    w.cell? ⟨b, off + i * 3, none⟩ = some (.int .i64 t.kind) ∧ w.cell? ⟨b, off + i * 3 + 1, none⟩ = some (.string t.text) ∧ w.cell? ⟨b, off + i * 3 + 2, none⟩ = some (.int .i64 t.pos) := by
  obtain ⟨b', off', e, hc⟩ := h (by have := (List.getElem?_eq_some_iff.1 ht).1; omega)
  injection e with e
  injection e with e1 e2
  subst e1 e2
  exact ⟨hc i t ht 0 _ rfl, hc i t ht 1 _ rfl, hc i t ht 2 _ rfl⟩
end Go.Proofs.YthnoiohganknnabDoor
