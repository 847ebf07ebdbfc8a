/- tree's lookup, in an empty heap. -/
/- What a heap holds: an Id and an object. -/
/- What a heap holds, gathered by append. No function of the program is walked here. -/
/- A map of Ids to numbers that the call makes; refs' find. -/
import Derived.Test.YtgfjjglejlnfbaaGreatDoorFsT
import Derived.Test.YtgfjjglejlnfbaaGreatDoorFsS
import Derived.Test.YtgfjjglejlnfbaaGreatDoorIdZ
import Derived.Test.YtgfjjglejlnfbaaGreatDoorFitL
import Derived.Test.YtgfjjglejlnfbaaGreatDoorMrgC
import Derived.Deep.Upon
import Derived.Deep.AppendSrc
import Derived.Test.YtgfjjglejlnfbaaGreatDoorFsN
import Derived.Maps.OwnSet
import Derived.Maps.OwnOps
import Derived.Maps.Views
import Derived.WideKeyArr
namespace Go.Proofs.YtgfjjglejlnfbaaGreatDoor
open Go.RowKit

def zeroOb : Ob := ⟨0, .slice none 0 0, .slice none 0 0, fun _ => 0, .slice none 0 0, 0, ⟨#[]⟩⟩
set_option maxRecDepth 100000 in
set_option maxHeartbeats 1000000 in
theorem lookup_none (g : Nat) (D : Nat → Int) (w : World) (hc : w.cell? ⟨g, 0, none⟩ = some (.slice none 0 0)) :
    Calls Tryz.prog 133 #[.pointer (some ⟨g, 0, none⟩), .agg (arr .u8 32 D)] w fun e w' => e = .returned (.tuple #[.agg zeroOb.cells, .bool false]) ∧ Below w.heap.size w w' := by
  have hg := block_lt_of_cell hc
  have HO : Hid _ := ob_one zeroOb rfl rfl rfl
  have HZB : Hid _ := buildz
  go_enter Tryz.func133, Tryz.ntmps133
  go_wp2_with fail
  refine calls_gen (fun W1 => Below w.heap.size w W1 ∧ W1.heap[w.heap.size + 1]? = some (.cells zeroOb.cells 65 (0, 0))) ⟨((Below.refl _ _).alloc (Nat.le_refl _) _).alloc (by simp) _, (heap_alloc2_new _ _ _).trans (by kernel_rfl)⟩ ?_
  intro W1 ⟨b1, r1⟩
  have R1 : Hid _ := r1
  clear r1
  refine (idxH_none _ W1).mono ?_
  rintro e w' ⟨rfl, rfl⟩
  go_wp2_with (first
    | (refine wpList_build (by rfl) 65 _ (by rfl) [] (by rfl) (.agg zeroOb.cells) (HZB.out _) ?_)
    | (refine wpList_store_row (by rfl) 65 (.tmp 4) (.tmp 15) (by rfl) (w.heap.size + 1) zeroOb.cells (by rfl) (by rfl) 65 _ R1.out (by rw [Ob.size]; kernel_rfl) (by rw [Ob.size]) HO.out ?_))
  refine bodyPost_ret (v := .tuple #[.agg zeroOb.cells, .bool false]) ?_ rfl ⟨rfl, below_setRow' b1 (by omega) _⟩
  exact results_cell_tmp Tryz.results133 _ _ (w.heap.size + 1) 65 _ (0, 0) _ _ rfl rfl (heap_setRow_same R1.out) Tryz.underlying65 rfl (by rw [Ob.size]; kernel_rfl)
end Go.Proofs.YtgfjjglejlnfbaaGreatDoor

namespace Go.Proofs.YtgfjjglejlnfbaaGreatDoor
open Go.RowKit

structure He where
  id : Nat → Int
  ob : Ob
  h1 : ob.bs.oneCell' = true
  h2 : ob.es.oneCell' = true
  h3 : ob.ps.oneCell' = true
def He.cells (e : He) : Array Value := arr .u8 32 e.id ++ e.ob.cells
theorem He.size (e : He) : e.cells.size = 70 := by simp [He.cells, arr_size, Ob.size]
def zeroHe : He := ⟨noId, zeroOb, rfl, rfl, rfl⟩
theorem he_one (e : He) : e.cells.all (·.oneCell') = true := by
  unfold He.cells
  rw [Array.all_append, arr_one, ob_one e.ob e.h1 e.h2 e.h3]
  rfl
theorem infoH : (Tryz.prog.info? 85).map (fun i => (i.zero, i.size, i.bytes)) = some (some (.agg zeroHe.cells), 70, 168) := by kernel_rfl
theorem bldHe (e : He) (W : World) : (Instr.buildSlice 44 1 #[(0, .agg e.cells)]).run Tryz.prog W = .ok (.slice (some ⟨W.heap.size, 0, none⟩) 1 1) (W.alloc (.cells e.cells 85)) := by kernel_rfl
theorem bldHeld (D : Nat → Int) (o : Ob) (W : World) : (Instr.build 85 [(0, .agg (arr .u8 32 D)), (1, .agg o.cells)].toArray).run Tryz.prog W = .ok (.agg (arr .u8 32 D ++ o.cells)) W := by kernel_rfl
end Go.Proofs.YtgfjjglejlnfbaaGreatDoor

namespace Go.Proofs.YtgfjjglejlnfbaaGreatDoor
open Go.RowKit

abbrev heC (e : He) : List Value := e.cells.toList
theorem heC_len (e : He) : (heC e).length = 70 := by rw [heC, Array.length_toList, He.size]
theorem flatH_length (xs : List He) : (xs.flatMap heC).length = xs.length * 70 := by
  induction xs with
  | nil => rfl
  | cons a r ih => rw [List.flatMap_cons, List.length_append, ih, heC_len, List.length_cons, Nat.add_mul]; omega
theorem flatH_at : ∀ (xs : List He) (i j : Nat) (x : He), xs[i]? = some x → j < 70 → (xs.flatMap heC)[i * 70 + j]? = (heC x)[j]?
  | [], i, j, x, h, _ => by simp at h
  | a :: r, 0, j, x, h, hj => by
    have h' : a = x := by simpa using h
    subst h'
    rw [List.flatMap_cons, Nat.zero_mul, Nat.zero_add, List.getElem?_append_left (by rw [heC_len]; exact hj)]
  | a :: r, i + 1, j, x, h, hj => by
    have h' : r[i]? = some x := by simpa using h
    rw [List.flatMap_cons, List.getElem?_append_right (by rw [heC_len, Nat.add_mul]; omega), heC_len, show (i + 1) * 70 + j - 70 = i * 70 + j by rw [Nat.add_mul]; omega]
    exact flatH_at r i j x h' hj
/-- A slice of entries that the call owns. -/
def OwnH (B : Nat) (w : World) (v : Value) (xs : List He) : Prop := w.ownsRow B 85 70 v xs.length (xs.flatMap heC)
theorem ownH_nil (B : Nat) (w : World) : OwnH B w (.slice none 0 0) [] := ⟨rfl, .inl ⟨rfl, rfl⟩⟩
theorem OwnH.rows {B : Nat} {w : World} {v : Value} {xs : List He} (h : OwnH B w v xs) : ∃ sp cap, v = .slice sp xs.length cap ∧ RowsAt w 70 He.cells sp xs ∧ (sp = none → xs.length = 0 ∧ cap = 0) := by
  rcases h.2 with ⟨rfl, h0⟩ | ⟨g, cap, cur, rfl, h1, h2, h3, h4, h5, h6⟩
  · exact ⟨none, 0, by rw [h0], fun hl => by omega, fun _ => ⟨h0, rfl⟩⟩
  · refine ⟨_, cap, rfl, fun _ => ⟨g, 0, rfl, fun i x hx j u hu => ?_⟩, fun hq => by cases hq⟩
    have hi : i < xs.length := (List.getElem?_eq_some_iff.1 hx).1
    have hj : j < 70 := by have := (Array.getElem?_eq_some_iff.1 hu).1; rwa [He.size] at this
    rw [Nat.zero_add, cell_of_row _ _ _ _ _ _ h2, ← Array.getElem?_toList]
    have : (cur.toList.take (xs.length * 70))[i * 70 + j]? = (xs.flatMap heC)[i * 70 + j]? := by rw [h6]
    rw [List.getElem?_take, if_pos (by omega), flatH_at xs i j x hx hj, Array.getElem?_toList, Array.getElem?_toList, hu] at this
    rw [Array.getElem?_toList]
    exact this
theorem OwnH.keep {B : Nat} {w w' : World} {v : Value} {xs : List He} (h : OwnH B w v xs) (hh : ∀ k, v.ownBlock = some k → w'.heap[k]? = w.heap[k]?) : OwnH B w' v xs := by
  refine ⟨h.1, ?_⟩
  rcases h.2 with ⟨rfl, h0⟩ | ⟨g, cap, cur, rfl, h1, h2, h3⟩
  · exact .inl ⟨rfl, h0⟩
  · exact .inr ⟨g, cap, cur, rfl, h1, (hh g rfl).trans h2, h3⟩
theorem OwnH.lt {B : Nat} {w : World} {v : Value} {xs : List He} (h : OwnH B w v xs) {k : Nat} (hk : v.ownBlock = some k) : B ≤ k ∧ k < w.heap.size := World.ownsRow.lt h k hk
theorem OwnH.below {B : Nat} {w w' : World} {v : Value} {xs : List He} (h : OwnH B w v xs) (hb : Below w.heap.size w w') : OwnH B w' v xs := h.keep fun _ hk => hb.block _ (h.lt hk).2
theorem rowsH_news {w : World} {b off : Nat} {ys : List He} (hr : RowsAt w 70 He.cells (some ⟨b, off, none⟩) ys) : ∀ j u, (ys.flatMap heC)[j]? = some u → w.cell? ((⟨b, off, none⟩ : Addr).add j) = some u := fun j u hu => by
  have hj : j < ys.length * 70 := by
    by_cases hj : j < ys.length * 70
    · exact hj
    · rw [List.getElem?_eq_none (by rw [flatH_length]; omega)] at hu; cases hu
  have hi : j / 70 < ys.length := by omega
  have hx : ys[j / 70]? = some (ys[j / 70]'hi) := List.getElem?_eq_getElem hi
  have e : j / 70 * 70 + j % 70 = j := by omega
  have h1 := flatH_at ys (j / 70) (j % 70) _ hx (by omega)
  rw [e, hu] at h1
  obtain ⟨b', off', hs, hc⟩ := hr (by omega)
  injection hs with hs
  injection hs with hs1 hs2
  subst hs1 hs2
  have h2 := hc _ _ hx (j % 70) u (by rw [← Array.getElem?_toList]; exact h1.symm)
  rw [Addr.add_mid, show off + j = off + j / 70 * 70 + j % 70 by omega]
  exact h2
theorem oneH_rows {w : World} {g : Nat} {f : He} {t : TypeId} {fr : Nat × Nat} (h : w.heap[g]? = some (.cells f.cells t fr)) : RowsAt w 70 He.cells (some ⟨g, 0, none⟩) [f] := fun _ => by
  refine ⟨g, 0, rfl, fun i x hx j u hu => ?_⟩
  have hi : i = 0 := by have := (List.getElem?_eq_some_iff.1 hx).1; simp at this; omega
  subst hi
  have hx' : f = x := by simpa using hx
  subst hx'
  rw [Nat.zero_mul, Nat.zero_add]
  exact (cell_of_row _ _ _ _ _ _ h).trans hu
/-- What an append of entries leaves. -/
theorem helds_run {B : Nat} {w : World} {v : Value} {xs ys : List He} {sp : Option Addr} {cap : Nat} (ty : TypeId) (hown : OwnH B w v xs) (hn : sp = none → ys.length = 0 ∧ cap = 0) (hr : RowsAt w 70 He.cells sp ys) (hsp : 0 < ys.length → ∃ b off, sp = some ⟨b, off, none⟩) (hlen : xs.length + ys.length ≤ 100000) (hB : B ≤ w.heap.size) :
    ∃ v' w', (Builtin.append_ #[44, 44] ty #[v, .slice sp ys.length cap]).run Tryz.prog w = .ok v' w' ∧ OwnH B w' v' (xs ++ ys) ∧ w.grownBy w' v.ownBlock ∧ (v'.ownBlock = v.ownBlock ∨ v'.ownBlock = some w.heap.size) := by
  obtain ⟨i, hi, hz0, hz1, hz2⟩ := info_parts infoH
  cases sp with
  | none =>
    obtain ⟨h1, h2⟩ := hn rfl
    have hy : ys = [] := List.eq_nil_of_length_eq_zero h1
    subst hy h2
    refine ⟨v, w, run_append_owned_none (P := Tryz.prog) (w := w) B 44 ty 85 i 70 Tryz.underlying44 hi v xs.length _ hown, by rw [List.append_nil]; exact hown, ⟨rfl, rfl, rfl, Nat.le_refl _, fun _ _ _ => rfl⟩, .inl rfl⟩
  | some a =>
    have hone : ∀ u ∈ ys.flatMap heC, u.oneCell' = true := fun u hu => by
      obtain ⟨y, -, hy⟩ := List.mem_flatMap.1 hu
      have := he_one y
      rw [Array.all_eq_true_iff_forall_mem] at this
      exact this u (by simpa using hy)
    have hnews : ∀ j u, (ys.flatMap heC)[j]? = some u → w.cell? (a.add j) = some u := by
      by_cases h0 : 0 < ys.length
      · obtain ⟨b, off, hs⟩ := hsp h0
        injection hs with hs
        subst hs
        exact rowsH_news hr
      · have hy : ys = [] := List.eq_nil_of_length_eq_zero (by omega)
        subst hy
        intro j u hu
        simp at hu
    obtain ⟨v', w', q1, q2, q3, -, q5⟩ := run_append_own_at (P := Tryz.prog) (w := w) B 44 ty 85 i (.agg zeroHe.cells) 70 168 Tryz.underlying44 hi hz0 hz1 hz2 (He.size _) (by omega) v xs.length _ hown a ys.length cap (ys.flatMap heC) (flatH_length ys) hnews hone (by unfold maxLen; omega) (by omega) hB
    refine ⟨v', w', q1, ?_, q3, q5⟩
    unfold OwnH
    rw [List.length_append, List.flatMap_append]
    exact q2
theorem helds_append {w : World} {ops : Array Oper} {rest : List Oper} {o : Oper} {a : Act} {Q : Exit → Act → World → Prop} (hgd : o.guard = none) (s x : Operand)
    (ho : o.op = .call { callee := .builtin .append, args := #[s, x], argTypes := #[44, 44] }) (B : Nat) (v : Value) (xs : List He) (hs : a.eval s = v) (hown : OwnH B w v xs)
    (sp : Option Addr) (cap : Nat) (ys : List He) (hx : a.eval x = .slice sp ys.length cap) (hn : sp = none → ys.length = 0 ∧ cap = 0) (hr : RowsAt w 70 He.cells sp ys) (hsp : 0 < ys.length → ∃ b off, sp = some ⟨b, off, none⟩) (hlen : xs.length + ys.length ≤ 100000) (hB : B ≤ w.heap.size)
    (h : ∀ v' w', OwnH B w' v' (xs ++ ys) → w.grownBy w' v.ownBlock → (v'.ownBlock = v.ownBlock ∨ v'.ownBlock = some w.heap.size) → wpList Tryz.prog ops Q rest (a.put o.dst v') w') : wpList Tryz.prog ops Q (o :: rest) a w := by
  obtain ⟨v', w', q1, q2, q3, q4⟩ := helds_run (xs := xs) o.type hown hn hr hsp hlen hB
  refine wpList_plain hgd fun _ hK => op_append s x 44 ho hs hx q1 (hK _ _ (h v' w' q2 q3 q4))
theorem OwnH.grown {B C : Nat} {w W W' : World} {v : Value} {xs : List He} (hv : OwnH B W v xs) (hC : C ≤ B) (hB : C ≤ W.heap.size) (fW : Below C w W) (hg : W.grownBy W' v.ownBlock) : Below C w W' := by
  refine ⟨hg.os.trans fW.os, hg.tape.trans fW.tape, hg.output.trans fW.output, Nat.le_trans fW.size hg.size, fun k hk => ?_⟩
  rw [hg.block k (by omega) (fun e => ?_)]
  · exact fW.block k hk
  · have := (hv.lt e.symm).1
    omega
theorem OwnH.mono {B C : Nat} {w : World} {v : Value} {xs : List He} (h : OwnH B w v xs) (hC : C ≤ B) : OwnH C w v xs := by
  refine ⟨h.1, ?_⟩
  rcases h.2 with ⟨rfl, h0⟩ | ⟨g, cap, cur, rfl, h1, h2⟩
  · exact .inl ⟨rfl, h0⟩
  · exact .inr ⟨g, cap, cur, rfl, by omega, h2⟩
end Go.Proofs.YtgfjjglejlnfbaaGreatDoor

namespace Go.Proofs.YtgfjjglejlnfbaaGreatDoor
open Go.RowKit Go.Maps

theorem idLaw : Keyed Tryz.prog 26 := Keyed.of_law (WideMaps.ArrKey.law (e := 5) (n := 32) ⟨Tryz.underlying26, by kernel_rfl, by kernel_rfl, by kernel_rfl⟩)
theorem zeroI (w : World) : (zeroValue 3).run Tryz.prog w = .ok (.int .i64 0) w := by kernel_rfl
abbrev MapI (w : World) (b n : Nat) (D : DataW Unit) : Prop := w.ownsMap Tryz.prog 26 (plainElem Tryz.prog 3) b n D
abbrev i64L (c : Int) : DataW Unit := .lit (.int .i64 c)
theorem make_map (W : World) : (Instr.makeMap 103 none).run Tryz.prog W = .ok (.map (some W.heap.size)) (W.alloc (.map #[] 0)) := by kernel_rfl
theorem wf_nat {t : Nat} (h : t ≤ 1000000) : (Lit.int .i64 (t : Int)).wf = true := by
  have h1 : IntKind.i64.min = -9223372036854775808 := by decide
  have h2 : IntKind.i64.max = 9223372036854775807 := by decide
  simp [Lit.wf, h1, h2]
  omega
/-- The map behind t of the keys. -/
def fndD (ks : List Lit) : Nat → DataW Unit
  | 0 => .map []
  | t + 1 => if Maps.has (fndD ks t) (ks.getD t (.bool false)) = true then fndD ks t else (fndD ks t).put (ks.getD t (.bool false)) (i64L t)
theorem MapI.below {w w' : World} {b n : Nat} {D : DataW Unit} (h : MapI w b n D) (hb : Below w.heap.size w w') : MapI w' b n D := by
  have hlt := h.lt
  obtain ⟨es, clock, hb', F, hs, hD⟩ := h
  exact ⟨es, clock, (hb.block b hlt).trans hb', F, hs, hD⟩
theorem results_cell {P : Program} {fn : Func} {p : Tmp} {ty : TypeId} (h : fn.results = #[.cell p ty]) (tmps : Array Value) (w : World) (g : Nat) (t : TypeId) (cs : Array Value) (fr : Nat × Nat) (d : TypeDesc)
    (hp : tmps.getD p undef = .pointer (some ⟨g, 0, none⟩)) (hg : w.heap[g]? = some (.cells cs t fr))
    (hu : P.underlying ty = some d) (hd : (match d with | .struct _ | .array _ _ => true | _ => false) = true) (hi : (P.info? ty).map (·.size) = some cs.size) :
    (results fn tmps).run P w = .ok (.agg cs) w := by
  have hp' : tmps[p]?.getD undef = .pointer (some ⟨g, 0, none⟩) := by simpa using hp
  simp [results, h, hp', asAddr, run_loadVar_row w g t ty cs fr d hg hu hd hi]
theorem below_grown {B b : Nat} {w W W' : World} (h : Below B w W) (hg : W.grownBy W' (some b)) (hb : B ≤ b) (hB : B ≤ w.heap.size) : Below B w W' :=
  ⟨hg.os.trans h.os, hg.tape.trans h.tape, hg.output.trans h.output, Nat.le_trans h.size hg.size, fun k hk => (hg.block k (Nat.lt_of_lt_of_le hk (Nat.le_trans hB h.size)) (fun e => by injection e with e; omega)).trans (h.block k hk)⟩
theorem He.cellId (e : He) (j : Nat) (h : j < 32) : e.cells[j]? = some (.int .u8 (e.id j)) := by
  unfold He.cells
  rw [Array.getElem?_append_left (by rw [arr_size]; exact h), arr_get h]
set_option pp.deepTerms.threshold 2000 in
set_option maxRecDepth 100000 in
set_option maxHeartbeats 4000000 in
theorem find_any (sp : Option Addr) (cap : Nat) (hs : List He) (ks : List Lit) (w : World) (hr : RowsAt w 70 He.cells sp hs) (hl : hs.length ≤ 1000000)
    (hk : ∀ (i : Nat) (h : He), hs[i]? = some h → keyOf Tryz.prog 26 (.agg (arr .u8 32 h.id)) = some (ks.getD i (.bool false))) :
    Calls Tryz.prog 44 #[.agg #[.slice sp hs.length cap]] w fun e w' => ∃ b, e = .returned (.agg #[.slice sp hs.length cap, .map (some b)]) ∧ MapI w' b hs.length (fndD ks hs.length) ∧ Below w.heap.size w w' ∧ w.heap.size ≤ b := by
  have HR : Hid (RowsAt w 70 He.cells sp hs) := hr
  have HK : Hid (∀ (i : Nat) (h : He), hs[i]? = some h → keyOf Tryz.prog 26 (.agg (arr .u8 32 h.id)) = some (ks.getD i (.bool false))) := hk
  clear hr hk
  have hmk := make_map ((w.alloc (.cells #[.slice sp hs.length cap] 46)).alloc (.cells #[.slice none 0 0, .map none] 105))
  go_enter Tryz.func44, Tryz.ntmps44
  go_wp2
  clear hmk
  obtain ⟨B, HBW, hBW⟩ : ∃ B, Hid (w.heap.size = B) ∧ w.heap.size = B := ⟨_, rfl, rfl⟩
  refine wp_gen (fun W => Below B w W ∧ W.heap[B + 1]? = some (.cells #[.slice none 0 0, .map none] 105 (0, 0)) ∧ W.heap[B + 1 + 1 + 1]? = some (.cells #[.slice sp hs.length cap, .map (some (B + 1 + 1))] 105 (0, 0)) ∧ MapI W (B + 1 + 1) 0 (fndD ks 0)) ?_ ?_
  · rw [← hBW]
    have n3 := heap_alloc_new (((w.alloc (.cells #[.slice sp hs.length cap] 46)).alloc (.cells #[.slice none 0 0, .map none] 105)).alloc (.map #[] 0)) (.cells #[.slice sp hs.length cap, .map (some (w.heap.size + 1 + 1))] 105)
    have n1 := heap_alloc_new (w.alloc (.cells #[.slice sp hs.length cap] 46)) (.cells #[.slice none 0 0, .map none] 105)
    simp only [World.size_alloc] at n1 n3
    refine ⟨((((Below.refl _ _).alloc (Nat.le_refl _) _).alloc (by simp) _).alloc (by simp; try omega) _).alloc (by simp; try omega) _, (Below.heap_alloc _ _ _ (by simp; try omega)).trans ((Below.heap_alloc _ _ _ (by simp)).trans n1), n3, ?_⟩
    have hm := World.ownsMap_made ((w.alloc (.cells #[.slice sp hs.length cap] 46)).alloc (.cells #[.slice none 0 0, .map none] 105)) Tryz.prog 26 (plainElem (H := Unit) Tryz.prog 3)
    simp only [World.size_alloc] at hm
    exact hm.alloc _
  rw [hBW]
  clear hBW
  rintro W0 ⟨b0, r1, r3, m0⟩
  have I0 : Hid (Below B w W0 ∧ W0.heap[B + 1]? = some (.cells #[.slice none 0 0, .map none] 105 (0, 0)) ∧ W0.heap[B + 1 + 1 + 1]? = some (.cells #[.slice sp hs.length cap, .map (some (B + 1 + 1))] 105 (0, 0)) ∧ MapI W0 (B + 1 + 1) 0 (fndD ks 0)) := ⟨b0, r1, r3, m0⟩
  clear b0 r1 r3 m0
  go_loopw [15] (fun i wr => ∃ t : Nat, t ≤ hs.length ∧ i = .int .i64 t ∧ Below B w wr ∧ wr.heap[B + 1]? = some (.cells #[.slice none 0 0, .map none] 105 (0, 0)) ∧ wr.heap[B + 1 + 1 + 1]? = some (.cells #[.slice sp hs.length cap, .map (some (B + 1 + 1))] 105 (0, 0)) ∧ MapI wr (B + 1 + 1) t (fndD ks t)) (fun i _ => hs.length - (intOf i).toNat)
  case atStart => exact ⟨0, Nat.zero_le _, rfl, I0.out⟩
  case round =>
    clear I0
    obtain ⟨t, ht, rfl, hb, hr1, hr3, hm⟩ := hrel
    have HB : Hid (Below B w wr) := hb
    have R1 : Hid (wr.heap[B + 1]? = some (.cells #[.slice none 0 0, .map none] 105 (0, 0))) := hr1
    have R3 : Hid (wr.heap[B + 1 + 1 + 1]? = some (.cells #[.slice sp hs.length cap, .map (some (B + 1 + 1))] 105 (0, 0))) := hr3
    have HM : Hid (MapI wr (B + 1 + 1) t (fndD ks t)) := hm
    clear hb hr1 hr3 hm
    by_cases hlt : t < hs.length
    · have hd : decide ((t : Int) < hs.length) = true := by simp; omega
      obtain ⟨b, o, rfl, hc⟩ := RowsAt.below HR.out (HBW.out.symm ▸ HB.out) (by omega)
      obtain ⟨x, hx⟩ : ∃ x, hs[t]? = some x := ⟨_, List.getElem?_eq_getElem hlt⟩
      have HE : Hid (∀ j u, x.cells[j]? = some u → wr.cell? ⟨b, o + t * 70 + j, none⟩ = some u) := fun j u hu => hc t x hx j u hu
      have HKX : Hid (keyOf Tryz.prog 26 (.agg (arr .u8 32 x.id)) = some (ks.getD t (.bool false))) := HK.out t x hx
      have hl3 := lt_of_row R3.out
      have hl2 := HM.out.lt
      have FW : Hid (∀ W, Below wr.heap.size wr W → Below B w W ∧ W.heap[B + 1]? = some (.cells #[.slice none 0 0, .map none] 105 (0, 0)) ∧ W.heap[B + 1 + 1 + 1]? = some (.cells #[.slice (some ⟨b, o, none⟩) hs.length cap, .map (some (B + 1 + 1))] 105 (0, 0)) ∧ MapI W (B + 1 + 1) t (fndD ks t)) := fun W h => ⟨HB.out.trans (h.mono (by omega)), (h.block _ (lt_of_row R1.out)).trans R1.out, (h.block _ hl3).trans R3.out, HM.out.below h⟩
      clear hc hx HB R1 R3 HM
      cases hh : Maps.has (fndD ks t) (ks.getD t (.bool false))
      · have HN : Hid (fndD ks (t + 1) = (fndD ks t).put (ks.getD t (.bool false)) (i64L t)) := by show _ = _; rw [fndD, if_neg (by rw [hh]; simp)]
        go_wp2_with (first
          | (refine load_mid (by rfl) 85 (.tmp 18) (by rfl) b (o + t * 70) (by rfl) x.cells _ HE.out Tryz.underlying85 rfl (by rw [x.size]; kernel_rfl) ?_)
          | (refine wpList_store_row (by rfl) 85 (.tmp 5) (.tmp 19) (by rfl) wr.heap.size x.cells (by rfl) (by rfl) 85 _ (heap_alloc_new _ _) (by rw [x.size]; kernel_rfl) (by rw [x.size]; rfl) (he_one x) ?_; refine wpList_gen (fun W => Below wr.heap.size wr W ∧ W.heap[wr.heap.size]? = some (.cells x.cells 85 (0, 0))) ⟨below_setRow' ((Below.refl _ _).alloc (Nat.le_refl _) _) (Nat.le_refl _) _, heap_setRow_same (heap_alloc_new _ _)⟩ ?_; intro W1 hW1; obtain ⟨f1, f2, f3, f4⟩ := FW.out W1 hW1.1; have F1 : Hid (Below B w W1 ∧ W1.heap[B + 1]? = some (.cells #[.slice none 0 0, .map none] 105 (0, 0)) ∧ W1.heap[B + 1 + 1 + 1]? = some (.cells #[.slice (some ⟨b, o, none⟩) hs.length cap, .map (some (B + 1 + 1))] 105 (0, 0)) ∧ MapI W1 (B + 1 + 1) t (fndD ks t)) := ⟨f1, f2, f3, f4⟩; have c1 : W1.cell? ⟨B + 1 + 1 + 1, 1, none⟩ = some (.map (some (B + 1 + 1))) := (cell_of_row _ _ _ _ _ _ f3).trans rfl; have HX : Hid (∀ i, i < 32 → W1.cell? ⟨wr.heap.size, 0 + i, none⟩ = some (.int .u8 (x.id i))) := (fun i hi => (cell_of_row _ _ _ _ _ _ hW1.2).trans (by rw [Nat.zero_add]; exact x.cellId i hi)); obtain ⟨v, ps, hlk, hv⟩ := f4.look_ok idLaw Tryz.underlying103 (zeroI _) (plainElem_int (H := Unit) Tryz.underlying3 (q := .i64) (a := 0) (by decide)) HKX.out; obtain ⟨c, rfl, -, -⟩ := plainElem_int_inv Tryz.underlying3 hv; rw [hh] at hlk; obtain ⟨W2, hup, hown2, hgrow2⟩ := f4.update idLaw Tryz.underlying103 (show t < maxLen by unfold maxLen; omega) HKX.out (plainElem_int (H := Unit) Tryz.underlying3 (q := .i64) (a := (t : Int)) (wf_nat (by omega))); have HO2 : Hid (MapI W2 (B + 1 + 1) (t + 1) ((fndD ks t).put (ks.getD t (.bool false)) (i64L t))) := hown2; have HG2 : Hid (W1.grownBy W2 (some (B + 1 + 1))) := hgrow2; clear hW1 f1 f2 f3 f4 hv hown2 hgrow2)
          | (refine load_at (by rfl) 26 (.tmp 23) (by rfl) wr.heap.size 0 (by rfl) .u8 32 x.id _ HX.out Tryz.underlying26 rfl (by kernel_rfl) ?_)
          | (refine load_at (by rfl) 26 (.tmp 32) (by rfl) wr.heap.size 0 (by rfl) .u8 32 x.id _ HX.out Tryz.underlying26 rfl (by kernel_rfl) ?_))
        have hgrow2 := HG2.out
        have hB2 : Below B w W2 := below_grown F1.out.1 hgrow2 (by omega) (by rw [HBW.out]; exact Nat.le_refl _)
        have hl1 := lt_of_row F1.out.2.1
        have hl4 := lt_of_row F1.out.2.2.1
        exact ⟨⟨t + 1, by omega, by go_num, hB2, (hgrow2.block _ hl1 (fun e => by injection e with e; omega)).trans F1.out.2.1, (hgrow2.block _ hl4 (fun e => by injection e with e; omega)).trans F1.out.2.2.1, by rw [HN.out]; exact HO2.out⟩, by simp [intOf]; omega⟩
      · have HN : Hid (fndD ks (t + 1) = fndD ks t) := by show _ = _; rw [fndD, if_pos hh]
        go_wp2_with (first
          | (refine load_mid (by rfl) 85 (.tmp 18) (by rfl) b (o + t * 70) (by rfl) x.cells _ HE.out Tryz.underlying85 rfl (by rw [x.size]; kernel_rfl) ?_)
          | (refine wpList_store_row (by rfl) 85 (.tmp 5) (.tmp 19) (by rfl) wr.heap.size x.cells (by rfl) (by rfl) 85 _ (heap_alloc_new _ _) (by rw [x.size]; kernel_rfl) (by rw [x.size]; rfl) (he_one x) ?_; refine wpList_gen (fun W => Below wr.heap.size wr W ∧ W.heap[wr.heap.size]? = some (.cells x.cells 85 (0, 0))) ⟨below_setRow' ((Below.refl _ _).alloc (Nat.le_refl _) _) (Nat.le_refl _) _, heap_setRow_same (heap_alloc_new _ _)⟩ ?_; intro W1 hW1; obtain ⟨f1, f2, f3, f4⟩ := FW.out W1 hW1.1; have F1 : Hid (Below B w W1 ∧ W1.heap[B + 1]? = some (.cells #[.slice none 0 0, .map none] 105 (0, 0)) ∧ W1.heap[B + 1 + 1 + 1]? = some (.cells #[.slice (some ⟨b, o, none⟩) hs.length cap, .map (some (B + 1 + 1))] 105 (0, 0)) ∧ MapI W1 (B + 1 + 1) t (fndD ks t)) := ⟨f1, f2, f3, f4⟩; have c1 : W1.cell? ⟨B + 1 + 1 + 1, 1, none⟩ = some (.map (some (B + 1 + 1))) := (cell_of_row _ _ _ _ _ _ f3).trans rfl; have HX : Hid (∀ i, i < 32 → W1.cell? ⟨wr.heap.size, 0 + i, none⟩ = some (.int .u8 (x.id i))) := (fun i hi => (cell_of_row _ _ _ _ _ _ hW1.2).trans (by rw [Nat.zero_add]; exact x.cellId i hi)); obtain ⟨v, ps, hlk, hv⟩ := f4.look_ok idLaw Tryz.underlying103 (zeroI _) (plainElem_int (H := Unit) Tryz.underlying3 (q := .i64) (a := 0) (by decide)) HKX.out; obtain ⟨c, rfl, -, -⟩ := plainElem_int_inv Tryz.underlying3 hv; rw [hh] at hlk; clear hW1 f1 f2 f3 f4 hv)
          | (refine load_at (by rfl) 26 (.tmp 23) (by rfl) wr.heap.size 0 (by rfl) .u8 32 x.id _ HX.out Tryz.underlying26 rfl (by kernel_rfl) ?_))
        exact ⟨⟨t + 1, by omega, by go_num, F1.out.1, F1.out.2.1, F1.out.2.2.1, by rw [HN.out]; exact F1.out.2.2.2.mono (by omega)⟩, by simp [intOf]; omega⟩
    · have hd : decide ((t : Int) < hs.length) = false := by simp; omega
      obtain rfl : t = hs.length := by omega
      have c0 : wr.cell? ⟨B + 1 + 1 + 1, 0, none⟩ = some (.slice sp hs.length cap) := (cell_of_row _ _ _ _ _ _ R3.out).trans rfl
      have c1 : wr.cell? ⟨B + 1 + 1 + 1, 1, none⟩ = some (.map (some (B + 1 + 1))) := (cell_of_row _ _ _ _ _ _ R3.out).trans rfl
      have d0 : wr.cell? ⟨B + 1, 0, none⟩ = some (.slice none 0 0) := (cell_of_row _ _ _ _ _ _ R1.out).trans rfl
      have d1 : wr.cell? ⟨B + 1, 1, none⟩ = some (.map none) := (cell_of_row _ _ _ _ _ _ R1.out).trans rfl
      have dz : ∀ j, wr.frozen? ⟨B + 1, j, none⟩ = false := fun j => frozen_of_row _ _ _ _ _ R1.out
      go_wp2
      have r1 : (wr.setCell ⟨B + 1, 0, none⟩ (.slice sp hs.length cap)).heap[B + 1]? = _ := heap_setCell_same _ _ _ _ _ _ R1.out
      have r2 : ((wr.setCell ⟨B + 1, 0, none⟩ (.slice sp hs.length cap)).setCell ⟨B + 1, 1, none⟩ (.map (some (B + 1 + 1)))).heap[B + 1]? = some (.cells #[.slice sp hs.length cap, .map (some (B + 1 + 1))] 105 (0, 0)) := heap_setCell_same _ _ _ _ _ _ r1
      refine bodyPost_ret (v := .agg #[.slice sp hs.length cap, .map (some (B + 1 + 1))]) (results_cell Tryz.results44 _ _ (B + 1) 105 _ (0, 0) _ rfl r2 Tryz.underlying105 rfl (by kernel_rfl)) rfl ?_
      rw [HBW.out]
      refine ⟨B + 1 + 1, rfl, ?_, (HB.out.setCell (p := ⟨B + 1, 0, none⟩) (by simp) _).setCell (p := ⟨B + 1, 1, none⟩) (by simp) _, by omega⟩
      obtain ⟨es, clock, hb', F, hs', hD⟩ := HM.out
      exact ⟨es, clock, ((heap_setCell_other _ _ _ _ (by show B + 1 + 1 ≠ B + 1; omega)).trans (heap_setCell_other _ _ _ _ (by show B + 1 + 1 ≠ B + 1; omega))).trans hb', F, hs', hD⟩
end Go.Proofs.YtgfjjglejlnfbaaGreatDoor
