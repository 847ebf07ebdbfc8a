/- The contract of lex's take. -/
/- The contract of lex's take: what is no token; no room. -/
/- The tokens of a text, as lists: what Lex goes through. No function of the program is walked here. -/
/- The contract of lex's Lex. -/
/- What numbers and texts say; the contracts of lex's Number and Value. -/
import Derived.Test.YthnoiohganknnabDoorMrgB
import Derived.Test.YthnoiohganknnabDoorMovesg
import Derived.BigRegion
import Derived.Lib.BytesEntry
import Derived.Lib.AppendStr
namespace Go.Proofs.YthnoiohganknnabDoor
open Go.RowKit

/-- A lexer's cells: the last token, the text, the place, the tokens. -/
def lxC (t : Tok) (tv : Value) (p : Nat) (vt : Value) : Array Value := #[.int .i64 t.kind, .string t.text, .int .i64 t.pos, tv, .int .i64 p, vt]
theorem OwnG.ne {α : Type} {e : TypeId} {m : Nat} {f : α → Array Value} {B : Nat} {w : World} {v : Value} {xs : List α} (h : OwnG e m f B w v xs) {g : Nat} {cs : Array Value} {e' : TypeId} {fr : Nat × Nat} (hg : w.heap[g]? = some (.cells cs e' fr)) (hne : e ≠ e') : v.ownBlock ≠ some g := by
  rcases h.2 with ⟨rfl, h0⟩ | ⟨g', cap, cur, rfl, h1, h2, h3⟩
  · exact fun h => by cases h
  · intro hh
    have e1 : g' = g := by simpa [Value.ownBlock] using hh
    subst e1
    rw [hg] at h2
    injection h2 with h2
    injection h2 with h2 h4
    exact hne h4.symm
/-- All but a block and a slice's own row is as it was. -/
structure Kept (g : Nat) (v : Value) (w w' : World) : Prop where
  os : w'.os = w.os
  tape : w'.tape = w.tape
  output : w'.output = w.output
  size : w.heap.size ≤ w'.heap.size
  block : ∀ k, k < w.heap.size → k ≠ g → v.ownBlock ≠ some k → w'.heap[k]? = w.heap[k]?
theorem Kept.below {g : Nat} {v : Value} {w w' : World} (h : Kept g v w w') {B : Nat} {e : TypeId} {m : Nat} {α : Type} {f : α → Array Value} {xs : List α} (ho : OwnG e m f B w v xs) (hB : B ≤ g) (hw : B ≤ w.heap.size) : Below B w w' :=
  ⟨h.os, h.tape, h.output, h.size, fun k hk => h.block k (by omega) (by omega) (fun e => by have := (ho.lt e).1; omega)⟩
theorem Kept.row {g : Nat} {v : Value} {w w' : World} (h : Kept g v w w') {α : Type} {e : TypeId} {m : Nat} {f : α → Array Value} {B : Nat} {xs : List α} (ho : OwnG e m f B w v xs) {j : Nat} {cs : Array Value} {e' : TypeId} {fr : Nat × Nat} (hj : w.heap[j]? = some (.cells cs e' fr)) (hne : e ≠ e') (hg : j ≠ g) : w'.heap[j]? = some (.cells cs e' fr) :=
  (h.block j (lt_of_row hj) hg (ho.ne hj hne)).trans hj
theorem bldTok (e : Tok) (W : World) : (Instr.buildSlice 22 1 #[(0, .agg e.cells)]).run Tryd.prog W = .ok (.slice (some ⟨W.heap.size, 0, none⟩) 1 1) (W.alloc (.cells e.cells 35)) := by kernel_rfl
theorem wpOp_plain {P : Program} {ops : Array Oper} {Q : Exit → Act → World → Prop} {K : Act → World → Prop} {a : Act} {w : World} {i : Nat} {oi : Oper} (hi : ops[i]? = some oi) (hg : oi.guard = none) (h : oi.wp P a w K Q) : wpOp P ops Q i K a w := by
  unfold wpOp
  simp only [hi, wanted_plain hg, if_true]
  exact .inl h
theorem op_buildOne {P : Program} {Q : Exit → Act → World → Prop} {K : Act → World → Prop} {a : Act} {w w' : World} {o : Oper} {v : Value} (ty : TypeId) (x : Operand) (ho : o.op = .buildSlice ty 1 #[(0, x)]) (u : Value) (hx : a.eval x = u)
    (hr : (Instr.buildSlice ty 1 #[(0, u)]).run P w = .ok v w') (h : K (a.put o.dst v) w') : o.wp P a w K Q := by
  unfold Oper.wp execOp
  simp only [ho, Sem.run_bind, Sem.run_pure, Result.andThen_ok, List.map_toArray, List.map_cons, List.map_nil, hx, hr]
  exact h
theorem op_value {P : Program} {Q : Exit → Act → World → Prop} {K : Act → World → Prop} {a : Act} {w : World} {o : Oper} (v : Value) (hr : (execOp a.eval o).run P w = .ok (.value v) w) (h : K (a.put o.dst v) w) : o.wp P a w K Q := by
  unfold Oper.wp
  simp only [hr]
  exact h
theorem load_lx {w : World} {g : Nat} {t : Tok} {tv vt : Value} {p : Nat} (h : w.heap[g]? = some (.cells (lxC t tv p vt) 47 (0, 0))) : (loadVar 35 ⟨g, 0, none⟩).run Tryd.prog w = .ok (.agg t.cells) w :=
  run_mid (cs := t.cells) (fun j u hu => by
    have hj : j < 3 := (Array.getElem?_eq_some_iff.1 hu).1
    rw [cell_of_row _ _ _ _ _ _ h, Nat.zero_add, ← hu]
    match j, hj with
    | 0, _ => rfl
    | 1, _ => rfl
    | 2, _ => rfl) Tryd.underlying35 rfl (by kernel_rfl)
theorem load_toks {w : World} {a : Addr} {st : Option Addr} {n c : Nat} (h : w.cell? a = some (.slice st n c)) : (loadVar 22 a).run Tryd.prog w = .ok (.slice st n c) w := by go_simp
theorem exec_load {P : Program} {ρ : Operand → Value} {o : Oper} {ty : TypeId} {x : Operand} {p : Addr} {v : Value} {w : World} (ho : o.op = .load ty x) (hx : ρ x = .pointer (some p)) (hl : (loadVar ty p).run P w = .ok v w) : (execOp ρ o).run P w = .ok (.value v) w := by
  unfold execOp
  simp only [ho, hx, Instr.loadAt, Instr.sureAddr, Sem.run_bind, Sem.run_pure, Result.andThen_ok, hl]
set_option maxRecDepth 100000 in
set_option maxHeartbeats 4000000 in
theorem take_any (B g : Nat) (t : Tok) (b o cap p : Nat) (L : List UInt8) (vt : Value) (ts : List Tok) (k : Int) (n : Nat) (w : World) (hrow : w.heap[g]? = some (.cells (lxC t (.slice (some ⟨b, o, none⟩) L.length cap) p vt) 47 (0, 0)))
    (hL : BA w (some ⟨b, o, none⟩) L) (hT : OwnT B w vt ts) (hlen : p + n ≤ L.length) (hcap : L.length ≤ cap) (hl : L.length ≤ 100000) (hts : ts.length < 1024) (hk : k ≠ 0) (hB : B ≤ g) :
    Calls Tryd.prog 12 #[.pointer (some ⟨g, 0, none⟩), .int .i64 k, .int .i64 n] w fun e w' => e = .returned (.int .i64 0) ∧ ∃ vt', w'.heap[g]? = some (.cells (lxC ⟨k, strU ((L.drop p).take n), p⟩ (.slice (some ⟨b, o, none⟩) L.length cap) (p + n) vt') 47 (0, 0)) ∧ OwnT B w' vt' (ts ++ [⟨k, strU ((L.drop p).take n), p⟩]) ∧ Kept g vt w w' := by
  obtain ⟨st, ct, rfl⟩ := OwnG.shape hT
  have HR : Hid (w.heap[g]? = some (.cells (lxC t (.slice (some ⟨b, o, none⟩) L.length cap) p (.slice st ts.length ct)) 47 (0, 0))) := hrow
  unfold lxC at hrow
  have c0 := (cell_of_row w g 0 _ _ _ hrow).trans rfl
  have c1 := (cell_of_row w g 1 _ _ _ hrow).trans rfl
  have c2 := (cell_of_row w g 2 _ _ _ hrow).trans rfl
  have c3 := (cell_of_row w g 3 _ _ _ hrow).trans rfl
  have c4 := (cell_of_row w g 4 _ _ _ hrow).trans rfl
  have c5 := (cell_of_row w g 5 _ _ _ hrow).trans rfl
  have z0 : ∀ j, w.frozen? ⟨g, j, none⟩ = false := fun j => frozen_of_row _ _ _ _ _ hrow
  have hk' : (k != 0) = true := by simpa using hk
  have hts' : ((ts.length : Int) == 1024) = false := by rw [beq_eq_false_iff_ne]; omega
  have hb1 : Below w.heap.size w w.drew := (Below.refl _ _).drew
  have hdl : ((L.drop p).take n).length = p + n - p := by rw [List.length_take, List.length_drop]; omega
  have hcv := conv_str ((BA.cut (hL.below hb1) p hcap).take n) (cap - p)
  rw [hdl] at hcv
  have hcv2 := hcv
  rw [show p + n - p = n by omega] at hcv2
  obtain ⟨s1, HS1⟩ : ∃ s1, Hid (strU ((L.drop p).take n) = s1) := ⟨_, rfl⟩
  rw [HS1.out] at hcv hcv2 ⊢
  have HT : Hid (OwnT B w (.slice st ts.length ct) ts) := hT
  clear hL hT hrow hb1 hdl
  go_enter Tryd.func12, Tryd.ntmps12
  go_wp2
  go_region
  generalize (if cap = p then some (⟨b, o, none⟩ : Addr) else some ⟨b, o + p, none⟩) = X
  go_wp2
  clear hcv hcv2 c0 c1 c2 c3 c4 c5 z0
  have r1 : (w.setCell ⟨g, 0, none⟩ (.int .i64 k)).heap[g]? = _ := heap_setCell_same _ _ _ _ _ _ HR.out
  have r2 : ((w.setCell ⟨g, 0, none⟩ (.int .i64 k)).setCell ⟨g, 1, none⟩ (.string s1)).heap[g]? = _ := heap_setCell_same _ _ _ _ _ _ r1
  have r3 : (((w.setCell ⟨g, 0, none⟩ (.int .i64 k)).setCell ⟨g, 1, none⟩ (.string s1)).setCell ⟨g, 2, none⟩ (.int .i64 p)).heap[g]? = _ := heap_setCell_same _ _ _ _ _ _ r2
  have ho : ∀ j, j ≠ g → (((w.setCell ⟨g, 0, none⟩ (.int .i64 k)).setCell ⟨g, 1, none⟩ (.string s1)).setCell ⟨g, 2, none⟩ (.int .i64 p)).heap[j]? = w.heap[j]? := fun j hj => (heap_setCell_other _ _ _ _ hj).trans ((heap_setCell_other _ _ _ _ hj).trans (heap_setCell_other _ _ _ _ hj))
  refine wp_gen (fun W => W.heap[g]? = some (.cells (lxC ⟨k, s1, p⟩ (.slice (some ⟨b, o, none⟩) L.length cap) p (.slice st ts.length ct)) 47 (0, 0)) ∧ OwnT B W (.slice st ts.length ct) ts ∧ Kept g (.slice st ts.length ct) w W) ⟨r3, ?_, ?_⟩ ?_
  · exact OwnG.keep HT.out fun j hj => ho j (fun e => OwnG.ne HT.out HR.out (by decide) (e ▸ hj))
  · exact ⟨rfl, rfl, rfl, by simp, fun j _ hj _ => ho j hj⟩
  clear r1 r2 r3 ho HR HT
  intro W2 ⟨hrow, hT, hK⟩
  have HR : Hid (W2.heap[g]? = some (.cells (lxC ⟨k, s1, p⟩ (.slice (some ⟨b, o, none⟩) L.length cap) p (.slice st ts.length ct)) 47 (0, 0))) := hrow
  have HK : Hid (Kept g (.slice st ts.length ct) w W2) := hK
  have HT : Hid (OwnT B W2 (.slice st ts.length ct) ts) := hT
  unfold lxC at hrow
  have c0 := (cell_of_row W2 g 0 _ _ _ hrow).trans rfl
  have c1 := (cell_of_row W2 g 1 _ _ _ hrow).trans rfl
  have c2 := (cell_of_row W2 g 2 _ _ _ hrow).trans rfl
  have c5 := (cell_of_row W2 g 5 _ _ _ hrow).trans rfl
  clear hT hK hrow
  have hsz : W2.drew.heap.size = W2.heap.size := rfl
  have bA : Below W2.heap.size W2 (W2.drew.alloc (.cells #[.int .i64 k, .string s1, .int .i64 p] 35)) := (Below.refl _ _).drew.alloc (Nat.le_refl _) _
  have hTA : OwnT B (W2.drew.alloc (.cells #[.int .i64 k, .string s1, .int .i64 p] 35)) (.slice st ts.length ct) ts := OwnG.below HT.out bA
  have hBs : B ≤ W2.heap.size := by have := lt_of_row HR.out; omega
  obtain ⟨v', W3, hr, hT3, hg3, hbk⟩ := own_run elT (ys := [(⟨k, s1, p⟩ : Tok)]) (sp := some ⟨W2.heap.size, 0, none⟩) (cap := 1) 22 hTA (fun h => by cases h) (oneG_rows (x := (⟨k, s1, p⟩ : Tok)) (heap_alloc_new W2.drew _)) (by simp; omega) (by simp; omega)
  obtain ⟨st3, ct3, rfl⟩ := OwnG.shape hT3
  rw [show (ts ++ [(⟨k, s1, p⟩ : Tok)]).length = ts.length + 1 by simp] at hr hT3
  have R3 : W3.heap[g]? = some (.cells (lxC ⟨k, s1, p⟩ (.slice (some ⟨b, o, none⟩) L.length cap) p (.slice st ts.length ct)) 47 (0, 0)) := by
    have rA := (bA.block g (lt_of_row HR.out)).trans HR.out
    exact (hg3.block g (lt_of_row rA) (fun e => OwnG.ne hTA rA (by decide) e.symm)).trans rA
  have d4 : W3.cell? ⟨g, 4, none⟩ = some (.int .i64 p) := (cell_of_row W3 g 4 _ _ _ R3).trans rfl
  have d5 : W3.cell? ⟨g, 5, none⟩ = some (.slice st ts.length ct) := (cell_of_row W3 g 5 _ _ _ R3).trans rfl
  have z3 : ∀ j, W3.frozen? ⟨g, j, none⟩ = false := fun j => frozen_of_row _ _ _ _ _ R3
  have HR3 : Hid (W3.heap[g]? = some (.cells (lxC ⟨k, s1, p⟩ (.slice (some ⟨b, o, none⟩) L.length cap) p (.slice st ts.length ct)) 47 (0, 0))) := R3
  have HT3 : Hid (OwnT B W3 (.slice st3 (ts.length + 1) ct3) (ts ++ [⟨k, s1, p⟩])) := hT3
  have HK3 : Hid (Kept g (.slice st ts.length ct) w W3) := ⟨hg3.os.trans (bA.os.trans HK.out.os), hg3.tape.trans (bA.tape.trans HK.out.tape), hg3.output.trans (bA.output.trans HK.out.output), Nat.le_trans HK.out.size (Nat.le_trans bA.size hg3.size), fun j hj hjg hjv =>
    (hg3.block j (Nat.lt_of_lt_of_le hj (Nat.le_trans HK.out.size bA.size)) (fun e => hjv e.symm)).trans ((bA.block j (Nat.lt_of_lt_of_le hj HK.out.size)).trans (HK.out.block j hj hjg hjv))⟩
  clear hT3 hg3 hbk hTA HT HK
  have hS0 : ∃ x, W2.drew.heap[g]? = some (.cells (lxC ⟨k, s1, p⟩ (.slice (some ⟨b, o, none⟩) L.length cap) p x) 47 (0, 0)) := ⟨_, HR.out⟩
  have hS1 : ∃ x, (W2.drew.alloc (.cells #[.int .i64 k, .string s1, .int .i64 p] 35)).heap[g]? = some (.cells (lxC ⟨k, s1, p⟩ (.slice (some ⟨b, o, none⟩) L.length cap) p x) 47 (0, 0)) := ⟨_, (bA.block g (lt_of_row HR.out)).trans HR.out⟩
  have hS2 : ∃ x, W3.heap[g]? = some (.cells (lxC ⟨k, s1, p⟩ (.slice (some ⟨b, o, none⟩) L.length cap) p x) 47 (0, 0)) := ⟨_, R3⟩
  have e5 : (W2.drew.alloc (.cells #[.int .i64 k, .string s1, .int .i64 p] 35)).cell? ⟨g, 5, none⟩ = some (.slice st ts.length ct) := (cell_of_row _ g 5 _ _ _ ((bA.block g (lt_of_row HR.out)).trans HR.out)).trans rfl
  clear R3 bA
  refine mv_begin (S := fun w' => ∃ x, w'.heap[g]? = some (.cells (lxC ⟨k, s1, p⟩ (.slice (some ⟨b, o, none⟩) L.length cap) p x) 47 (0, 0))) 15 rfl (by kernel_rfl) ?_
  refine mv_rung 0 41 (.pointer (some ⟨g, 0, none⟩)) rfl (by rfl) (by kernel_rfl) (by kernel_rfl) (by kernel_rfl) (fun _ _ _ h => h) (fun w' _ => by first | rfl | go_simp) hS0 ?_
  simp only [List.setIfInBounds_toArray, List.set_cons_succ, List.set_cons_zero]
  refine mv_rung 1 42 (.pointer (some ⟨g, 0, none⟩)) rfl (by rfl) (by kernel_rfl) (by kernel_rfl) (by kernel_rfl) (fun _ _ _ h => h) (fun w' _ => by first | rfl | go_simp) hS0 ?_
  simp only [List.setIfInBounds_toArray, List.set_cons_succ, List.set_cons_zero]
  refine mv_rung 2 43 (.pointer (some ⟨g, 0, none⟩)) rfl (by rfl) (by kernel_rfl) (by kernel_rfl) (by kernel_rfl) (fun _ _ _ h => h) (fun w' _ => by first | rfl | go_simp) hS0 ?_
  simp only [List.setIfInBounds_toArray, List.set_cons_succ, List.set_cons_zero]
  refine mv_rung 3 44 (.pointer (some ⟨g, 5, none⟩)) rfl (by rfl) (by kernel_rfl) (by kernel_rfl) (by kernel_rfl) (fun _ _ _ h => h) (fun w' _ => by first | rfl | go_simp) hS0 ?_
  simp only [List.setIfInBounds_toArray, List.set_cons_succ, List.set_cons_zero]
  refine mv_rung 5 46 (.pointer (some ⟨g, 0, none⟩)) rfl (by rfl) (by kernel_rfl) (by kernel_rfl) (by kernel_rfl) (fun _ _ _ h => h) (fun w' _ => by first | rfl | go_simp) hS0 ?_
  simp only [List.setIfInBounds_toArray, List.set_cons_succ, List.set_cons_zero]
  refine mv_rung 6 47 (.pointer (some ⟨g, 0, none⟩)) rfl (by rfl) (by kernel_rfl) (by kernel_rfl) (by kernel_rfl) (fun _ _ _ h => h) (fun w' _ => by first | rfl | go_simp) hS0 ?_
  simp only [List.setIfInBounds_toArray, List.set_cons_succ, List.set_cons_zero]
  refine mv_rung 7 48 (.pointer (some ⟨g, 0, none⟩)) rfl (by rfl) (by kernel_rfl) (by kernel_rfl) (by kernel_rfl) (fun _ _ _ h => h) (fun w' _ => by first | rfl | go_simp) hS0 ?_
  simp only [List.setIfInBounds_toArray, List.set_cons_succ, List.set_cons_zero]
  refine mv_rung 8 49 (.pointer (some ⟨g, 0, none⟩)) rfl (by rfl) (by kernel_rfl) (by kernel_rfl) (by kernel_rfl) (fun _ _ _ h => h) (fun w' _ => by first | rfl | go_simp) hS0 ?_
  simp only [List.setIfInBounds_toArray, List.set_cons_succ, List.set_cons_zero]
  refine mv_rung 9 50 (.agg #[.int .i64 k, .string s1, .int .i64 p]) rfl (by rfl) (by kernel_rfl) (by kernel_rfl) (by kernel_rfl) (fun _ _ _ h => h) (fun w' hw' => by obtain ⟨x, hx⟩ := hw'; exact exec_load rfl rfl (load_lx hx)) hS0 ?_
  simp only [List.setIfInBounds_toArray, List.set_cons_succ, List.set_cons_zero]
  refine wpAnyH_all (rs := [4, 10]) (by kernel_rfl) (by simp) fun i hi => ?_
  simp only [List.mem_cons, List.not_mem_nil, or_false] at hi
  rcases hi with rfl | rfl
  · refine wpOp_plain rfl rfl ?_
    refine op_value (.slice st ts.length ct) (by go_simp) ?_
    refine ⟨hS0, ?_⟩
    simp only [Act.put]
    refine mv_next 10 rfl (by kernel_rfl) ?_
    refine op_buildOne 22 (.tmp 50) rfl (.agg #[.int .i64 k, .string s1, .int .i64 p]) rfl (bldTok ⟨k, s1, p⟩ _) ?_
    refine ⟨hS1, ?_⟩
    simp only [Act.put]
    refine mv_next 11 rfl (by kernel_rfl) ?_
    refine op_append (.tmp 45) (.tmp 51) 22 rfl rfl rfl hr ?_
    refine ⟨hS2, ?_⟩
    simp only [Act.put]
    refine mv_rung 12 53 (.pointer (some ⟨g, 0, none⟩)) rfl (by rfl) (by kernel_rfl) (by kernel_rfl) (by kernel_rfl) (fun _ _ _ h => h) (fun w' _ => by first | rfl | go_simp) hS2 ?_
    simp only [List.setIfInBounds_toArray, List.set_cons_succ, List.set_cons_zero]
    refine mv_rung 13 54 (.pointer (some ⟨g, 5, none⟩)) rfl (by rfl) (by kernel_rfl) (by kernel_rfl) (by kernel_rfl) (fun _ _ _ h => h) (fun w' _ => by first | rfl | go_simp) hS2 ?_
    simp only [List.setIfInBounds_toArray, List.set_cons_succ, List.set_cons_zero]
    refine mv_next 14 rfl (by kernel_rfl) ?_
    go_simp
    have r4 : (W3.setCell ⟨g, 5, none⟩ (.slice st3 (ts.length + 1) ct3)).heap[g]? = some (.cells (lxC ⟨k, s1, p⟩ (.slice (some ⟨b, o, none⟩) L.length cap) p (.slice st3 (ts.length + 1) ct3)) 47 (0, 0)) := heap_setCell_same _ _ _ _ _ _ HR3.out
    have ho : ∀ j, j ≠ g → (W3.setCell ⟨g, 5, none⟩ (.slice st3 (ts.length + 1) ct3)).heap[j]? = W3.heap[j]? := fun j hj => heap_setCell_other _ _ _ _ hj
    refine ⟨⟨_, r4⟩, ?_⟩
    refine wpAnyH_done (by kernel_rfl) ?_ _
    have hT4 : OwnT B (W3.setCell ⟨g, 5, none⟩ (.slice st3 (ts.length + 1) ct3)) (.slice st3 (ts.length + 1) ct3) (ts ++ [⟨k, s1, p⟩]) := OwnG.keep HT3.out fun j hj => ho j (fun e => OwnG.ne HT3.out HR3.out (by decide) (e ▸ hj))
    have hK4 : Kept g (.slice st ts.length ct) w (W3.setCell ⟨g, 5, none⟩ (.slice st3 (ts.length + 1) ct3)) := ⟨HK3.out.os, HK3.out.tape, HK3.out.output, by have := HK3.out.size; simpa using this, fun j h1 h2 h3 => (ho j h2).trans (HK3.out.block j h1 h2 h3)⟩
    clear ho d4 d5 z3 hS0 hS1 hS2 hr e5 c0 c1 c2 c5 HR3 HT3 HK3
    generalize W3.setCell ⟨g, 5, none⟩ (.slice st3 (ts.length + 1) ct3) = W4 at r4 hT4 hK4
    have HR4 : Hid (W4.heap[g]? = some (.cells (lxC ⟨k, s1, p⟩ (.slice (some ⟨b, o, none⟩) L.length cap) p (.slice st3 (ts.length + 1) ct3)) 47 (0, 0))) := r4
    have HT4 : Hid (OwnT B W4 (.slice st3 (ts.length + 1) ct3) (ts ++ [⟨k, s1, p⟩])) := hT4
    have HK4 : Hid (Kept g (.slice st ts.length ct) w W4) := hK4
    have d4 : W4.cell? ⟨g, 4, none⟩ = some (.int .i64 p) := (cell_of_row W4 g 4 _ _ _ r4).trans rfl
    have z4 : W4.frozen? ⟨g, 4, none⟩ = false := frozen_of_row _ _ _ _ _ r4
    clear r4 hT4 hK4
    go_wp2
    go_ret
    have r5 : (W4.setCell ⟨g, 4, none⟩ (.int .i64 (p + n))).heap[g]? = some (.cells (lxC ⟨k, s1, p⟩ (.slice (some ⟨b, o, none⟩) L.length cap) (p + n) (.slice st3 (ts.length + 1) ct3)) 47 (0, 0)) := (heap_setCell_same _ _ _ _ _ _ HR4.out).trans rfl
    have ho : ∀ j, j ≠ g → (W4.setCell ⟨g, 4, none⟩ (.int .i64 (p + n))).heap[j]? = W4.heap[j]? := fun j hj => heap_setCell_other _ _ _ _ hj
    exact ⟨rfl, _, r5, OwnG.keep HT4.out fun j hj => ho j (fun e => OwnG.ne HT4.out HR4.out (by decide) (e ▸ hj)), ⟨HK4.out.os, HK4.out.tape, HK4.out.output, by have := HK4.out.size; simpa using this, fun j h1 h2 h3 => (ho j h2).trans (HK4.out.block j h1 h2 h3)⟩⟩
  · refine wpOp_plain rfl rfl ?_
    refine op_buildOne 22 (.tmp 50) rfl (.agg #[.int .i64 k, .string s1, .int .i64 p]) rfl (bldTok ⟨k, s1, p⟩ _) ?_
    refine ⟨hS1, ?_⟩
    simp only [Act.put]
    refine mv_next 4 rfl (by kernel_rfl) ?_
    refine op_value (.slice st ts.length ct) (exec_load (p := ⟨g, 5, none⟩) rfl rfl (load_toks e5)) ?_
    refine ⟨hS1, ?_⟩
    simp only [Act.put]
    refine mv_next 11 rfl (by kernel_rfl) ?_
    refine op_append (.tmp 45) (.tmp 51) 22 rfl rfl rfl hr ?_
    refine ⟨hS2, ?_⟩
    simp only [Act.put]
    refine mv_rung 12 53 (.pointer (some ⟨g, 0, none⟩)) rfl (by rfl) (by kernel_rfl) (by kernel_rfl) (by kernel_rfl) (fun _ _ _ h => h) (fun w' _ => by first | rfl | go_simp) hS2 ?_
    simp only [List.setIfInBounds_toArray, List.set_cons_succ, List.set_cons_zero]
    refine mv_rung 13 54 (.pointer (some ⟨g, 5, none⟩)) rfl (by rfl) (by kernel_rfl) (by kernel_rfl) (by kernel_rfl) (fun _ _ _ h => h) (fun w' _ => by first | rfl | go_simp) hS2 ?_
    simp only [List.setIfInBounds_toArray, List.set_cons_succ, List.set_cons_zero]
    refine mv_next 14 rfl (by kernel_rfl) ?_
    go_simp
    have r4 : (W3.setCell ⟨g, 5, none⟩ (.slice st3 (ts.length + 1) ct3)).heap[g]? = some (.cells (lxC ⟨k, s1, p⟩ (.slice (some ⟨b, o, none⟩) L.length cap) p (.slice st3 (ts.length + 1) ct3)) 47 (0, 0)) := heap_setCell_same _ _ _ _ _ _ HR3.out
    have ho : ∀ j, j ≠ g → (W3.setCell ⟨g, 5, none⟩ (.slice st3 (ts.length + 1) ct3)).heap[j]? = W3.heap[j]? := fun j hj => heap_setCell_other _ _ _ _ hj
    refine ⟨⟨_, r4⟩, ?_⟩
    refine wpAnyH_done (by kernel_rfl) ?_ _
    have hT4 : OwnT B (W3.setCell ⟨g, 5, none⟩ (.slice st3 (ts.length + 1) ct3)) (.slice st3 (ts.length + 1) ct3) (ts ++ [⟨k, s1, p⟩]) := OwnG.keep HT3.out fun j hj => ho j (fun e => OwnG.ne HT3.out HR3.out (by decide) (e ▸ hj))
    have hK4 : Kept g (.slice st ts.length ct) w (W3.setCell ⟨g, 5, none⟩ (.slice st3 (ts.length + 1) ct3)) := ⟨HK3.out.os, HK3.out.tape, HK3.out.output, by have := HK3.out.size; simpa using this, fun j h1 h2 h3 => (ho j h2).trans (HK3.out.block j h1 h2 h3)⟩
    clear ho d4 d5 z3 hS0 hS1 hS2 hr e5 c0 c1 c2 c5 HR3 HT3 HK3
    generalize W3.setCell ⟨g, 5, none⟩ (.slice st3 (ts.length + 1) ct3) = W4 at r4 hT4 hK4
    have HR4 : Hid (W4.heap[g]? = some (.cells (lxC ⟨k, s1, p⟩ (.slice (some ⟨b, o, none⟩) L.length cap) p (.slice st3 (ts.length + 1) ct3)) 47 (0, 0))) := r4
    have HT4 : Hid (OwnT B W4 (.slice st3 (ts.length + 1) ct3) (ts ++ [⟨k, s1, p⟩])) := hT4
    have HK4 : Hid (Kept g (.slice st ts.length ct) w W4) := hK4
    have d4 : W4.cell? ⟨g, 4, none⟩ = some (.int .i64 p) := (cell_of_row W4 g 4 _ _ _ r4).trans rfl
    have z4 : W4.frozen? ⟨g, 4, none⟩ = false := frozen_of_row _ _ _ _ _ r4
    clear r4 hT4 hK4
    go_wp2
    go_ret
    have r5 : (W4.setCell ⟨g, 4, none⟩ (.int .i64 (p + n))).heap[g]? = some (.cells (lxC ⟨k, s1, p⟩ (.slice (some ⟨b, o, none⟩) L.length cap) (p + n) (.slice st3 (ts.length + 1) ct3)) 47 (0, 0)) := (heap_setCell_same _ _ _ _ _ _ HR4.out).trans rfl
    have ho : ∀ j, j ≠ g → (W4.setCell ⟨g, 4, none⟩ (.int .i64 (p + n))).heap[j]? = W4.heap[j]? := fun j hj => heap_setCell_other _ _ _ _ hj
    exact ⟨rfl, _, r5, OwnG.keep HT4.out fun j hj => ho j (fun e => OwnG.ne HT4.out HR4.out (by decide) (e ▸ hj)), ⟨HK4.out.os, HK4.out.tape, HK4.out.output, by have := HK4.out.size; simpa using this, fun j h1 h2 h3 => (ho j h2).trans (HK4.out.block j h1 h2 h3)⟩⟩
end Go.Proofs.YthnoiohganknnabDoor

namespace Go.Proofs.YthnoiohganknnabDoor
open Go.RowKit

set_option maxRecDepth 100000 in
set_option maxHeartbeats 1000000 in
theorem take_gap (g : Nat) (t : Tok) (tv : Value) (p : Nat) (vt : Value) (n : Nat) (w : World) (hrow : w.heap[g]? = some (.cells (lxC t tv p vt) 47 (0, 0))) (hlen : p + n ≤ 1000000) :
    Calls Tryd.prog 12 #[.pointer (some ⟨g, 0, none⟩), .int .i64 0, .int .i64 n] w fun e w' => e = .returned (.int .i64 0) ∧ w'.heap[g]? = some (.cells (lxC t tv (p + n) vt) 47 (0, 0)) ∧ Kept g (.slice none 0 0) w w' := by
  have HR : Hid (w.heap[g]? = some (.cells (lxC t tv p vt) 47 (0, 0))) := hrow
  have d4 : w.cell? ⟨g, 4, none⟩ = some (.int .i64 p) := (cell_of_row w g 4 _ _ _ hrow).trans rfl
  have z4 : w.frozen? ⟨g, 4, none⟩ = false := frozen_of_row _ _ _ _ _ hrow
  clear hrow
  go_enter Tryd.func12, Tryd.ntmps12
  go_wp2
  go_ret
  have r5 : (w.setCell ⟨g, 4, none⟩ (.int .i64 (p + n))).heap[g]? = some (.cells (lxC t tv (p + n) vt) 47 (0, 0)) := (heap_setCell_same _ _ _ _ _ _ HR.out).trans rfl
  exact ⟨rfl, r5, ⟨rfl, rfl, rfl, by simp, fun j _ h2 _ => heap_setCell_other _ _ _ _ h2⟩⟩
set_option maxRecDepth 100000 in
set_option maxHeartbeats 1000000 in
theorem take_full (g : Nat) (t : Tok) (tv : Value) (p : Nat) (st : Option Addr) (ct : Nat) (k : Int) (n : Nat) (w : World) (hrow : w.heap[g]? = some (.cells (lxC t tv p (.slice st 1024 ct)) 47 (0, 0))) (hk : k ≠ 0) :
    Calls Tryd.prog 12 #[.pointer (some ⟨g, 0, none⟩), .int .i64 k, .int .i64 n] w fun e w' => e = .returned (.int .i64 3) ∧ w' = w := by
  have d5 : w.cell? ⟨g, 5, none⟩ = some (.slice st 1024 ct) := (cell_of_row w g 5 _ _ _ hrow).trans rfl
  have hk' : (k != 0) = true := by simpa using hk
  clear hrow
  go_enter Tryd.func12, Tryd.ntmps12
  go_wp2
  go_ret
  exact ⟨rfl, rfl⟩
end Go.Proofs.YthnoiohganknnabDoor

namespace Go.Proofs.YthnoiohganknnabDoor
open Go.RowKit

theorem runN_pos {p : UInt8 → Bool} {c : UInt8} {r : List UInt8} (h : p c = true) : 0 < runN p (c :: r) := by
  rw [runN_cons, h]
  simp
/-- What look tells without an error has a size, or is an end where a line ends. -/
theorem look_size {L : List UInt8} {en : Bool} {k : Int} {n : Nat} (h : lookR L en = (k, n, 0)) (hL : L = [] → en = true) : n ≤ L.length ∧ (0 < n ∨ (k = 5 ∧ n = 0 ∧ en = true)) := by
  cases L with
  | nil =>
    simp only [lookR, Prod.mk.injEq] at h
    obtain ⟨rfl, rfl, -⟩ := h
    exact ⟨Nat.zero_le _, .inr ⟨rfl, rfl, hL rfl⟩⟩
  | cons c r =>
    unfold lookR at h
    simp only at h
    rw [List.length_cons]
    split at h
    · split at h
      · rename_i hen
        simp only [Prod.mk.injEq] at h
        exact ⟨by omega, .inr ⟨by omega, by omega, hen⟩⟩
      · simp only [Prod.mk.injEq] at h
        omega
    · split at h
      · simp only [Prod.mk.injEq] at h
        omega
      · split at h
        · simp only [Prod.mk.injEq] at h
          omega
        · split at h
          · rename_i h3
            unfold wordR at h
            split at h
            · simp only [Prod.mk.injEq] at h
              omega
            · simp only [Prod.mk.injEq] at h
              have h1 := runN_le (inC [3, 4]) (c :: r)
              have h2 := runN_pos (p := inC [3, 4]) (c := c) (r := r) (by simp [inC, h3])
              rw [List.length_cons] at h1
              omega
          · split at h
            · rename_i h4
              unfold numR at h
              split at h
              · simp only [Prod.mk.injEq] at h
                omega
              · simp only [Prod.mk.injEq] at h
                have h1 := runN_le (inC [4]) (c :: r)
                have h2 := runN_pos (p := inC [4]) (c := c) (r := r) (by simp [inC, h4])
                rw [List.length_cons] at h1
                omega
            · split at h
              · unfold quoR at h
                split at h
                · simp only [Prod.mk.injEq] at h
                  omega
                · rename_i v m hq
                  simp only [Prod.mk.injEq] at h
                  have := unqO_size hq
                  rw [List.length_cons] at this
                  omega
              · split at h
                · rename_i hp
                  simp only [Prod.mk.injEq] at h
                  have hc : (c != 10) = true := by
                    have : c = 47 := by
                      simp [Lib.hasPrefix, List.isPrefixOf] at hp
                      exact hp.1.symm
                    rw [this]
                    decide
                  have h1 := runN_le (fun c => c != 10) (c :: r)
                  have h2 := runN_pos (p := fun c => c != 10) (c := c) (r := r) hc
                  rw [List.length_cons] at h1
                  have h3 : n = runN (fun c => c != 10) (c :: r) := h.2.1.symm
                  omega
                · unfold sigR at h
                  split at h
                  · rename_i hs
                    simp only [Prod.mk.injEq] at h
                    have : 0 < r.length := by
                      cases r with
                      | nil => simp [sig2] at hs
                      | cons => simp
                    omega
                  · simp only at h
                    split at h <;> (simp only [Prod.mk.injEq] at h; omega)
/-- The last token. -/
def lastT (ts : List Tok) : Tok := ts.getLast?.getD ⟨0, ⟨#[]⟩, 0⟩
theorem lastT_nil : lastT [] = ⟨0, ⟨#[]⟩, 0⟩ := rfl
theorem lastT_push (ts : List Tok) (t : Tok) : lastT (ts ++ [t]) = t := by simp [lastT]
/-- Tokens, an error, its place: from place p on, behind the tokens ts. -/
def lexG (L : List UInt8) : Nat → Nat → List Tok → List Tok × Int × Nat
  | 0, _, ts => (ts, 0, 0)
  | f + 1, p, ts =>
    if p < L.length ∨ clo (lastT ts) = true then
      if (lookR (L.drop p) (clo (lastT ts))).2.2 ≠ 0 then ([], (lookR (L.drop p) (clo (lastT ts))).2.2, p)
      else if (lookR (L.drop p) (clo (lastT ts))).1 = 0 then lexG L f (p + (lookR (L.drop p) (clo (lastT ts))).2.1) ts
      else if ts.length = 1024 then ([], 3, p)
      else lexG L f (p + (lookR (L.drop p) (clo (lastT ts))).2.1) (ts ++ [⟨(lookR (L.drop p) (clo (lastT ts))).1, strU ((L.drop p).take (lookR (L.drop p) (clo (lastT ts))).2.1), p⟩])
    else (ts, 0, 0)
/-- How much is left. -/
def lexMu (L : List UInt8) (p : Nat) (ts : List Tok) : Nat := 2 * (L.length - p) + (if clo (lastT ts) = true then 1 else 0)
/-- The tokens of a text, its error and its place. -/
def lexO (L : List UInt8) : List Tok × Int × Nat := if 4096 < L.length then ([], 3, 0) else lexG L (2 * L.length + 1) 0 []
theorem lexG_end {L : List UInt8} {f p : Nat} {ts : List Tok} (h1 : ¬ p < L.length) (h2 : clo (lastT ts) = false) : lexG L (f + 1) p ts = (ts, 0, 0) := by
  rw [lexG, if_neg (by rw [h2]; simp; omega)]
theorem lexG_err {L : List UInt8} {f p : Nat} {ts : List Tok} {k : Int} {n : Nat} {e : Int} (h1 : p < L.length ∨ clo (lastT ts) = true) (h2 : lookR (L.drop p) (clo (lastT ts)) = (k, n, e)) (he : e ≠ 0) : lexG L (f + 1) p ts = ([], e, p) := by
  rw [lexG, if_pos h1, h2, if_pos he]
theorem lexG_gap {L : List UInt8} {f p : Nat} {ts : List Tok} {n : Nat} (h1 : p < L.length ∨ clo (lastT ts) = true) (h2 : lookR (L.drop p) (clo (lastT ts)) = (0, n, 0)) : lexG L (f + 1) p ts = lexG L f (p + n) ts := by
  rw [lexG, if_pos h1, h2, if_neg (by simp), if_pos rfl]
theorem lexG_full {L : List UInt8} {f p : Nat} {ts : List Tok} {k : Int} {n : Nat} (h1 : p < L.length ∨ clo (lastT ts) = true) (h2 : lookR (L.drop p) (clo (lastT ts)) = (k, n, 0)) (hk : k ≠ 0) (ht : ts.length = 1024) : lexG L (f + 1) p ts = ([], 3, p) := by
  rw [lexG, if_pos h1, h2, if_neg (by simp), if_neg hk, if_pos ht]
theorem lexG_tok {L : List UInt8} {f p : Nat} {ts : List Tok} {k : Int} {n : Nat} (h1 : p < L.length ∨ clo (lastT ts) = true) (h2 : lookR (L.drop p) (clo (lastT ts)) = (k, n, 0)) (hk : k ≠ 0) (ht : ts.length ≠ 1024) : lexG L (f + 1) p ts = lexG L f (p + n) (ts ++ [⟨k, strU ((L.drop p).take n), p⟩]) := by
  rw [lexG, if_pos h1, h2, if_neg (by simp), if_neg hk, if_neg ht]
theorem mu_gap {L : List UInt8} {p n : Nat} {ts : List Tok} (h1 : p < L.length ∨ clo (lastT ts) = true) (hp : p ≤ L.length) (h2 : lookR (L.drop p) (clo (lastT ts)) = (0, n, 0)) : p + n ≤ L.length ∧ lexMu L (p + n) ts < lexMu L p ts := by
  have hs := look_size h2 (fun e => by
    rcases h1 with h1 | h1
    · have := congrArg List.length e; rw [List.length_drop] at this; simp at this; omega
    · exact h1)
  rw [List.length_drop] at hs
  unfold lexMu
  rcases hs with ⟨h3, h4 | ⟨h4, -⟩⟩
  · omega
  · omega
theorem mu_tok {L : List UInt8} {p n : Nat} {ts : List Tok} {k : Int} {t : Tok} (h1 : p < L.length ∨ clo (lastT ts) = true) (hp : p ≤ L.length) (h2 : lookR (L.drop p) (clo (lastT ts)) = (k, n, 0)) (ht : t = ⟨k, strU ((L.drop p).take n), p⟩) : p + n ≤ L.length ∧ lexMu L (p + n) (ts ++ [t]) < lexMu L p ts := by
  have hs := look_size h2 (fun e => by
    rcases h1 with h1 | h1
    · have := congrArg List.length e; rw [List.length_drop] at this; simp at this; omega
    · exact h1)
  rw [List.length_drop] at hs
  unfold lexMu
  rw [lastT_push]
  rcases hs with ⟨h3, h4 | ⟨h4, h5, h6⟩⟩
  · refine ⟨by omega, ?_⟩
    split <;> split <;> omega
  · have hc : clo t = false := by rw [ht, h4]; rfl
    rw [hc, h6]
    simp
    omega
end Go.Proofs.YthnoiohganknnabDoor

namespace Go.Proofs.YthnoiohganknnabDoor
open Go.RowKit

theorem results_tmp_cell {P : Program} {fn : Func} {p q : Tmp} {ty : TypeId} (h : fn.results = #[.tmp q, .cell p ty]) (tmps : Array Value) (w : World) (g : Nat) (t : TypeId) (cs : Array Value) (fr : Nat × Nat) (d : TypeDesc) (v : Value)
    (hp : tmps.getD p undef = .pointer (some ⟨g, 0, none⟩)) (hq : tmps.getD q undef = v) (hg : w.heap[g]? = some (.cells cs t fr))
    (hu : P.underlying ty = some d) (hd : (match d with | .struct _ | .array _ _ => true | _ => false) = true) (hi : (P.info? ty).map (·.size) = some cs.size) :
    (results fn tmps).run P w = .ok (.tuple #[v, .agg cs]) w := by
  have hp' : tmps[p]?.getD undef = .pointer (some ⟨g, 0, none⟩) := by simpa using hp
  have hq' : tmps[q]?.getD undef = v := by simpa using hq
  simp [results, h, hp', hq', asAddr, run_loadVar_row w g t ty cs fr d hg hu hd hi]
/-- A text as bytes: a row of its own. -/
theorem text_row (s : ByteArray) (W : World) : ∃ (cap : Nat) (W' : World) (cs : Array Value) (fr : Nat × Nat), (convert 9 45 (.string s)).run Tryd.prog W = .ok (.slice (some ⟨W.heap.size, 0, none⟩) s.size cap) W' ∧ Below W.heap.size W W' ∧ W'.heap[W.heap.size]? = some (.cells cs 5 fr) ∧ (∀ (i : Nat) (c : UInt8), s.data.toList[i]? = some c → cs[i]? = some (.int .u8 c.toNat)) ∧ s.size ≤ cap := by
  refine ⟨_, _, _, _, run_bytes_of_string W 9 45 5 s Tryd.underlying9 Tryd.underlying45 Tryd.underlying5, (Below.refl _ _).drew.alloc (by simp) _, heap_alloc_new W.drew _, fun i c hi => ?_, grownCap_ge _ _ _ _⟩
  have hd : i < s.data.size := by have := (List.getElem?_eq_some_iff.1 hi).1; simpa using this
  unfold bytesRow
  rw [Array.getElem?_append_left (by simpa using hd)]
  rw [Array.getElem?_toList] at hi
  simp [hi]
/-- What Lex tells. -/
def LexP (B : Nat) (w' : World) (r : List Tok × Int × Nat) (e : Ending) : Prop := ∃ v, e = .returned (.tuple #[v, .agg #[.int .i64 r.2.1, .int .i64 r.2.2]]) ∧ OwnT B w' v r.1
/-- How much is left, read off the world. -/
def muW (n g : Nat) (w : World) : Nat := match w.heap[g]? with
  | some (.cells cs _ _) => (match (cs[0]? : Option Value), (cs[1]? : Option Value), (cs[4]? : Option Value) with
    | some (.int _ k), some (.string x), some (.int _ p) => 2 * (n - p.toNat) + (if clo ⟨k, x, 0⟩ = true then 1 else 0)
    | _, _, _ => 0)
  | _ => 0
theorem muW_row {n g : Nat} {w : World} {t : Tok} {tv vt : Value} {p : Nat} {ty : TypeId} {fr : Nat × Nat} (h : w.heap[g]? = some (.cells (lxC t tv p vt) ty fr)) : muW n g w = 2 * (n - p) + (if clo t = true then 1 else 0) := by
  unfold muW
  rw [h]
  rfl
theorem BA.of_row {w : World} {b : Nat} {cs : Array Value} {ty : TypeId} {fr : Nat × Nat} {L : List UInt8} (h : w.heap[b]? = some (.cells cs ty fr)) (hc : ∀ (i : Nat) (c : UInt8), L[i]? = some c → cs[i]? = some (.int .u8 c.toNat)) : BA w (some ⟨b, 0, none⟩) L :=
  fun _ => ⟨b, 0, rfl, fun i c hi => (cell_of_row _ _ _ _ _ _ h).trans (by rw [Nat.zero_add]; exact hc i c hi)⟩
set_option maxRecDepth 100000 in
set_option maxHeartbeats 4000000 in
theorem lex_any (s : ByteArray) (w : World) : Calls Tryd.prog 5 #[.string s] w fun e w' => LexP w.heap.size w' (lexO s.data.toList) e ∧ Below w.heap.size w w' := by
  go_enter Tryd.func5, Tryd.ntmps5
  go_wp2
  refine wp_scope_jumps 0 (fun a' w' => ∃ (er : Int) (p : Nat) (t : Tok) (tv vt : Value), lexO s.data.toList = ([], er, p) ∧ w'.heap[w.heap.size]? = some (.cells #[.int .i64 0, .int .i64 0] 26 (0, 0)) ∧ w'.heap[w.heap.size + 1]? = some (.cells (lxC t tv p vt) 47 (0, 0)) ∧ Below w.heap.size w w' ∧ ∃ u0 u1 u2 u5 u6 u8 u9 u10 u11 u12 u13 u14 u15 u16 u17 u18 u19 u20 u21 u22 u23 u24 u25 u26 u27 u28 u29 u30 u31 u32 u33 u34 u35 u36 u37 u38 u39 u40 u41 u42 u43 u44 u45 u46 u47 u48 u49 u50 u51 : Value, a' = { tmps := #[u0, u1, u2, .pointer (some ⟨w.heap.size, 0, none⟩), .pointer (some ⟨w.heap.size + 1, 0, none⟩), u5, u6, .int .i64 er, u8, u9, u10, u11, u12, u13, u14, u15, u16, u17, u18, u19, u20, u21, u22, u23, u24, u25, u26, u27, u28, u29, u30, u31, u32, u33, u34, u35, u36, u37, u38, u39, u40, u41, u42, u43, u44, u45, u46, u47, u48, u49, u50, u51], defers := [] }) (fun _ _ => 0) rfl ?_ ?_
  rotate_left
  · rintro a' w' ⟨er, p, t, tv, vt, hn, hsp, hrow, hb, u0, u1, u2, u5, u6, u8, u9, u10, u11, u12, u13, u14, u15, u16, u17, u18, u19, u20, u21, u22, u23, u24, u25, u26, u27, u28, u29, u30, u31, u32, u33, u34, u35, u36, u37, u38, u39, u40, u41, u42, u43, u44, u45, u46, u47, u48, u49, u50, u51, rfl⟩
    have HN : Hid (lexO s.data.toList = ([], er, p)) := hn
    have HSP : Hid (w'.heap[w.heap.size]? = some (.cells #[.int .i64 0, .int .i64 0] 26 (0, 0))) := hsp
    have HB : Hid (Below w.heap.size w w') := hb
    have c4 : w'.cell? ⟨w.heap.size + 1, 4, none⟩ = some (.int .i64 p) := (cell_of_row _ _ 4 _ _ _ hrow).trans rfl
    have e0 : w'.cell? ⟨w.heap.size, 0, none⟩ = some (.int .i64 0) := (cell_of_row _ _ 0 _ _ _ hsp).trans rfl
    have e1 : w'.cell? ⟨w.heap.size, 1, none⟩ = some (.int .i64 0) := (cell_of_row _ _ 1 _ _ _ hsp).trans rfl
    have z : ∀ j, w'.frozen? ⟨w.heap.size, j, none⟩ = false := fun j => frozen_of_row _ _ _ _ _ hsp
    clear hn hsp hb hrow
    go_wp2
    go_region
    go_wp2
    simp only [Exit.jump]
    have r1 : (w'.setCell ⟨w.heap.size, 0, none⟩ (.int .i64 er)).heap[w.heap.size]? = _ := heap_setCell_same _ _ _ _ _ _ HSP.out
    have r2 : ((w'.setCell ⟨w.heap.size, 0, none⟩ (.int .i64 er)).setCell ⟨w.heap.size, 1, none⟩ (.int .i64 p)).heap[w.heap.size]? = some (.cells #[.int .i64 er, .int .i64 p] 26 (0, 0)) := heap_setCell_same _ _ _ _ _ _ r1
    refine bodyPost_ret (v := .tuple #[.slice none 0 0, .agg #[.int .i64 er, .int .i64 p]]) (results_tmp_cell Tryd.results5 _ _ w.heap.size 26 _ (0, 0) _ _ rfl rfl r2 Tryd.underlying26 rfl (by kernel_rfl)) rfl ?_
    refine ⟨⟨.slice none 0 0, ?_, ?_⟩, ((HB.out.setCell (p := ⟨w.heap.size, 0, none⟩) (Nat.le_refl _) _).setCell (p := ⟨w.heap.size, 1, none⟩) (Nat.le_refl _) _).drew⟩
    · rw [HN.out]
    · rw [HN.out]
      exact ownG_nil _ _
  have hTl : s.size = s.data.toList.length := by simp
  by_cases h4 : 4096 < s.size
  · have HN : Hid (lexO s.data.toList = ([], 3, 0)) := by unfold lexO; rw [if_pos (by omega)]; exact rfl
    have h4' : (s.size : Int) > 4096 := by omega
    clear hTl h4
    go_wp2
    go_step3
    refine ⟨rfl, 3, 0, ⟨0, ⟨#[]⟩, 0⟩, .slice none 0 0, .slice none 0 0, HN.out, heap_alloc2_old _ _ _, heap_alloc2_new _ _ _, ((Below.refl _ _).alloc (Nat.le_refl _) _).alloc (by simp) _, _, _, _, _, _, _, _, _, _, _, _, _, _, _, _, _, _, _, _, _, _, _, _, _, _, _, _, _, _, _, _, _, _, _, _, _, _, _, _, _, _, _, _, _, _, _, _, _, _, rfl⟩
  obtain ⟨L, HL⟩ : ∃ L, Hid (s.data.toList = L) := ⟨_, rfl⟩
  have hLs : s.size = L.length := by rw [hTl, HL.out]
  have HO : Hid (lexG L (2 * L.length + 1) 0 [] = lexO s.data.toList) := by rw [HL.out]; unfold lexO; rw [if_neg (by omega)]; exact rfl
  have h4' : ¬ (s.size : Int) > 4096 := by omega
  have hl : L.length ≤ 4096 := by omega
  obtain ⟨cap, WT, cs, fr, hcv, bT, hrT, hcs, hcap⟩ := text_row s ((w.alloc (.cells #[.int .i64 0, .int .i64 0] 26)).alloc (.cells (lxC ⟨0, ⟨#[]⟩, 0⟩ (.slice none 0 0) 0 (.slice none 0 0)) 47))
  rw [HL.out] at hcs
  rw [hLs] at hcv hcap
  have hsz : ((w.alloc (.cells #[.int .i64 0, .int .i64 0] 26)).alloc (.cells (lxC ⟨0, ⟨#[]⟩, 0⟩ (.slice none 0 0) 0 (.slice none 0 0)) 47)).heap.size = w.heap.size + 2 := by simp
  rw [hsz] at hcv bT hrT
  have bT' : Below w.heap.size w WT := (((Below.refl _ _).alloc (Nat.le_refl _) _).alloc (by simp) _).trans (bT.mono (by omega))
  have g0 : WT.heap[w.heap.size]? = some (.cells #[.int .i64 0, .int .i64 0] 26 (0, 0)) := (bT.block _ (by omega)).trans (heap_alloc2_old _ _ _)
  have g1 : WT.heap[w.heap.size + 1]? = some (.cells (lxC ⟨0, ⟨#[]⟩, 0⟩ (.slice none 0 0) 0 (.slice none 0 0)) 47 (0, 0)) := (bT.block _ (by omega)).trans (heap_alloc2_new _ _ _)
  have k3 : WT.cell? ⟨w.heap.size + 1, 3, none⟩ = some (.slice none 0 0) := (cell_of_row _ _ 3 _ _ _ g1).trans rfl
  have z3 : WT.frozen? ⟨w.heap.size + 1, 3, none⟩ = false := frozen_of_row _ _ _ _ _ g1
  have HG0 : Hid (WT.heap[w.heap.size]? = some (.cells #[.int .i64 0, .int .i64 0] 26 (0, 0))) := g0
  have HG1 : Hid (WT.heap[w.heap.size + 1]? = some (.cells (lxC ⟨0, ⟨#[]⟩, 0⟩ (.slice none 0 0) 0 (.slice none 0 0)) 47 (0, 0))) := g1
  have HRT : Hid (WT.heap[w.heap.size + 2]? = some (.cells cs 5 fr)) := hrT
  have HCS : Hid (∀ (i : Nat) (c : UInt8), L[i]? = some c → cs[i]? = some (.int .u8 c.toNat)) := hcs
  have HBT : Hid (Below w.heap.size w WT) := bT'
  clear hTl h4 hLs g0 g1 hrT hcs bT bT' hsz HL
  replace hcv : (convert 9 45 (.string s)).run Tryd.prog ((w.alloc (.cells #[.int .i64 0, .int .i64 0] 26)).alloc (.cells #[.int .i64 0, .string ⟨#[]⟩, .int .i64 0, .slice none 0 0, .int .i64 0, .slice none 0 0] 47)) = .ok (.slice (some ⟨w.heap.size + 2, 0, none⟩) L.length cap) WT := hcv
  go_wp2
  clear hcv k3 z3
  have ho : ∀ j, j ≠ w.heap.size + 1 → (WT.setCell ⟨w.heap.size + 1, 3, none⟩ (.slice (some ⟨w.heap.size + 2, 0, none⟩) L.length cap)).heap[j]? = WT.heap[j]? := fun j hj => heap_setCell_other _ _ _ _ hj
  have hg1 : (WT.setCell ⟨w.heap.size + 1, 3, none⟩ (.slice (some ⟨w.heap.size + 2, 0, none⟩) L.length cap)).heap[w.heap.size + 1]? = some (.cells (lxC (lastT []) (.slice (some ⟨w.heap.size + 2, 0, none⟩) L.length cap) 0 (.slice none 0 0)) 47 (0, 0)) := heap_setCell_same _ _ _ _ _ _ HG1.out
  go_loopw [] (fun wr => ∃ (p : Nat) (ts : List Tok) (f : Nat) (vt : Value), p ≤ L.length ∧ ts.length ≤ 1024 ∧ wr.heap[w.heap.size]? = some (.cells #[.int .i64 0, .int .i64 0] 26 (0, 0)) ∧ wr.heap[w.heap.size + 1]? = some (.cells (lxC (lastT ts) (.slice (some ⟨w.heap.size + 2, 0, none⟩) L.length cap) p vt) 47 (0, 0)) ∧ wr.heap[w.heap.size + 2]? = some (.cells cs 5 fr) ∧ OwnT w.heap.size wr vt ts ∧ Below w.heap.size w wr ∧ lexMu L p ts < f ∧ lexG L f p ts = lexO s.data.toList) (fun wr => muW L.length (w.heap.size + 1) wr)
  case atStart => exact ⟨0, [], 2 * L.length + 1, .slice none 0 0, Nat.zero_le _, by simp, (ho _ (by omega)).trans HG0.out, hg1, (ho _ (by omega)).trans HRT.out, ownG_nil _ _, HBT.out.setCell (p := ⟨w.heap.size + 1, 3, none⟩) (by simp) _, by unfold lexMu; rw [lastT_nil]; simp [clo], HO.out⟩
  case round =>
    clear ho hg1 HG0 HG1 HRT HBT HO
    obtain ⟨p, ts, f, vt, hp, hts, hg0, hg1, hg2, hT, hb, hmu, hgo⟩ := hrel
    obtain ⟨f, rfl⟩ : ∃ f', f = f' + 1 := ⟨f - 1, by omega⟩
    obtain ⟨lt, HLT⟩ : ∃ lt, Hid (lastT ts = lt) := ⟨_, rfl⟩
    rw [HLT.out] at hg1
    have HG0 : Hid (wr.heap[w.heap.size]? = some (.cells #[.int .i64 0, .int .i64 0] 26 (0, 0))) := hg0
    have HG1 : Hid (wr.heap[w.heap.size + 1]? = some (.cells (lxC lt (.slice (some ⟨w.heap.size + 2, 0, none⟩) L.length cap) p vt) 47 (0, 0))) := hg1
    have HG2 : Hid (wr.heap[w.heap.size + 2]? = some (.cells cs 5 fr)) := hg2
    have HT : Hid (OwnT w.heap.size wr vt ts) := hT
    have HB : Hid (Below w.heap.size w wr) := hb
    have HGO : Hid (lexG L (f + 1) p ts = lexO s.data.toList) := hgo
    have HBA : Hid (BA wr (some ⟨w.heap.size + 2, 0, none⟩) L) := BA.of_row hg2 HCS.out
    have c0 : wr.cell? ⟨w.heap.size + 1, 0, none⟩ = some (.int .i64 lt.kind) := (cell_of_row _ _ 0 _ _ _ hg1).trans rfl
    have c1 : wr.cell? ⟨w.heap.size + 1, 1, none⟩ = some (.string lt.text) := (cell_of_row _ _ 1 _ _ _ hg1).trans rfl
    have c3 : wr.cell? ⟨w.heap.size + 1, 3, none⟩ = some (.slice (some ⟨w.heap.size + 2, 0, none⟩) L.length cap) := (cell_of_row _ _ 3 _ _ _ hg1).trans rfl
    have c4 : wr.cell? ⟨w.heap.size + 1, 4, none⟩ = some (.int .i64 p) := (cell_of_row _ _ 4 _ _ _ hg1).trans rfl
    clear hg0 hg1 hg2 hT hb hgo
    by_cases hlt : p < L.length
    · have hd : decide ((p : Int) < L.length) = true := by simp; omega
      have hne : ¬ cap = p := by omega
      have HH : Hid (p < L.length ∨ clo lt = true) := .inl hlt
      have HLK : Hid (Calls Tryd.prog 11 #[.slice (some ⟨w.heap.size + 2, p, none⟩) (L.length - p) (cap - p), .func (.func 10) #[.pointer (some ⟨w.heap.size + 1, 0, none⟩)] #[]] wr fun e w' => e = .returned (tripV (lookR (L.drop p) (clo lt))) ∧ Below wr.heap.size wr w') := by
        have h := look_any (some ⟨w.heap.size + 2, p, none⟩) (cap - p) (L.drop p) (w.heap.size + 1) lt wr (by have h := BA.drop HBA.out p; rw [Nat.zero_add] at h; exact h) (by rw [List.length_drop]; omega) (by rw [List.length_drop]; omega) c0 c1
        rw [List.length_drop] at h
        exact h
      obtain ⟨k, n, er, hlk⟩ : ∃ k n er, lookR (L.drop p) (clo lt) = (k, n, er) := ⟨_, _, _, rfl⟩
      have HLR : Hid (lookR (L.drop p) (clo lt) = (k, n, er)) := hlk
      clear hlk
      go_wp2_with fail
      refine HLK.out.mono ?_
      rintro e W1 ⟨rfl, b1⟩
      rw [HLR.out, tripV]
      clear c0 c1 c3 c4 HLK
      have R0 : Hid (W1.heap[w.heap.size]? = some (.cells #[.int .i64 0, .int .i64 0] 26 (0, 0))) := (b1.block _ (lt_of_row HG0.out)).trans HG0.out
      have R1 : Hid (W1.heap[w.heap.size + 1]? = some (.cells (lxC lt (.slice (some ⟨w.heap.size + 2, 0, none⟩) L.length cap) p vt) 47 (0, 0))) := (b1.block _ (lt_of_row HG1.out)).trans HG1.out
      have R2 : Hid (W1.heap[w.heap.size + 2]? = some (.cells cs 5 fr)) := (b1.block _ (lt_of_row HG2.out)).trans HG2.out
      have RT : Hid (OwnT w.heap.size W1 vt ts) := OwnG.below HT.out b1
      have RB : Hid (Below w.heap.size w W1) := HB.out.trans (b1.mono HB.out.size)
      have RA : Hid (BA W1 (some ⟨w.heap.size + 2, 0, none⟩) L) := BA.below HBA.out b1
      have hmw : muW L.length (w.heap.size + 1) wr = 2 * (L.length - p) + (if clo lt = true then 1 else 0) := muW_row HG1.out
      have HMW : Hid (muW L.length (w.heap.size + 1) wr = lexMu L p ts) := by rw [hmw]; unfold lexMu; rw [HLT.out]; exact rfl
      clear b1 HG0 HG1 HG2 HT HB hmw HBA
      by_cases her : er = 0
      · subst her
        by_cases hk : k = 0
        · subst hk
          obtain ⟨hq1, hq2⟩ := mu_gap (ts := ts) (by rw [HLT.out]; exact HH.out) hp (by rw [HLT.out]; exact HLR.out)
          have HQ2 : Hid (lexMu L (p + n) ts < lexMu L p ts) := hq2
          have HNX : Hid (lexG L f (p + n) ts = lexO s.data.toList) := by rw [← HGO.out, lexG_gap (by rw [HLT.out]; exact HH.out) (by rw [HLT.out]; exact HLR.out)]; exact rfl
          clear hq2
          go_wp2_with fail
          refine (take_gap (w.heap.size + 1) lt _ p vt n W1 R1.out (by omega)).mono ?_
          rintro e W2 ⟨rfl, hr2, hk2⟩
          have hk3 : ∀ j, j < W1.heap.size → j ≠ w.heap.size + 1 → W2.heap[j]? = W1.heap[j]? := fun j h1 h2 => hk2.block j h1 h2 (fun e => by cases e)
          have REL : Hid (∃ (p' : Nat) (ts' : List Tok) (f' : Nat) (vt' : Value), p' ≤ L.length ∧ ts'.length ≤ 1024 ∧ W2.heap[w.heap.size]? = some (.cells #[.int .i64 0, .int .i64 0] 26 (0, 0)) ∧ W2.heap[w.heap.size + 1]? = some (.cells (lxC (lastT ts') (.slice (some ⟨w.heap.size + 2, 0, none⟩) L.length cap) p' vt') 47 (0, 0)) ∧ W2.heap[w.heap.size + 2]? = some (.cells cs 5 fr) ∧ OwnT w.heap.size W2 vt' ts' ∧ Below w.heap.size w W2 ∧ lexMu L p' ts' < f' ∧ lexG L f' p' ts' = lexO s.data.toList) :=
            ⟨p + n, ts, f, vt, hq1, hts, (hk3 _ (lt_of_row R0.out) (by omega)).trans R0.out, by rw [HLT.out]; exact hr2, (hk3 _ (lt_of_row R2.out) (by omega)).trans R2.out, OwnG.keep RT.out (fun j hj => hk3 j (OwnG.lt RT.out hj).2 (fun e => OwnG.ne RT.out R1.out (by decide) (e ▸ hj))), RB.out.trans ⟨hk2.os, hk2.tape, hk2.output, hk2.size, fun j hj => hk3 j (Nat.lt_of_lt_of_le hj RB.out.size) (by omega)⟩, by have := HQ2.out; omega, HNX.out⟩
          have MEA : Hid (muW L.length (w.heap.size + 1) W2 < muW L.length (w.heap.size + 1) wr) := by
            rw [HMW.out, muW_row hr2]
            have := HQ2.out
            unfold lexMu at this ⊢
            rw [HLT.out] at this ⊢
            exact this
          clear hk2 hr2 hk3
          go_wp2
          exact ⟨REL.out, MEA.out⟩
        · by_cases hfull : ts.length = 1024
          · have HNO : Hid (lexO s.data.toList = ([], 3, p)) := by rw [← HGO.out, lexG_full (by rw [HLT.out]; exact HH.out) (by rw [HLT.out]; exact HLR.out) hk hfull]; exact rfl
            obtain ⟨st, ct, hvt⟩ := OwnG.shape RT.out
            rw [hfull] at hvt
            subst hvt
            go_wp2_with fail
            refine (take_full (w.heap.size + 1) lt _ p st ct k n W1 R1.out hk).mono ?_
            rintro e W2 ⟨rfl, hW2⟩
            rw [hW2]
            clear hW2
            go_wp2
            go_step3
            exact ⟨rfl, 3, p, lt, _, _, HNO.out, R0.out, R1.out, RB.out, _, _, _, _, _, _, _, _, _, _, _, _, _, _, _, _, _, _, _, _, _, _, _, _, _, _, _, _, _, _, _, _, _, _, _, _, _, _, _, _, _, _, _, _, _, _, _, _, _, rfl⟩
          · obtain ⟨hq1, hq2⟩ := mu_tok (ts := ts) (by rw [HLT.out]; exact HH.out) hp (by rw [HLT.out]; exact HLR.out) (t := ⟨k, strU ((L.drop p).take n), p⟩) rfl
            have HQ2 : Hid (lexMu L (p + n) (ts ++ [⟨k, strU ((L.drop p).take n), p⟩]) < lexMu L p ts) := hq2
            have HNX : Hid (lexG L f (p + n) (ts ++ [⟨k, strU ((L.drop p).take n), p⟩]) = lexO s.data.toList) := by rw [← HGO.out, lexG_tok (by rw [HLT.out]; exact HH.out) (by rw [HLT.out]; exact HLR.out) hk hfull]; exact rfl
            clear hq2
            go_wp2_with fail
            refine (take_any w.heap.size (w.heap.size + 1) lt (w.heap.size + 2) 0 cap p L vt ts k n W1 R1.out RA.out RT.out hq1 hcap (by omega) (by omega) hk (by omega)).mono ?_
            rintro e W2 ⟨rfl, vt', hr2, ht2, hk2⟩
            have REL : Hid (∃ (p' : Nat) (ts' : List Tok) (f' : Nat) (vt' : Value), p' ≤ L.length ∧ ts'.length ≤ 1024 ∧ W2.heap[w.heap.size]? = some (.cells #[.int .i64 0, .int .i64 0] 26 (0, 0)) ∧ W2.heap[w.heap.size + 1]? = some (.cells (lxC (lastT ts') (.slice (some ⟨w.heap.size + 2, 0, none⟩) L.length cap) p' vt') 47 (0, 0)) ∧ W2.heap[w.heap.size + 2]? = some (.cells cs 5 fr) ∧ OwnT w.heap.size W2 vt' ts' ∧ Below w.heap.size w W2 ∧ lexMu L p' ts' < f' ∧ lexG L f' p' ts' = lexO s.data.toList) :=
              ⟨p + n, ts ++ [⟨k, strU ((L.drop p).take n), p⟩], f, vt', hq1, by rw [List.length_append, List.length_singleton]; omega, Kept.row hk2 RT.out R0.out (by decide) (by omega), by rw [lastT_push]; exact hr2, Kept.row hk2 RT.out R2.out (by decide) (by omega), ht2, RB.out.trans (hk2.below RT.out (by omega) RB.out.size), by have := HQ2.out; omega, HNX.out⟩
            have MEA : Hid (muW L.length (w.heap.size + 1) W2 < muW L.length (w.heap.size + 1) wr) := by
              rw [HMW.out, muW_row hr2]
              have := HQ2.out
              unfold lexMu at this ⊢
              rw [lastT_push] at this
              exact this
            clear hk2 hr2 ht2
            go_wp2
            exact ⟨REL.out, MEA.out⟩
      · have HNO : Hid (lexO s.data.toList = ([], er, p)) := by rw [← HGO.out, lexG_err (by rw [HLT.out]; exact HH.out) (by rw [HLT.out]; exact HLR.out) her]; exact rfl
        have her' : (er != 0) = true := by simpa using her
        go_wp2
        go_step3
        exact ⟨rfl, er, p, lt, _, _, HNO.out, R0.out, R1.out, RB.out, _, _, _, _, _, _, _, _, _, _, _, _, _, _, _, _, _, _, _, _, _, _, _, _, _, _, _, _, _, _, _, _, _, _, _, _, _, _, _, _, _, _, _, _, _, _, _, _, _, rfl⟩
    · have hd : decide ((p : Int) < L.length) = false := by simp; omega
      cases hcl : clo lt
      · have HNO : Hid (lexO s.data.toList = (ts, 0, 0)) := by rw [← HGO.out, lexG_end hlt (by rw [HLT.out]; exact hcl)]; exact rfl
        have c5 : wr.cell? ⟨w.heap.size + 1, 5, none⟩ = some vt := (cell_of_row _ _ 5 _ _ _ HG1.out).trans rfl
        have e0 : wr.cell? ⟨w.heap.size, 0, none⟩ = some (.int .i64 0) := (cell_of_row _ _ 0 _ _ _ HG0.out).trans rfl
        have e1 : wr.cell? ⟨w.heap.size, 1, none⟩ = some (.int .i64 0) := (cell_of_row _ _ 1 _ _ _ HG0.out).trans rfl
        have z : ∀ j, wr.frozen? ⟨w.heap.size, j, none⟩ = false := fun j => frozen_of_row _ _ _ _ _ HG0.out
        obtain ⟨st, ct, rfl⟩ := OwnG.shape HT.out
        go_wp2_with (go_at_call 10; refine (ends_any (w.heap.size + 1) lt wr c0 c1).mono ?_; rintro e W0 ⟨rfl, hW0⟩; rw [hW0, hcl])
        simp only [Exit.jump]
        have r1 : (wr.setCell ⟨w.heap.size, 0, none⟩ (.int .i64 0)).heap[w.heap.size]? = _ := heap_setCell_same _ _ _ _ _ _ HG0.out
        have r2 : ((wr.setCell ⟨w.heap.size, 0, none⟩ (.int .i64 0)).setCell ⟨w.heap.size, 1, none⟩ (.int .i64 0)).heap[w.heap.size]? = some (.cells #[.int .i64 0, .int .i64 0] 26 (0, 0)) := heap_setCell_same _ _ _ _ _ _ r1
        refine bodyPost_ret (v := .tuple #[.slice st ts.length ct, .agg #[.int .i64 0, .int .i64 0]]) (results_tmp_cell Tryd.results5 _ _ w.heap.size 26 _ (0, 0) _ _ rfl rfl r2 Tryd.underlying26 rfl (by kernel_rfl)) rfl ?_
        have ho : ∀ j, j ≠ w.heap.size → ((wr.setCell ⟨w.heap.size, 0, none⟩ (.int .i64 0)).setCell ⟨w.heap.size, 1, none⟩ (.int .i64 0)).heap[j]? = wr.heap[j]? := fun j hj => (heap_setCell_other _ _ _ _ hj).trans (heap_setCell_other _ _ _ _ hj)
        refine ⟨⟨.slice st ts.length ct, ?_, ?_⟩, (HB.out.setCell (p := ⟨w.heap.size, 0, none⟩) (Nat.le_refl _) _).setCell (p := ⟨w.heap.size, 1, none⟩) (Nat.le_refl _) _⟩
        · rw [HNO.out]
          exact rfl
        · rw [HNO.out]
          exact OwnG.keep HT.out fun j hj => ho j (fun e => OwnG.ne HT.out HG0.out (by decide) (e ▸ hj))
      · have HH : Hid (p < L.length ∨ clo lt = true) := .inr hcl
        by_cases hne : cap = p
        · subst hne
          have HLK : Hid (Calls Tryd.prog 11 #[.slice (some ⟨w.heap.size + 2, 0, none⟩) 0 0, .func (.func 10) #[.pointer (some ⟨w.heap.size + 1, 0, none⟩)] #[]] wr fun e w' => e = .returned (tripV (lookR (L.drop cap) (clo lt))) ∧ Below wr.heap.size wr w') := by
            have h := look_any (some ⟨w.heap.size + 2, 0, none⟩) 0 (L.drop cap) (w.heap.size + 1) lt wr (BA.none_left (by omega)) (by rw [List.length_drop]; omega) (by rw [List.length_drop]; omega) c0 c1
            rw [List.length_drop, show L.length - cap = 0 by omega] at h
            exact h
          obtain ⟨k, n, er, hlk⟩ : ∃ k n er, lookR (L.drop cap) (clo lt) = (k, n, er) := ⟨_, _, _, rfl⟩
          have HLR : Hid (lookR (L.drop cap) (clo lt) = (k, n, er)) := hlk
          clear hlk
          go_wp2_with fail
          refine (ends_any (w.heap.size + 1) lt wr c0 c1).mono ?_
          rintro e W0 ⟨rfl, hW0⟩
          rw [hW0, hcl]
          clear hW0
          go_wp2_with fail
          refine HLK.out.mono ?_
          rintro e W1 ⟨rfl, b1⟩
          rw [HLR.out, tripV]
          clear c0 c1 c3 c4 HLK
          have R0 : Hid (W1.heap[w.heap.size]? = some (.cells #[.int .i64 0, .int .i64 0] 26 (0, 0))) := (b1.block _ (lt_of_row HG0.out)).trans HG0.out
          have R1 : Hid (W1.heap[w.heap.size + 1]? = some (.cells (lxC lt (.slice (some ⟨w.heap.size + 2, 0, none⟩) L.length cap) cap vt) 47 (0, 0))) := (b1.block _ (lt_of_row HG1.out)).trans HG1.out
          have R2 : Hid (W1.heap[w.heap.size + 2]? = some (.cells cs 5 fr)) := (b1.block _ (lt_of_row HG2.out)).trans HG2.out
          have RT : Hid (OwnT w.heap.size W1 vt ts) := OwnG.below HT.out b1
          have RB : Hid (Below w.heap.size w W1) := HB.out.trans (b1.mono HB.out.size)
          have RA : Hid (BA W1 (some ⟨w.heap.size + 2, 0, none⟩) L) := BA.below HBA.out b1
          have hmw : muW L.length (w.heap.size + 1) wr = 2 * (L.length - cap) + (if clo lt = true then 1 else 0) := muW_row HG1.out
          have HMW : Hid (muW L.length (w.heap.size + 1) wr = lexMu L cap ts) := by rw [hmw]; unfold lexMu; rw [HLT.out]; exact rfl
          clear b1 HG0 HG1 HG2 HT HB hmw HBA
          by_cases her : er = 0
          · subst her
            by_cases hk : k = 0
            · subst hk
              obtain ⟨hq1, hq2⟩ := mu_gap (ts := ts) (by rw [HLT.out]; exact HH.out) hp (by rw [HLT.out]; exact HLR.out)
              have HQ2 : Hid (lexMu L (cap + n) ts < lexMu L cap ts) := hq2
              have HNX : Hid (lexG L f (cap + n) ts = lexO s.data.toList) := by rw [← HGO.out, lexG_gap (by rw [HLT.out]; exact HH.out) (by rw [HLT.out]; exact HLR.out)]; exact rfl
              clear hq2
              go_wp2_with fail
              refine (take_gap (w.heap.size + 1) lt _ cap vt n W1 R1.out (by omega)).mono ?_
              rintro e W2 ⟨rfl, hr2, hk2⟩
              have hk3 : ∀ j, j < W1.heap.size → j ≠ w.heap.size + 1 → W2.heap[j]? = W1.heap[j]? := fun j h1 h2 => hk2.block j h1 h2 (fun e => by cases e)
              have REL : Hid (∃ (cap' : Nat) (ts' : List Tok) (f' : Nat) (vt' : Value), cap' ≤ L.length ∧ ts'.length ≤ 1024 ∧ W2.heap[w.heap.size]? = some (.cells #[.int .i64 0, .int .i64 0] 26 (0, 0)) ∧ W2.heap[w.heap.size + 1]? = some (.cells (lxC (lastT ts') (.slice (some ⟨w.heap.size + 2, 0, none⟩) L.length cap) cap' vt') 47 (0, 0)) ∧ W2.heap[w.heap.size + 2]? = some (.cells cs 5 fr) ∧ OwnT w.heap.size W2 vt' ts' ∧ Below w.heap.size w W2 ∧ lexMu L cap' ts' < f' ∧ lexG L f' cap' ts' = lexO s.data.toList) :=
                ⟨cap + n, ts, f, vt, hq1, hts, (hk3 _ (lt_of_row R0.out) (by omega)).trans R0.out, by rw [HLT.out]; exact hr2, (hk3 _ (lt_of_row R2.out) (by omega)).trans R2.out, OwnG.keep RT.out (fun j hj => hk3 j (OwnG.lt RT.out hj).2 (fun e => OwnG.ne RT.out R1.out (by decide) (e ▸ hj))), RB.out.trans ⟨hk2.os, hk2.tape, hk2.output, hk2.size, fun j hj => hk3 j (Nat.lt_of_lt_of_le hj RB.out.size) (by omega)⟩, by have := HQ2.out; omega, HNX.out⟩
              have MEA : Hid (muW L.length (w.heap.size + 1) W2 < muW L.length (w.heap.size + 1) wr) := by
                rw [HMW.out, muW_row hr2]
                have := HQ2.out
                unfold lexMu at this ⊢
                rw [HLT.out] at this ⊢
                exact this
              clear hk2 hr2 hk3
              go_wp2
              exact ⟨REL.out, MEA.out⟩
            · by_cases hfull : ts.length = 1024
              · have HNO : Hid (lexO s.data.toList = ([], 3, cap)) := by rw [← HGO.out, lexG_full (by rw [HLT.out]; exact HH.out) (by rw [HLT.out]; exact HLR.out) hk hfull]; exact rfl
                obtain ⟨st, ct, hvt⟩ := OwnG.shape RT.out
                rw [hfull] at hvt
                subst hvt
                go_wp2_with fail
                refine (take_full (w.heap.size + 1) lt _ cap st ct k n W1 R1.out hk).mono ?_
                rintro e W2 ⟨rfl, hW2⟩
                rw [hW2]
                clear hW2
                go_wp2
                go_step3
                exact ⟨rfl, 3, cap, lt, _, _, HNO.out, R0.out, R1.out, RB.out, _, _, _, _, _, _, _, _, _, _, _, _, _, _, _, _, _, _, _, _, _, _, _, _, _, _, _, _, _, _, _, _, _, _, _, _, _, _, _, _, _, _, _, _, _, _, _, _, _, rfl⟩
              · obtain ⟨hq1, hq2⟩ := mu_tok (ts := ts) (by rw [HLT.out]; exact HH.out) hp (by rw [HLT.out]; exact HLR.out) (t := ⟨k, strU ((L.drop cap).take n), cap⟩) rfl
                have HQ2 : Hid (lexMu L (cap + n) (ts ++ [⟨k, strU ((L.drop cap).take n), cap⟩]) < lexMu L cap ts) := hq2
                have HNX : Hid (lexG L f (cap + n) (ts ++ [⟨k, strU ((L.drop cap).take n), cap⟩]) = lexO s.data.toList) := by rw [← HGO.out, lexG_tok (by rw [HLT.out]; exact HH.out) (by rw [HLT.out]; exact HLR.out) hk hfull]; exact rfl
                clear hq2
                go_wp2_with fail
                refine (take_any w.heap.size (w.heap.size + 1) lt (w.heap.size + 2) 0 cap cap L vt ts k n W1 R1.out RA.out RT.out hq1 hcap (by omega) (by omega) hk (by omega)).mono ?_
                rintro e W2 ⟨rfl, vt', hr2, ht2, hk2⟩
                have REL : Hid (∃ (cap' : Nat) (ts' : List Tok) (f' : Nat) (vt' : Value), cap' ≤ L.length ∧ ts'.length ≤ 1024 ∧ W2.heap[w.heap.size]? = some (.cells #[.int .i64 0, .int .i64 0] 26 (0, 0)) ∧ W2.heap[w.heap.size + 1]? = some (.cells (lxC (lastT ts') (.slice (some ⟨w.heap.size + 2, 0, none⟩) L.length cap) cap' vt') 47 (0, 0)) ∧ W2.heap[w.heap.size + 2]? = some (.cells cs 5 fr) ∧ OwnT w.heap.size W2 vt' ts' ∧ Below w.heap.size w W2 ∧ lexMu L cap' ts' < f' ∧ lexG L f' cap' ts' = lexO s.data.toList) :=
                  ⟨cap + n, ts ++ [⟨k, strU ((L.drop cap).take n), cap⟩], f, vt', hq1, by rw [List.length_append, List.length_singleton]; omega, Kept.row hk2 RT.out R0.out (by decide) (by omega), by rw [lastT_push]; exact hr2, Kept.row hk2 RT.out R2.out (by decide) (by omega), ht2, RB.out.trans (hk2.below RT.out (by omega) RB.out.size), by have := HQ2.out; omega, HNX.out⟩
                have MEA : Hid (muW L.length (w.heap.size + 1) W2 < muW L.length (w.heap.size + 1) wr) := by
                  rw [HMW.out, muW_row hr2]
                  have := HQ2.out
                  unfold lexMu at this ⊢
                  rw [lastT_push] at this
                  exact this
                clear hk2 hr2 ht2
                go_wp2
                exact ⟨REL.out, MEA.out⟩
          · have HNO : Hid (lexO s.data.toList = ([], er, cap)) := by rw [← HGO.out, lexG_err (by rw [HLT.out]; exact HH.out) (by rw [HLT.out]; exact HLR.out) her]; exact rfl
            have her' : (er != 0) = true := by simpa using her
            go_wp2
            go_step3
            exact ⟨rfl, er, cap, lt, _, _, HNO.out, R0.out, R1.out, RB.out, _, _, _, _, _, _, _, _, _, _, _, _, _, _, _, _, _, _, _, _, _, _, _, _, _, _, _, _, _, _, _, _, _, _, _, _, _, _, _, _, _, _, _, _, _, _, _, _, _, rfl⟩
        · skip
          have HLK : Hid (Calls Tryd.prog 11 #[.slice (some ⟨w.heap.size + 2, p, none⟩) (L.length - p) (cap - p), .func (.func 10) #[.pointer (some ⟨w.heap.size + 1, 0, none⟩)] #[]] wr fun e w' => e = .returned (tripV (lookR (L.drop p) (clo lt))) ∧ Below wr.heap.size wr w') := by
            have h := look_any (some ⟨w.heap.size + 2, p, none⟩) (cap - p) (L.drop p) (w.heap.size + 1) lt wr (by have h := BA.drop HBA.out p; rw [Nat.zero_add] at h; exact h) (by rw [List.length_drop]; omega) (by rw [List.length_drop]; omega) c0 c1
            rw [List.length_drop] at h
            exact h
          obtain ⟨k, n, er, hlk⟩ : ∃ k n er, lookR (L.drop p) (clo lt) = (k, n, er) := ⟨_, _, _, rfl⟩
          have HLR : Hid (lookR (L.drop p) (clo lt) = (k, n, er)) := hlk
          clear hlk
          go_wp2_with fail
          refine (ends_any (w.heap.size + 1) lt wr c0 c1).mono ?_
          rintro e W0 ⟨rfl, hW0⟩
          rw [hW0, hcl]
          clear hW0
          go_wp2_with fail
          refine HLK.out.mono ?_
          rintro e W1 ⟨rfl, b1⟩
          rw [HLR.out, tripV]
          clear c0 c1 c3 c4 HLK
          have R0 : Hid (W1.heap[w.heap.size]? = some (.cells #[.int .i64 0, .int .i64 0] 26 (0, 0))) := (b1.block _ (lt_of_row HG0.out)).trans HG0.out
          have R1 : Hid (W1.heap[w.heap.size + 1]? = some (.cells (lxC lt (.slice (some ⟨w.heap.size + 2, 0, none⟩) L.length cap) p vt) 47 (0, 0))) := (b1.block _ (lt_of_row HG1.out)).trans HG1.out
          have R2 : Hid (W1.heap[w.heap.size + 2]? = some (.cells cs 5 fr)) := (b1.block _ (lt_of_row HG2.out)).trans HG2.out
          have RT : Hid (OwnT w.heap.size W1 vt ts) := OwnG.below HT.out b1
          have RB : Hid (Below w.heap.size w W1) := HB.out.trans (b1.mono HB.out.size)
          have RA : Hid (BA W1 (some ⟨w.heap.size + 2, 0, none⟩) L) := BA.below HBA.out b1
          have hmw : muW L.length (w.heap.size + 1) wr = 2 * (L.length - p) + (if clo lt = true then 1 else 0) := muW_row HG1.out
          have HMW : Hid (muW L.length (w.heap.size + 1) wr = lexMu L p ts) := by rw [hmw]; unfold lexMu; rw [HLT.out]; exact rfl
          clear b1 HG0 HG1 HG2 HT HB hmw HBA
          by_cases her : er = 0
          · subst her
            by_cases hk : k = 0
            · subst hk
              obtain ⟨hq1, hq2⟩ := mu_gap (ts := ts) (by rw [HLT.out]; exact HH.out) hp (by rw [HLT.out]; exact HLR.out)
              have HQ2 : Hid (lexMu L (p + n) ts < lexMu L p ts) := hq2
              have HNX : Hid (lexG L f (p + n) ts = lexO s.data.toList) := by rw [← HGO.out, lexG_gap (by rw [HLT.out]; exact HH.out) (by rw [HLT.out]; exact HLR.out)]; exact rfl
              clear hq2
              go_wp2_with fail
              refine (take_gap (w.heap.size + 1) lt _ p vt n W1 R1.out (by omega)).mono ?_
              rintro e W2 ⟨rfl, hr2, hk2⟩
              have hk3 : ∀ j, j < W1.heap.size → j ≠ w.heap.size + 1 → W2.heap[j]? = W1.heap[j]? := fun j h1 h2 => hk2.block j h1 h2 (fun e => by cases e)
              have REL : Hid (∃ (p' : Nat) (ts' : List Tok) (f' : Nat) (vt' : Value), p' ≤ L.length ∧ ts'.length ≤ 1024 ∧ W2.heap[w.heap.size]? = some (.cells #[.int .i64 0, .int .i64 0] 26 (0, 0)) ∧ W2.heap[w.heap.size + 1]? = some (.cells (lxC (lastT ts') (.slice (some ⟨w.heap.size + 2, 0, none⟩) L.length cap) p' vt') 47 (0, 0)) ∧ W2.heap[w.heap.size + 2]? = some (.cells cs 5 fr) ∧ OwnT w.heap.size W2 vt' ts' ∧ Below w.heap.size w W2 ∧ lexMu L p' ts' < f' ∧ lexG L f' p' ts' = lexO s.data.toList) :=
                ⟨p + n, ts, f, vt, hq1, hts, (hk3 _ (lt_of_row R0.out) (by omega)).trans R0.out, by rw [HLT.out]; exact hr2, (hk3 _ (lt_of_row R2.out) (by omega)).trans R2.out, OwnG.keep RT.out (fun j hj => hk3 j (OwnG.lt RT.out hj).2 (fun e => OwnG.ne RT.out R1.out (by decide) (e ▸ hj))), RB.out.trans ⟨hk2.os, hk2.tape, hk2.output, hk2.size, fun j hj => hk3 j (Nat.lt_of_lt_of_le hj RB.out.size) (by omega)⟩, by have := HQ2.out; omega, HNX.out⟩
              have MEA : Hid (muW L.length (w.heap.size + 1) W2 < muW L.length (w.heap.size + 1) wr) := by
                rw [HMW.out, muW_row hr2]
                have := HQ2.out
                unfold lexMu at this ⊢
                rw [HLT.out] at this ⊢
                exact this
              clear hk2 hr2 hk3
              go_wp2
              exact ⟨REL.out, MEA.out⟩
            · by_cases hfull : ts.length = 1024
              · have HNO : Hid (lexO s.data.toList = ([], 3, p)) := by rw [← HGO.out, lexG_full (by rw [HLT.out]; exact HH.out) (by rw [HLT.out]; exact HLR.out) hk hfull]; exact rfl
                obtain ⟨st, ct, hvt⟩ := OwnG.shape RT.out
                rw [hfull] at hvt
                subst hvt
                go_wp2_with fail
                refine (take_full (w.heap.size + 1) lt _ p st ct k n W1 R1.out hk).mono ?_
                rintro e W2 ⟨rfl, hW2⟩
                rw [hW2]
                clear hW2
                go_wp2
                go_step3
                exact ⟨rfl, 3, p, lt, _, _, HNO.out, R0.out, R1.out, RB.out, _, _, _, _, _, _, _, _, _, _, _, _, _, _, _, _, _, _, _, _, _, _, _, _, _, _, _, _, _, _, _, _, _, _, _, _, _, _, _, _, _, _, _, _, _, _, _, _, _, rfl⟩
              · obtain ⟨hq1, hq2⟩ := mu_tok (ts := ts) (by rw [HLT.out]; exact HH.out) hp (by rw [HLT.out]; exact HLR.out) (t := ⟨k, strU ((L.drop p).take n), p⟩) rfl
                have HQ2 : Hid (lexMu L (p + n) (ts ++ [⟨k, strU ((L.drop p).take n), p⟩]) < lexMu L p ts) := hq2
                have HNX : Hid (lexG L f (p + n) (ts ++ [⟨k, strU ((L.drop p).take n), p⟩]) = lexO s.data.toList) := by rw [← HGO.out, lexG_tok (by rw [HLT.out]; exact HH.out) (by rw [HLT.out]; exact HLR.out) hk hfull]; exact rfl
                clear hq2
                go_wp2_with fail
                refine (take_any w.heap.size (w.heap.size + 1) lt (w.heap.size + 2) 0 cap p L vt ts k n W1 R1.out RA.out RT.out hq1 hcap (by omega) (by omega) hk (by omega)).mono ?_
                rintro e W2 ⟨rfl, vt', hr2, ht2, hk2⟩
                have REL : Hid (∃ (p' : Nat) (ts' : List Tok) (f' : Nat) (vt' : Value), p' ≤ L.length ∧ ts'.length ≤ 1024 ∧ W2.heap[w.heap.size]? = some (.cells #[.int .i64 0, .int .i64 0] 26 (0, 0)) ∧ W2.heap[w.heap.size + 1]? = some (.cells (lxC (lastT ts') (.slice (some ⟨w.heap.size + 2, 0, none⟩) L.length cap) p' vt') 47 (0, 0)) ∧ W2.heap[w.heap.size + 2]? = some (.cells cs 5 fr) ∧ OwnT w.heap.size W2 vt' ts' ∧ Below w.heap.size w W2 ∧ lexMu L p' ts' < f' ∧ lexG L f' p' ts' = lexO s.data.toList) :=
                  ⟨p + n, ts ++ [⟨k, strU ((L.drop p).take n), p⟩], f, vt', hq1, by rw [List.length_append, List.length_singleton]; omega, Kept.row hk2 RT.out R0.out (by decide) (by omega), by rw [lastT_push]; exact hr2, Kept.row hk2 RT.out R2.out (by decide) (by omega), ht2, RB.out.trans (hk2.below RT.out (by omega) RB.out.size), by have := HQ2.out; omega, HNX.out⟩
                have MEA : Hid (muW L.length (w.heap.size + 1) W2 < muW L.length (w.heap.size + 1) wr) := by
                  rw [HMW.out, muW_row hr2]
                  have := HQ2.out
                  unfold lexMu at this ⊢
                  rw [lastT_push] at this
                  exact this
                clear hk2 hr2 ht2
                go_wp2
                exact ⟨REL.out, MEA.out⟩
          · have HNO : Hid (lexO s.data.toList = ([], er, p)) := by rw [← HGO.out, lexG_err (by rw [HLT.out]; exact HH.out) (by rw [HLT.out]; exact HLR.out) her]; exact rfl
            have her' : (er != 0) = true := by simpa using her
            go_wp2
            go_step3
            exact ⟨rfl, er, p, lt, _, _, HNO.out, R0.out, R1.out, RB.out, _, _, _, _, _, _, _, _, _, _, _, _, _, _, _, _, _, _, _, _, _, _, _, _, _, _, _, _, _, _, _, _, _, _, _, _, _, _, _, _, _, _, _, _, _, _, _, _, _, rfl⟩
end Go.Proofs.YthnoiohganknnabDoor

namespace Go.Proofs.YthnoiohganknnabDoor
open Go.RowKit

/-- A token's number. -/
def numO (t : Tok) : Option Nat := if t.kind = 2 then decO t.text.data.toList else none
/-- What a token's text says. -/
def valO (t : Tok) : Option (List UInt8) := if t.kind = 3 then (match unqO t.text.data.toList with | some (v, n) => if n = t.text.size then some v else none | none => none) else none
def numV (o : Option Nat) (e : Int) : Value := match o with | none => .tuple #[.int .i64 0, .int .i64 e] | some n => .tuple #[.int .i64 n, .int .i64 0]
set_option maxRecDepth 100000 in
set_option maxHeartbeats 1000000 in
theorem number_is (t : Tok) (w : World) : Calls Tryd.prog 82 #[.agg t.cells] w fun e w' => e = .returned (numV (numO t) 201) ∧ Below w.heap.size w w' := by
  unfold Tok.cells
  go_enter Tryd.func82, Tryd.ntmps82
  go_wp2_with fail
  refine calls_gen (fun W => W.heap[w.heap.size]? = some (.cells #[.int .i64 t.kind, .string t.text, .int .i64 t.pos] 35 (0, 0)) ∧ Below w.heap.size w W) ⟨heap_alloc_new _ _, (Below.refl _ _).alloc (Nat.le_refl _) _⟩ ?_
  rintro W0 ⟨hr0, b0⟩
  refine (decimal_any t.text W0).mono ?_
  rintro e W1 ⟨rfl, b1⟩
  have hr1 : W1.heap[w.heap.size]? = some (.cells #[.int .i64 t.kind, .string t.text, .int .i64 t.pos] 35 (0, 0)) := (b1.block _ (lt_of_row hr0)).trans hr0
  have c0 : W1.cell? ⟨w.heap.size, 0, none⟩ = some (.int .i64 t.kind) := (cell_of_row _ _ 0 _ _ _ hr1).trans rfl
  have bw : Below w.heap.size w W1 := b0.trans (b1.mono b0.size)
  clear hr0 hr1 b0 b1
  cases hk : (t.kind == 2)
  · have hk' : (t.kind != 2) = true := by rw [bne, hk]; rfl
    have HN : Hid (numO t = none) := by unfold numO; rw [if_neg (by simpa using hk)]; exact rfl
    clear hk
    unfold decV
    go_wp2
    go_ret2
    refine ⟨?_, bw⟩
    rw [HN.out]
    exact rfl
  · have hk' : (t.kind != 2) = false := by rw [bne, hk]; rfl
    have HN : Hid (numO t = decO t.text.data.toList) := by unfold numO; rw [if_pos (by simpa using hk)]; exact rfl
    clear hk
    cases hd : decO t.text.data.toList with
    | none =>
      have HX : Hid (numO t = none) := by rw [HN.out, hd]; exact rfl
      unfold decV
      go_wp2
      go_ret2
      refine ⟨?_, bw⟩
      rw [HX.out]
      exact rfl
    | some n =>
      have HX : Hid (numO t = some n) := by rw [HN.out, hd]; exact rfl
      unfold decV
      go_wp2
      go_ret2
      refine ⟨?_, bw⟩
      rw [HX.out]
      exact rfl
set_option maxRecDepth 100000 in
set_option maxHeartbeats 2000000 in
theorem value_is (t : Tok) (w : World) (hs : t.text.size ≤ 100000) : Calls Tryd.prog 56 #[.agg t.cells] w fun e w' => e = .returned (strV (valO t) 200) ∧ Below w.heap.size w w' := by
  unfold Tok.cells
  obtain ⟨cap, WT, cs, fr, hcv, bT, hrT, hcs, hcap⟩ := text_row t.text (w.alloc (.cells #[.int .i64 t.kind, .string t.text, .int .i64 t.pos] 35))
  have hsz : (w.alloc (.cells #[.int .i64 t.kind, .string t.text, .int .i64 t.pos] 35)).heap.size = w.heap.size + 1 := by simp
  have HTL : Hid (t.text.size = t.text.data.toList.length) := by show t.text.size = t.text.data.toList.length; simp
  rw [hsz] at hcv bT hrT
  have HBA : Hid (BA WT (some ⟨w.heap.size + 1, 0, none⟩) t.text.data.toList) := BA.of_row hrT hcs
  have bw0 : Below w.heap.size w WT := ((Below.refl _ _).alloc (Nat.le_refl _) _).trans (bT.mono (by omega))
  have hr0 : WT.heap[w.heap.size]? = some (.cells #[.int .i64 t.kind, .string t.text, .int .i64 t.pos] 35 (0, 0)) := (bT.block _ (by omega)).trans (heap_alloc_new _ _)
  clear hrT hcs bT hsz
  go_enter Tryd.func56, Tryd.ntmps56
  go_wp2_with fail
  have HU : Hid (Calls Tryd.prog 31 #[.slice (some ⟨w.heap.size + 1, 0, none⟩) t.text.size cap] WT fun e w' => UnqP WT.heap.size w' (unqO t.text.data.toList) e ∧ Below WT.heap.size WT w') := by
    have := unquote_any (some ⟨w.heap.size + 1, 0, none⟩) cap t.text.data.toList WT HBA.out (by have := HTL.out; omega) (by have := HTL.out; omega)
    rw [← HTL.out] at this
    exact this
  refine HU.out.mono ?_
  rintro e W1 ⟨hP, b1⟩
  have hr1 : W1.heap[w.heap.size]? = some (.cells #[.int .i64 t.kind, .string t.text, .int .i64 t.pos] 35 (0, 0)) := (b1.block _ (lt_of_row hr0)).trans hr0
  have c0 : W1.cell? ⟨w.heap.size, 0, none⟩ = some (.int .i64 t.kind) := (cell_of_row _ _ 0 _ _ _ hr1).trans rfl
  have c1 : W1.cell? ⟨w.heap.size, 1, none⟩ = some (.string t.text) := (cell_of_row _ _ 1 _ _ _ hr1).trans rfl
  have bw : Below w.heap.size w W1 := bw0.trans (b1.mono bw0.size)
  clear hr0 hr1 b1 bw0 HU HBA hcv
  have HNK : Hid (¬ t.kind = 3 → valO t = none) := fun h => by unfold valO; rw [if_neg h]
  have HVK : Hid (t.kind = 3 → valO t = match unqO t.text.data.toList with | some (v, n) => if n = t.text.size then some v else none | none => none) := fun h => by unfold valO; rw [if_pos h]
  cases hu : unqO t.text.data.toList with
  | none =>
    rw [hu] at hP
    unfold UnqP at hP
    subst hP
    have HX : Hid (valO t = none) := by
      by_cases hk : t.kind = 3
      · exact (HVK.out hk).trans (by rw [hu])
      · exact HNK.out hk
    clear HNK HVK hu
    cases hk : (t.kind == 3)
    · have hk' : (t.kind != 3) = true := by rw [bne, hk]; rfl
      clear hk
      go_wp2
      go_ret2
      refine ⟨?_, bw⟩
      rw [HX.out]
      exact rfl
    · have hk' : (t.kind != 3) = false := by rw [bne, hk]; rfl
      clear hk
      go_wp2
      go_ret2
      refine ⟨?_, bw⟩
      rw [HX.out]
      exact rfl
  | some p =>
    obtain ⟨v, n⟩ := p
    rw [hu] at hP
    obtain ⟨u, rfl, hO⟩ := hP
    have hn := unqO_size hu
    have hn0 : ((n : Int) == 0) = false := by rw [beq_eq_false_iff_ne]; omega
    obtain ⟨su, cu, rfl, hRu, -, -, -⟩ := OwnG.rows elB hO
    have hcv := conv_str (BA.of_rows hRu) cu
    cases hk : (t.kind == 3)
    · have hk' : (t.kind != 3) = true := by rw [bne, hk]; rfl
      have HX : Hid (valO t = none) := HNK.out (by simpa using hk)
      clear hk HNK HVK hu
      go_wp2
      go_ret2
      refine ⟨?_, bw⟩
      rw [HX.out]
      exact rfl
    · have hk' : (t.kind != 3) = false := by rw [bne, hk]; rfl
      have HV : Hid (valO t = if n = t.text.size then some v else none) := (HVK.out (by simpa using hk)).trans (by rw [hu])
      clear hk HNK HVK hu
      by_cases hlt : n < t.text.size
      · have HX : Hid (valO t = none) := by rw [HV.out, if_neg (by omega)]; exact rfl
        have hd : (n : Int) < t.text.size := by omega
        clear HV
        go_wp2
        go_ret2
        refine ⟨?_, bw⟩
        rw [HX.out]
        exact rfl
      · have HX : Hid (valO t = some v) := by rw [HV.out, if_pos (by have := HTL.out; omega)]; exact rfl
        have hd : ¬ (n : Int) < t.text.size := by omega
        clear HV
        go_wp2
        go_ret2
        refine ⟨?_, bw⟩
        rw [HX.out]
        exact rfl
end Go.Proofs.YthnoiohganknnabDoor
