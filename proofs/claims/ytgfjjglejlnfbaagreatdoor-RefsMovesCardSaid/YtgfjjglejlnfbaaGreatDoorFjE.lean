/- The law RefsMoves behind its first call of Apply. -/
import Derived.Test.YtgfjjglejlnfbaaGreatDoorFjD
import Derived.Test.YtgfjjglejlnfbaaGreatDoorFiH
namespace Go.Proofs.YtgfjjglejlnfbaaGreatDoor
open Go.RowKit

/-- The code behind the first parts of a row of them. -/
def rightC : Nat → Code → Code
  | n + 1, .seq _ b => rightC n b
  | _, c => c
/-- What both tell of a move: the error, and the branches. -/
def applyO (rs : List Re) (m : Mv) : Int × List Re := if badX rs m then (190, []) else if errL rs m = 0 then (0, outL m rs) else (errL rs m, [])
theorem applyD_out {rs : List Re} {m : Mv} {B : Nat} {e : Ending} {W : World} {er : Int} {L : List Re} (hO : applyO rs m = (er, L)) (h : ApplyD rs m B e W) : ∃ v, e = .returned (.tuple #[.agg #[v], .int .i64 er]) ∧ OwnR B W v L := by
  unfold applyO at hO
  cases hb : badX rs m
  · rw [hb] at hO
    by_cases h0 : errL rs m = 0
    · rw [if_neg (by decide), if_pos h0] at hO
      injection hO with h1 h2
      subst h1 h2
      exact (h.2 hb).2 h0
    · rw [if_neg (by decide), if_neg h0] at hO
      injection hO with h1 h2
      subst h1 h2
      exact ⟨_, (h.2 hb).1 h0, ownR_nil _ _⟩
  · rw [hb, if_pos rfl] at hO
    injection hO with h1 h2
    subst h1 h2
    exact ⟨_, h.1 hb, ownR_nil _ _⟩
theorem applyX_out {rs : List Re} {m : Mv} {B : Nat} {e : Ending} {W : World} {er : Int} {L : List Re} (hO : applyO rs m = (er, L)) (h : ApplyX rs m B e W) : ∃ v, e = .returned (.tuple #[.agg #[v], .int .i64 er]) ∧ OwnR B W v L := by
  refine applyD_out hO ⟨h.1, fun hb => ?_⟩
  obtain ⟨k, hk, h1, h2⟩ := h.2 hb
  have hu := (upR_of (bad_parts hb).1).1
  rw [err_mov hu hk, out_apply hu hk]
  exact ⟨h1, h2⟩
theorem applyO_len {rs : List Re} {m : Mv} {er : Int} {L : List Re} (hO : applyO rs m = (er, L)) (hl : rs.length ≤ 100) : L.length ≤ 1000 := by
  have h := outS_len m ([], noneB m.to) rs
  simp only [List.length_nil] at h
  have h' : (outS m rs).1.length ≤ 200 := by unfold outS; omega
  have h2 : (outL m rs).length ≤ 201 := by
    unfold outL
    split
    · omega
    · simp only [List.length_append, List.length_cons, List.length_nil]
      omega
  unfold applyO at hO
  split at hO
  · injection hO with _ h3
    subst h3
    simp
  · split at hO
    · injection hO with _ h3
      subst h3
      omega
    · injection hO with _ h3
      subst h3
      simp
theorem get_three {rs : List Re} {s : ByteArray} {e : Ending} (h : GetX rs s e) : (refsB rs = false ∧ e = .returned (.tuple #[.agg (arr .u8 32 noId), .int .i64 190])) ∨ (refsB rs = true ∧ findR s rs = none ∧ e = .returned (.tuple #[.agg (arr .u8 32 noId), .int .i64 4])) ∨ (refsB rs = true ∧ ∃ f, findR s rs = some f ∧ e = .returned (.tuple #[.agg (arr .u8 32 f.id), .int .i64 0])) := by
  rcases h with ⟨h1, h2⟩ | ⟨h1, h2, h3⟩ | ⟨h1, f, h2, h3, h4⟩
  · exact .inl ⟨h1, h2⟩
  · exact .inr (.inl ⟨h1, find_none h2, h3⟩)
  · refine .inr (.inr ⟨h1, ?_⟩)
    cases hf : findR s rs with
    | none => exact absurd h3 (find_has hf f h2)
    | some g =>
      obtain ⟨g1, g2⟩ := find_some hf
      rw [up_uniq (upR_of h1).1 h2 g1 (h3.trans g2.symm)] at h4
      exact ⟨g, rfl, h4⟩
/-- What the law leans on. -/
structure MvA (w W : World) (sp : Option Addr) (cap : Nat) (rs : List Re) (m : Mv) : Prop where
  bel : Below w.heap.size w W
  r0 : W.heap[w.heap.size]? = some (.cells #[.slice sp rs.length cap] 24 (0, 0))
  r1 : W.heap[w.heap.size + 1]? = some (.cells m.cells 28 (0, 0))
  hw : RowsAt w 33 Re.cells sp rs
section
variable {w W W' : World} {sp sx sy : Option Addr} {cap cx cy : Nat} {rs L : List Re} {m : Mv} {a7 a9 : Nat}
theorem MvA.grow (h : MvA w W sp cap rs m) (hb : Below W.heap.size W W') : MvA w W' sp cap rs m :=
  ⟨h.bel.trans (hb.mono h.bel.size), (hb.block _ (lt_of_row h.r0)).trans h.r0, (hb.block _ (lt_of_row h.r1)).trans h.r1, h.hw⟩
theorem MvA.hr (h : MvA w W sp cap rs m) : RowsAt W 33 Re.cells sp rs := RowsAt.below h.hw h.bel
theorem MvA.c0 (h : MvA w W sp cap rs m) : W.cell? ⟨w.heap.size, 0, none⟩ = some (.slice sp rs.length cap) := (cell_of_row _ _ _ _ _ _ h.r0).trans rfl
theorem MvA.c1 (h : MvA w W sp cap rs m) : W.cell? ⟨w.heap.size + 1, 0, none⟩ = some (.string m.name) := (cell_of_row _ _ _ _ _ _ h.r1).trans m.cell0
/-- Branches in a variable of their own. -/
structure VarR (W : World) (a : Nat) (s : Option Addr) (c : Nat) (L : List Re) : Prop where
  row : W.heap[a]? = some (.cells #[.slice s L.length c] 24 (0, 0))
  hr : RowsAt W 33 Re.cells s L
theorem VarR.grow (h : VarR W a7 sx cx L) (hb : Below W.heap.size W W') : VarR W' a7 sx cx L := ⟨(hb.block _ (lt_of_row h.row)).trans h.row, RowsAt.below h.hr hb⟩
theorem VarR.c (h : VarR W a7 sx cx L) : W.cell? ⟨a7, 0, none⟩ = some (.slice sx L.length cx) := (cell_of_row _ _ _ _ _ _ h.row).trans rfl
end
set_option pp.deepTerms.threshold 2000 in
set_option maxRecDepth 100000 in
set_option maxHeartbeats 40000000 in
theorem moves_rest (sp sx : Option Addr) (cap cx : Nat) (rs L : List Re) (er : Int) (m : Mv) (s : ByteArray) (w W : World) (a7 : Nat) (hA : MvA w W sp cap rs m) (hV : VarR W a7 sx cx L) (hO : applyO rs m = (er, L)) (hn : sp = none → rs.length = 0 ∧ cap = 0) (hl : rs.length ≤ 100)
    (hsz : ∀ e ∈ rs, e.name.size ≤ 9223372036854775807) (hms : m.name.size ≤ 9223372036854775807)
    (t0 t1 t5 t6 t9 t10 t11 t12 t13 t14 t15 t16 t17 t18 t19 t20 t21 t22 t23 t24 t25 t26 t27 t28 t29 t30 t31 t32 t33 t34 t35 t36 t37 t38 t39 t40 t41 t42 t43 t44 t45 t46 t47 t48 t49 t50 t51 t52 t53 t54 t55 t56 t57 t58 t59 t60 t61 t62 t63 t64 t65 t66 t67 t68 t69 t70 t71 t72 t73 t74 t75 t76 t77 t78 t79 t80 t81 t82 t83 t84 t85 t86 t87 t88 t89 t90 t91 t92 t93 t94 t95 t96 t97 t98 t99 t100 t101 t102 t103 t104 t105 t106 t107 t108 t109 t110 t111 t112 t113 t114 t115 t116 t117 t118 t119 t120 : Value) :
    Code.wp Tryz.prog (rightC 4 (Tryz.f3.body.getD .skip)) (bodyPost Tryz.prog Tryz.f3 fun e w' => e = .returned (.bool true) ∧ Below w.heap.size w w') ⟨#[t0, t1, .string s, .pointer (some ⟨w.heap.size, 0, none⟩), .pointer (some ⟨w.heap.size + 1, 0, none⟩), t5, t6, .pointer (some ⟨a7, 0, none⟩), .int .i64 er, t9, t10, t11, t12, t13, t14, t15, t16, t17, t18, t19, t20, t21, t22, t23, t24, t25, t26, t27, t28, t29, t30, t31, t32, t33, t34, t35, t36, t37, t38, t39, t40, t41, t42, t43, t44, t45, t46, t47, t48, t49, t50, t51, t52, t53, t54, t55, t56, t57, t58, t59, t60, t61, t62, t63, t64, t65, t66, t67, t68, t69, t70, t71, t72, t73, t74, t75, t76, t77, t78, t79, t80, t81, t82, t83, t84, t85, t86, t87, t88, t89, t90, t91, t92, t93, t94, t95, t96, t97, t98, t99, t100, t101, t102, t103, t104, t105, t106, t107, t108, t109, t110, t111, t112, t113, t114, t115, t116, t117, t118, t119, t120], []⟩ W := by
  have HO : Hid (applyO rs m = (er, L)) := hO
  have HSZ : Hid (∀ e ∈ rs, e.name.size ≤ 9223372036854775807) := hsz
  have HN : Hid (sp = none → rs.length = 0 ∧ cap = 0) := hn
  have HBI : Hid _ := build_no
  have HAW : Hid (MvA w W sp cap rs m) := hA
  have HVW : Hid (VarR W a7 sx cx L) := hV
  have hLl := applyO_len hO hl
  clear hO hsz hn hA hV
  show Code.wp _ (Code.seq _ _) _ _ _
  have c0 := HAW.out.c0
  go_wp2_with (refine wpList_load_row (by rfl) 28 (.tmp 4) (by rfl) (w.heap.size + 1) (by rfl) 28 m.cells (0, 0) _ HAW.out.r1 Tryz.underlying28 rfl (by rw [m.size]; kernel_rfl) ?_)
  refine (r9apply_any sp cap rs m W HAW.out.hr (by omega) HSZ.out hms).mono ?_
  rintro e Wg ⟨hD, bg⟩
  obtain ⟨v, rfl, hOg⟩ := applyD_out HO.out hD
  obtain ⟨sy, cy, rfl, hRy, -⟩ := OwnR.rows hOg
  have HRY : Hid (RowsAt Wg 33 Re.cells sy L) := hRy
  have HAG : Hid (MvA w Wg sp cap rs m) := HAW.out.grow bg
  have HVG : Hid (VarR Wg a7 sx cx L) := HVW.out.grow bg
  clear hD hOg hRy bg HAW HVW c0 HO
  go_wp2
  obtain ⟨a9, ha9⟩ : ∃ g, Wg.heap.size = g := ⟨_, rfl⟩
  refine wp_gen (fun W => MvA w W sp cap rs m ∧ VarR W a7 sx cx L ∧ VarR W a9 sy cy L) ⟨HAG.out.grow ((Below.refl _ _).alloc (Nat.le_refl _) _), HVG.out.grow ((Below.refl _ _).alloc (Nat.le_refl _) _), by rw [← ha9]; exact heap_alloc_new _ _, RowsAt.below HRY.out ((Below.refl _ _).alloc (Nat.le_refl _) _)⟩ ?_
  rw [ha9]
  clear ha9 HAG HVG HRY
  rintro Wh ⟨hA, hX, hY⟩
  have HA : Hid (∀ W, Below Wh.heap.size Wh W → MvA w W sp cap rs m) := fun W h => hA.grow h
  have HX : Hid (∀ W, Below Wh.heap.size Wh W → VarR W a7 sx cx L) := fun W h => hX.grow h
  have HY : Hid (∀ W, Below Wh.heap.size Wh W → VarR W a9 sy cy L) := fun W h => hY.grow h
  clear hA hX hY
  have hS0 : Below Wh.heap.size Wh Wh.drew := (Below.refl _ _).drew
  refine mv_begin (S := fun w' => Below Wh.heap.size Wh w') 25 rfl (by kernel_rfl) ?_
  refine mv_rung 0 45 (.int .i64 er) rfl (by rfl) (by kernel_rfl) (by kernel_rfl) (by kernel_rfl) (fun _ _ _ h => h) (fun w' _ => by first | rfl | go_simp) hS0 ?_
  simp only [List.setIfInBounds_toArray, List.set_cons_succ, List.set_cons_zero]
  refine mv_rung 1 46 (.int .i64 er) rfl (by rfl) (by kernel_rfl) (by kernel_rfl) (by kernel_rfl) (fun _ _ _ h => h) (fun w' _ => by first | rfl | go_simp) hS0 ?_
  simp only [List.setIfInBounds_toArray, List.set_cons_succ, List.set_cons_zero]
  refine mv_rung 2 47 (.bool false) rfl (by rfl) (by kernel_rfl) (by kernel_rfl) (by kernel_rfl) (fun _ _ _ h => h) (fun w' _ => by first | rfl | go_simp) hS0 ?_
  simp only [List.setIfInBounds_toArray, List.set_cons_succ, List.set_cons_zero]
  refine mv_rung 3 48 (.bool false) rfl (by rfl) (by kernel_rfl) (by kernel_rfl) (by kernel_rfl) (fun _ _ _ h => h) (fun w' _ => by first | rfl | go_simp) hS0 ?_
  simp only [List.setIfInBounds_toArray, List.set_cons_succ, List.set_cons_zero]
  refine mv_rung 4 49 (.agg #[.slice sx L.length cx]) rfl (by rfl) (by kernel_rfl) (by kernel_rfl) (by kernel_rfl) (fun _ _ _ h => h) (fun w' hw' => by have c := (HX.out w' hw').c; go_simp) hS0 ?_
  simp only [List.setIfInBounds_toArray, List.set_cons_succ, List.set_cons_zero]
  refine mv_rung 5 50 (.agg #[.slice sy L.length cy]) rfl (by rfl) (by kernel_rfl) (by kernel_rfl) (by kernel_rfl) (fun _ _ _ h => h) (fun w' hw' => by have c := (HY.out w' hw').c; go_simp) hS0 ?_
  simp only [List.setIfInBounds_toArray, List.set_cons_succ, List.set_cons_zero]
  refine mv_nextg 6 rfl (by rfl) (by kernel_rfl) ?_
  go_simp
  refine (r9same_any sx sy cx cy L L Wh.drew (HX.out _ hS0).hr (HY.out _ hS0).hr (by omega)).mono ?_
  rintro e Wi ⟨rfl, bi⟩
  rw [eqAll_self]
  have hSi : Below Wh.heap.size Wh Wi := hS0.trans (bi.mono hS0.size)
  refine ⟨hSi, ?_⟩
  refine mv_rung 7 52 (.bool false) rfl (by rfl) (by kernel_rfl) (by kernel_rfl) (by kernel_rfl) (fun _ _ _ h => h) (fun w' _ => by first | rfl | go_simp) hSi ?_
  simp only [List.setIfInBounds_toArray, List.set_cons_succ, List.set_cons_zero]
  refine mv_rung 8 53 (.bool false) rfl (by rfl) (by kernel_rfl) (by kernel_rfl) (by kernel_rfl) (fun _ _ _ h => h) (fun w' _ => by first | rfl | go_simp) hSi ?_
  simp only [List.setIfInBounds_toArray, List.set_cons_succ, List.set_cons_zero]
  refine mv_rung 9 54 (.bool false) rfl (by rfl) (by kernel_rfl) (by kernel_rfl) (by kernel_rfl) (fun _ _ _ h => h) (fun w' _ => by first | rfl | go_simp) hSi ?_
  simp only [List.setIfInBounds_toArray, List.set_cons_succ, List.set_cons_zero]
  refine mv_rung 10 55 (.agg #[.slice sp rs.length cap]) rfl (by rfl) (by kernel_rfl) (by kernel_rfl) (by kernel_rfl) (fun _ _ _ h => h) (fun w' hw' => by have c := (HA.out w' hw').c0; go_simp) hSi ?_
  simp only [List.setIfInBounds_toArray, List.set_cons_succ, List.set_cons_zero]
  refine mv_rung 11 56 (.agg #[.slice sp rs.length cap]) rfl (by rfl) (by kernel_rfl) (by kernel_rfl) (by kernel_rfl) (fun _ _ _ h => h) (fun w' hw' => by have c := (HA.out w' hw').c0; go_simp) hSi ?_
  simp only [List.setIfInBounds_toArray, List.set_cons_succ, List.set_cons_zero]
  refine mv_nextg 12 rfl (by rfl) (by kernel_rfl) ?_
  go_simp
  refine (copied9_any sp cap rs Wi (HA.out _ hSi).hr HN.out (by omega)).mono ?_
  rintro e Wj ⟨⟨v, rfl, hOj⟩, bj⟩
  obtain ⟨sj, cj, rfl, hRj, -⟩ := OwnR.rows hOj
  have HRJ : Hid (RowsAt Wj 33 Re.cells sj rs) := hRj
  clear hRj hOj
  have hSj : Below Wh.heap.size Wh Wj := hSi.trans (bj.mono hSi.size)
  refine ⟨hSj, ?_⟩
  refine mv_nextg 13 rfl (by rfl) (by kernel_rfl) ?_
  go_simp
  refine (xsame_any sp sj cap cj rs rs Wj (HA.out _ hSj).hr HRJ.out (by omega)).mono ?_
  rintro e Wk ⟨rfl, bk⟩
  rw [eqAll_self]
  have hSk : Below Wh.heap.size Wh Wk := hSj.trans (bk.mono hSj.size)
  refine ⟨hSk, ?_⟩
  refine mv_rung 14 59 (.bool false) rfl (by rfl) (by kernel_rfl) (by kernel_rfl) (by kernel_rfl) (fun _ _ _ h => h) (fun w' _ => by first | rfl | go_simp) hSk ?_
  simp only [List.setIfInBounds_toArray, List.set_cons_succ, List.set_cons_zero]
  refine mv_rung 15 60 (.bool false) rfl (by rfl) (by kernel_rfl) (by kernel_rfl) (by kernel_rfl) (fun _ _ _ h => h) (fun w' _ => by first | rfl | go_simp) hSk ?_
  simp only [List.setIfInBounds_toArray, List.set_cons_succ, List.set_cons_zero]
  refine mv_rung 16 61 (.bool false) rfl (by rfl) (by kernel_rfl) (by kernel_rfl) (by kernel_rfl) (fun _ _ _ h => h) (fun w' _ => by first | rfl | go_simp) hSk ?_
  simp only [List.setIfInBounds_toArray, List.set_cons_succ, List.set_cons_zero]
  refine mv_rung 17 62 (.agg #[.slice sp rs.length cap]) rfl (by rfl) (by kernel_rfl) (by kernel_rfl) (by kernel_rfl) (fun _ _ _ h => h) (fun w' hw' => by have c := (HA.out w' hw').c0; go_simp) hSk ?_
  simp only [List.setIfInBounds_toArray, List.set_cons_succ, List.set_cons_zero]
  refine mv_rung 18 63 (.agg #[.slice sx L.length cx]) rfl (by rfl) (by kernel_rfl) (by kernel_rfl) (by kernel_rfl) (fun _ _ _ h => h) (fun w' hw' => by have c := (HX.out w' hw').c; go_simp) hSk ?_
  simp only [List.setIfInBounds_toArray, List.set_cons_succ, List.set_cons_zero]
  refine mv_rung 20 65 (.agg #[.slice sp rs.length cap]) rfl (by rfl) (by kernel_rfl) (by kernel_rfl) (by kernel_rfl) (fun _ _ _ h => h) (fun w' hw' => by have c := (HA.out w' hw').c0; go_simp) hSk ?_
  simp only [List.setIfInBounds_toArray, List.set_cons_succ, List.set_cons_zero]
  refine mv_rung 21 66 (.agg #[.slice sx L.length cx]) rfl (by rfl) (by kernel_rfl) (by kernel_rfl) (by kernel_rfl) (fun _ _ _ h => h) (fun w' hw' => by have c := (HX.out w' hw').c; go_simp) hSk ?_
  simp only [List.setIfInBounds_toArray, List.set_cons_succ, List.set_cons_zero]
  refine mv_nextg 19 rfl (by rfl) (by kernel_rfl) ?_
  go_simp
  refine (xsame_any sp sx cap cx rs L Wk (HA.out _ hSk).hr (HX.out _ hSk).hr (by omega)).mono ?_
  rintro e Wl ⟨rfl, bl⟩
  have hSl : Below Wh.heap.size Wh Wl := hSk.trans (bl.mono hSk.size)
  refine ⟨hSl, ?_⟩
  refine mv_nextg 22 rfl (by rfl) (by kernel_rfl) ?_
  go_simp
  refine (r9same_any sp sx cap cx rs L Wl (HA.out _ hSl).hr (HX.out _ hSl).hr (by omega)).mono ?_
  rintro e Wm ⟨rfl, bm⟩
  have hSm : Below Wh.heap.size Wh Wm := hSl.trans (bm.mono hSl.size)
  refine ⟨hSm, ?_⟩
  generalize eqAll reEq rs L = bq
  refine mv_rung 23 68 (.bool false) rfl (by rfl) (by kernel_rfl) (by kernel_rfl) (by kernel_rfl) (fun _ _ _ h => h) (fun w' _ => by first | rfl | go_simp) hSm ?_
  simp only [List.setIfInBounds_toArray, List.set_cons_succ, List.set_cons_zero]
  refine mv_rung 24 69 (.bool false) rfl (by rfl) (by kernel_rfl) (by kernel_rfl) (by kernel_rfl) (fun _ _ _ h => h) (fun w' _ => by first | rfl | go_simp) hSm ?_
  simp only [List.setIfInBounds_toArray, List.set_cons_succ, List.set_cons_zero]
  refine wpAnyH_done (by kernel_rfl) ?_ _
  refine exit_gen (fun W => MvA w W sp cap rs m) (HA.out _ hSm) ?_
  clear hS0 hSi hSj hSk hSl hSm bi bj bk bl bm HRJ HA HX HY
  intro Wn hAn
  have HAN : Hid (MvA w Wn sp cap rs m) := hAn
  have c0 := hAn.c0
  clear hAn
  go_wp2_with fail
  refine (copied9_any sp cap rs Wn HAN.out.hr HN.out (by omega)).mono ?_
  rintro e Wo ⟨⟨v, rfl, hOo⟩, bo⟩
  obtain ⟨so, co, rfl, hRo, -⟩ := OwnR.rows hOo
  have HRO : Hid (RowsAt Wo 33 Re.cells so rs) := hRo
  have HAO : Hid (MvA w Wo sp cap rs m) := HAN.out.grow bo
  clear hRo hOo bo HAN c0
  go_wp2_with fail
  refine (xget_any so co rs s Wo HRO.out (by omega)).mono ?_
  rintro e Wp ⟨hG, bp⟩
  have HAP : Hid (MvA w Wp sp cap rs m) := HAO.out.grow bp
  clear bp HAO HRO
  rcases get_three hG with ⟨hrb, rfl⟩ | ⟨hrb, hfd, rfl⟩ | ⟨hrb, f, hfd, rfl⟩
  · have HRB : Hid (refsB rs = false) := hrb
    clear hrb hG
    cases hfd : findR s rs
    · have HFD : Hid (findR s rs = none) := hfd
      clear hfd
      go_wp2_with (first | (refine wpList_store_row (by rfl) 26 (.tmp 11) (.tmp 75) (by rfl) Wp.heap.size (arr .u8 32 noId) (by rfl) (by rfl) 26 _ (heap_alloc_new _ _) (by rw [arr_size]; kernel_rfl) (by rw [arr_size]; rfl) (arr_one _ _ _) ?_; refine wpList_gen (fun W => Below Wp.heap.size Wp W ∧ W.heap[Wp.heap.size]? = some (.cells (arr .u8 32 noId) 26 (0, 0))) ⟨below_setRow' ((Below.refl _ _).alloc (Nat.le_refl _) _) (Nat.le_refl _) _, heap_setRow_same (heap_alloc_new _ _)⟩ ?_; intro Wq hWq; have HAQ : Hid (MvA w Wq sp cap rs m) := HAP.out.grow hWq.1; have R11 : Hid _ := hWq.2; have c0 := HAQ.out.c0; clear hWq))
      refine (r9get_any sp cap rs s Wq HAQ.out.hr (by omega)).mono ?_
      rintro e Wr ⟨rfl, br⟩
      have HAR : Hid (MvA w Wr sp cap rs m) := HAQ.out.grow br
      have R11r : Hid (Wr.heap[Wp.heap.size]? = some (.cells (arr .u8 32 noId) 26 (0, 0))) := (br.block _ (lt_of_row R11.out)).trans R11.out
      clear br HAQ R11 c0
      rw [HFD.out]
      unfold getV
      dsimp only
      go_wp2_with (first | (refine wpList_store_row (by rfl) 26 (.tmp 13) (.tmp 81) (by rfl) Wr.heap.size (arr .u8 32 noId) (by rfl) (by rfl) 26 _ (heap_alloc_new _ _) (by rw [arr_size]; kernel_rfl) (by rw [arr_size]; rfl) (arr_one _ _ _) ?_; refine wpList_gen (fun W => Below Wr.heap.size Wr W ∧ W.heap[Wr.heap.size]? = some (.cells (arr .u8 32 noId) 26 (0, 0))) ⟨below_setRow' ((Below.refl _ _).alloc (Nat.le_refl _) _) (Nat.le_refl _) _, heap_setRow_same (heap_alloc_new _ _)⟩ ?_; intro Ws hWs; have HAS : Hid (MvA w Ws sp cap rs m) := HAR.out.grow hWs.1; have R13 : Hid _ := hWs.2; have R11s : Hid (Ws.heap[Wp.heap.size]? = some (.cells (arr .u8 32 noId) 26 (0, 0))) := (hWs.1.block _ (lt_of_row R11r.out)).trans R11r.out; have c0 := HAS.out.c0; clear hWs))
      refine (r9right_any sp cap rs Ws HAS.out.hr (by omega) HSZ.out).mono ?_
      rintro e Wt ⟨rfl, bt⟩
      have HAT : Hid (MvA w Wt sp cap rs m) := HAS.out.grow bt
      have HC11 : Hid (∀ i, i < 32 → Wt.cell? ⟨Wp.heap.size, 0 + i, none⟩ = some (.int .u8 (noId i))) := fun i hi => (cell_of_row _ _ _ _ _ _ ((bt.block _ (lt_of_row R11s.out)).trans R11s.out)).trans (by rw [Nat.zero_add]; exact arr_get hi)
      have HC13 : Hid (∀ i, i < 32 → Wt.cell? ⟨Wr.heap.size, 0 + i, none⟩ = some (.int .u8 (noId i))) := fun i hi => (cell_of_row _ _ _ _ _ _ ((bt.block _ (lt_of_row R13.out)).trans R13.out)).trans (by rw [Nat.zero_add]; exact arr_get hi)
      clear bt HAS R11s R13 R11r HAR HAP c0
      have c0 := HAT.out.c0
      have heq : ∀ W, (Op.equalIn 10000 26 (.agg (arr .u8 32 noId)) (.agg (arr .u8 32 noId))).run Tryz.prog W = .ok true W := fun W => eq_self_id W noId
      rw [HRB.out]
      go_wp2_with (first | (refine load_atg (by rfl) 26 (.tmp 11) (by rfl) Wp.heap.size 0 (by rfl) .u8 32 noId _ HC11.out Tryz.underlying26 rfl (by kernel_rfl) ?_) | (refine load_atg (by rfl) 26 (.tmp 13) (by rfl) Wr.heap.size 0 (by rfl) .u8 32 noId _ HC13.out Tryz.underlying26 rfl (by kernel_rfl) ?_) | (refine wpList_build (by rfl) 26 _ (by rfl) [] (by rfl) (.agg (arr .u8 32 noId)) (HBI.out _) ?_))
      refine (copied9_any sp cap rs Wt HAT.out.hr HN.out (by omega)).mono ?_
      rintro e Wu ⟨⟨v, rfl, hOu⟩, bu⟩
      obtain ⟨su, cu, rfl, hRu, -⟩ := OwnR.rows hOu
      have HRU : Hid (RowsAt Wu 33 Re.cells su rs) := hRu
      have HAU : Hid (MvA w Wu sp cap rs m) := HAT.out.grow bu
      clear hRu hOu bu HAT c0
      go_wp2_with fail
      refine (xcheck_any su cu rs Wu HRU.out (by omega)).mono ?_
      rintro e Wv ⟨rfl, bv⟩
      have HAV : Hid (MvA w Wv sp cap rs m) := HAU.out.grow bv
      unfold checkX
      rw [HRB.out]
      clear bv HAU HRU
      go_wp2
      go_ret
      exact ⟨rfl, HAV.out.bel⟩
    · rename_i f
      have HFD : Hid (findR s rs = some f) := hfd
      clear hfd
      go_wp2_with (first | (refine wpList_store_row (by rfl) 26 (.tmp 11) (.tmp 75) (by rfl) Wp.heap.size (arr .u8 32 noId) (by rfl) (by rfl) 26 _ (heap_alloc_new _ _) (by rw [arr_size]; kernel_rfl) (by rw [arr_size]; rfl) (arr_one _ _ _) ?_; refine wpList_gen (fun W => Below Wp.heap.size Wp W ∧ W.heap[Wp.heap.size]? = some (.cells (arr .u8 32 noId) 26 (0, 0))) ⟨below_setRow' ((Below.refl _ _).alloc (Nat.le_refl _) _) (Nat.le_refl _) _, heap_setRow_same (heap_alloc_new _ _)⟩ ?_; intro Wq hWq; have HAQ : Hid (MvA w Wq sp cap rs m) := HAP.out.grow hWq.1; have R11 : Hid _ := hWq.2; have c0 := HAQ.out.c0; clear hWq))
      refine (r9get_any sp cap rs s Wq HAQ.out.hr (by omega)).mono ?_
      rintro e Wr ⟨rfl, br⟩
      have HAR : Hid (MvA w Wr sp cap rs m) := HAQ.out.grow br
      have R11r : Hid (Wr.heap[Wp.heap.size]? = some (.cells (arr .u8 32 noId) 26 (0, 0))) := (br.block _ (lt_of_row R11.out)).trans R11.out
      clear br HAQ R11 c0
      rw [HFD.out]
      unfold getV
      dsimp only
      go_wp2_with (first | (refine wpList_store_row (by rfl) 26 (.tmp 13) (.tmp 81) (by rfl) Wr.heap.size (arr .u8 32 f.id) (by rfl) (by rfl) 26 _ (heap_alloc_new _ _) (by rw [arr_size]; kernel_rfl) (by rw [arr_size]; rfl) (arr_one _ _ _) ?_; refine wpList_gen (fun W => Below Wr.heap.size Wr W ∧ W.heap[Wr.heap.size]? = some (.cells (arr .u8 32 f.id) 26 (0, 0))) ⟨below_setRow' ((Below.refl _ _).alloc (Nat.le_refl _) _) (Nat.le_refl _) _, heap_setRow_same (heap_alloc_new _ _)⟩ ?_; intro Ws hWs; have HAS : Hid (MvA w Ws sp cap rs m) := HAR.out.grow hWs.1; have R13 : Hid _ := hWs.2; have R11s : Hid (Ws.heap[Wp.heap.size]? = some (.cells (arr .u8 32 noId) 26 (0, 0))) := (hWs.1.block _ (lt_of_row R11r.out)).trans R11r.out; have c0 := HAS.out.c0; clear hWs))
      refine (r9right_any sp cap rs Ws HAS.out.hr (by omega) HSZ.out).mono ?_
      rintro e Wt ⟨rfl, bt⟩
      have HAT : Hid (MvA w Wt sp cap rs m) := HAS.out.grow bt
      have HC11 : Hid (∀ i, i < 32 → Wt.cell? ⟨Wp.heap.size, 0 + i, none⟩ = some (.int .u8 (noId i))) := fun i hi => (cell_of_row _ _ _ _ _ _ ((bt.block _ (lt_of_row R11s.out)).trans R11s.out)).trans (by rw [Nat.zero_add]; exact arr_get hi)
      have HC13 : Hid (∀ i, i < 32 → Wt.cell? ⟨Wr.heap.size, 0 + i, none⟩ = some (.int .u8 (f.id i))) := fun i hi => (cell_of_row _ _ _ _ _ _ ((bt.block _ (lt_of_row R13.out)).trans R13.out)).trans (by rw [Nat.zero_add]; exact arr_get hi)
      clear bt HAS R11s R13 R11r HAR HAP c0
      have c0 := HAT.out.c0
      have heq : ∀ W, (Op.equalIn 10000 26 (.agg (arr .u8 32 noId)) (.agg (arr .u8 32 noId))).run Tryz.prog W = .ok true W := fun W => eq_self_id W noId
      rw [HRB.out]
      go_wp2_with (first | (refine load_atg (by rfl) 26 (.tmp 11) (by rfl) Wp.heap.size 0 (by rfl) .u8 32 noId _ HC11.out Tryz.underlying26 rfl (by kernel_rfl) ?_) | (refine load_atg (by rfl) 26 (.tmp 13) (by rfl) Wr.heap.size 0 (by rfl) .u8 32 f.id _ HC13.out Tryz.underlying26 rfl (by kernel_rfl) ?_) | (refine wpList_build (by rfl) 26 _ (by rfl) [] (by rfl) (.agg (arr .u8 32 noId)) (HBI.out _) ?_))
      refine (copied9_any sp cap rs Wt HAT.out.hr HN.out (by omega)).mono ?_
      rintro e Wu ⟨⟨v, rfl, hOu⟩, bu⟩
      obtain ⟨su, cu, rfl, hRu, -⟩ := OwnR.rows hOu
      have HRU : Hid (RowsAt Wu 33 Re.cells su rs) := hRu
      have HAU : Hid (MvA w Wu sp cap rs m) := HAT.out.grow bu
      clear hRu hOu bu HAT c0
      go_wp2_with fail
      refine (xcheck_any su cu rs Wu HRU.out (by omega)).mono ?_
      rintro e Wv ⟨rfl, bv⟩
      have HAV : Hid (MvA w Wv sp cap rs m) := HAU.out.grow bv
      unfold checkX
      rw [HRB.out]
      clear bv HAU HRU
      go_wp2
      go_ret
      exact ⟨rfl, HAV.out.bel⟩
  · have HRB : Hid (refsB rs = true) := hrb
    have HFD : Hid (findR s rs = none) := hfd
    clear hrb hG hfd
    go_wp2_with (first | (refine wpList_store_row (by rfl) 26 (.tmp 11) (.tmp 75) (by rfl) Wp.heap.size (arr .u8 32 noId) (by rfl) (by rfl) 26 _ (heap_alloc_new _ _) (by rw [arr_size]; kernel_rfl) (by rw [arr_size]; rfl) (arr_one _ _ _) ?_; refine wpList_gen (fun W => Below Wp.heap.size Wp W ∧ W.heap[Wp.heap.size]? = some (.cells (arr .u8 32 noId) 26 (0, 0))) ⟨below_setRow' ((Below.refl _ _).alloc (Nat.le_refl _) _) (Nat.le_refl _) _, heap_setRow_same (heap_alloc_new _ _)⟩ ?_; intro Wq hWq; have HAQ : Hid (MvA w Wq sp cap rs m) := HAP.out.grow hWq.1; have R11 : Hid _ := hWq.2; have c0 := HAQ.out.c0; clear hWq))
    refine (r9get_any sp cap rs s Wq HAQ.out.hr (by omega)).mono ?_
    rintro e Wr ⟨rfl, br⟩
    have HAR : Hid (MvA w Wr sp cap rs m) := HAQ.out.grow br
    have R11r : Hid (Wr.heap[Wp.heap.size]? = some (.cells (arr .u8 32 noId) 26 (0, 0))) := (br.block _ (lt_of_row R11.out)).trans R11.out
    clear br HAQ R11 c0
    rw [HFD.out]
    unfold getV
    dsimp only
    go_wp2_with (first | (refine wpList_store_row (by rfl) 26 (.tmp 13) (.tmp 81) (by rfl) Wr.heap.size (arr .u8 32 noId) (by rfl) (by rfl) 26 _ (heap_alloc_new _ _) (by rw [arr_size]; kernel_rfl) (by rw [arr_size]; rfl) (arr_one _ _ _) ?_; refine wpList_gen (fun W => Below Wr.heap.size Wr W ∧ W.heap[Wr.heap.size]? = some (.cells (arr .u8 32 noId) 26 (0, 0))) ⟨below_setRow' ((Below.refl _ _).alloc (Nat.le_refl _) _) (Nat.le_refl _) _, heap_setRow_same (heap_alloc_new _ _)⟩ ?_; intro Ws hWs; have HAS : Hid (MvA w Ws sp cap rs m) := HAR.out.grow hWs.1; have R13 : Hid _ := hWs.2; have R11s : Hid (Ws.heap[Wp.heap.size]? = some (.cells (arr .u8 32 noId) 26 (0, 0))) := (hWs.1.block _ (lt_of_row R11r.out)).trans R11r.out; have c0 := HAS.out.c0; clear hWs))
    refine (r9right_any sp cap rs Ws HAS.out.hr (by omega) HSZ.out).mono ?_
    rintro e Wt ⟨rfl, bt⟩
    have HAT : Hid (MvA w Wt sp cap rs m) := HAS.out.grow bt
    have HC11 : Hid (∀ i, i < 32 → Wt.cell? ⟨Wp.heap.size, 0 + i, none⟩ = some (.int .u8 (noId i))) := fun i hi => (cell_of_row _ _ _ _ _ _ ((bt.block _ (lt_of_row R11s.out)).trans R11s.out)).trans (by rw [Nat.zero_add]; exact arr_get hi)
    have HC13 : Hid (∀ i, i < 32 → Wt.cell? ⟨Wr.heap.size, 0 + i, none⟩ = some (.int .u8 (noId i))) := fun i hi => (cell_of_row _ _ _ _ _ _ ((bt.block _ (lt_of_row R13.out)).trans R13.out)).trans (by rw [Nat.zero_add]; exact arr_get hi)
    clear bt HAS R11s R13 R11r HAR HAP c0
    have c0 := HAT.out.c0
    have heq : ∀ W, (Op.equalIn 10000 26 (.agg (arr .u8 32 noId)) (.agg (arr .u8 32 noId))).run Tryz.prog W = .ok true W := fun W => eq_self_id W noId
    rw [HRB.out]
    go_wp2_with (first | (refine load_atg (by rfl) 26 (.tmp 11) (by rfl) Wp.heap.size 0 (by rfl) .u8 32 noId _ HC11.out Tryz.underlying26 rfl (by kernel_rfl) ?_) | (refine load_atg (by rfl) 26 (.tmp 13) (by rfl) Wr.heap.size 0 (by rfl) .u8 32 noId _ HC13.out Tryz.underlying26 rfl (by kernel_rfl) ?_) | (refine wpList_build (by rfl) 26 _ (by rfl) [] (by rfl) (.agg (arr .u8 32 noId)) (HBI.out _) ?_))
    refine (copied9_any sp cap rs Wt HAT.out.hr HN.out (by omega)).mono ?_
    rintro e Wu ⟨⟨v, rfl, hOu⟩, bu⟩
    obtain ⟨su, cu, rfl, hRu, -⟩ := OwnR.rows hOu
    have HRU : Hid (RowsAt Wu 33 Re.cells su rs) := hRu
    have HAU : Hid (MvA w Wu sp cap rs m) := HAT.out.grow bu
    clear hRu hOu bu HAT c0
    go_wp2_with fail
    refine (xcheck_any su cu rs Wu HRU.out (by omega)).mono ?_
    rintro e Wv ⟨rfl, bv⟩
    have HAV : Hid (MvA w Wv sp cap rs m) := HAU.out.grow bv
    unfold checkX
    rw [HRB.out]
    clear bv HAU HRU
    go_wp2
    go_ret
    exact ⟨rfl, HAV.out.bel⟩
  · have HRB : Hid (refsB rs = true) := hrb
    have HFD : Hid (findR s rs = some f) := hfd
    clear hrb hG hfd
    go_wp2_with (first | (refine wpList_store_row (by rfl) 26 (.tmp 11) (.tmp 75) (by rfl) Wp.heap.size (arr .u8 32 f.id) (by rfl) (by rfl) 26 _ (heap_alloc_new _ _) (by rw [arr_size]; kernel_rfl) (by rw [arr_size]; rfl) (arr_one _ _ _) ?_; refine wpList_gen (fun W => Below Wp.heap.size Wp W ∧ W.heap[Wp.heap.size]? = some (.cells (arr .u8 32 f.id) 26 (0, 0))) ⟨below_setRow' ((Below.refl _ _).alloc (Nat.le_refl _) _) (Nat.le_refl _) _, heap_setRow_same (heap_alloc_new _ _)⟩ ?_; intro Wq hWq; have HAQ : Hid (MvA w Wq sp cap rs m) := HAP.out.grow hWq.1; have R11 : Hid _ := hWq.2; have c0 := HAQ.out.c0; clear hWq))
    refine (r9get_any sp cap rs s Wq HAQ.out.hr (by omega)).mono ?_
    rintro e Wr ⟨rfl, br⟩
    have HAR : Hid (MvA w Wr sp cap rs m) := HAQ.out.grow br
    have R11r : Hid (Wr.heap[Wp.heap.size]? = some (.cells (arr .u8 32 f.id) 26 (0, 0))) := (br.block _ (lt_of_row R11.out)).trans R11.out
    clear br HAQ R11 c0
    rw [HFD.out]
    unfold getV
    dsimp only
    go_wp2_with (first | (refine wpList_store_row (by rfl) 26 (.tmp 13) (.tmp 81) (by rfl) Wr.heap.size (arr .u8 32 f.id) (by rfl) (by rfl) 26 _ (heap_alloc_new _ _) (by rw [arr_size]; kernel_rfl) (by rw [arr_size]; rfl) (arr_one _ _ _) ?_; refine wpList_gen (fun W => Below Wr.heap.size Wr W ∧ W.heap[Wr.heap.size]? = some (.cells (arr .u8 32 f.id) 26 (0, 0))) ⟨below_setRow' ((Below.refl _ _).alloc (Nat.le_refl _) _) (Nat.le_refl _) _, heap_setRow_same (heap_alloc_new _ _)⟩ ?_; intro Ws hWs; have HAS : Hid (MvA w Ws sp cap rs m) := HAR.out.grow hWs.1; have R13 : Hid _ := hWs.2; have R11s : Hid (Ws.heap[Wp.heap.size]? = some (.cells (arr .u8 32 f.id) 26 (0, 0))) := (hWs.1.block _ (lt_of_row R11r.out)).trans R11r.out; have c0 := HAS.out.c0; clear hWs))
    refine (r9right_any sp cap rs Ws HAS.out.hr (by omega) HSZ.out).mono ?_
    rintro e Wt ⟨rfl, bt⟩
    have HAT : Hid (MvA w Wt sp cap rs m) := HAS.out.grow bt
    have HC11 : Hid (∀ i, i < 32 → Wt.cell? ⟨Wp.heap.size, 0 + i, none⟩ = some (.int .u8 (f.id i))) := fun i hi => (cell_of_row _ _ _ _ _ _ ((bt.block _ (lt_of_row R11s.out)).trans R11s.out)).trans (by rw [Nat.zero_add]; exact arr_get hi)
    have HC13 : Hid (∀ i, i < 32 → Wt.cell? ⟨Wr.heap.size, 0 + i, none⟩ = some (.int .u8 (f.id i))) := fun i hi => (cell_of_row _ _ _ _ _ _ ((bt.block _ (lt_of_row R13.out)).trans R13.out)).trans (by rw [Nat.zero_add]; exact arr_get hi)
    clear bt HAS R11s R13 R11r HAR HAP c0
    have c0 := HAT.out.c0
    have heq : ∀ W, (Op.equalIn 10000 26 (.agg (arr .u8 32 f.id)) (.agg (arr .u8 32 f.id))).run Tryz.prog W = .ok true W := fun W => eq_self_id W f.id
    rw [HRB.out]
    go_wp2_with (first | (refine load_atg (by rfl) 26 (.tmp 11) (by rfl) Wp.heap.size 0 (by rfl) .u8 32 f.id _ HC11.out Tryz.underlying26 rfl (by kernel_rfl) ?_) | (refine load_atg (by rfl) 26 (.tmp 13) (by rfl) Wr.heap.size 0 (by rfl) .u8 32 f.id _ HC13.out Tryz.underlying26 rfl (by kernel_rfl) ?_) | (refine wpList_build (by rfl) 26 _ (by rfl) [] (by rfl) (.agg (arr .u8 32 noId)) (HBI.out _) ?_))
    refine (copied9_any sp cap rs Wt HAT.out.hr HN.out (by omega)).mono ?_
    rintro e Wu ⟨⟨v, rfl, hOu⟩, bu⟩
    obtain ⟨su, cu, rfl, hRu, -⟩ := OwnR.rows hOu
    have HRU : Hid (RowsAt Wu 33 Re.cells su rs) := hRu
    have HAU : Hid (MvA w Wu sp cap rs m) := HAT.out.grow bu
    clear hRu hOu bu HAT c0
    go_wp2_with fail
    refine (xcheck_any su cu rs Wu HRU.out (by omega)).mono ?_
    rintro e Wv ⟨rfl, bv⟩
    have HAV : Hid (MvA w Wv sp cap rs m) := HAU.out.grow bv
    unfold checkX
    rw [HRB.out]
    clear bv HAU HRU
    go_wp2
    go_ret
    exact ⟨rfl, HAV.out.bel⟩
end Go.Proofs.YtgfjjglejlnfbaaGreatDoor
