/- The walk through the law ObjectTells: it answers true, whatever the two objects and the text. -/
import Derived.Test.YtnaoaeapffgojaaRRgA
import Derived.Test.YtnaoaeapffgojaaRRgB
import Derived.Test.YtnaoaeapffgojaaRRgD
import Derived.Test.YtnaoaeapffgojaaRSmO
import Derived.Test.YtnaoaeapffgojaaLnkC
import Derived.Test.YtnaoaeapffgojaaWakC
namespace Go.Proofs.Ytnaoaeapffgojaa
open Go.RowKit

theorem rright_any (o : Ob) (c : Co) (w : World) (ho : In w o c) (hsm : Small o c) :
    Calls Try.prog 15 #[.agg o.cells] w fun e w' => e = .returned (.bool (rightB o c)) ∧ Below w.heap.size w w' := by
  by_cases h0 : o.kind < 1
  · exact rright_lo o c w ho hsm h0
  by_cases h4 : 3 < o.kind
  · exact rright_hi o c w ho hsm h4
  by_cases h1 : o.kind = 1
  · exact rright_1 o c w ho hsm h1
  by_cases h2 : o.kind = 2
  · exact rright_2 o c w ho hsm h2
  exact rright_3 o c w ho hsm (by omega)
theorem op_buildS {P : Program} {Q : Exit → Act → World → Prop} {K : Act → World → Prop} {a : Act} {w w' : World} {o : Oper} {v : Value} (ty : TypeId) (x : Operand) (ho : o.op = .buildSlice ty 1 #[(0, x)]) (u : Value) (hx : a.eval x = u)
    (hr : (Instr.buildSlice ty 1 #[(0, u)]).run P w = .ok v w') (h : K (a.put o.dst v) w') : o.wp P a w K Q := by
  unfold Oper.wp execOp
  simp only [ho, Sem.run_bind, Sem.run_pure, Result.andThen_ok, List.map_toArray, List.map_cons, List.map_nil, hx, hr]
  exact h
theorem same_copy (o : Ob) (c : Co) (v1 v2 v3 : Value) : sameB o c { o with bs := v1, es := v2, ps := v3 } c = true := by
  have e3 : ∀ l : List (Nat → Int), eqAll idEq l l = true := eqAll_self fun f => eqTo_self f 32
  simp [sameB, eqTo_self, eqAll_self entEq_self, e3]
theorem right_copy (o : Ob) (c : Co) (v1 v2 v3 : Value) : rightB { o with bs := v1, es := v2, ps := v3 } c = rightB o c := by
  unfold rightB mayB countedO countedCo sameB
  by_cases h1 : o.kind = 1
  · simp [h1]
  by_cases h2 : o.kind = 2
  · simp [h2]
  by_cases h3 : o.kind = 3
  · simp [h3]
  simp [h1, h2, h3]
theorem links_copy (o : Ob) (c : Co) (v1 v2 v3 : Value) : linksL { o with bs := v1, es := v2, ps := v3 } c = linksL o c := by
  unfold linksL
  rw [right_copy]

set_option maxRecDepth 100000 in
set_option maxHeartbeats 8000000 in
theorem tells_all (o p : Ob) (c d : Co) (s : ByteArray) (w : World) (ho : In w o c) (hp : In w p d) (hs : s.size ≤ maxLen) :
    Calls Try.prog 4 #[.agg o.cells, .agg p.cells, .string s] w fun e w' => e = .returned (.bool true) ∧ Below w.heap.size w w' := by
  have HIO : Hid _ := ho
  have HIP : Hid _ := hp
  unfold maxLen at hs
  clear ho hp
  go_enter Try.func4, Try.ntmps4
  go_wp2_with fail
  refine calls_gen (fun W1 => Below w.heap.size w W1 ∧ W1.heap[w.heap.size]? = some (.cells o.cells 30 (0, 0)) ∧ W1.heap[w.heap.size + 1]? = some (.cells p.cells 30 (0, 0))) ⟨((Below.refl _ _).alloc (Nat.le_refl _) _).alloc (by simp) _, heap_alloc2_old _ _ _, heap_alloc2_new _ _ _⟩ ?_
  intro W1 ⟨f1, hr1, hr2⟩
  refine (wakes_any W1).mono ?_
  rintro e w2 ⟨rfl, hB2⟩
  have f2 : Below w.heap.size w w2 := f1.trans (hB2.mono f1.size)
  have HA2 : Hid (w2.heap[w.heap.size]? = some (.cells o.cells 30 (0, 0))) := (hB2.block _ (lt_of_row hr1)).trans hr1
  have HB2 : Hid (w2.heap[w.heap.size + 1]? = some (.cells p.cells 30 (0, 0))) := (hB2.block _ (lt_of_row hr2)).trans hr2
  clear hr1 hr2 hB2 f1
  go_wp2_with (refine wpList_load_row (by rfl) 30 (.tmp 3) (by rfl) w.heap.size (by rfl) 30 o.cells (0, 0) _ HA2.out Try.underlying30 rfl (by rw [Ob.size]; kernel_rfl) ?_)
  refine (large_any o c w2 (HIO.out.under f2)).mono ?_
  rintro e w3 ⟨hc, hB3⟩
  have f3 : Below w.heap.size w w3 := f2.trans (hB3.mono f2.size)
  have HA3 : Hid (w3.heap[w.heap.size]? = some (.cells o.cells 30 (0, 0))) := (hB3.block _ (lt_of_row HA2.out)).trans HA2.out
  have HB3 : Hid (w3.heap[w.heap.size + 1]? = some (.cells p.cells 30 (0, 0))) := (hB3.block _ (lt_of_row HB2.out)).trans HB2.out
  clear HA2 HB2 hB3 f2
  rcases hc with rfl | ⟨rfl, hso⟩
  · go_wp2
    go_ret
    exact ⟨rfl, f3⟩
  go_wp2_with (refine load_rowg2 30 (.tmp 4) (by rfl) (by rfl) (w.heap.size + 1) (by rfl) 30 p.cells (0, 0) _ HB3.out Try.underlying30 rfl (by rw [Ob.size]; kernel_rfl) ?_)
  refine (large_any p d w3 (HIP.out.under f3)).mono ?_
  rintro e w4 ⟨hc, hB4⟩
  have f4 : Below w.heap.size w w4 := f3.trans (hB4.mono f3.size)
  have HA4 : Hid (w4.heap[w.heap.size]? = some (.cells o.cells 30 (0, 0))) := (hB4.block _ (lt_of_row HA3.out)).trans HA3.out
  have HB4 : Hid (w4.heap[w.heap.size + 1]? = some (.cells p.cells 30 (0, 0))) := (hB4.block _ (lt_of_row HB3.out)).trans HB3.out
  clear HA3 HB3 hB4 f3
  rcases hc with rfl | ⟨rfl, hsp⟩
  · go_wp2
    go_ret
    exact ⟨rfl, f4⟩
  by_cases h5 : 5000 < s.size
  · have d5 : decide (5000 < (s.size : Int)) = true := by simp; omega
    go_wp2
    go_ret
    exact ⟨rfl, f4⟩
  have d5 : decide (5000 < (s.size : Int)) = false := by simp; omega
  have HHO : Hid (Has w o c) := HIO.out.has (by have := hso.nb; omega) (by have := hso.es; omega) (by have := hso.ps; omega)
  have HHP : Hid (Has w p d) := HIP.out.has (by have := hsp.nb; omega) (by have := hsp.es; omega) (by have := hsp.ps; omega)
  go_wp2
  clear d5
  have hS0 : Below w4.heap.size w4 w4.drew := (Below.refl _ _).drew
  refine mv_begin (S := fun w' => Below w4.heap.size w4 w') 21 rfl (by kernel_rfl) ?_
  refine mv_rung 0 25 (.string s) rfl (by rfl) (by kernel_rfl) (by kernel_rfl) (by kernel_rfl) (fun _ _ _ h => h) (fun w' _ => by first | rfl | go_simp) hS0 ?_
  simp only [List.setIfInBounds_toArray, List.set_cons_succ, List.set_cons_zero]
  refine mv_rung 2 27 (.string s) rfl (by rfl) (by kernel_rfl) (by kernel_rfl) (by kernel_rfl) (fun _ _ _ h => h) (fun w' _ => by first | rfl | go_simp) hS0 ?_
  simp only [List.setIfInBounds_toArray, List.set_cons_succ, List.set_cons_zero]
  refine mv_nextg 1 rfl (by rfl) (by kernel_rfl) ?_
  go_simp
  refine (name_any s _).mono ?_
  rintro e wa ⟨rfl, hBa⟩
  have hS1 : Below w4.heap.size w4 wa := hS0.trans hBa
  refine ⟨hS1, ?_⟩
  refine mv_nextg 3 rfl (by rfl) (by kernel_rfl) ?_
  go_simp
  refine (rname_any s _ (by omega)).mono ?_
  rintro e wb ⟨rfl, rfl⟩
  refine ⟨hS1, ?_⟩
  generalize nameB s = nb
  refine mv_rung 4 29 (.bool false) rfl (by rfl) (by kernel_rfl) (by kernel_rfl) (by kernel_rfl) (fun _ _ _ h => h) (fun w' _ => by first | rfl | go_simp) hS1 ?_
  simp only [List.setIfInBounds_toArray, List.set_cons_succ, List.set_cons_zero]
  refine mv_rung 5 30 (.bool false) rfl (by rfl) (by kernel_rfl) (by kernel_rfl) (by kernel_rfl) (fun _ _ _ h => h) (fun w' _ => by first | rfl | go_simp) hS1 ?_
  simp only [List.setIfInBounds_toArray, List.set_cons_succ, List.set_cons_zero]
  refine mv_rowg 6 31 30 (.tmp 3) rfl (by rfl) w.heap.size 30 o.cells (0, 0) rfl (by kernel_rfl) (by kernel_rfl) (by kernel_rfl) (fun _ _ _ h => h) _ (fun w' hw' => (hw'.block _ (lt_of_row HA4.out)).trans HA4.out) Try.underlying30 rfl (by rw [Ob.size]; kernel_rfl) hS1 ?_
  simp only [List.setIfInBounds_toArray, List.set_cons_succ, List.set_cons_zero]
  refine mv_rowg 7 32 30 (.tmp 4) rfl (by rfl) (w.heap.size + 1) 30 p.cells (0, 0) rfl (by kernel_rfl) (by kernel_rfl) (by kernel_rfl) (fun _ _ _ h => h) _ (fun w' hw' => (hw'.block _ (lt_of_row HB4.out)).trans HB4.out) Try.underlying30 rfl (by rw [Ob.size]; kernel_rfl) hS1 ?_
  simp only [List.setIfInBounds_toArray, List.set_cons_succ, List.set_cons_zero]
  refine mv_rowg 9 34 30 (.tmp 3) rfl (by rfl) w.heap.size 30 o.cells (0, 0) rfl (by kernel_rfl) (by kernel_rfl) (by kernel_rfl) (fun _ _ _ h => h) _ (fun w' hw' => (hw'.block _ (lt_of_row HA4.out)).trans HA4.out) Try.underlying30 rfl (by rw [Ob.size]; kernel_rfl) hS1 ?_
  simp only [List.setIfInBounds_toArray, List.set_cons_succ, List.set_cons_zero]
  refine mv_rowg 10 35 30 (.tmp 4) rfl (by rfl) (w.heap.size + 1) 30 p.cells (0, 0) rfl (by kernel_rfl) (by kernel_rfl) (by kernel_rfl) (fun _ _ _ h => h) _ (fun w' hw' => (hw'.block _ (lt_of_row HB4.out)).trans HB4.out) Try.underlying30 rfl (by rw [Ob.size]; kernel_rfl) hS1 ?_
  simp only [List.setIfInBounds_toArray, List.set_cons_succ, List.set_cons_zero]
  refine mv_nextg 8 rfl (by rfl) (by kernel_rfl) ?_
  go_simp
  have fb : Below w.heap.size w wb := f4.trans (hS1.mono f4.size)
  refine (same_any o p c d wb (HHO.out.below fb) (HHP.out.below fb)).mono ?_
  rintro e wc ⟨rfl, hBc⟩
  have hS2 : Below w4.heap.size w4 wc := hS1.trans (hBc.mono hS1.size)
  refine ⟨hS2, ?_⟩
  refine mv_nextg 11 rfl (by rfl) (by kernel_rfl) ?_
  go_simp
  have fc : Below w.heap.size w wc := f4.trans (hS2.mono f4.size)
  refine (rsame_any o p c d wc (HHO.out.below fc) (HHP.out.below fc)).mono ?_
  rintro e wd ⟨rfl, hBd⟩
  have hS3 : Below w4.heap.size w4 wd := hS2.trans (hBd.mono hS2.size)
  refine ⟨hS3, ?_⟩
  generalize sameB o c p d = sb
  refine mv_rung 12 37 (.bool false) rfl (by rfl) (by kernel_rfl) (by kernel_rfl) (by kernel_rfl) (fun _ _ _ h => h) (fun w' _ => by first | rfl | go_simp) hS3 ?_
  simp only [List.setIfInBounds_toArray, List.set_cons_succ, List.set_cons_zero]
  refine mv_rung 13 38 (.bool false) rfl (by rfl) (by kernel_rfl) (by kernel_rfl) (by kernel_rfl) (fun _ _ _ h => h) (fun w' _ => by first | rfl | go_simp) hS3 ?_
  simp only [List.setIfInBounds_toArray, List.set_cons_succ, List.set_cons_zero]
  refine mv_rung 14 39 (.bool false) rfl (by rfl) (by kernel_rfl) (by kernel_rfl) (by kernel_rfl) (fun _ _ _ h => h) (fun w' _ => by first | rfl | go_simp) hS3 ?_
  simp only [List.setIfInBounds_toArray, List.set_cons_succ, List.set_cons_zero]
  refine mv_rowg 15 40 30 (.tmp 3) rfl (by rfl) w.heap.size 30 o.cells (0, 0) rfl (by kernel_rfl) (by kernel_rfl) (by kernel_rfl) (fun _ _ _ h => h) _ (fun w' hw' => (hw'.block _ (lt_of_row HA4.out)).trans HA4.out) Try.underlying30 rfl (by rw [Ob.size]; kernel_rfl) hS3 ?_
  simp only [List.setIfInBounds_toArray, List.set_cons_succ, List.set_cons_zero]
  refine mv_rowg 16 41 30 (.tmp 3) rfl (by rfl) w.heap.size 30 o.cells (0, 0) rfl (by kernel_rfl) (by kernel_rfl) (by kernel_rfl) (fun _ _ _ h => h) _ (fun w' hw' => (hw'.block _ (lt_of_row HA4.out)).trans HA4.out) Try.underlying30 rfl (by rw [Ob.size]; kernel_rfl) hS3 ?_
  simp only [List.setIfInBounds_toArray, List.set_cons_succ, List.set_cons_zero]
  refine mv_nextg 17 rfl (by rfl) (by kernel_rfl) ?_
  go_simp
  have fd : Below w.heap.size w wd := f4.trans (hS3.mono f4.size)
  refine (copied_any o c wd (HIO.out.under fd) hso).mono ?_
  rintro e we ⟨v1, v2, v3, rfl, hIe, hBe⟩
  have hS4 : Below w4.heap.size w4 we := hS3.trans (hBe.mono hS3.size)
  refine ⟨hS4, ?_⟩
  refine mv_nextg 18 rfl (by rfl) (by kernel_rfl) ?_
  go_simp
  have fe : Below w.heap.size w we := f4.trans (hS4.mono f4.size)
  have hHe := hIe.has (by have := hso.nb; omega) (by have := hso.es; omega) (by have := hso.ps; omega)
  refine (same_any o { o with bs := v1, es := v2, ps := v3 } c c we (HHO.out.below fe) hHe).mono ?_
  rintro e wf ⟨rfl, hBf⟩
  rw [same_copy]
  have hS5 : Below w4.heap.size w4 wf := hS4.trans (hBf.mono hS4.size)
  refine ⟨hS5, ?_⟩
  refine mv_rung 19 44 (.bool false) rfl (by rfl) (by kernel_rfl) (by kernel_rfl) (by kernel_rfl) (fun _ _ _ h => h) (fun w' _ => by first | rfl | go_simp) hS5 ?_
  simp only [List.setIfInBounds_toArray, List.set_cons_succ, List.set_cons_zero]
  refine mv_rung 20 45 (.bool false) rfl (by rfl) (by kernel_rfl) (by kernel_rfl) (by kernel_rfl) (fun _ _ _ h => h) (fun w' _ => by first | rfl | go_simp) hS5 ?_
  simp only [List.setIfInBounds_toArray, List.set_cons_succ, List.set_cons_zero]
  refine wpAnyH_done (by kernel_rfl) ?_ _
  have f5 : Below w.heap.size w wf := f4.trans (hS5.mono f4.size)
  have HA5 : Hid (wf.heap[w.heap.size]? = some (.cells o.cells 30 (0, 0))) := (hS5.block _ (lt_of_row HA4.out)).trans HA4.out
  have hlt5 : w.heap.size + 1 < wf.heap.size := Nat.lt_of_lt_of_le (lt_of_row HB4.out) hS5.size
  clear hS0 hS1 hS2 hS3 hS4 hS5 hBa hBc hBd hBe hBf hIe hHe fb fc fd fe f4 HA4 HB4 HIP HHP hsp
  go_wp2_with (refine wpList_load_row (by rfl) 30 (.tmp 3) (by rfl) w.heap.size (by rfl) 30 o.cells (0, 0) _ HA5.out Try.underlying30 rfl (by rw [Ob.size]; kernel_rfl) ?_)
  refine (rright_any o c wf (HIO.out.under f5) hso).mono ?_
  rintro e w6 ⟨rfl, hB6⟩
  have f6 : Below w.heap.size w w6 := f5.trans (hB6.mono f5.size)
  have HA6 : Hid (w6.heap[w.heap.size]? = some (.cells o.cells 30 (0, 0))) := (hB6.block _ (lt_of_row HA5.out)).trans HA5.out
  have hlt6 : w.heap.size + 1 < w6.heap.size := Nat.lt_of_lt_of_le hlt5 hB6.size
  clear HA5 hB6 f5 hlt5
  cases hr : rightB o c with
  | false =>
    obtain ⟨M, hM, hM0⟩ : ∃ M, linksL o c = M ∧ M = [] := ⟨[], by unfold linksL; rw [hr]; rfl, rfl⟩
    have HLL : Hid _ := hM
    have HO6 : Hid (OwnI (w.heap.size + 2) w6 (.slice none 0 0) M) := by rw [hM0]; exact ownI_nil _ _
    have hML : M.length ≤ 100000 := by rw [hM0]; simp
    have hM00 : M.length = 0 := by rw [hM0]; rfl
    clear hM hM0
    generalize hvn : (Value.slice none 0 0) = vn at HO6
    go_wp2_with (refine wpList_load_row (by rfl) 30 (.tmp 3) (by rfl) w.heap.size (by rfl) 30 o.cells (0, 0) _ HA6.out Try.underlying30 rfl (by rw [Ob.size]; kernel_rfl) ?_)
    refine (copied_any o c w6 (HIO.out.under f6) hso).mono ?_
    rintro e wg ⟨z1, z2, z3, rfl, hIg, hBg⟩
    have fg : Below w.heap.size w wg := f6.trans (hBg.mono f6.size)
    have HOg : Hid (OwnI (w.heap.size + 2) wg vn M) := OwnI.below HO6.out hBg
    clear hBg
    go_wp2_with fail
    refine (links_any { o with bs := z1, es := z2, ps := z3 } c wg hIg ⟨hso.nb, hso.es, hso.ps, hso.note, hso.names⟩).mono ?_
    rintro e wh ⟨vl, rfl, hOl, hBh⟩
    rw [links_copy, HLL.out] at hOl
    have fh : Below w.heap.size w wh := fg.trans (hBh.mono fg.size)
    have hOh : OwnI (w.heap.size + 2) wh vn M := OwnI.below HOg.out hBh
    obtain ⟨sl, kl, rfl, hRl, -⟩ := hOl.rows
    obtain ⟨sv, kv, hv, hRv, -⟩ := hOh.rows
    subst hv
    have HRL : Hid _ := hRl
    have HRV : Hid _ := hRv
    clear hOl hOh hRl hRv hBh HOg hIg fg
    go_wp2
    clear HA6 HO6
    go_loopw [82] (fun i wr => ∃ (t n : Nat), t ≤ M.length ∧ i = .int .i64 t ∧ wr = wh.drewN n) (fun i _ => M.length - (intOf i).toNat)
    case atStart => exact ⟨0, 0, Nat.zero_le _, rfl, rfl⟩
    case round =>
      obtain ⟨t, n, ht, rfl, rfl⟩ := hrel
      by_cases hlt : t < M.length
      · omega
      · go_wp2
        go_ret
        exact ⟨rfl, below_drewN fh _⟩
  | true =>
    obtain ⟨s2, k2, hoe, hrows, -⟩ := HIO.out.e
    obtain ⟨s3, k3, hop, hprows, hpn⟩ := HIO.out.p
    have hrr := obRow HA6.out
    have r2 : w6.cell? ⟨w.heap.size, 2, none⟩ = some (.slice s2 c.es.length k2) := hrr.c2.trans (by rw [hoe])
    have hb2 := hso.es
    have hb3 := hso.ps
    have HROWS : Hid _ := hrows
    have HPROWS : Hid _ := hprows
    have HPN : Hid _ := hpn
    have HOP : Hid _ := hop
    clear hrr hoe hrows hprows hpn hop
    go_wp2
    clear r2
    go_loopw [7, 51] (fun v i wr => ∃ t : Nat, t ≤ c.es.length ∧ i = .int .i64 t ∧ Below w.heap.size w wr ∧ w.heap.size + 1 < wr.heap.size ∧ wr.heap[w.heap.size]? = some (.cells o.cells 30 (0, 0)) ∧ OwnI (w.heap.size + 2) wr v ((c.es.take t).map (·.id))) (fun _ i _ => c.es.length - (intOf i).toNat)
    case atStart => exact ⟨0, Nat.zero_le _, rfl, f6, hlt6, HA6.out, ownI_nil _ _⟩
    case round =>
      obtain ⟨t, ht, rfl, hB, hltr, hrow, hO⟩ := hrel
      have HO : Hid (OwnI (w.heap.size + 2) wr u7 ((c.es.take t).map (·.id))) := hO
      have HROW : Hid _ := hrow
      clear hO hrow
      by_cases hlt : t < c.es.length
      · obtain ⟨b1, o1, rfl, hc1⟩ := HROWS.out (by omega)
        have hx : c.es[t]? = some (c.es[t]'hlt) := List.getElem?_eq_getElem hlt
        generalize hX : c.es[t]'hlt = x at hx
        have e1 : ∀ j u, x.cells[j]? = some u → wr.cell? ⟨b1, o1 + t * 34 + j, none⟩ = some u := fun j u hu => (hB.cell (p := ⟨b1, _, none⟩) (block_lt_of_cell (hc1 t x hx j u hu))).trans (hc1 t x hx j u hu)
        have htk : (c.es.take (t + 1)).map (·.id) = (c.es.take t).map (·.id) ++ [x.id] := by rw [List.take_add_one, hx]; simp
        have HE : Hid _ := e1
        have HTK : Hid _ := htk
        clear hc1 hX hx e1 htk
        go_wp2_with (first
          | (refine load_mid (by rfl) 40 (.tmp 53) (by rfl) b1 (o1 + t * 34) (by rfl) x.cells _ HE.out Try.underlying40 rfl (by rw [x.size]; kernel_rfl) ?_)
          | (refine wpList_store_row (by rfl) 40 (.tmp 9) (.tmp 54) (by rfl) wr.heap.size x.cells (by rfl) (by rfl) 40 _ (heap_alloc_new _ _) (by rw [x.size]; kernel_rfl) (by rw [x.size]; rfl) (ent_one x) ?_; refine wpList_gen (fun W => Below wr.heap.size wr W ∧ ∀ i, i < 32 → W.cell? ⟨wr.heap.size, 2 + i, none⟩ = some (.int .u8 (x.id i))) ⟨below_setRow' ((Below.refl _ _).alloc (Nat.le_refl _) _) (Nat.le_refl _) _, fun i hi => (cell_of_row _ _ _ _ _ _ (heap_setRow_same (heap_alloc_new _ _))).trans (x.cellId i hi)⟩ ?_; intro W3 hW3; have HW3 : Hid _ := hW3; clear hW3)
          | (refine load_at (by rfl) 26 (.tmp 56) (by rfl) wr.heap.size 2 (by rfl) .u8 32 x.id _ HW3.out.2 Try.underlying26 rfl (by kernel_rfl) ?_)
          | (refine wpList_buildS (by rfl) 27 (.tmp 57) (by rfl) (.agg (arr .u8 32 x.id)) (by rfl) _ (bld1 x.id _) ?_; refine wpList_gen (fun W => Below W3.heap.size W3 W ∧ W.heap[W3.heap.size]? = some (.cells (arr .u8 32 x.id) 26 (0, 0))) ⟨(Below.refl _ _).alloc (Nat.le_refl _) _, heap_alloc_new _ _⟩ ?_; intro W4 hW4; have HW4 : Hid _ := hW4; have fr4 : Below wr.heap.size wr W4 := HW3.out.1.trans (hW4.1.mono HW3.out.1.size); clear hW4)
          | (at_builtin; refine ids_append (by rfl) (.tmp 55) (.tmp 58) (by rfl) (w.heap.size + 2) u7 ((c.es.take t).map (·.id)) (by rfl) (HO.out.below fr4) (some ⟨W3.heap.size, 0, none⟩) 1 [x.id] (by rfl) (fun h => by cases h) (one_rows HW4.out.2) (fun _ => ⟨_, _, rfl⟩) (by simp; omega) (Nat.le_trans hltr fr4.size) ?_; intro v5 w5 hO5 hG5 hb5; have HO5 : Hid (OwnI (w.heap.size + 2) w5 v5 ((c.es.take t).map (·.id) ++ [x.id])) := hO5; have f4 : Below w.heap.size w W4 := hB.trans (fr4.mono (by omega)); have hsz4 := fr4.size; have HF5 : Hid (Below w.heap.size w w5) := (HO.out.below fr4).grown (by omega) (by omega) f4 hG5; have hlt5 : w.heap.size + 1 < w5.heap.size := Nat.lt_of_lt_of_le hltr (Nat.le_trans fr4.size hG5.size); have HRW5 : Hid (w5.heap[w.heap.size]? = some (.cells o.cells 30 (0, 0))) := (hG5.block w.heap.size (by omega) (fun e => by have := ((HO.out.below fr4).lt e.symm).1; omega)).trans ((fr4.block _ (by omega)).trans HROW.out); clear hO5 hG5 hb5))
        go_roundw
        case rel => exact ⟨t + 1, by omega, by go_num, HF5.out, hlt5, HRW5.out, by rw [HTK.out]; exact HO5.out⟩
        case measure => simp [intOf]; omega
      · have htl : c.es.take t = c.es := List.take_of_length_le (by omega)
        rw [htl] at HO
        have hrr := obRow HROW.out
        have r0 : wr.cell? ⟨w.heap.size, 0, none⟩ = some (.int .i64 o.kind) := hrr.c0
        have r35 : wr.cell? ⟨w.heap.size, 35, none⟩ = some (.slice s3 c.ps.length k3) := hrr.c35.trans (by rw [HOP.out])
        have HTREE : Hid _ := hrr.tree
        clear htl hrr
        by_cases hk : o.kind = 3
        · obtain ⟨-, -, hes⟩ := right_commit hr hk
          obtain ⟨M, hM, hM0⟩ : ∃ M, linksL o c = M ∧ M = o.tree :: c.ps := ⟨_, by unfold linksL; rw [hr, hes, hk]; simp, rfl⟩
          have HLL : Hid _ := hM
          have HM0 : Hid _ := hM0
          have HO0 : Hid (OwnI (w.heap.size + 2) wr u7 []) := by have h := HO.out; rw [hes] at h; exact h
          rw [hk] at r0
          clear hM hM0 HO hes hk
          go_wp2
          have hML : M.length ≤ 100000 := by rw [HM0.out]; simp; omega
          have hS0 : Below (w.heap.size + 2) wr wr.drew := (Below.refl _ _).drew
          refine mv_begin (S := fun w' => Below (w.heap.size + 2) wr w') 9 rfl (by kernel_rfl) ?_
          refine mv_rung 0 64 (u7) rfl (by rfl) (by kernel_rfl) (by kernel_rfl) (by kernel_rfl) (fun _ _ _ h => h) (fun w' _ => by first | rfl | go_simp) hS0 ?_
          simp only [List.setIfInBounds_toArray, List.set_cons_succ, List.set_cons_zero]
          refine mv_rung 1 65 (.pointer (some ⟨w.heap.size, 3, none⟩)) rfl (by rfl) (by kernel_rfl) (by kernel_rfl) (by kernel_rfl) (fun _ _ _ h => h) (fun w' _ => by first | rfl | go_simp) hS0 ?_
          simp only [List.setIfInBounds_toArray, List.set_cons_succ, List.set_cons_zero]
          refine mv_at 2 66 26 (.tmp 65) rfl w.heap.size 3 .u8 32 o.tree rfl (by kernel_rfl) (by kernel_rfl) (by kernel_rfl) (fun _ _ _ h => h) _ (fun w' hw' i hi => (hw'.cell (p := ⟨w.heap.size, 3 + i, none⟩) (by simp)).trans (by have := HTREE.out i hi; simpa using this)) Try.underlying26 rfl (by kernel_rfl) hS0 ?_
          simp only [List.setIfInBounds_toArray, List.set_cons_succ, List.set_cons_zero]
          refine mv_rung 5 69 (.pointer (some ⟨w.heap.size, 35, none⟩)) rfl (by rfl) (by kernel_rfl) (by kernel_rfl) (by kernel_rfl) (fun _ _ _ h => h) (fun w' _ => by first | rfl | go_simp) hS0 ?_
          simp only [List.setIfInBounds_toArray, List.set_cons_succ, List.set_cons_zero]
          refine mv_rung 6 70 (.slice s3 c.ps.length k3) rfl (by rfl) (by kernel_rfl) (by kernel_rfl) (by kernel_rfl) (fun _ _ _ h => h) (fun w' hw' => by have q : w'.cell? ⟨w.heap.size, 35, none⟩ = some (.slice s3 c.ps.length k3) := (hw'.cell (p := ⟨w.heap.size, 35, none⟩) (by simp)).trans r35; first | rfl | go_simp) hS0 ?_
          simp only [List.setIfInBounds_toArray, List.set_cons_succ, List.set_cons_zero]
          refine mv_next 3 rfl (by kernel_rfl) ?_
          refine op_buildS 27 (.tmp 66) rfl (.agg (arr .u8 32 o.tree)) rfl (bld1 o.tree _) ?_
          have hB1 : Below (w.heap.size + 2) wr (wr.drew.alloc (.cells (arr .u8 32 o.tree) 26)) := hS0.alloc (by show w.heap.size + 2 ≤ wr.heap.size; omega) _
          have hrow1 := heap_alloc_new wr.drew (.cells (arr .u8 32 o.tree) 26)
          have hsz1 : (wr.drew.alloc (.cells (arr .u8 32 o.tree) 26)).heap.size = wr.heap.size + 1 := by simp
          have hO1 : OwnI (w.heap.size + 2) (wr.drew.alloc (.cells (arr .u8 32 o.tree) 26)) u7 [] := OwnI.below HO0.out (((Below.refl _ _).drew).alloc (Nat.le_refl _) _)
          have hf1 : Below wr.heap.size wr (wr.drew.alloc (.cells (arr .u8 32 o.tree) 26)) := ((Below.refl _ _).drew).alloc (Nat.le_refl _) _
          refine ⟨hB1, ?_⟩
          simp only [Act.put, List.setIfInBounds_toArray, List.set_cons_succ, List.set_cons_zero]
          generalize wr.drew.alloc (.cells (arr .u8 32 o.tree) 26) = X1 at hB1 hrow1 hO1 hsz1 hf1
          obtain ⟨v8, X2, hr8, hO8, hG8, hb8⟩ := ids_run (ys := [o.tree]) (sp := some ⟨wr.heap.size, 0, none⟩) (cap := 1) 27 hO1 (fun h => by cases h) (one_rows hrow1) (fun _ => ⟨_, _, rfl⟩) (by simp) (by omega)
          refine mv_next 4 rfl (by kernel_rfl) ?_
          refine op_append (.tmp 64) (.tmp 67) 27 rfl rfl rfl hr8 ?_
          have hB2 : Below (w.heap.size + 2) wr X2 := hO1.grown (Nat.le_refl _) (by omega) hB1 hG8
          have hsz2 := hG8.size
          refine ⟨hB2, ?_⟩
          simp only [Act.put, List.setIfInBounds_toArray, List.set_cons_succ, List.set_cons_zero]
          have hfw2 : Below w.heap.size w X2 := hB.trans (hB2.mono (by omega))
          obtain ⟨v9, X3, hr9, hO9, hG9, hb9⟩ := ids_run (ys := c.ps) (sp := s3) (cap := k3) 27 hO8 HPN.out (RowsAt.below HPROWS.out hfw2) (fun hp => by obtain ⟨b, off, q, -⟩ := HPROWS.out hp; exact ⟨b, off, q⟩) (by simp; omega) (by omega)
          refine mv_next 7 rfl (by kernel_rfl) ?_
          refine op_append (.tmp 68) (.tmp 70) 27 rfl rfl rfl hr9 ?_
          have hB3 : Below (w.heap.size + 2) wr X3 := hO8.grown (Nat.le_refl _) (by omega) hB2 hG9
          refine ⟨hB3, ?_⟩
          simp only [Act.put, List.setIfInBounds_toArray, List.set_cons_succ, List.set_cons_zero]
          refine mv_rung 8 7 (v9) rfl (by rfl) (by kernel_rfl) (by kernel_rfl) (by kernel_rfl) (fun _ _ _ h => h) (fun w' _ => by first | rfl | go_simp) hB3 ?_
          simp only [List.setIfInBounds_toArray, List.set_cons_succ, List.set_cons_zero]
          refine wpAnyH_done (by kernel_rfl) ?_ _
          have HO9 : Hid (OwnI (w.heap.size + 2) X3 v9 M) := by rw [HM0.out]; exact hO9
          have f9 : Below w.heap.size w X3 := hB.trans (hB3.mono (by omega))
          have HR9 : Hid (X3.heap[w.heap.size]? = some (.cells o.cells 30 (0, 0))) := (hB3.block _ (by omega)).trans HROW.out
          clear hS0 hB1 hrow1 hO1 hsz1 hf1 hr8 hO8 hG8 hb8 hB2 hsz2 hfw2 hr9 hO9 hG9 hb9 hB3 r0 r35 HROW HO0
          go_wp2_with (refine wpList_load_row (by rfl) 30 (.tmp 3) (by rfl) w.heap.size (by rfl) 30 o.cells (0, 0) _ HR9.out Try.underlying30 rfl (by rw [Ob.size]; kernel_rfl) ?_)
          refine (copied_any o c X3 (HIO.out.under f9) hso).mono ?_
          rintro e wg ⟨z1, z2, z3, rfl, hIg, hBg⟩
          have fg : Below w.heap.size w wg := f9.trans (hBg.mono f9.size)
          have HOg : Hid (OwnI (w.heap.size + 2) wg v9 M) := OwnI.below HO9.out hBg
          clear hBg
          go_wp2_with fail
          refine (links_any { o with bs := z1, es := z2, ps := z3 } c wg hIg ⟨hso.nb, hso.es, hso.ps, hso.note, hso.names⟩).mono ?_
          rintro e wh ⟨vl, rfl, hOl, hBh⟩
          rw [links_copy, HLL.out] at hOl
          have fh : Below w.heap.size w wh := fg.trans (hBh.mono fg.size)
          have hOh : OwnI (w.heap.size + 2) wh v9 M := OwnI.below HOg.out hBh
          obtain ⟨sl, kl, rfl, hRl, -⟩ := hOl.rows
          obtain ⟨sv, kv, hv, hRv, -⟩ := hOh.rows
          subst hv
          have HRL : Hid _ := hRl
          have HRV : Hid _ := hRv
          clear hOl hOh hRl hRv hBh HOg hIg fg
          go_wp2
          clear HR9 HO9
          go_loopw [82] (fun i wr => ∃ (t n : Nat), t ≤ M.length ∧ i = .int .i64 t ∧ wr = wh.drewN n) (fun i _ => M.length - (intOf i).toNat)
          case atStart => exact ⟨0, 0, Nat.zero_le _, rfl, rfl⟩
          case round =>
            obtain ⟨t, n, ht, rfl, rfl⟩ := hrel
            by_cases hlt : t < M.length
            · obtain ⟨b1, o1, rfl, hc1⟩ := HRL.out (by omega)
              obtain ⟨b2, o2, rfl, hc2⟩ := HRV.out (by omega)
              have hx : M[t]? = some (M[t]'hlt) := List.getElem?_eq_getElem hlt
              generalize hX : M[t]'hlt = x at hx
              have e1 : ∀ m, (loadVar 26 ⟨b1, o1 + t * 32, none⟩).run Try.prog ((wh.drewN n).drewN m) = .ok (.agg (arr .u8 32 x)) ((wh.drewN n).drewN m) := fun m => run_mid (fun j u hu => hc1 t x hx j u hu) Try.underlying26 rfl (by rw [arr_size]; kernel_rfl)
              have e2 : ∀ m, (loadVar 26 ⟨b2, o2 + t * 32, none⟩).run Try.prog ((wh.drewN n).drewN m) = .ok (.agg (arr .u8 32 x)) ((wh.drewN n).drewN m) := fun m => run_mid (fun j u hu => hc2 t x hx j u hu) Try.underlying26 rfl (by rw [arr_size]; kernel_rfl)
              have heq := equal_id x x
              rw [eqTo_self] at heq
              clear hc1 hc2 hX hx
              go_wp2
              refine wp_region_quiet_lit (by kernel_rfl) (by kernel_rfl) ?_
              repeat (go_big_quiet_step (fail))
              refine quiet_load (.agg (arr .u8 32 x)) 26 (.tmp 87) ⟨b1, o1 + t * 32, none⟩ (by rfl) (by rintro _ ⟨m, rfl⟩; exact e1 m) ?_
              simp only [List.setIfInBounds_toArray, List.set_cons_succ, List.set_cons_zero]
              repeat (go_big_quiet_step (fail))
              refine quiet_load (.agg (arr .u8 32 x)) 26 (.tmp 91) ⟨b2, o2 + t * 32, none⟩ (by rfl) (by rintro _ ⟨m, rfl⟩; exact e2 m) ?_
              simp only [List.setIfInBounds_toArray, List.set_cons_succ, List.set_cons_zero]
              repeat (go_big_quiet_step (fail))
              refine wpQuiet_nil ?_
              rintro _ ⟨nq, rfl⟩
              clear e1 e2 heq
              go_wp2
              go_roundw
              case rel => exact ⟨t + 1, n + nq, by omega, by go_num, by simp [World.drewN]⟩
              case measure => simp [intOf]; omega
            · go_wp2
              go_ret
              exact ⟨rfl, below_drewN fh _⟩
        · have hkb : (o.kind == 3) = false := by simpa using hk
          obtain ⟨M, hM, hM0⟩ : ∃ M, linksL o c = M ∧ M = c.es.map (·.id) := ⟨_, by unfold linksL; rw [hr, if_pos rfl, if_neg hk, List.nil_append], rfl⟩
          have HLL : Hid _ := hM
          have HOM : Hid (OwnI (w.heap.size + 2) wr u7 M) := by rw [hM0]; exact HO.out
          have hML : M.length ≤ 100000 := by rw [hM0]; simp; omega
          clear hM hM0 HO
          go_wp2_with (refine wpList_load_row (by rfl) 30 (.tmp 3) (by rfl) w.heap.size (by rfl) 30 o.cells (0, 0) _ HROW.out Try.underlying30 rfl (by rw [Ob.size]; kernel_rfl) ?_)
          refine (copied_any o c wr (HIO.out.under hB) hso).mono ?_
          rintro e wg ⟨z1, z2, z3, rfl, hIg, hBg⟩
          have fg : Below w.heap.size w wg := hB.trans (hBg.mono hB.size)
          have HOg : Hid (OwnI (w.heap.size + 2) wg u7 M) := OwnI.below HOM.out hBg
          clear hBg
          go_wp2_with fail
          refine (links_any { o with bs := z1, es := z2, ps := z3 } c wg hIg ⟨hso.nb, hso.es, hso.ps, hso.note, hso.names⟩).mono ?_
          rintro e wh ⟨vl, rfl, hOl, hBh⟩
          rw [links_copy, HLL.out] at hOl
          have fh : Below w.heap.size w wh := fg.trans (hBh.mono fg.size)
          have hOh : OwnI (w.heap.size + 2) wh u7 M := OwnI.below HOg.out hBh
          obtain ⟨sl, kl, rfl, hRl, -⟩ := hOl.rows
          obtain ⟨sv, kv, hv, hRv, -⟩ := hOh.rows
          subst hv
          have HRL : Hid _ := hRl
          have HRV : Hid _ := hRv
          clear hOl hOh hRl hRv hBh HOg hIg fg
          go_wp2
          clear HROW HOM
          go_loopw [82] (fun i wr => ∃ (t n : Nat), t ≤ M.length ∧ i = .int .i64 t ∧ wr = wh.drewN n) (fun i _ => M.length - (intOf i).toNat)
          case atStart => exact ⟨0, 0, Nat.zero_le _, rfl, rfl⟩
          case round =>
            obtain ⟨t, n, ht, rfl, rfl⟩ := hrel
            by_cases hlt : t < M.length
            · obtain ⟨b1, o1, rfl, hc1⟩ := HRL.out (by omega)
              obtain ⟨b2, o2, rfl, hc2⟩ := HRV.out (by omega)
              have hx : M[t]? = some (M[t]'hlt) := List.getElem?_eq_getElem hlt
              generalize hX : M[t]'hlt = x at hx
              have e1 : ∀ m, (loadVar 26 ⟨b1, o1 + t * 32, none⟩).run Try.prog ((wh.drewN n).drewN m) = .ok (.agg (arr .u8 32 x)) ((wh.drewN n).drewN m) := fun m => run_mid (fun j u hu => hc1 t x hx j u hu) Try.underlying26 rfl (by rw [arr_size]; kernel_rfl)
              have e2 : ∀ m, (loadVar 26 ⟨b2, o2 + t * 32, none⟩).run Try.prog ((wh.drewN n).drewN m) = .ok (.agg (arr .u8 32 x)) ((wh.drewN n).drewN m) := fun m => run_mid (fun j u hu => hc2 t x hx j u hu) Try.underlying26 rfl (by rw [arr_size]; kernel_rfl)
              have heq := equal_id x x
              rw [eqTo_self] at heq
              clear hc1 hc2 hX hx
              go_wp2
              refine wp_region_quiet_lit (by kernel_rfl) (by kernel_rfl) ?_
              repeat (go_big_quiet_step (fail))
              refine quiet_load (.agg (arr .u8 32 x)) 26 (.tmp 87) ⟨b1, o1 + t * 32, none⟩ (by rfl) (by rintro _ ⟨m, rfl⟩; exact e1 m) ?_
              simp only [List.setIfInBounds_toArray, List.set_cons_succ, List.set_cons_zero]
              repeat (go_big_quiet_step (fail))
              refine quiet_load (.agg (arr .u8 32 x)) 26 (.tmp 91) ⟨b2, o2 + t * 32, none⟩ (by rfl) (by rintro _ ⟨m, rfl⟩; exact e2 m) ?_
              simp only [List.setIfInBounds_toArray, List.set_cons_succ, List.set_cons_zero]
              repeat (go_big_quiet_step (fail))
              refine wpQuiet_nil ?_
              rintro _ ⟨nq, rfl⟩
              clear e1 e2 heq
              go_wp2
              go_roundw
              case rel => exact ⟨t + 1, n + nq, by omega, by go_num, by simp [World.drewN]⟩
              case measure => simp [intOf]; omega
            · go_wp2
              go_ret
              exact ⟨rfl, below_drewN fh _⟩
end Go.Proofs.Ytnaoaeapffgojaa
