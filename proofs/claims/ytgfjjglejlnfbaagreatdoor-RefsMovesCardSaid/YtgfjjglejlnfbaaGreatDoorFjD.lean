/- The contract of the document's Apply of branches. -/
import Derived.Test.YtgfjjglejlnfbaaGreatDoorMrgF
import Derived.Test.YtgfjjglejlnfbaaGreatDoorFsX
namespace Go.Proofs.YtgfjjglejlnfbaaGreatDoor
open Go.RowKit

theorem list_appR {P : Program} {ops : Array Oper} {rest : List Oper} {Q : Exit → Act → World → Prop} {a : Act} {w w' : World} {o : Oper} {v' vs vx : Value} (hgd : o.guard = none) (s x : Operand) (t : TypeId)
    (ho : o.op = .call { callee := .builtin .append, args := #[s, x], argTypes := #[t, t] }) (hs : a.eval s = vs) (hx : a.eval x = vx) (hr : (Builtin.append_ #[t, t] o.type #[vs, vx]).run P w = .ok v' w') (h : wpList P ops Q rest (a.put o.dst v') w') : wpList P ops Q (o :: rest) a w :=
  wpList_plain hgd fun _ hK => op_append s x t ho hs hx hr (hK _ _ h)
theorem exit_gen {Q : Exit → Act → World → Prop} {e : Exit} {a : Act} {w0 : World} (F : World → Prop) (h0 : F w0) (h : ∀ W1, F W1 → Q e a W1) : Q e a w0 := h _ h0
theorem name_flip (a b : ByteArray) : (a.toList == b.toList) = (b.toList == a.toList) := by
  rw [Bool.eq_iff_iff, beq_iff_eq, beq_iff_eq]
  exact ⟨Eq.symm, Eq.symm⟩
theorem name_less {a b : ByteArray} (h : Op.bytesLess a.toList b.toList = true) : (b.toList == a.toList) = false := by
  rw [beq_eq_false_iff_ne]
  intro e
  rw [e, less_irrefl] at h
  cases h
section
variable {P : Program} {ops : Array Oper} {Q : Exit → Act → World → Prop} {md : Region.Mode} {S : World → Prop} {fuel : Nat} {listed : Array Bool} {tm : Array Value} {df : List Deferred} {w : World}
  {ty0 : TypeId} {pos : String} {aft : Array Edge}
/-- A load of many cells that are known one by one is taken first. -/
theorem mv_mid (i d : Nat) (ty : TypeId) (x : Operand) (hi : ops[i]? = some ⟨some d, .load ty x, ty0, pos, aft, none⟩) (g o : Nat) (cs : Array Value) (hx : Act.eval ⟨tm, df⟩ x = .pointer (some ⟨g, o, none⟩))
    (hs : Region.noSelect ops = true) (hf : Region.free md ops listed i = true) (hr : (Region.ready md ops listed).contains i = true)
    (hQ : ∀ c a w, Q (.panic c) (a.put (some d) (.agg cs)) w → Q (.panic c) a w) (D : TypeDesc) (hc : ∀ w, S w → ∀ j u, cs[j]? = some u → w.cell? ⟨g, o + j, none⟩ = some u) (hu : P.underlying ty = some D)
    (hd : D.isRow = true) (hsz : (P.info? ty).map (·.size) = some cs.size) (hS : S w)
    (h : wpAnyH P md ops Q S fuel (listed.setIfInBounds i true) ⟨tm.setIfInBounds d (.agg cs), df⟩ w) : wpAnyH P md ops Q S (fuel + 1) listed ⟨tm, df⟩ w :=
  mv_run i d (.agg cs) hi hs hf hr hQ (fun w' hw' => by
    unfold execOp
    simp only [hx, Instr.loadAt, Instr.sureAddr, Sem.run_bind, Sem.run_pure, Result.andThen_ok, run_mid (hc w' hw') hu hd hsz]) hS h
end
/-- What the document's Apply leans on. -/
structure ApA (w W : World) (sp : Option Addr) (cap : Nat) (rs : List Re) (m : Mv) : Prop where
  bel : Below w.heap.size w W
  r0 : W.heap[w.heap.size]? = some (.cells #[.slice sp rs.length cap] 24 (0, 0))
  r1 : W.heap[w.heap.size + 1]? = some (.cells m.cells 28 (0, 0))
  r2 : W.heap[w.heap.size + 1 + 1]? = some (.cells #[.slice none 0 0] 24 (0, 0))
  r3 : W.heap[w.heap.size + 1 + 1 + 1]? = some (.cells (arr .u8 32 noId) 26 (0, 0))
  hw : RowsAt w 33 Re.cells sp rs
section
variable {w W W' : World} {sp : Option Addr} {cap : Nat} {rs : List Re} {m : Mv}
theorem ApA.grow (h : ApA w W sp cap rs m) (hb : Below W.heap.size W W') : ApA w W' sp cap rs m :=
  ⟨h.bel.trans (hb.mono h.bel.size), (hb.block _ (lt_of_row h.r0)).trans h.r0, (hb.block _ (lt_of_row h.r1)).trans h.r1, (hb.block _ (lt_of_row h.r2)).trans h.r2, (hb.block _ (lt_of_row h.r3)).trans h.r3, h.hw⟩
theorem ApA.hr (h : ApA w W sp cap rs m) : RowsAt W 33 Re.cells sp rs := RowsAt.below h.hw h.bel
theorem ApA.c0 (h : ApA w W sp cap rs m) : W.cell? ⟨w.heap.size, 0, none⟩ = some (.slice sp rs.length cap) := (cell_of_row _ _ _ _ _ _ h.r0).trans rfl
theorem ApA.c1 (h : ApA w W sp cap rs m) : W.cell? ⟨w.heap.size + 1, 0, none⟩ = some (.string m.name) := (cell_of_row _ _ _ _ _ _ h.r1).trans m.cell0
theorem ApA.cf (h : ApA w W sp cap rs m) : ∀ i, i < 32 → W.cell? ⟨w.heap.size + 1, 1 + i, none⟩ = some (.int .u8 (m.frm i)) := fun i hi => (cell_of_row _ _ _ _ _ _ h.r1).trans (m.cellF i hi)
theorem ApA.ct (h : ApA w W sp cap rs m) : ∀ i, i < 32 → W.cell? ⟨w.heap.size + 1, 33 + i, none⟩ = some (.int .u8 (m.to i)) := fun i hi => (cell_of_row _ _ _ _ _ _ h.r1).trans (m.cellT i hi)
theorem ApA.cn (h : ApA w W sp cap rs m) : ∀ i, i < 32 → W.cell? ⟨w.heap.size + 1 + 1 + 1, 0 + i, none⟩ = some (.int .u8 (noId i)) := fun i hi => (cell_of_row _ _ _ _ _ _ h.r3).trans (by rw [Nat.zero_add]; exact arr_get hi)
theorem ApA.again (h : ApA w W sp cap rs m) : ApA w (W.setRow (w.heap.size + 1 + 1 + 1) (arr .u8 32 noId)) sp cap rs m :=
  ⟨below_setRow' h.bel (by omega) _, (setRow_other _ _ _ _ (by omega)).trans h.r0, (setRow_other _ _ _ _ (by omega)).trans h.r1, (setRow_other _ _ _ _ (by omega)).trans h.r2, heap_setRow_same h.r3, h.hw⟩
theorem ApA.gat {g : Nat} (h : ApA w W sp cap rs m) (hg : w.heap.size + 1 + 1 + 1 < g) (hb : W.grownBy W' (some g)) : ApA w W' sp cap rs m := by
  have k : ∀ n, n ≤ w.heap.size + 1 + 1 + 1 → W'.heap[n]? = W.heap[n]? := fun n hn => hb.block n (by have := lt_of_row h.r3; omega) (fun e => by injection e with e; omega)
  exact ⟨below_grown h.bel hb (by omega) (Nat.le_refl _), (k _ (by omega)).trans h.r0, (k _ (by omega)).trans h.r1, (k _ (by omega)).trans h.r2, (k _ (by omega)).trans h.r3, h.hw⟩
theorem ApA.elt {b o t : Nat} {x : Re} (h : ApA w W sp cap rs m) (hsp : sp = some ⟨b, o, none⟩) (hx : rs[t]? = some x) : W.cell? ⟨w.heap.size, 0, none⟩ = some (.slice (some ⟨b, o, none⟩) rs.length cap) ∧ ∀ j u, x.cells[j]? = some u → W.cell? ⟨b, o + t * 33 + j, none⟩ = some u := by
  subst hsp
  refine ⟨h.c0, fun j u hu => ?_⟩
  obtain ⟨b', o', hsp', hc'⟩ := h.hr (by have := (List.getElem?_eq_some_iff.1 hx).1; omega)
  have e := Option.some.inj hsp'
  have e1 : b = b' := congrArg Addr.block e
  have e2 : o = o' := congrArg Addr.off e
  rw [e1, e2]
  exact hc' t x hx j u hu
theorem ApA.done (h : ApA w W sp cap rs m) (u : Value) : (W.setCell ⟨w.heap.size + 1 + 1, 0, none⟩ u).heap[w.heap.size + 1 + 1]? = some (.cells #[u] 24 (0, 0)) ∧ Below w.heap.size w (W.setCell ⟨w.heap.size + 1 + 1, 0, none⟩ u) ∧ W.cell? ⟨w.heap.size + 1 + 1, 0, none⟩ = some (.slice none 0 0) ∧ W.frozen? ⟨w.heap.size + 1 + 1, 0, none⟩ = false :=
  ⟨heap_setCell_same _ _ 0 _ _ _ h.r2, h.bel.setCell (p := ⟨w.heap.size + 1 + 1, 0, none⟩) (by show w.heap.size ≤ w.heap.size + 1 + 1; omega) _, (cell_of_row _ _ _ _ _ _ h.r2).trans rfl, frozen_of_row _ _ _ _ _ h.r2⟩
end
set_option pp.deepTerms.threshold 2000 in
set_option maxRecDepth 100000 in
set_option maxHeartbeats 40000000 in
theorem r9apply_any (sp : Option Addr) (cap : Nat) (rs : List Re) (m : Mv) (w : World) (hr : RowsAt w 33 Re.cells sp rs) (hl : rs.length ≤ 10000) (hsz : ∀ e ∈ rs, e.name.size ≤ 9223372036854775807) (hms : m.name.size ≤ 9223372036854775807) :
    Calls Tryz.prog 11 #[.agg #[.slice sp rs.length cap], .agg m.cells] w fun e w' => ApplyD rs m w.heap.size e w' ∧ Below w.heap.size w w' := by
  have HR : Hid (RowsAt w 33 Re.cells sp rs) := hr
  have HSZ : Hid (∀ e ∈ rs, e.name.size ≤ 9223372036854775807) := hsz
  have HBI : Hid _ := build_no
  have hef : ∀ W, (Op.equalIn 10000 26 (.agg (arr .u8 32 m.frm)) (.agg (arr .u8 32 noId))).run Tryz.prog W = .ok (noneB m.frm) W := equal_id m.frm noId
  have het : ∀ W, (Op.equalIn 10000 26 (.agg (arr .u8 32 m.to)) (.agg (arr .u8 32 noId))).run Tryz.prog W = .ok (noneB m.to) W := equal_id m.to noId
  have n3 := heap_alloc_new (((w.alloc (.cells #[.slice sp rs.length cap] 24)).alloc (.cells m.cells 28)).alloc (.cells #[.slice none 0 0] 24)) (.cells (arr .u8 32 noId) 26)
  have n2 := heap_alloc_new ((w.alloc (.cells #[.slice sp rs.length cap] 24)).alloc (.cells m.cells 28)) (.cells #[.slice none 0 0] 24)
  have n1 := heap_alloc_new (w.alloc (.cells #[.slice sp rs.length cap] 24)) (.cells m.cells 28)
  have n0 := heap_alloc_new w (.cells #[.slice sp rs.length cap] 24)
  have b4 : Below w.heap.size w ((((w.alloc (.cells #[.slice sp rs.length cap] 24)).alloc (.cells m.cells 28)).alloc (.cells #[.slice none 0 0] 24)).alloc (.cells (arr .u8 32 noId) 26)) := ((((Below.refl _ _).alloc (Nat.le_refl _) _).alloc (by simp) _).alloc (by simp; try omega) _).alloc (by simp; try omega) _
  simp only [World.size_alloc] at n1 n2 n3
  have A0 : Hid (ApA w ((((w.alloc (.cells #[.slice sp rs.length cap] 24)).alloc (.cells m.cells 28)).alloc (.cells #[.slice none 0 0] 24)).alloc (.cells (arr .u8 32 noId) 26)) sp cap rs m) := ⟨b4, (Below.heap_alloc _ _ _ (by simp; try omega)).trans ((Below.heap_alloc _ _ _ (by simp; try omega)).trans ((Below.heap_alloc _ _ _ (by simp)).trans n0)), (Below.heap_alloc _ _ _ (by simp; try omega)).trans ((Below.heap_alloc _ _ _ (by simp)).trans n1), (Below.heap_alloc _ _ _ (by simp)).trans n2, n3, hr⟩
  clear hr hsz HR n0 n1 n2 n3 b4
  rw [arr_no] at A0
  go_enter Tryz.func11, Tryz.ntmps11
  go_wp2_with (first
    | (refine wpList_build (by rfl) 26 _ (by rfl) [] (by rfl) (.agg (arr .u8 32 noId)) (HBI.out _) ?_)
    | (refine wpList_gen (fun W => ApA w W sp cap rs m) A0.out ?_; intro W0 hW0; have A0' : Hid (ApA w W0 sp cap rs m) := hW0; clear hW0; refine wpList_store_row (by rfl) 26 (.tmp 6) (.tmp 12) (by rfl) (w.heap.size + 1 + 1 + 1) (arr .u8 32 noId) (by rfl) (by rfl) 26 _ A0'.out.r3 (by rw [arr_size]; kernel_rfl) (by rw [arr_size]) (arr_one _ _ _) ?_; refine wpList_gen (fun W => ApA w W sp cap rs m) (A0'.out.again) ?_; intro W1 hW1; have A1 : Hid (ApA w W1 sp cap rs m) := hW1; have c0 := hW1.c0; clear hW1))
  refine (r9right_any sp cap rs W1 A1.out.hr (by omega) HSZ.out).mono ?_
  rintro e W2 ⟨rfl, b2⟩
  have A2 : Hid (ApA w W2 sp cap rs m) := A1.out.grow b2
  clear b2 c0 A1 A0 A0'
  cases hrb : refsB rs
  · skip
    have HP : Hid (∀ W, ApplyD rs m w.heap.size (.returned (.tuple #[.agg #[.slice none 0 0], .int .i64 190])) W) := fun W => ⟨fun _ => rfl, fun h => by unfold badX at h; rw [hrb] at h; cases h⟩
    obtain ⟨r3, b3, c3, z3⟩ := A2.out.done (.slice none 0 0)
    have HR3 : Hid _ := r3
    clear r3
    clear hrb
    go_wp2
    exact bodyPost_ret (v := .tuple #[.agg #[.slice none 0 0], .int .i64 190]) (results_cell_tmp Tryz.results11 _ _ (w.heap.size + 1 + 1) 24 #[.slice none 0 0] (0, 0) _ _ rfl rfl HR3.out Tryz.underlying24 rfl (by kernel_rfl)) rfl ⟨HP.out _, b3⟩
  have HRB : Hid (refsB rs = true) := hrb
  have c1 := A2.out.c1
  clear hrb
  go_wp2_with fail
  refine (rname_any m.name W2 hms).mono ?_
  rintro e W2' ⟨rfl, hW2'⟩
  rw [hW2']
  clear hW2'
  cases hnm : nameB m.name
  · skip
    have HP : Hid (∀ W, ApplyD rs m w.heap.size (.returned (.tuple #[.agg #[.slice none 0 0], .int .i64 190])) W) := fun W => ⟨fun _ => rfl, fun h => by unfold badX at h; rw [HRB.out, hnm] at h; cases h⟩
    obtain ⟨r3, b3, c3, z3⟩ := A2.out.done (.slice none 0 0)
    have HR3 : Hid _ := r3
    clear r3
    clear hnm
    go_wp2
    exact bodyPost_ret (v := .tuple #[.agg #[.slice none 0 0], .int .i64 190]) (results_cell_tmp Tryz.results11 _ _ (w.heap.size + 1 + 1) 24 #[.slice none 0 0] (0, 0) _ _ rfl rfl HR3.out Tryz.underlying24 rfl (by kernel_rfl)) rfl ⟨HP.out _, b3⟩
  have HNM : Hid (nameB m.name = true) := hnm
  have HCF : Hid _ := A2.out.cf
  have HCT : Hid _ := A2.out.ct
  have HCN : Hid _ := A2.out.cn
  clear hnm
  cases hnf : noneB m.frm
  · rw [hnf] at hef
    have HBAD : Hid (badX rs m = false) := by show _ = _; unfold badX; rw [HRB.out, HNM.out, hnf]; rfl
    have HNT : Hid (noneB m.to = noneB m.to) := rfl
    have HNF : Hid (noneB m.frm = false) := hnf
    clear hnf
    have c0 := A2.out.c0
    go_wp2_with (first | (refine load_atg (by rfl) 26 (.tmp 23) (by rfl) (w.heap.size + 1) 1 (by rfl) .u8 32 m.frm _ HCF.out Tryz.underlying26 rfl (by kernel_rfl) ?_) | (refine load_atg (by rfl) 26 (.tmp 6) (by rfl) (w.heap.size + 1 + 1 + 1) 0 (by rfl) .u8 32 noId _ HCN.out Tryz.underlying26 rfl (by kernel_rfl) ?_) | (refine load_atg (by rfl) 26 (.tmp 28) (by rfl) (w.heap.size + 1) 33 (by rfl) .u8 32 m.to _ HCT.out Tryz.underlying26 rfl (by kernel_rfl) ?_) | (refine load_atg (by rfl) 26 (.tmp 6) (by rfl) (w.heap.size + 1 + 1 + 1) 0 (by rfl) .u8 32 noId _ HCN.out Tryz.underlying26 rfl (by kernel_rfl) ?_))
    refine (r9get_any sp cap rs m.name W2 A2.out.hr (by omega)).mono ?_
    rintro e W3 ⟨rfl, b3⟩
    have A3 : Hid (ApA w W3 sp cap rs m) := A2.out.grow b3
    clear b3 A2 HCF HCT HCN c0 c1
    cases hfd : findR m.name rs
    · skip
      unfold getV
      dsimp only
      have HFD : Hid (findR m.name rs = none) := hfd
      clear hfd
      have HP : Hid (∀ W, ApplyD rs m w.heap.size (.returned (.tuple #[.agg #[.slice none 0 0], .int .i64 4])) W) := fun W => by
        have he : errL rs m = 4 := by unfold errL; rw [HFD.out]; dsimp only; rw [HNF.out]; rfl
        exact ⟨fun h => (by rw [HBAD.out] at h; cases h), fun _ => ⟨fun _ => by rw [he], fun h => by rw [he] at h; cases h⟩⟩
      go_wp2_with (first | (refine wpList_store_row (by rfl) 26 (.tmp 7) (.tmp 40) (by rfl) W3.heap.size (arr .u8 32 noId) (by rfl) (by rfl) 26 _ (heap_alloc_new _ _) (by rw [arr_size]; kernel_rfl) (by rw [arr_size]; rfl) (arr_one _ _ _) ?_; refine wpList_gen (fun W => Below W3.heap.size W3 W ∧ W.heap[W3.heap.size]? = some (.cells (arr .u8 32 noId) 26 (0, 0))) ⟨below_setRow' ((Below.refl _ _).alloc (Nat.le_refl _) _) (Nat.le_refl _) _, heap_setRow_same (heap_alloc_new _ _)⟩ ?_; intro W4 hW4; have HW4 : Hid _ := hW4; have A4 : Hid (ApA w W4 sp cap rs m) := A3.out.grow hW4.1; have HCF : Hid _ := A4.out.cf; have HCT : Hid _ := A4.out.ct; have HCN : Hid _ := A4.out.cn; have HCI : Hid (∀ i, i < 32 → W4.cell? ⟨W3.heap.size, 0 + i, none⟩ = some (.int .u8 (noId i))) := (fun i hi => (cell_of_row _ _ _ _ _ _ hW4.2).trans (by rw [Nat.zero_add]; exact arr_get hi)); clear hW4; obtain ⟨-, -, c3, z3⟩ := A4.out.done (.slice none 0 0); have c0 := A4.out.c0) | (refine load_atg (by rfl) 26 (.tmp 42) (by rfl) (w.heap.size + 1) 1 (by rfl) .u8 32 m.frm _ HCF.out Tryz.underlying26 rfl (by kernel_rfl) ?_) | (refine load_atg (by rfl) 26 (.tmp 6) (by rfl) (w.heap.size + 1 + 1 + 1) 0 (by rfl) .u8 32 noId _ HCN.out Tryz.underlying26 rfl (by kernel_rfl) ?_) | (refine load_atg (by rfl) 26 (.tmp 51) (by rfl) (w.heap.size + 1) 1 (by rfl) .u8 32 m.frm _ HCF.out Tryz.underlying26 rfl (by kernel_rfl) ?_) | (refine load_atg (by rfl) 26 (.tmp 6) (by rfl) (w.heap.size + 1 + 1 + 1) 0 (by rfl) .u8 32 noId _ HCN.out Tryz.underlying26 rfl (by kernel_rfl) ?_) | (refine load_atg (by rfl) 26 (.tmp 7) (by rfl) (W3.heap.size) 0 (by rfl) .u8 32 noId _ HCI.out Tryz.underlying26 rfl (by kernel_rfl) ?_) | (refine load_atg (by rfl) 26 (.tmp 62) (by rfl) (w.heap.size + 1) 1 (by rfl) .u8 32 m.frm _ HCF.out Tryz.underlying26 rfl (by kernel_rfl) ?_) | (refine load_atg (by rfl) 26 (.tmp 77) (by rfl) (w.heap.size + 1) 33 (by rfl) .u8 32 m.to _ HCT.out Tryz.underlying26 rfl (by kernel_rfl) ?_) | (refine load_atg (by rfl) 26 (.tmp 6) (by rfl) (w.heap.size + 1 + 1 + 1) 0 (by rfl) .u8 32 noId _ HCN.out Tryz.underlying26 rfl (by kernel_rfl) ?_))
      obtain ⟨r3, b3, -, -⟩ := A4.out.done (.slice none 0 0)
      have HR3 : Hid _ := r3
      clear r3
      exact bodyPost_ret (v := .tuple #[.agg #[.slice none 0 0], .int .i64 4]) (results_cell_tmp Tryz.results11 _ _ (w.heap.size + 1 + 1) 24 #[.slice none 0 0] (0, 0) _ _ rfl rfl HR3.out Tryz.underlying24 rfl (by kernel_rfl)) rfl ⟨HP.out _, b3⟩
    · rename_i x
      unfold getV
      dsimp only
      have HFD : Hid (findR m.name rs = some x) := hfd
      clear hfd
      have hex : ∀ W, (Op.equalIn 10000 26 (.agg (arr .u8 32 x.id)) (.agg (arr .u8 32 m.frm))).run Tryz.prog W = .ok (eqTo x.id m.frm 32) W := equal_id x.id m.frm
      cases hei : eqTo x.id m.frm 32
      · rw [hei] at hex
        have HP : Hid (∀ W, ApplyD rs m w.heap.size (.returned (.tuple #[.agg #[.slice none 0 0], .int .i64 191])) W) := fun W => by
          have he : errL rs m = 191 := by unfold errL; rw [HFD.out]; dsimp only; rw [HNF.out, hei]; rfl
          exact ⟨fun h => (by rw [HBAD.out] at h; cases h), fun _ => ⟨fun _ => by rw [he], fun h => by rw [he] at h; cases h⟩⟩
        go_wp2_with (first | (refine wpList_store_row (by rfl) 26 (.tmp 7) (.tmp 40) (by rfl) W3.heap.size (arr .u8 32 x.id) (by rfl) (by rfl) 26 _ (heap_alloc_new _ _) (by rw [arr_size]; kernel_rfl) (by rw [arr_size]; rfl) (arr_one _ _ _) ?_; refine wpList_gen (fun W => Below W3.heap.size W3 W ∧ W.heap[W3.heap.size]? = some (.cells (arr .u8 32 x.id) 26 (0, 0))) ⟨below_setRow' ((Below.refl _ _).alloc (Nat.le_refl _) _) (Nat.le_refl _) _, heap_setRow_same (heap_alloc_new _ _)⟩ ?_; intro W4 hW4; have HW4 : Hid _ := hW4; have A4 : Hid (ApA w W4 sp cap rs m) := A3.out.grow hW4.1; have HCF : Hid _ := A4.out.cf; have HCT : Hid _ := A4.out.ct; have HCN : Hid _ := A4.out.cn; have HCI : Hid (∀ i, i < 32 → W4.cell? ⟨W3.heap.size, 0 + i, none⟩ = some (.int .u8 (x.id i))) := (fun i hi => (cell_of_row _ _ _ _ _ _ hW4.2).trans (by rw [Nat.zero_add]; exact arr_get hi)); clear hW4; obtain ⟨-, -, c3, z3⟩ := A4.out.done (.slice none 0 0); have c0 := A4.out.c0) | (refine load_atg (by rfl) 26 (.tmp 42) (by rfl) (w.heap.size + 1) 1 (by rfl) .u8 32 m.frm _ HCF.out Tryz.underlying26 rfl (by kernel_rfl) ?_) | (refine load_atg (by rfl) 26 (.tmp 6) (by rfl) (w.heap.size + 1 + 1 + 1) 0 (by rfl) .u8 32 noId _ HCN.out Tryz.underlying26 rfl (by kernel_rfl) ?_) | (refine load_atg (by rfl) 26 (.tmp 51) (by rfl) (w.heap.size + 1) 1 (by rfl) .u8 32 m.frm _ HCF.out Tryz.underlying26 rfl (by kernel_rfl) ?_) | (refine load_atg (by rfl) 26 (.tmp 6) (by rfl) (w.heap.size + 1 + 1 + 1) 0 (by rfl) .u8 32 noId _ HCN.out Tryz.underlying26 rfl (by kernel_rfl) ?_) | (refine load_atg (by rfl) 26 (.tmp 7) (by rfl) (W3.heap.size) 0 (by rfl) .u8 32 x.id _ HCI.out Tryz.underlying26 rfl (by kernel_rfl) ?_) | (refine load_atg (by rfl) 26 (.tmp 62) (by rfl) (w.heap.size + 1) 1 (by rfl) .u8 32 m.frm _ HCF.out Tryz.underlying26 rfl (by kernel_rfl) ?_) | (refine load_atg (by rfl) 26 (.tmp 77) (by rfl) (w.heap.size + 1) 33 (by rfl) .u8 32 m.to _ HCT.out Tryz.underlying26 rfl (by kernel_rfl) ?_) | (refine load_atg (by rfl) 26 (.tmp 6) (by rfl) (w.heap.size + 1 + 1 + 1) 0 (by rfl) .u8 32 noId _ HCN.out Tryz.underlying26 rfl (by kernel_rfl) ?_))
        obtain ⟨r3, b3, -, -⟩ := A4.out.done (.slice none 0 0)
        have HR3 : Hid _ := r3
        clear r3
        exact bodyPost_ret (v := .tuple #[.agg #[.slice none 0 0], .int .i64 191]) (results_cell_tmp Tryz.results11 _ _ (w.heap.size + 1 + 1) 24 #[.slice none 0 0] (0, 0) _ _ rfl rfl HR3.out Tryz.underlying24 rfl (by kernel_rfl)) rfl ⟨HP.out _, b3⟩
      · rw [hei] at hex
        have HE0 : Hid (errL rs m = 0) := by show _ = _; unfold errL; rw [HFD.out]; dsimp only; rw [HNF.out, hei]; rfl
        go_wp2_with (first | (refine wpList_store_row (by rfl) 26 (.tmp 7) (.tmp 40) (by rfl) W3.heap.size (arr .u8 32 x.id) (by rfl) (by rfl) 26 _ (heap_alloc_new _ _) (by rw [arr_size]; kernel_rfl) (by rw [arr_size]; rfl) (arr_one _ _ _) ?_; refine wpList_gen (fun W => Below W3.heap.size W3 W ∧ W.heap[W3.heap.size]? = some (.cells (arr .u8 32 x.id) 26 (0, 0))) ⟨below_setRow' ((Below.refl _ _).alloc (Nat.le_refl _) _) (Nat.le_refl _) _, heap_setRow_same (heap_alloc_new _ _)⟩ ?_; intro W4 hW4; have HW4 : Hid _ := hW4; have A4 : Hid (ApA w W4 sp cap rs m) := A3.out.grow hW4.1; have HCF : Hid _ := A4.out.cf; have HCT : Hid _ := A4.out.ct; have HCN : Hid _ := A4.out.cn; have HCI : Hid (∀ i, i < 32 → W4.cell? ⟨W3.heap.size, 0 + i, none⟩ = some (.int .u8 (x.id i))) := (fun i hi => (cell_of_row _ _ _ _ _ _ hW4.2).trans (by rw [Nat.zero_add]; exact arr_get hi)); clear hW4; obtain ⟨-, -, c3, z3⟩ := A4.out.done (.slice none 0 0); have c0 := A4.out.c0) | (refine load_atg (by rfl) 26 (.tmp 42) (by rfl) (w.heap.size + 1) 1 (by rfl) .u8 32 m.frm _ HCF.out Tryz.underlying26 rfl (by kernel_rfl) ?_) | (refine wpList_gen (fun W => ApA w W sp cap rs m ∧ W.heap[W4.heap.size]? = some (.cells #[.slice none 0 0] 24 (0, 0))) ⟨A4.out.grow ((Below.refl _ _).alloc (Nat.le_refl _) _), heap_alloc_new _ _⟩ ?_; intro W5 hW5; have A5 : Hid (ApA w W5 sp cap rs m) := hW5.1; have R9 : Hid _ := hW5.2; clear hW5; have HCT5 : Hid _ := A5.out.ct; have HCN5 : Hid _ := A5.out.cn; refine load_atg (by rfl) 26 (.tmp 77) (by rfl) (w.heap.size + 1) 33 (by rfl) .u8 32 m.to _ HCT5.out Tryz.underlying26 rfl (by kernel_rfl) ?_) | (refine load_atg (by rfl) 26 (.tmp 6) (by rfl) (w.heap.size + 1 + 1 + 1) 0 (by rfl) .u8 32 noId _ HCN5.out Tryz.underlying26 rfl (by kernel_rfl) ?_) | (refine load_atg (by rfl) 26 (.tmp 6) (by rfl) (w.heap.size + 1 + 1 + 1) 0 (by rfl) .u8 32 noId _ HCN.out Tryz.underlying26 rfl (by kernel_rfl) ?_) | (refine load_atg (by rfl) 26 (.tmp 51) (by rfl) (w.heap.size + 1) 1 (by rfl) .u8 32 m.frm _ HCF.out Tryz.underlying26 rfl (by kernel_rfl) ?_) | (refine load_atg (by rfl) 26 (.tmp 7) (by rfl) (W3.heap.size) 0 (by rfl) .u8 32 x.id _ HCI.out Tryz.underlying26 rfl (by kernel_rfl) ?_) | (refine load_atg (by rfl) 26 (.tmp 62) (by rfl) (w.heap.size + 1) 1 (by rfl) .u8 32 m.frm _ HCF.out Tryz.underlying26 rfl (by kernel_rfl) ?_))
        obtain ⟨e, he, HBL⟩ : ∃ e : Re, e = ⟨m.name, m.to⟩ ∧ Hid (∀ W, (Instr.build 92 [(0, .string m.name), (1, .agg (arr .u8 32 m.to))].toArray).run Tryz.prog W = .ok (.agg e.cells) W) := ⟨_, rfl, fun W => bldRef m.name m.to W⟩
        have HE : Hid (e = ⟨m.name, m.to⟩) := he
        obtain ⟨g9, hg9⟩ : ∃ g, W4.heap.size = g := ⟨_, rfl⟩
        have hg3 : w.heap.size + 1 + 1 + 1 < g9 := by rw [← hg9]; exact lt_of_row A4.out.r3
        rw [hg9] at R9 ⊢
        clear hg9 he
        have hg5 : g9 < W5.heap.size := lt_of_row R9.out
        have HA : Hid (∀ L W, Gat W5 g9 L W → ApA w W sp cap rs m) := fun L W h => A5.out.gat hg3 h.gr
        have HAG : Hid (∀ W, W5.grownBy W (some g9) → ApA w W sp cap rs m) := fun W h => A5.out.gat hg3 h
        have HG0 : Hid (Gat W5 g9 [] W5) := ⟨⟨rfl, rfl, rfl, Nat.le_refl _, fun _ _ _ => rfl⟩, none, 0, R9.out, ownR_nil _ _⟩
        have HP0 : Hid (Value.bool (noneB m.to) = Value.bool (outS m (rs.take 0)).2) := by show _ = _; rw [List.take_zero]; first | rfl | exact congrArg Value.bool HNT.out.symm
        have HGOOD : Hid (∀ v W, OwnR W5.heap.size W v (outL m rs) → ApplyD rs m w.heap.size (.returned (.tuple #[.agg #[v], .int .i64 0])) W) := fun v W h => ⟨(fun hb => by rw [HBAD.out] at hb; cases hb), fun _ => ⟨fun hb => absurd HE0.out hb, fun _ => ⟨v, rfl, h.mono A5.out.bel.size⟩⟩⟩
        have HLEN : Hid (∀ t, t ≤ rs.length → (outS m (rs.take t)).1.length ≤ 20000) := fun t ht => by
          have := outS_len m ([], noneB m.to) (rs.take t)
          rw [List.length_take] at this
          unfold outS
          simp only [List.length_nil] at this
          omega
        clear HNF HBAD HE0 A4 HW4 HCF HCT HCN HCI c3 z3 c0 A3 HCT5 HCN5 R9 HFD
        go_loopw [10, 11] (fun p i wr => ∃ t : Nat, t ≤ rs.length ∧ p = .bool (outS m (rs.take t)).2 ∧ i = .int .i64 t ∧ Gat W5 g9 (outS m (rs.take t)).1 wr) (fun _ i _ => rs.length - (intOf i).toNat)
        case atStart => exact ⟨0, Nat.zero_le _, HP0.out, rfl, HG0.out⟩
        case round =>
          obtain ⟨t, ht, rfl, rfl, hG⟩ := hrel
          have HG : Hid (Gat W5 g9 (outS m (rs.take t)).1 wr) := hG
          clear hG
          by_cases hlt : t < rs.length
          · skip
            have hd2 : decide ((t : Int) < rs.length) = true := by simp; omega
            have a0 := HA.out _ _ HG.out
            have c0 := a0.c0
            have c1 := a0.c1
            have hrw := a0.hr
            obtain ⟨b, o, hsp, hc⟩ := hrw (by omega)
            have HSP : Hid (sp = some ⟨b, o, none⟩) := hsp
            rw [hsp] at c0
            obtain ⟨x, hx⟩ : ∃ x, rs[t]? = some x := ⟨_, List.getElem?_eq_getElem hlt⟩
            have q0 : wr.cell? ⟨b, o + t * 33, none⟩ = some (.string x.name) := hc t x hx 0 _ x.cell0
            have HST : Hid (outS m (rs.take (t + 1)) = putS m (outS m (rs.take t)) x) := by
              show _ = _
              unfold outS
              rw [List.take_add_one, hx, Option.toList_some, List.foldl_append]
              rfl
            have HX : Hid (∀ W, W5.grownBy W (some g9) → W.cell? ⟨w.heap.size, 0, none⟩ = some (.slice (some ⟨b, o, none⟩) rs.length cap) ∧ ∀ j u, x.cells[j]? = some u → W.cell? ⟨b, o + t * 33 + j, none⟩ = some u) := fun W h => (HAG.out W h).elt hsp hx
            have hL := HLEN.out t ht
            clear a0 hrw hc hx hsp
            generalize outS m (rs.take t) = st at HG HST hL ⊢
            obtain ⟨Ls, pb⟩ := st
            dsimp only at HG HST hL ⊢
            cases pb
            · skip
              cases h1 : Op.bytesLess m.name.toList x.name.toList
              · cases h2 : (m.name.toList == x.name.toList)
                · skip
                  have h3 : (x.name.toList == m.name.toList) = false := by rw [name_flip]; exact h2
                  have HN : Hid (outS m (rs.take (t + 1)) = (Ls ++ [x], false)) := by show _ = _; rw [HST.out]; unfold putS leB; simp [h1, h2, h3]
                  go_wp2
                  go_quiet (fail)
                  refine exit_gen (fun W => Gat W5 g9 Ls W) (HG.out.drewN nq) ?_
                  intro Wa hGa
                  have HGa : Hid (Gat W5 g9 Ls Wa) := hGa
                  clear hGa c1 c0 q0 HG
                  obtain ⟨c0, hxc⟩ := HX.out Wa HGa.out.gr
                  have c1 := (HA.out _ _ HGa.out).c1
                  have q0 : Wa.cell? ⟨b, o + t * 33, none⟩ = some (.string x.name) := hxc 0 _ x.cell0
                  clear hxc
                  go_wp2
                  go_quiet (fail)
                  refine exit_gen (fun W => Gat W5 g9 Ls W) (HGa.out.drewN nq) ?_
                  clear HGa c0 c1 q0
                  intro Wb hGb
                  have HGa : Hid (Gat W5 g9 Ls Wb) := hGb
                  clear hGb
                  have hD := HGa.out.drew
                  have hS0 : W5.grownBy Wb.drew (some g9) := hD.gr
                  obtain ⟨so, n0, co, k9, X9, s9, n9, c9, W9, d1, db, d2, hr9, g1, g2, d3, d4, hGb⟩ := hD.one hg5 x (by first | omega | (simp only [List.length_append, List.length_cons, List.length_nil]; omega))
                  have HGb : Hid _ := hGb
                  clear hGb hD HGa
                  go_wp2
                  refine mv_begin (S := fun w' => W5.grownBy w' (some g9)) 11 rfl (by kernel_rfl) ?_
                  refine mv_rung 0 120 (.pointer (some ⟨g9, 0, none⟩)) rfl (by rfl) (by kernel_rfl) (by kernel_rfl) (by kernel_rfl) (fun _ _ _ h => h) (fun w' _ => by first | rfl | go_simp) hS0 ?_
                  simp only [List.setIfInBounds_toArray, List.set_cons_succ, List.set_cons_zero]
                  refine mv_rung 2 122 (.pointer (some ⟨w.heap.size, 0, none⟩)) rfl (by rfl) (by kernel_rfl) (by kernel_rfl) (by kernel_rfl) (fun _ _ _ h => h) (fun w' _ => by first | rfl | go_simp) hS0 ?_
                  simp only [List.setIfInBounds_toArray, List.set_cons_succ, List.set_cons_zero]
                  refine mv_rung 3 123 (.slice (some ⟨b, o, none⟩) rs.length cap) rfl (by rfl) (by kernel_rfl) (by kernel_rfl) (by kernel_rfl) (fun _ _ _ h => h) (fun w' hw' => by have c := (HX.out w' hw').1; go_simp) hS0 ?_
                  simp only [List.setIfInBounds_toArray, List.set_cons_succ, List.set_cons_zero]
                  refine mv_rung 4 124 (.int .i64 t) rfl (by rfl) (by kernel_rfl) (by kernel_rfl) (by kernel_rfl) (fun _ _ _ h => h) (fun w' _ => by first | rfl | go_simp) hS0 ?_
                  simp only [List.setIfInBounds_toArray, List.set_cons_succ, List.set_cons_zero]
                  refine mv_rung 5 125 (.pointer (some ⟨b, o + t * 33, none⟩)) rfl (by rfl) (by kernel_rfl) (by kernel_rfl) (by kernel_rfl) (fun _ _ _ h => h) (fun w' _ => by first | rfl | go_simp) hS0 ?_
                  simp only [List.setIfInBounds_toArray, List.set_cons_succ, List.set_cons_zero]
                  refine mv_mid 6 126 92 (.tmp 125) rfl b (o + t * 33) x.cells (by rfl) (by kernel_rfl) (by kernel_rfl) (by kernel_rfl) (fun _ _ _ h => h) _ (fun w' hw' => (HX.out w' hw').2) Tryz.underlying92 rfl (by rw [x.size]; kernel_rfl) hS0 ?_
                  simp only [List.setIfInBounds_toArray, List.set_cons_succ, List.set_cons_zero]
                  refine wpAnyH_all (rs := [1, 7]) (by kernel_rfl) (by simp) fun i hi => ?_
                  simp only [List.mem_cons, List.not_mem_nil, or_false] at hi
                  rcases hi with rfl | rfl
                  · refine wpOp_plain rfl rfl ?_
                    refine op_value (.slice so n0 co) (by go_simp) ?_
                    refine ⟨hS0, ?_⟩
                    simp only [Act.put]
                    refine mv_next 7 rfl (by kernel_rfl) ?_
                    refine op_buildOne 22 (.tmp 126) rfl (.agg x.cells) rfl db ?_
                    refine ⟨g1, ?_⟩
                    simp only [Act.put]
                    refine mv_next 8 rfl (by kernel_rfl) ?_
                    refine op_append (.tmp 121) (.tmp 127) 22 rfl rfl rfl hr9 ?_
                    refine ⟨g2, ?_⟩
                    simp only [Act.put]
                    refine mv_rung 9 129 (.pointer (some ⟨g9, 0, none⟩)) rfl (by rfl) (by kernel_rfl) (by kernel_rfl) (by kernel_rfl) (fun _ _ _ h => h) (fun w' _ => by first | rfl | go_simp) g2 ?_
                    simp only [List.setIfInBounds_toArray, List.set_cons_succ, List.set_cons_zero]
                    refine mv_next 10 rfl (by kernel_rfl) ?_
                    go_simp
                    refine ⟨HGb.out.gr, ?_⟩
                    refine wpAnyH_done (by kernel_rfl) ?_ _
                    refine exit_gen (fun W => Gat W5 g9 (Ls ++ [x]) W) HGb.out ?_
                    clear HGb d1 db d2 hr9 g1 g2 d3 d4 hS0
                    intro Wa hGa
                    have HGa : Hid (Gat W5 g9 (Ls ++ [x]) Wa) := hGa
                    clear hGa
                    go_wp2
                    exact ⟨⟨t + 1, by omega, by rw [HN.out], by go_num, by rw [HN.out]; exact HGa.out⟩, by simp [intOf]; omega⟩
                  · refine wpOp_plain rfl rfl ?_
                    refine op_buildOne 22 (.tmp 126) rfl (.agg x.cells) rfl db ?_
                    refine ⟨g1, ?_⟩
                    simp only [Act.put]
                    refine mv_next 1 rfl (by kernel_rfl) ?_
                    refine op_value (.slice so n0 co) (by go_simp) ?_
                    refine ⟨g1, ?_⟩
                    simp only [Act.put]
                    refine mv_next 8 rfl (by kernel_rfl) ?_
                    refine op_append (.tmp 121) (.tmp 127) 22 rfl rfl rfl hr9 ?_
                    refine ⟨g2, ?_⟩
                    simp only [Act.put]
                    refine mv_rung 9 129 (.pointer (some ⟨g9, 0, none⟩)) rfl (by rfl) (by kernel_rfl) (by kernel_rfl) (by kernel_rfl) (fun _ _ _ h => h) (fun w' _ => by first | rfl | go_simp) g2 ?_
                    simp only [List.setIfInBounds_toArray, List.set_cons_succ, List.set_cons_zero]
                    refine mv_next 10 rfl (by kernel_rfl) ?_
                    go_simp
                    refine ⟨HGb.out.gr, ?_⟩
                    refine wpAnyH_done (by kernel_rfl) ?_ _
                    refine exit_gen (fun W => Gat W5 g9 (Ls ++ [x]) W) HGb.out ?_
                    clear HGb d1 db d2 hr9 g1 g2 d3 d4 hS0
                    intro Wa hGa
                    have HGa : Hid (Gat W5 g9 (Ls ++ [x]) Wa) := hGa
                    clear hGa
                    go_wp2
                    exact ⟨⟨t + 1, by omega, by rw [HN.out], by go_num, by rw [HN.out]; exact HGa.out⟩, by simp [intOf]; omega⟩
                · skip
                  have h3 : (x.name.toList == m.name.toList) = true := by rw [name_flip]; exact h2
                  have HN : Hid (outS m (rs.take (t + 1)) = (Ls ++ [e], true)) := by show _ = _; rw [HST.out, HE.out]; unfold putS leB; simp [h1, h2, h3]
                  go_wp2
                  go_quiet (fail)
                  refine exit_gen (fun W => Gat W5 g9 Ls W) (HG.out.drewN nq) ?_
                  intro Wa hGa
                  have HGa : Hid (Gat W5 g9 Ls Wa) := hGa
                  clear hGa c1 c0 q0 HG
                  have HCT : Hid _ := (HA.out _ _ HGa.out).ct
                  have c1 := (HA.out _ _ HGa.out).c1
                  obtain ⟨so, n0, co, k9, X9, s9, n9, c9, W9, d1, db, d2, hr9, g1, g2, d3, d4, hGb⟩ := HGa.out.one hg5 e (by first | omega | (simp only [List.length_append, List.length_cons, List.length_nil]; omega))
                  have HGb : Hid _ := hGb
                  clear hGb
                  go_wp2_with (first
                    | (refine wpList_build (by rfl) 92 [(0, .tmp 104), (1, .tmp 106)] (by rfl) [(0, .string m.name), (1, .agg (arr .u8 32 m.to))] (by rfl) (.agg e.cells) (HBL.out _) ?_)
                    | (refine wpList_buildOne (by rfl) 22 (.tmp 107) (by rfl) (.agg e.cells) (by rfl) _ (by exact db) ?_)
                    | (refine load_atg (by rfl) 26 (.tmp 105) (by rfl) (w.heap.size + 1) 33 (by rfl) .u8 32 m.to _ HCT.out Tryz.underlying26 rfl (by kernel_rfl) ?_)
                    | (refine list_appR (by rfl) (.tmp 102) (.tmp 108) 22 (by rfl) (by rfl) (by rfl) (by exact hr9) ?_))
                  refine wp_gen (fun W => Gat W5 g9 (Ls ++ [e]) W) HGb.out ?_
                  clear HGa HGb d1 db d2 hr9 g1 g2 d3 d4 HCT c1
                  intro Wa hGa
                  have HGa : Hid (Gat W5 g9 (Ls ++ [e]) Wa) := hGa
                  clear hGa
                  obtain ⟨c0, hxc⟩ := HX.out Wa HGa.out.gr
                  have c1 := (HA.out _ _ HGa.out).c1
                  have q0 : Wa.cell? ⟨b, o + t * 33, none⟩ = some (.string x.name) := hxc 0 _ x.cell0
                  clear hxc
                  go_wp2
                  go_quiet (fail)
                  refine exit_gen (fun W => Gat W5 g9 (Ls ++ [e]) W) (HGa.out.drewN nq) ?_
                  clear HGa c0 c1 q0
                  intro Wb hGb
                  have HGa : Hid (Gat W5 g9 (Ls ++ [e]) Wb) := hGb
                  clear hGb
                  go_wp2
                  exact ⟨⟨t + 1, by omega, by rw [HN.out], by go_num, by rw [HN.out]; exact HGa.out⟩, by simp [intOf]; omega⟩
              · skip
                have h3 : (x.name.toList == m.name.toList) = false := name_less h1
                have HN : Hid (outS m (rs.take (t + 1)) = (Ls ++ [e] ++ [x], true)) := by show _ = _; rw [HST.out, HE.out]; unfold putS leB; simp [h1, h3]
                go_wp2
                go_quiet (fail)
                refine exit_gen (fun W => Gat W5 g9 Ls W) (HG.out.drewN nq) ?_
                intro Wa hGa
                have HGa : Hid (Gat W5 g9 Ls Wa) := hGa
                clear hGa c1 c0 q0 HG
                have HCT : Hid _ := (HA.out _ _ HGa.out).ct
                have c1 := (HA.out _ _ HGa.out).c1
                obtain ⟨so, n0, co, k9, X9, s9, n9, c9, W9, d1, db, d2, hr9, g1, g2, d3, d4, hGb⟩ := HGa.out.one hg5 e (by first | omega | (simp only [List.length_append, List.length_cons, List.length_nil]; omega))
                have HGb : Hid _ := hGb
                clear hGb
                go_wp2_with (first
                  | (refine wpList_build (by rfl) 92 [(0, .tmp 104), (1, .tmp 106)] (by rfl) [(0, .string m.name), (1, .agg (arr .u8 32 m.to))] (by rfl) (.agg e.cells) (HBL.out _) ?_)
                  | (refine wpList_buildOne (by rfl) 22 (.tmp 107) (by rfl) (.agg e.cells) (by rfl) _ (by exact db) ?_)
                  | (refine load_atg (by rfl) 26 (.tmp 105) (by rfl) (w.heap.size + 1) 33 (by rfl) .u8 32 m.to _ HCT.out Tryz.underlying26 rfl (by kernel_rfl) ?_)
                  | (refine list_appR (by rfl) (.tmp 102) (.tmp 108) 22 (by rfl) (by rfl) (by rfl) (by exact hr9) ?_))
                refine wp_gen (fun W => Gat W5 g9 (Ls ++ [e]) W) HGb.out ?_
                clear HGa HGb d1 db d2 hr9 g1 g2 d3 d4 HCT c1
                intro Wa hGa
                have HGa : Hid (Gat W5 g9 (Ls ++ [e]) Wa) := hGa
                clear hGa
                obtain ⟨c0, hxc⟩ := HX.out Wa HGa.out.gr
                have c1 := (HA.out _ _ HGa.out).c1
                have q0 : Wa.cell? ⟨b, o + t * 33, none⟩ = some (.string x.name) := hxc 0 _ x.cell0
                clear hxc
                go_wp2
                go_quiet (fail)
                refine exit_gen (fun W => Gat W5 g9 (Ls ++ [e]) W) (HGa.out.drewN nq) ?_
                clear HGa c0 c1 q0
                intro Wb hGb
                have HGa : Hid (Gat W5 g9 (Ls ++ [e]) Wb) := hGb
                clear hGb
                have hD := HGa.out.drew
                have hS0 : W5.grownBy Wb.drew (some g9) := hD.gr
                obtain ⟨so, n0, co, k9, X9, s9, n9, c9, W9, d1, db, d2, hr9, g1, g2, d3, d4, hGb⟩ := hD.one hg5 x (by first | omega | (simp only [List.length_append, List.length_cons, List.length_nil]; omega))
                have HGb : Hid _ := hGb
                clear hGb hD HGa
                go_wp2
                refine mv_begin (S := fun w' => W5.grownBy w' (some g9)) 11 rfl (by kernel_rfl) ?_
                refine mv_rung 0 120 (.pointer (some ⟨g9, 0, none⟩)) rfl (by rfl) (by kernel_rfl) (by kernel_rfl) (by kernel_rfl) (fun _ _ _ h => h) (fun w' _ => by first | rfl | go_simp) hS0 ?_
                simp only [List.setIfInBounds_toArray, List.set_cons_succ, List.set_cons_zero]
                refine mv_rung 2 122 (.pointer (some ⟨w.heap.size, 0, none⟩)) rfl (by rfl) (by kernel_rfl) (by kernel_rfl) (by kernel_rfl) (fun _ _ _ h => h) (fun w' _ => by first | rfl | go_simp) hS0 ?_
                simp only [List.setIfInBounds_toArray, List.set_cons_succ, List.set_cons_zero]
                refine mv_rung 3 123 (.slice (some ⟨b, o, none⟩) rs.length cap) rfl (by rfl) (by kernel_rfl) (by kernel_rfl) (by kernel_rfl) (fun _ _ _ h => h) (fun w' hw' => by have c := (HX.out w' hw').1; go_simp) hS0 ?_
                simp only [List.setIfInBounds_toArray, List.set_cons_succ, List.set_cons_zero]
                refine mv_rung 4 124 (.int .i64 t) rfl (by rfl) (by kernel_rfl) (by kernel_rfl) (by kernel_rfl) (fun _ _ _ h => h) (fun w' _ => by first | rfl | go_simp) hS0 ?_
                simp only [List.setIfInBounds_toArray, List.set_cons_succ, List.set_cons_zero]
                refine mv_rung 5 125 (.pointer (some ⟨b, o + t * 33, none⟩)) rfl (by rfl) (by kernel_rfl) (by kernel_rfl) (by kernel_rfl) (fun _ _ _ h => h) (fun w' _ => by first | rfl | go_simp) hS0 ?_
                simp only [List.setIfInBounds_toArray, List.set_cons_succ, List.set_cons_zero]
                refine mv_mid 6 126 92 (.tmp 125) rfl b (o + t * 33) x.cells (by rfl) (by kernel_rfl) (by kernel_rfl) (by kernel_rfl) (fun _ _ _ h => h) _ (fun w' hw' => (HX.out w' hw').2) Tryz.underlying92 rfl (by rw [x.size]; kernel_rfl) hS0 ?_
                simp only [List.setIfInBounds_toArray, List.set_cons_succ, List.set_cons_zero]
                refine wpAnyH_all (rs := [1, 7]) (by kernel_rfl) (by simp) fun i hi => ?_
                simp only [List.mem_cons, List.not_mem_nil, or_false] at hi
                rcases hi with rfl | rfl
                · refine wpOp_plain rfl rfl ?_
                  refine op_value (.slice so n0 co) (by go_simp) ?_
                  refine ⟨hS0, ?_⟩
                  simp only [Act.put]
                  refine mv_next 7 rfl (by kernel_rfl) ?_
                  refine op_buildOne 22 (.tmp 126) rfl (.agg x.cells) rfl db ?_
                  refine ⟨g1, ?_⟩
                  simp only [Act.put]
                  refine mv_next 8 rfl (by kernel_rfl) ?_
                  refine op_append (.tmp 121) (.tmp 127) 22 rfl rfl rfl hr9 ?_
                  refine ⟨g2, ?_⟩
                  simp only [Act.put]
                  refine mv_rung 9 129 (.pointer (some ⟨g9, 0, none⟩)) rfl (by rfl) (by kernel_rfl) (by kernel_rfl) (by kernel_rfl) (fun _ _ _ h => h) (fun w' _ => by first | rfl | go_simp) g2 ?_
                  simp only [List.setIfInBounds_toArray, List.set_cons_succ, List.set_cons_zero]
                  refine mv_next 10 rfl (by kernel_rfl) ?_
                  go_simp
                  refine ⟨HGb.out.gr, ?_⟩
                  refine wpAnyH_done (by kernel_rfl) ?_ _
                  refine exit_gen (fun W => Gat W5 g9 ((Ls ++ [e]) ++ [x]) W) HGb.out ?_
                  clear HGb d1 db d2 hr9 g1 g2 d3 d4 hS0
                  intro Wa hGa
                  have HGa : Hid (Gat W5 g9 ((Ls ++ [e]) ++ [x]) Wa) := hGa
                  clear hGa
                  go_wp2
                  exact ⟨⟨t + 1, by omega, by rw [HN.out], by go_num, by rw [HN.out]; exact HGa.out⟩, by simp [intOf]; omega⟩
                · refine wpOp_plain rfl rfl ?_
                  refine op_buildOne 22 (.tmp 126) rfl (.agg x.cells) rfl db ?_
                  refine ⟨g1, ?_⟩
                  simp only [Act.put]
                  refine mv_next 1 rfl (by kernel_rfl) ?_
                  refine op_value (.slice so n0 co) (by go_simp) ?_
                  refine ⟨g1, ?_⟩
                  simp only [Act.put]
                  refine mv_next 8 rfl (by kernel_rfl) ?_
                  refine op_append (.tmp 121) (.tmp 127) 22 rfl rfl rfl hr9 ?_
                  refine ⟨g2, ?_⟩
                  simp only [Act.put]
                  refine mv_rung 9 129 (.pointer (some ⟨g9, 0, none⟩)) rfl (by rfl) (by kernel_rfl) (by kernel_rfl) (by kernel_rfl) (fun _ _ _ h => h) (fun w' _ => by first | rfl | go_simp) g2 ?_
                  simp only [List.setIfInBounds_toArray, List.set_cons_succ, List.set_cons_zero]
                  refine mv_next 10 rfl (by kernel_rfl) ?_
                  go_simp
                  refine ⟨HGb.out.gr, ?_⟩
                  refine wpAnyH_done (by kernel_rfl) ?_ _
                  refine exit_gen (fun W => Gat W5 g9 ((Ls ++ [e]) ++ [x]) W) HGb.out ?_
                  clear HGb d1 db d2 hr9 g1 g2 d3 d4 hS0
                  intro Wa hGa
                  have HGa : Hid (Gat W5 g9 ((Ls ++ [e]) ++ [x]) Wa) := hGa
                  clear hGa
                  go_wp2
                  exact ⟨⟨t + 1, by omega, by rw [HN.out], by go_num, by rw [HN.out]; exact HGa.out⟩, by simp [intOf]; omega⟩
            · cases h3 : (x.name.toList == m.name.toList)
              · skip
                have HN : Hid (outS m (rs.take (t + 1)) = (Ls ++ [x], true)) := by show _ = _; rw [HST.out]; unfold putS leB; simp [h3]
                go_wp2
                go_quiet (fail)
                refine exit_gen (fun W => Gat W5 g9 Ls W) (HG.out.drewN nq) ?_
                intro Wa hGa
                have HGa : Hid (Gat W5 g9 Ls Wa) := hGa
                clear hGa c1 c0 q0 HG
                obtain ⟨c0, hxc⟩ := HX.out Wa HGa.out.gr
                have c1 := (HA.out _ _ HGa.out).c1
                have q0 : Wa.cell? ⟨b, o + t * 33, none⟩ = some (.string x.name) := hxc 0 _ x.cell0
                clear hxc
                go_wp2
                go_quiet (fail)
                refine exit_gen (fun W => Gat W5 g9 Ls W) (HGa.out.drewN nq) ?_
                clear HGa c0 c1 q0
                intro Wb hGb
                have HGa : Hid (Gat W5 g9 Ls Wb) := hGb
                clear hGb
                have hD := HGa.out.drew
                have hS0 : W5.grownBy Wb.drew (some g9) := hD.gr
                obtain ⟨so, n0, co, k9, X9, s9, n9, c9, W9, d1, db, d2, hr9, g1, g2, d3, d4, hGb⟩ := hD.one hg5 x (by first | omega | (simp only [List.length_append, List.length_cons, List.length_nil]; omega))
                have HGb : Hid _ := hGb
                clear hGb hD HGa
                go_wp2
                refine mv_begin (S := fun w' => W5.grownBy w' (some g9)) 11 rfl (by kernel_rfl) ?_
                refine mv_rung 0 120 (.pointer (some ⟨g9, 0, none⟩)) rfl (by rfl) (by kernel_rfl) (by kernel_rfl) (by kernel_rfl) (fun _ _ _ h => h) (fun w' _ => by first | rfl | go_simp) hS0 ?_
                simp only [List.setIfInBounds_toArray, List.set_cons_succ, List.set_cons_zero]
                refine mv_rung 2 122 (.pointer (some ⟨w.heap.size, 0, none⟩)) rfl (by rfl) (by kernel_rfl) (by kernel_rfl) (by kernel_rfl) (fun _ _ _ h => h) (fun w' _ => by first | rfl | go_simp) hS0 ?_
                simp only [List.setIfInBounds_toArray, List.set_cons_succ, List.set_cons_zero]
                refine mv_rung 3 123 (.slice (some ⟨b, o, none⟩) rs.length cap) rfl (by rfl) (by kernel_rfl) (by kernel_rfl) (by kernel_rfl) (fun _ _ _ h => h) (fun w' hw' => by have c := (HX.out w' hw').1; go_simp) hS0 ?_
                simp only [List.setIfInBounds_toArray, List.set_cons_succ, List.set_cons_zero]
                refine mv_rung 4 124 (.int .i64 t) rfl (by rfl) (by kernel_rfl) (by kernel_rfl) (by kernel_rfl) (fun _ _ _ h => h) (fun w' _ => by first | rfl | go_simp) hS0 ?_
                simp only [List.setIfInBounds_toArray, List.set_cons_succ, List.set_cons_zero]
                refine mv_rung 5 125 (.pointer (some ⟨b, o + t * 33, none⟩)) rfl (by rfl) (by kernel_rfl) (by kernel_rfl) (by kernel_rfl) (fun _ _ _ h => h) (fun w' _ => by first | rfl | go_simp) hS0 ?_
                simp only [List.setIfInBounds_toArray, List.set_cons_succ, List.set_cons_zero]
                refine mv_mid 6 126 92 (.tmp 125) rfl b (o + t * 33) x.cells (by rfl) (by kernel_rfl) (by kernel_rfl) (by kernel_rfl) (fun _ _ _ h => h) _ (fun w' hw' => (HX.out w' hw').2) Tryz.underlying92 rfl (by rw [x.size]; kernel_rfl) hS0 ?_
                simp only [List.setIfInBounds_toArray, List.set_cons_succ, List.set_cons_zero]
                refine wpAnyH_all (rs := [1, 7]) (by kernel_rfl) (by simp) fun i hi => ?_
                simp only [List.mem_cons, List.not_mem_nil, or_false] at hi
                rcases hi with rfl | rfl
                · refine wpOp_plain rfl rfl ?_
                  refine op_value (.slice so n0 co) (by go_simp) ?_
                  refine ⟨hS0, ?_⟩
                  simp only [Act.put]
                  refine mv_next 7 rfl (by kernel_rfl) ?_
                  refine op_buildOne 22 (.tmp 126) rfl (.agg x.cells) rfl db ?_
                  refine ⟨g1, ?_⟩
                  simp only [Act.put]
                  refine mv_next 8 rfl (by kernel_rfl) ?_
                  refine op_append (.tmp 121) (.tmp 127) 22 rfl rfl rfl hr9 ?_
                  refine ⟨g2, ?_⟩
                  simp only [Act.put]
                  refine mv_rung 9 129 (.pointer (some ⟨g9, 0, none⟩)) rfl (by rfl) (by kernel_rfl) (by kernel_rfl) (by kernel_rfl) (fun _ _ _ h => h) (fun w' _ => by first | rfl | go_simp) g2 ?_
                  simp only [List.setIfInBounds_toArray, List.set_cons_succ, List.set_cons_zero]
                  refine mv_next 10 rfl (by kernel_rfl) ?_
                  go_simp
                  refine ⟨HGb.out.gr, ?_⟩
                  refine wpAnyH_done (by kernel_rfl) ?_ _
                  refine exit_gen (fun W => Gat W5 g9 (Ls ++ [x]) W) HGb.out ?_
                  clear HGb d1 db d2 hr9 g1 g2 d3 d4 hS0
                  intro Wa hGa
                  have HGa : Hid (Gat W5 g9 (Ls ++ [x]) Wa) := hGa
                  clear hGa
                  go_wp2
                  exact ⟨⟨t + 1, by omega, by rw [HN.out], by go_num, by rw [HN.out]; exact HGa.out⟩, by simp [intOf]; omega⟩
                · refine wpOp_plain rfl rfl ?_
                  refine op_buildOne 22 (.tmp 126) rfl (.agg x.cells) rfl db ?_
                  refine ⟨g1, ?_⟩
                  simp only [Act.put]
                  refine mv_next 1 rfl (by kernel_rfl) ?_
                  refine op_value (.slice so n0 co) (by go_simp) ?_
                  refine ⟨g1, ?_⟩
                  simp only [Act.put]
                  refine mv_next 8 rfl (by kernel_rfl) ?_
                  refine op_append (.tmp 121) (.tmp 127) 22 rfl rfl rfl hr9 ?_
                  refine ⟨g2, ?_⟩
                  simp only [Act.put]
                  refine mv_rung 9 129 (.pointer (some ⟨g9, 0, none⟩)) rfl (by rfl) (by kernel_rfl) (by kernel_rfl) (by kernel_rfl) (fun _ _ _ h => h) (fun w' _ => by first | rfl | go_simp) g2 ?_
                  simp only [List.setIfInBounds_toArray, List.set_cons_succ, List.set_cons_zero]
                  refine mv_next 10 rfl (by kernel_rfl) ?_
                  go_simp
                  refine ⟨HGb.out.gr, ?_⟩
                  refine wpAnyH_done (by kernel_rfl) ?_ _
                  refine exit_gen (fun W => Gat W5 g9 (Ls ++ [x]) W) HGb.out ?_
                  clear HGb d1 db d2 hr9 g1 g2 d3 d4 hS0
                  intro Wa hGa
                  have HGa : Hid (Gat W5 g9 (Ls ++ [x]) Wa) := hGa
                  clear hGa
                  go_wp2
                  exact ⟨⟨t + 1, by omega, by rw [HN.out], by go_num, by rw [HN.out]; exact HGa.out⟩, by simp [intOf]; omega⟩
              · skip
                have HN : Hid (outS m (rs.take (t + 1)) = (Ls, true)) := by show _ = _; rw [HST.out]; unfold putS leB; simp [h3]
                go_wp2
                go_quiet (fail)
                refine exit_gen (fun W => Gat W5 g9 Ls W) (HG.out.drewN nq) ?_
                intro Wa hGa
                have HGa : Hid (Gat W5 g9 Ls Wa) := hGa
                clear hGa c1 c0 q0 HG
                obtain ⟨c0, hxc⟩ := HX.out Wa HGa.out.gr
                have c1 := (HA.out _ _ HGa.out).c1
                have q0 : Wa.cell? ⟨b, o + t * 33, none⟩ = some (.string x.name) := hxc 0 _ x.cell0
                clear hxc
                go_wp2
                go_quiet (fail)
                refine exit_gen (fun W => Gat W5 g9 Ls W) (HGa.out.drewN nq) ?_
                clear HGa c0 c1 q0
                intro Wb hGb
                have HGa : Hid (Gat W5 g9 Ls Wb) := hGb
                clear hGb
                go_wp2
                exact ⟨⟨t + 1, by omega, by rw [HN.out], by go_num, by rw [HN.out]; exact HGa.out⟩, by simp [intOf]; omega⟩
          · skip
            have hd2 : decide ((t : Int) < rs.length) = false := by simp; omega
            obtain rfl : t = rs.length := by omega
            rw [List.take_length] at HG
            have c0 := (HA.out _ _ HG.out).c0
            have hL := HLEN.out rs.length (Nat.le_refl _)
            rw [List.take_length] at hL ⊢
            have HOL : Hid (outL m rs = if (outS m rs).2 then (outS m rs).1 else (outS m rs).1 ++ [e]) := by show _ = _; rw [HE.out]; rfl
            generalize outS m rs = st at HG HOL hL ⊢
            obtain ⟨Ls, pb⟩ := st
            dsimp only at HG HOL hL ⊢
            cases pb
            · have HOL2 : Hid (outL m rs = Ls ++ [e]) := HOL.out
              have HOL := HOL2
              have HGa := HG
              have HCT : Hid _ := (HA.out _ _ HGa.out).ct
              have c1 := (HA.out _ _ HGa.out).c1
              obtain ⟨so, n0, co, k9, X9, s9, n9, c9, W9, d1, db, d2, hr9, g1, g2, d3, d4, hGb⟩ := HGa.out.one hg5 e (by first | omega | (simp only [List.length_append, List.length_cons, List.length_nil]; omega))
              have HGb : Hid _ := hGb
              clear hGb
              go_wp2_with (first
                | (refine wpList_build (by rfl) 92 [(0, .tmp 135), (1, .tmp 137)] (by rfl) [(0, .string m.name), (1, .agg (arr .u8 32 m.to))] (by rfl) (.agg e.cells) (HBL.out _) ?_)
                | (refine wpList_buildOne (by rfl) 22 (.tmp 138) (by rfl) (.agg e.cells) (by rfl) _ (by exact db) ?_)
                | (refine load_atg (by rfl) 26 (.tmp 136) (by rfl) (w.heap.size + 1) 33 (by rfl) .u8 32 m.to _ HCT.out Tryz.underlying26 rfl (by kernel_rfl) ?_)
                | (refine list_appR (by rfl) (.tmp 133) (.tmp 139) 22 (by rfl) (by rfl) (by rfl) (by exact hr9) ?_)
                | (refine wpList_gen (fun W => Gat W5 g9 (Ls ++ [e]) W) HGb.out ?_; intro Wc hGc; obtain ⟨sF, nF, cF, rF, hF⟩ := hGc.fin; have HF : Hid (OwnR W5.heap.size Wc (.slice sF nF cF) (Ls ++ [e])) := hF; have RF : Hid _ := rF; have AF : Hid _ := (HA.out _ _ hGc); obtain ⟨-, -, c3, z3⟩ := AF.out.done (.slice none 0 0); clear hGc hF rF; refine wpList_load_row (by rfl) 24 (.tmp 9) (by rfl) g9 (by rfl) 24 #[.slice sF nF cF] (0, 0) _ RF.out Tryz.underlying24 rfl (by kernel_rfl) ?_))
              obtain ⟨r3, b3, -, -⟩ := AF.out.done (.slice sF nF cF)
              have HR3 : Hid _ := r3
              clear r3
              refine bodyPost_ret (v := .tuple #[.agg #[.slice sF nF cF], .int .i64 0]) (results_cell_tmp Tryz.results11 _ _ (w.heap.size + 1 + 1) 24 #[.slice sF nF cF] (0, 0) _ _ rfl rfl HR3.out Tryz.underlying24 rfl (by kernel_rfl)) rfl ⟨HGOOD.out _ _ ?_, b3⟩
              rw [HOL.out]
              refine OwnR.keep HF.out fun k hk => heap_setCell_other _ _ _ _ fun e => ?_
              have h6 := (OwnR.lt HF.out hk).1
              have h7 : k = w.heap.size + 1 + 1 := e
              omega
            · have HOL2 : Hid (outL m rs = Ls) := HOL.out
              have HOL := HOL2
              go_wp2_with (first
                | (refine wpList_gen (fun W => Gat W5 g9 Ls W) HG.out ?_; intro Wc hGc; obtain ⟨sF, nF, cF, rF, hF⟩ := hGc.fin; have HF : Hid (OwnR W5.heap.size Wc (.slice sF nF cF) Ls) := hF; have RF : Hid _ := rF; have AF : Hid _ := (HA.out _ _ hGc); obtain ⟨-, -, c3, z3⟩ := AF.out.done (.slice none 0 0); clear hGc hF rF; refine wpList_load_row (by rfl) 24 (.tmp 9) (by rfl) g9 (by rfl) 24 #[.slice sF nF cF] (0, 0) _ RF.out Tryz.underlying24 rfl (by kernel_rfl) ?_))
              obtain ⟨r3, b3, -, -⟩ := AF.out.done (.slice sF nF cF)
              have HR3 : Hid _ := r3
              clear r3
              refine bodyPost_ret (v := .tuple #[.agg #[.slice sF nF cF], .int .i64 0]) (results_cell_tmp Tryz.results11 _ _ (w.heap.size + 1 + 1) 24 #[.slice sF nF cF] (0, 0) _ _ rfl rfl HR3.out Tryz.underlying24 rfl (by kernel_rfl)) rfl ⟨HGOOD.out _ _ ?_, b3⟩
              rw [HOL.out]
              refine OwnR.keep HF.out fun k hk => heap_setCell_other _ _ _ _ fun e => ?_
              have h6 := (OwnR.lt HF.out hk).1
              have h7 : k = w.heap.size + 1 + 1 := e
              omega
  · rw [hnf] at hef
    cases hnt : noneB m.to
    rotate_left
    · rw [hnt] at het
      have HP : Hid (∀ W, ApplyD rs m w.heap.size (.returned (.tuple #[.agg #[.slice none 0 0], .int .i64 190])) W) := fun W => ⟨fun _ => rfl, fun h => by unfold badX at h; rw [HRB.out, HNM.out, hnf, hnt] at h; cases h⟩
      obtain ⟨r3, b3, c3, z3⟩ := A2.out.done (.slice none 0 0)
      have HR3 : Hid _ := r3
      clear r3
      clear hnf hnt
      go_wp2_with (first | (refine load_atg (by rfl) 26 (.tmp 23) (by rfl) (w.heap.size + 1) 1 (by rfl) .u8 32 m.frm _ HCF.out Tryz.underlying26 rfl (by kernel_rfl) ?_) | (refine load_atg (by rfl) 26 (.tmp 6) (by rfl) (w.heap.size + 1 + 1 + 1) 0 (by rfl) .u8 32 noId _ HCN.out Tryz.underlying26 rfl (by kernel_rfl) ?_) | (refine load_atg (by rfl) 26 (.tmp 28) (by rfl) (w.heap.size + 1) 33 (by rfl) .u8 32 m.to _ HCT.out Tryz.underlying26 rfl (by kernel_rfl) ?_) | (refine load_atg (by rfl) 26 (.tmp 6) (by rfl) (w.heap.size + 1 + 1 + 1) 0 (by rfl) .u8 32 noId _ HCN.out Tryz.underlying26 rfl (by kernel_rfl) ?_))
      exact bodyPost_ret (v := .tuple #[.agg #[.slice none 0 0], .int .i64 190]) (results_cell_tmp Tryz.results11 _ _ (w.heap.size + 1 + 1) 24 #[.slice none 0 0] (0, 0) _ _ rfl rfl HR3.out Tryz.underlying24 rfl (by kernel_rfl)) rfl ⟨HP.out _, b3⟩
    rw [hnt] at het
    have HBAD : Hid (badX rs m = false) := by show _ = _; unfold badX; rw [HRB.out, HNM.out, hnf, hnt]; rfl
    have HNT : Hid (noneB m.to = false) := hnt
    clear hnt
    have HNF : Hid (noneB m.frm = true) := hnf
    clear hnf
    have c0 := A2.out.c0
    go_wp2_with (first | (refine load_atg (by rfl) 26 (.tmp 23) (by rfl) (w.heap.size + 1) 1 (by rfl) .u8 32 m.frm _ HCF.out Tryz.underlying26 rfl (by kernel_rfl) ?_) | (refine load_atg (by rfl) 26 (.tmp 6) (by rfl) (w.heap.size + 1 + 1 + 1) 0 (by rfl) .u8 32 noId _ HCN.out Tryz.underlying26 rfl (by kernel_rfl) ?_) | (refine load_atg (by rfl) 26 (.tmp 28) (by rfl) (w.heap.size + 1) 33 (by rfl) .u8 32 m.to _ HCT.out Tryz.underlying26 rfl (by kernel_rfl) ?_) | (refine load_atg (by rfl) 26 (.tmp 6) (by rfl) (w.heap.size + 1 + 1 + 1) 0 (by rfl) .u8 32 noId _ HCN.out Tryz.underlying26 rfl (by kernel_rfl) ?_))
    refine (r9get_any sp cap rs m.name W2 A2.out.hr (by omega)).mono ?_
    rintro e W3 ⟨rfl, b3⟩
    have A3 : Hid (ApA w W3 sp cap rs m) := A2.out.grow b3
    clear b3 A2 HCF HCT HCN c0 c1
    cases hfd : findR m.name rs
    · skip
      unfold getV
      dsimp only
      have HFD : Hid (findR m.name rs = none) := hfd
      clear hfd
      by_cases h8 : rs.length = 8
      · have h8' : ((rs.length : Int) == 8) = true := by rw [beq_iff_eq]; omega
        have HP : Hid (∀ W, ApplyD rs m w.heap.size (.returned (.tuple #[.agg #[.slice none 0 0], .int .i64 6])) W) := fun W => by
          have he : errL rs m = 6 := by unfold errL; rw [HFD.out]; dsimp only; rw [HNF.out, h8]; rfl
          exact ⟨fun h => (by rw [HBAD.out] at h; cases h), fun _ => ⟨fun _ => by rw [he], fun h => by rw [he] at h; cases h⟩⟩
        go_wp2_with (first | (refine wpList_store_row (by rfl) 26 (.tmp 7) (.tmp 40) (by rfl) W3.heap.size (arr .u8 32 noId) (by rfl) (by rfl) 26 _ (heap_alloc_new _ _) (by rw [arr_size]; kernel_rfl) (by rw [arr_size]; rfl) (arr_one _ _ _) ?_; refine wpList_gen (fun W => Below W3.heap.size W3 W ∧ W.heap[W3.heap.size]? = some (.cells (arr .u8 32 noId) 26 (0, 0))) ⟨below_setRow' ((Below.refl _ _).alloc (Nat.le_refl _) _) (Nat.le_refl _) _, heap_setRow_same (heap_alloc_new _ _)⟩ ?_; intro W4 hW4; have HW4 : Hid _ := hW4; have A4 : Hid (ApA w W4 sp cap rs m) := A3.out.grow hW4.1; have HCF : Hid _ := A4.out.cf; have HCT : Hid _ := A4.out.ct; have HCN : Hid _ := A4.out.cn; have HCI : Hid (∀ i, i < 32 → W4.cell? ⟨W3.heap.size, 0 + i, none⟩ = some (.int .u8 (noId i))) := (fun i hi => (cell_of_row _ _ _ _ _ _ hW4.2).trans (by rw [Nat.zero_add]; exact arr_get hi)); clear hW4; obtain ⟨-, -, c3, z3⟩ := A4.out.done (.slice none 0 0); have c0 := A4.out.c0) | (refine load_atg (by rfl) 26 (.tmp 42) (by rfl) (w.heap.size + 1) 1 (by rfl) .u8 32 m.frm _ HCF.out Tryz.underlying26 rfl (by kernel_rfl) ?_) | (refine load_atg (by rfl) 26 (.tmp 6) (by rfl) (w.heap.size + 1 + 1 + 1) 0 (by rfl) .u8 32 noId _ HCN.out Tryz.underlying26 rfl (by kernel_rfl) ?_) | (refine load_atg (by rfl) 26 (.tmp 51) (by rfl) (w.heap.size + 1) 1 (by rfl) .u8 32 m.frm _ HCF.out Tryz.underlying26 rfl (by kernel_rfl) ?_) | (refine load_atg (by rfl) 26 (.tmp 6) (by rfl) (w.heap.size + 1 + 1 + 1) 0 (by rfl) .u8 32 noId _ HCN.out Tryz.underlying26 rfl (by kernel_rfl) ?_) | (refine load_atg (by rfl) 26 (.tmp 7) (by rfl) (W3.heap.size) 0 (by rfl) .u8 32 noId _ HCI.out Tryz.underlying26 rfl (by kernel_rfl) ?_) | (refine load_atg (by rfl) 26 (.tmp 62) (by rfl) (w.heap.size + 1) 1 (by rfl) .u8 32 m.frm _ HCF.out Tryz.underlying26 rfl (by kernel_rfl) ?_) | (refine load_atg (by rfl) 26 (.tmp 77) (by rfl) (w.heap.size + 1) 33 (by rfl) .u8 32 m.to _ HCT.out Tryz.underlying26 rfl (by kernel_rfl) ?_) | (refine load_atg (by rfl) 26 (.tmp 6) (by rfl) (w.heap.size + 1 + 1 + 1) 0 (by rfl) .u8 32 noId _ HCN.out Tryz.underlying26 rfl (by kernel_rfl) ?_))
        obtain ⟨r3, b3, -, -⟩ := A4.out.done (.slice none 0 0)
        have HR3 : Hid _ := r3
        clear r3
        exact bodyPost_ret (v := .tuple #[.agg #[.slice none 0 0], .int .i64 6]) (results_cell_tmp Tryz.results11 _ _ (w.heap.size + 1 + 1) 24 #[.slice none 0 0] (0, 0) _ _ rfl rfl HR3.out Tryz.underlying24 rfl (by kernel_rfl)) rfl ⟨HP.out _, b3⟩
      · have h8' : ((rs.length : Int) == 8) = false := by rw [beq_eq_false_iff_ne]; omega
        have HE0 : Hid (errL rs m = 0) := by show _ = _; unfold errL; rw [HFD.out]; dsimp only; rw [HNF.out, show (rs.length == 8) = false by rw [beq_eq_false_iff_ne]; exact h8]; rfl
        go_wp2_with (first | (refine wpList_store_row (by rfl) 26 (.tmp 7) (.tmp 40) (by rfl) W3.heap.size (arr .u8 32 noId) (by rfl) (by rfl) 26 _ (heap_alloc_new _ _) (by rw [arr_size]; kernel_rfl) (by rw [arr_size]; rfl) (arr_one _ _ _) ?_; refine wpList_gen (fun W => Below W3.heap.size W3 W ∧ W.heap[W3.heap.size]? = some (.cells (arr .u8 32 noId) 26 (0, 0))) ⟨below_setRow' ((Below.refl _ _).alloc (Nat.le_refl _) _) (Nat.le_refl _) _, heap_setRow_same (heap_alloc_new _ _)⟩ ?_; intro W4 hW4; have HW4 : Hid _ := hW4; have A4 : Hid (ApA w W4 sp cap rs m) := A3.out.grow hW4.1; have HCF : Hid _ := A4.out.cf; have HCT : Hid _ := A4.out.ct; have HCN : Hid _ := A4.out.cn; have HCI : Hid (∀ i, i < 32 → W4.cell? ⟨W3.heap.size, 0 + i, none⟩ = some (.int .u8 (noId i))) := (fun i hi => (cell_of_row _ _ _ _ _ _ hW4.2).trans (by rw [Nat.zero_add]; exact arr_get hi)); clear hW4; obtain ⟨-, -, c3, z3⟩ := A4.out.done (.slice none 0 0); have c0 := A4.out.c0) | (refine load_atg (by rfl) 26 (.tmp 42) (by rfl) (w.heap.size + 1) 1 (by rfl) .u8 32 m.frm _ HCF.out Tryz.underlying26 rfl (by kernel_rfl) ?_) | (refine wpList_gen (fun W => ApA w W sp cap rs m ∧ W.heap[W4.heap.size]? = some (.cells #[.slice none 0 0] 24 (0, 0))) ⟨A4.out.grow ((Below.refl _ _).alloc (Nat.le_refl _) _), heap_alloc_new _ _⟩ ?_; intro W5 hW5; have A5 : Hid (ApA w W5 sp cap rs m) := hW5.1; have R9 : Hid _ := hW5.2; clear hW5; have HCT5 : Hid _ := A5.out.ct; have HCN5 : Hid _ := A5.out.cn; refine load_atg (by rfl) 26 (.tmp 77) (by rfl) (w.heap.size + 1) 33 (by rfl) .u8 32 m.to _ HCT5.out Tryz.underlying26 rfl (by kernel_rfl) ?_) | (refine load_atg (by rfl) 26 (.tmp 6) (by rfl) (w.heap.size + 1 + 1 + 1) 0 (by rfl) .u8 32 noId _ HCN5.out Tryz.underlying26 rfl (by kernel_rfl) ?_) | (refine load_atg (by rfl) 26 (.tmp 6) (by rfl) (w.heap.size + 1 + 1 + 1) 0 (by rfl) .u8 32 noId _ HCN.out Tryz.underlying26 rfl (by kernel_rfl) ?_) | (refine load_atg (by rfl) 26 (.tmp 51) (by rfl) (w.heap.size + 1) 1 (by rfl) .u8 32 m.frm _ HCF.out Tryz.underlying26 rfl (by kernel_rfl) ?_) | (refine load_atg (by rfl) 26 (.tmp 7) (by rfl) (W3.heap.size) 0 (by rfl) .u8 32 noId _ HCI.out Tryz.underlying26 rfl (by kernel_rfl) ?_) | (refine load_atg (by rfl) 26 (.tmp 62) (by rfl) (w.heap.size + 1) 1 (by rfl) .u8 32 m.frm _ HCF.out Tryz.underlying26 rfl (by kernel_rfl) ?_))
        obtain ⟨e, he, HBL⟩ : ∃ e : Re, e = ⟨m.name, m.to⟩ ∧ Hid (∀ W, (Instr.build 92 [(0, .string m.name), (1, .agg (arr .u8 32 m.to))].toArray).run Tryz.prog W = .ok (.agg e.cells) W) := ⟨_, rfl, fun W => bldRef m.name m.to W⟩
        have HE : Hid (e = ⟨m.name, m.to⟩) := he
        obtain ⟨g9, hg9⟩ : ∃ g, W4.heap.size = g := ⟨_, rfl⟩
        have hg3 : w.heap.size + 1 + 1 + 1 < g9 := by rw [← hg9]; exact lt_of_row A4.out.r3
        rw [hg9] at R9 ⊢
        clear hg9 he
        have hg5 : g9 < W5.heap.size := lt_of_row R9.out
        have HA : Hid (∀ L W, Gat W5 g9 L W → ApA w W sp cap rs m) := fun L W h => A5.out.gat hg3 h.gr
        have HAG : Hid (∀ W, W5.grownBy W (some g9) → ApA w W sp cap rs m) := fun W h => A5.out.gat hg3 h
        have HG0 : Hid (Gat W5 g9 [] W5) := ⟨⟨rfl, rfl, rfl, Nat.le_refl _, fun _ _ _ => rfl⟩, none, 0, R9.out, ownR_nil _ _⟩
        have HP0 : Hid (Value.bool false = Value.bool (outS m (rs.take 0)).2) := by show _ = _; rw [List.take_zero]; first | rfl | exact congrArg Value.bool HNT.out.symm
        have HGOOD : Hid (∀ v W, OwnR W5.heap.size W v (outL m rs) → ApplyD rs m w.heap.size (.returned (.tuple #[.agg #[v], .int .i64 0])) W) := fun v W h => ⟨(fun hb => by rw [HBAD.out] at hb; cases hb), fun _ => ⟨fun hb => absurd HE0.out hb, fun _ => ⟨v, rfl, h.mono A5.out.bel.size⟩⟩⟩
        have HLEN : Hid (∀ t, t ≤ rs.length → (outS m (rs.take t)).1.length ≤ 20000) := fun t ht => by
          have := outS_len m ([], noneB m.to) (rs.take t)
          rw [List.length_take] at this
          unfold outS
          simp only [List.length_nil] at this
          omega
        clear HNF HBAD HE0 A4 HW4 HCF HCT HCN HCI c3 z3 c0 A3 HCT5 HCN5 R9 HFD
        go_loopw [10, 11] (fun p i wr => ∃ t : Nat, t ≤ rs.length ∧ p = .bool (outS m (rs.take t)).2 ∧ i = .int .i64 t ∧ Gat W5 g9 (outS m (rs.take t)).1 wr) (fun _ i _ => rs.length - (intOf i).toNat)
        case atStart => exact ⟨0, Nat.zero_le _, HP0.out, rfl, HG0.out⟩
        case round =>
          obtain ⟨t, ht, rfl, rfl, hG⟩ := hrel
          have HG : Hid (Gat W5 g9 (outS m (rs.take t)).1 wr) := hG
          clear hG
          by_cases hlt : t < rs.length
          · skip
            have hd2 : decide ((t : Int) < rs.length) = true := by simp; omega
            have a0 := HA.out _ _ HG.out
            have c0 := a0.c0
            have c1 := a0.c1
            have hrw := a0.hr
            obtain ⟨b, o, hsp, hc⟩ := hrw (by omega)
            have HSP : Hid (sp = some ⟨b, o, none⟩) := hsp
            rw [hsp] at c0
            obtain ⟨x, hx⟩ : ∃ x, rs[t]? = some x := ⟨_, List.getElem?_eq_getElem hlt⟩
            have q0 : wr.cell? ⟨b, o + t * 33, none⟩ = some (.string x.name) := hc t x hx 0 _ x.cell0
            have HST : Hid (outS m (rs.take (t + 1)) = putS m (outS m (rs.take t)) x) := by
              show _ = _
              unfold outS
              rw [List.take_add_one, hx, Option.toList_some, List.foldl_append]
              rfl
            have HX : Hid (∀ W, W5.grownBy W (some g9) → W.cell? ⟨w.heap.size, 0, none⟩ = some (.slice (some ⟨b, o, none⟩) rs.length cap) ∧ ∀ j u, x.cells[j]? = some u → W.cell? ⟨b, o + t * 33 + j, none⟩ = some u) := fun W h => (HAG.out W h).elt hsp hx
            have hL := HLEN.out t ht
            clear a0 hrw hc hx hsp
            generalize outS m (rs.take t) = st at HG HST hL ⊢
            obtain ⟨Ls, pb⟩ := st
            dsimp only at HG HST hL ⊢
            cases pb
            · skip
              cases h1 : Op.bytesLess m.name.toList x.name.toList
              · cases h2 : (m.name.toList == x.name.toList)
                · skip
                  have h3 : (x.name.toList == m.name.toList) = false := by rw [name_flip]; exact h2
                  have HN : Hid (outS m (rs.take (t + 1)) = (Ls ++ [x], false)) := by show _ = _; rw [HST.out]; unfold putS leB; simp [h1, h2, h3]
                  go_wp2
                  go_quiet (fail)
                  refine exit_gen (fun W => Gat W5 g9 Ls W) (HG.out.drewN nq) ?_
                  intro Wa hGa
                  have HGa : Hid (Gat W5 g9 Ls Wa) := hGa
                  clear hGa c1 c0 q0 HG
                  obtain ⟨c0, hxc⟩ := HX.out Wa HGa.out.gr
                  have c1 := (HA.out _ _ HGa.out).c1
                  have q0 : Wa.cell? ⟨b, o + t * 33, none⟩ = some (.string x.name) := hxc 0 _ x.cell0
                  clear hxc
                  go_wp2
                  go_quiet (fail)
                  refine exit_gen (fun W => Gat W5 g9 Ls W) (HGa.out.drewN nq) ?_
                  clear HGa c0 c1 q0
                  intro Wb hGb
                  have HGa : Hid (Gat W5 g9 Ls Wb) := hGb
                  clear hGb
                  have hD := HGa.out.drew
                  have hS0 : W5.grownBy Wb.drew (some g9) := hD.gr
                  obtain ⟨so, n0, co, k9, X9, s9, n9, c9, W9, d1, db, d2, hr9, g1, g2, d3, d4, hGb⟩ := hD.one hg5 x (by first | omega | (simp only [List.length_append, List.length_cons, List.length_nil]; omega))
                  have HGb : Hid _ := hGb
                  clear hGb hD HGa
                  go_wp2
                  refine mv_begin (S := fun w' => W5.grownBy w' (some g9)) 11 rfl (by kernel_rfl) ?_
                  refine mv_rung 0 120 (.pointer (some ⟨g9, 0, none⟩)) rfl (by rfl) (by kernel_rfl) (by kernel_rfl) (by kernel_rfl) (fun _ _ _ h => h) (fun w' _ => by first | rfl | go_simp) hS0 ?_
                  simp only [List.setIfInBounds_toArray, List.set_cons_succ, List.set_cons_zero]
                  refine mv_rung 2 122 (.pointer (some ⟨w.heap.size, 0, none⟩)) rfl (by rfl) (by kernel_rfl) (by kernel_rfl) (by kernel_rfl) (fun _ _ _ h => h) (fun w' _ => by first | rfl | go_simp) hS0 ?_
                  simp only [List.setIfInBounds_toArray, List.set_cons_succ, List.set_cons_zero]
                  refine mv_rung 3 123 (.slice (some ⟨b, o, none⟩) rs.length cap) rfl (by rfl) (by kernel_rfl) (by kernel_rfl) (by kernel_rfl) (fun _ _ _ h => h) (fun w' hw' => by have c := (HX.out w' hw').1; go_simp) hS0 ?_
                  simp only [List.setIfInBounds_toArray, List.set_cons_succ, List.set_cons_zero]
                  refine mv_rung 4 124 (.int .i64 t) rfl (by rfl) (by kernel_rfl) (by kernel_rfl) (by kernel_rfl) (fun _ _ _ h => h) (fun w' _ => by first | rfl | go_simp) hS0 ?_
                  simp only [List.setIfInBounds_toArray, List.set_cons_succ, List.set_cons_zero]
                  refine mv_rung 5 125 (.pointer (some ⟨b, o + t * 33, none⟩)) rfl (by rfl) (by kernel_rfl) (by kernel_rfl) (by kernel_rfl) (fun _ _ _ h => h) (fun w' _ => by first | rfl | go_simp) hS0 ?_
                  simp only [List.setIfInBounds_toArray, List.set_cons_succ, List.set_cons_zero]
                  refine mv_mid 6 126 92 (.tmp 125) rfl b (o + t * 33) x.cells (by rfl) (by kernel_rfl) (by kernel_rfl) (by kernel_rfl) (fun _ _ _ h => h) _ (fun w' hw' => (HX.out w' hw').2) Tryz.underlying92 rfl (by rw [x.size]; kernel_rfl) hS0 ?_
                  simp only [List.setIfInBounds_toArray, List.set_cons_succ, List.set_cons_zero]
                  refine wpAnyH_all (rs := [1, 7]) (by kernel_rfl) (by simp) fun i hi => ?_
                  simp only [List.mem_cons, List.not_mem_nil, or_false] at hi
                  rcases hi with rfl | rfl
                  · refine wpOp_plain rfl rfl ?_
                    refine op_value (.slice so n0 co) (by go_simp) ?_
                    refine ⟨hS0, ?_⟩
                    simp only [Act.put]
                    refine mv_next 7 rfl (by kernel_rfl) ?_
                    refine op_buildOne 22 (.tmp 126) rfl (.agg x.cells) rfl db ?_
                    refine ⟨g1, ?_⟩
                    simp only [Act.put]
                    refine mv_next 8 rfl (by kernel_rfl) ?_
                    refine op_append (.tmp 121) (.tmp 127) 22 rfl rfl rfl hr9 ?_
                    refine ⟨g2, ?_⟩
                    simp only [Act.put]
                    refine mv_rung 9 129 (.pointer (some ⟨g9, 0, none⟩)) rfl (by rfl) (by kernel_rfl) (by kernel_rfl) (by kernel_rfl) (fun _ _ _ h => h) (fun w' _ => by first | rfl | go_simp) g2 ?_
                    simp only [List.setIfInBounds_toArray, List.set_cons_succ, List.set_cons_zero]
                    refine mv_next 10 rfl (by kernel_rfl) ?_
                    go_simp
                    refine ⟨HGb.out.gr, ?_⟩
                    refine wpAnyH_done (by kernel_rfl) ?_ _
                    refine exit_gen (fun W => Gat W5 g9 (Ls ++ [x]) W) HGb.out ?_
                    clear HGb d1 db d2 hr9 g1 g2 d3 d4 hS0
                    intro Wa hGa
                    have HGa : Hid (Gat W5 g9 (Ls ++ [x]) Wa) := hGa
                    clear hGa
                    go_wp2
                    exact ⟨⟨t + 1, by omega, by rw [HN.out], by go_num, by rw [HN.out]; exact HGa.out⟩, by simp [intOf]; omega⟩
                  · refine wpOp_plain rfl rfl ?_
                    refine op_buildOne 22 (.tmp 126) rfl (.agg x.cells) rfl db ?_
                    refine ⟨g1, ?_⟩
                    simp only [Act.put]
                    refine mv_next 1 rfl (by kernel_rfl) ?_
                    refine op_value (.slice so n0 co) (by go_simp) ?_
                    refine ⟨g1, ?_⟩
                    simp only [Act.put]
                    refine mv_next 8 rfl (by kernel_rfl) ?_
                    refine op_append (.tmp 121) (.tmp 127) 22 rfl rfl rfl hr9 ?_
                    refine ⟨g2, ?_⟩
                    simp only [Act.put]
                    refine mv_rung 9 129 (.pointer (some ⟨g9, 0, none⟩)) rfl (by rfl) (by kernel_rfl) (by kernel_rfl) (by kernel_rfl) (fun _ _ _ h => h) (fun w' _ => by first | rfl | go_simp) g2 ?_
                    simp only [List.setIfInBounds_toArray, List.set_cons_succ, List.set_cons_zero]
                    refine mv_next 10 rfl (by kernel_rfl) ?_
                    go_simp
                    refine ⟨HGb.out.gr, ?_⟩
                    refine wpAnyH_done (by kernel_rfl) ?_ _
                    refine exit_gen (fun W => Gat W5 g9 (Ls ++ [x]) W) HGb.out ?_
                    clear HGb d1 db d2 hr9 g1 g2 d3 d4 hS0
                    intro Wa hGa
                    have HGa : Hid (Gat W5 g9 (Ls ++ [x]) Wa) := hGa
                    clear hGa
                    go_wp2
                    exact ⟨⟨t + 1, by omega, by rw [HN.out], by go_num, by rw [HN.out]; exact HGa.out⟩, by simp [intOf]; omega⟩
                · skip
                  have h3 : (x.name.toList == m.name.toList) = true := by rw [name_flip]; exact h2
                  have HN : Hid (outS m (rs.take (t + 1)) = (Ls ++ [e], true)) := by show _ = _; rw [HST.out, HE.out]; unfold putS leB; simp [h1, h2, h3]
                  go_wp2
                  go_quiet (fail)
                  refine exit_gen (fun W => Gat W5 g9 Ls W) (HG.out.drewN nq) ?_
                  intro Wa hGa
                  have HGa : Hid (Gat W5 g9 Ls Wa) := hGa
                  clear hGa c1 c0 q0 HG
                  have HCT : Hid _ := (HA.out _ _ HGa.out).ct
                  have c1 := (HA.out _ _ HGa.out).c1
                  obtain ⟨so, n0, co, k9, X9, s9, n9, c9, W9, d1, db, d2, hr9, g1, g2, d3, d4, hGb⟩ := HGa.out.one hg5 e (by first | omega | (simp only [List.length_append, List.length_cons, List.length_nil]; omega))
                  have HGb : Hid _ := hGb
                  clear hGb
                  go_wp2_with (first
                    | (refine wpList_build (by rfl) 92 [(0, .tmp 104), (1, .tmp 106)] (by rfl) [(0, .string m.name), (1, .agg (arr .u8 32 m.to))] (by rfl) (.agg e.cells) (HBL.out _) ?_)
                    | (refine wpList_buildOne (by rfl) 22 (.tmp 107) (by rfl) (.agg e.cells) (by rfl) _ (by exact db) ?_)
                    | (refine load_atg (by rfl) 26 (.tmp 105) (by rfl) (w.heap.size + 1) 33 (by rfl) .u8 32 m.to _ HCT.out Tryz.underlying26 rfl (by kernel_rfl) ?_)
                    | (refine list_appR (by rfl) (.tmp 102) (.tmp 108) 22 (by rfl) (by rfl) (by rfl) (by exact hr9) ?_))
                  refine wp_gen (fun W => Gat W5 g9 (Ls ++ [e]) W) HGb.out ?_
                  clear HGa HGb d1 db d2 hr9 g1 g2 d3 d4 HCT c1
                  intro Wa hGa
                  have HGa : Hid (Gat W5 g9 (Ls ++ [e]) Wa) := hGa
                  clear hGa
                  obtain ⟨c0, hxc⟩ := HX.out Wa HGa.out.gr
                  have c1 := (HA.out _ _ HGa.out).c1
                  have q0 : Wa.cell? ⟨b, o + t * 33, none⟩ = some (.string x.name) := hxc 0 _ x.cell0
                  clear hxc
                  go_wp2
                  go_quiet (fail)
                  refine exit_gen (fun W => Gat W5 g9 (Ls ++ [e]) W) (HGa.out.drewN nq) ?_
                  clear HGa c0 c1 q0
                  intro Wb hGb
                  have HGa : Hid (Gat W5 g9 (Ls ++ [e]) Wb) := hGb
                  clear hGb
                  go_wp2
                  exact ⟨⟨t + 1, by omega, by rw [HN.out], by go_num, by rw [HN.out]; exact HGa.out⟩, by simp [intOf]; omega⟩
              · skip
                have h3 : (x.name.toList == m.name.toList) = false := name_less h1
                have HN : Hid (outS m (rs.take (t + 1)) = (Ls ++ [e] ++ [x], true)) := by show _ = _; rw [HST.out, HE.out]; unfold putS leB; simp [h1, h3]
                go_wp2
                go_quiet (fail)
                refine exit_gen (fun W => Gat W5 g9 Ls W) (HG.out.drewN nq) ?_
                intro Wa hGa
                have HGa : Hid (Gat W5 g9 Ls Wa) := hGa
                clear hGa c1 c0 q0 HG
                have HCT : Hid _ := (HA.out _ _ HGa.out).ct
                have c1 := (HA.out _ _ HGa.out).c1
                obtain ⟨so, n0, co, k9, X9, s9, n9, c9, W9, d1, db, d2, hr9, g1, g2, d3, d4, hGb⟩ := HGa.out.one hg5 e (by first | omega | (simp only [List.length_append, List.length_cons, List.length_nil]; omega))
                have HGb : Hid _ := hGb
                clear hGb
                go_wp2_with (first
                  | (refine wpList_build (by rfl) 92 [(0, .tmp 104), (1, .tmp 106)] (by rfl) [(0, .string m.name), (1, .agg (arr .u8 32 m.to))] (by rfl) (.agg e.cells) (HBL.out _) ?_)
                  | (refine wpList_buildOne (by rfl) 22 (.tmp 107) (by rfl) (.agg e.cells) (by rfl) _ (by exact db) ?_)
                  | (refine load_atg (by rfl) 26 (.tmp 105) (by rfl) (w.heap.size + 1) 33 (by rfl) .u8 32 m.to _ HCT.out Tryz.underlying26 rfl (by kernel_rfl) ?_)
                  | (refine list_appR (by rfl) (.tmp 102) (.tmp 108) 22 (by rfl) (by rfl) (by rfl) (by exact hr9) ?_))
                refine wp_gen (fun W => Gat W5 g9 (Ls ++ [e]) W) HGb.out ?_
                clear HGa HGb d1 db d2 hr9 g1 g2 d3 d4 HCT c1
                intro Wa hGa
                have HGa : Hid (Gat W5 g9 (Ls ++ [e]) Wa) := hGa
                clear hGa
                obtain ⟨c0, hxc⟩ := HX.out Wa HGa.out.gr
                have c1 := (HA.out _ _ HGa.out).c1
                have q0 : Wa.cell? ⟨b, o + t * 33, none⟩ = some (.string x.name) := hxc 0 _ x.cell0
                clear hxc
                go_wp2
                go_quiet (fail)
                refine exit_gen (fun W => Gat W5 g9 (Ls ++ [e]) W) (HGa.out.drewN nq) ?_
                clear HGa c0 c1 q0
                intro Wb hGb
                have HGa : Hid (Gat W5 g9 (Ls ++ [e]) Wb) := hGb
                clear hGb
                have hD := HGa.out.drew
                have hS0 : W5.grownBy Wb.drew (some g9) := hD.gr
                obtain ⟨so, n0, co, k9, X9, s9, n9, c9, W9, d1, db, d2, hr9, g1, g2, d3, d4, hGb⟩ := hD.one hg5 x (by first | omega | (simp only [List.length_append, List.length_cons, List.length_nil]; omega))
                have HGb : Hid _ := hGb
                clear hGb hD HGa
                go_wp2
                refine mv_begin (S := fun w' => W5.grownBy w' (some g9)) 11 rfl (by kernel_rfl) ?_
                refine mv_rung 0 120 (.pointer (some ⟨g9, 0, none⟩)) rfl (by rfl) (by kernel_rfl) (by kernel_rfl) (by kernel_rfl) (fun _ _ _ h => h) (fun w' _ => by first | rfl | go_simp) hS0 ?_
                simp only [List.setIfInBounds_toArray, List.set_cons_succ, List.set_cons_zero]
                refine mv_rung 2 122 (.pointer (some ⟨w.heap.size, 0, none⟩)) rfl (by rfl) (by kernel_rfl) (by kernel_rfl) (by kernel_rfl) (fun _ _ _ h => h) (fun w' _ => by first | rfl | go_simp) hS0 ?_
                simp only [List.setIfInBounds_toArray, List.set_cons_succ, List.set_cons_zero]
                refine mv_rung 3 123 (.slice (some ⟨b, o, none⟩) rs.length cap) rfl (by rfl) (by kernel_rfl) (by kernel_rfl) (by kernel_rfl) (fun _ _ _ h => h) (fun w' hw' => by have c := (HX.out w' hw').1; go_simp) hS0 ?_
                simp only [List.setIfInBounds_toArray, List.set_cons_succ, List.set_cons_zero]
                refine mv_rung 4 124 (.int .i64 t) rfl (by rfl) (by kernel_rfl) (by kernel_rfl) (by kernel_rfl) (fun _ _ _ h => h) (fun w' _ => by first | rfl | go_simp) hS0 ?_
                simp only [List.setIfInBounds_toArray, List.set_cons_succ, List.set_cons_zero]
                refine mv_rung 5 125 (.pointer (some ⟨b, o + t * 33, none⟩)) rfl (by rfl) (by kernel_rfl) (by kernel_rfl) (by kernel_rfl) (fun _ _ _ h => h) (fun w' _ => by first | rfl | go_simp) hS0 ?_
                simp only [List.setIfInBounds_toArray, List.set_cons_succ, List.set_cons_zero]
                refine mv_mid 6 126 92 (.tmp 125) rfl b (o + t * 33) x.cells (by rfl) (by kernel_rfl) (by kernel_rfl) (by kernel_rfl) (fun _ _ _ h => h) _ (fun w' hw' => (HX.out w' hw').2) Tryz.underlying92 rfl (by rw [x.size]; kernel_rfl) hS0 ?_
                simp only [List.setIfInBounds_toArray, List.set_cons_succ, List.set_cons_zero]
                refine wpAnyH_all (rs := [1, 7]) (by kernel_rfl) (by simp) fun i hi => ?_
                simp only [List.mem_cons, List.not_mem_nil, or_false] at hi
                rcases hi with rfl | rfl
                · refine wpOp_plain rfl rfl ?_
                  refine op_value (.slice so n0 co) (by go_simp) ?_
                  refine ⟨hS0, ?_⟩
                  simp only [Act.put]
                  refine mv_next 7 rfl (by kernel_rfl) ?_
                  refine op_buildOne 22 (.tmp 126) rfl (.agg x.cells) rfl db ?_
                  refine ⟨g1, ?_⟩
                  simp only [Act.put]
                  refine mv_next 8 rfl (by kernel_rfl) ?_
                  refine op_append (.tmp 121) (.tmp 127) 22 rfl rfl rfl hr9 ?_
                  refine ⟨g2, ?_⟩
                  simp only [Act.put]
                  refine mv_rung 9 129 (.pointer (some ⟨g9, 0, none⟩)) rfl (by rfl) (by kernel_rfl) (by kernel_rfl) (by kernel_rfl) (fun _ _ _ h => h) (fun w' _ => by first | rfl | go_simp) g2 ?_
                  simp only [List.setIfInBounds_toArray, List.set_cons_succ, List.set_cons_zero]
                  refine mv_next 10 rfl (by kernel_rfl) ?_
                  go_simp
                  refine ⟨HGb.out.gr, ?_⟩
                  refine wpAnyH_done (by kernel_rfl) ?_ _
                  refine exit_gen (fun W => Gat W5 g9 ((Ls ++ [e]) ++ [x]) W) HGb.out ?_
                  clear HGb d1 db d2 hr9 g1 g2 d3 d4 hS0
                  intro Wa hGa
                  have HGa : Hid (Gat W5 g9 ((Ls ++ [e]) ++ [x]) Wa) := hGa
                  clear hGa
                  go_wp2
                  exact ⟨⟨t + 1, by omega, by rw [HN.out], by go_num, by rw [HN.out]; exact HGa.out⟩, by simp [intOf]; omega⟩
                · refine wpOp_plain rfl rfl ?_
                  refine op_buildOne 22 (.tmp 126) rfl (.agg x.cells) rfl db ?_
                  refine ⟨g1, ?_⟩
                  simp only [Act.put]
                  refine mv_next 1 rfl (by kernel_rfl) ?_
                  refine op_value (.slice so n0 co) (by go_simp) ?_
                  refine ⟨g1, ?_⟩
                  simp only [Act.put]
                  refine mv_next 8 rfl (by kernel_rfl) ?_
                  refine op_append (.tmp 121) (.tmp 127) 22 rfl rfl rfl hr9 ?_
                  refine ⟨g2, ?_⟩
                  simp only [Act.put]
                  refine mv_rung 9 129 (.pointer (some ⟨g9, 0, none⟩)) rfl (by rfl) (by kernel_rfl) (by kernel_rfl) (by kernel_rfl) (fun _ _ _ h => h) (fun w' _ => by first | rfl | go_simp) g2 ?_
                  simp only [List.setIfInBounds_toArray, List.set_cons_succ, List.set_cons_zero]
                  refine mv_next 10 rfl (by kernel_rfl) ?_
                  go_simp
                  refine ⟨HGb.out.gr, ?_⟩
                  refine wpAnyH_done (by kernel_rfl) ?_ _
                  refine exit_gen (fun W => Gat W5 g9 ((Ls ++ [e]) ++ [x]) W) HGb.out ?_
                  clear HGb d1 db d2 hr9 g1 g2 d3 d4 hS0
                  intro Wa hGa
                  have HGa : Hid (Gat W5 g9 ((Ls ++ [e]) ++ [x]) Wa) := hGa
                  clear hGa
                  go_wp2
                  exact ⟨⟨t + 1, by omega, by rw [HN.out], by go_num, by rw [HN.out]; exact HGa.out⟩, by simp [intOf]; omega⟩
            · cases h3 : (x.name.toList == m.name.toList)
              · skip
                have HN : Hid (outS m (rs.take (t + 1)) = (Ls ++ [x], true)) := by show _ = _; rw [HST.out]; unfold putS leB; simp [h3]
                go_wp2
                go_quiet (fail)
                refine exit_gen (fun W => Gat W5 g9 Ls W) (HG.out.drewN nq) ?_
                intro Wa hGa
                have HGa : Hid (Gat W5 g9 Ls Wa) := hGa
                clear hGa c1 c0 q0 HG
                obtain ⟨c0, hxc⟩ := HX.out Wa HGa.out.gr
                have c1 := (HA.out _ _ HGa.out).c1
                have q0 : Wa.cell? ⟨b, o + t * 33, none⟩ = some (.string x.name) := hxc 0 _ x.cell0
                clear hxc
                go_wp2
                go_quiet (fail)
                refine exit_gen (fun W => Gat W5 g9 Ls W) (HGa.out.drewN nq) ?_
                clear HGa c0 c1 q0
                intro Wb hGb
                have HGa : Hid (Gat W5 g9 Ls Wb) := hGb
                clear hGb
                have hD := HGa.out.drew
                have hS0 : W5.grownBy Wb.drew (some g9) := hD.gr
                obtain ⟨so, n0, co, k9, X9, s9, n9, c9, W9, d1, db, d2, hr9, g1, g2, d3, d4, hGb⟩ := hD.one hg5 x (by first | omega | (simp only [List.length_append, List.length_cons, List.length_nil]; omega))
                have HGb : Hid _ := hGb
                clear hGb hD HGa
                go_wp2
                refine mv_begin (S := fun w' => W5.grownBy w' (some g9)) 11 rfl (by kernel_rfl) ?_
                refine mv_rung 0 120 (.pointer (some ⟨g9, 0, none⟩)) rfl (by rfl) (by kernel_rfl) (by kernel_rfl) (by kernel_rfl) (fun _ _ _ h => h) (fun w' _ => by first | rfl | go_simp) hS0 ?_
                simp only [List.setIfInBounds_toArray, List.set_cons_succ, List.set_cons_zero]
                refine mv_rung 2 122 (.pointer (some ⟨w.heap.size, 0, none⟩)) rfl (by rfl) (by kernel_rfl) (by kernel_rfl) (by kernel_rfl) (fun _ _ _ h => h) (fun w' _ => by first | rfl | go_simp) hS0 ?_
                simp only [List.setIfInBounds_toArray, List.set_cons_succ, List.set_cons_zero]
                refine mv_rung 3 123 (.slice (some ⟨b, o, none⟩) rs.length cap) rfl (by rfl) (by kernel_rfl) (by kernel_rfl) (by kernel_rfl) (fun _ _ _ h => h) (fun w' hw' => by have c := (HX.out w' hw').1; go_simp) hS0 ?_
                simp only [List.setIfInBounds_toArray, List.set_cons_succ, List.set_cons_zero]
                refine mv_rung 4 124 (.int .i64 t) rfl (by rfl) (by kernel_rfl) (by kernel_rfl) (by kernel_rfl) (fun _ _ _ h => h) (fun w' _ => by first | rfl | go_simp) hS0 ?_
                simp only [List.setIfInBounds_toArray, List.set_cons_succ, List.set_cons_zero]
                refine mv_rung 5 125 (.pointer (some ⟨b, o + t * 33, none⟩)) rfl (by rfl) (by kernel_rfl) (by kernel_rfl) (by kernel_rfl) (fun _ _ _ h => h) (fun w' _ => by first | rfl | go_simp) hS0 ?_
                simp only [List.setIfInBounds_toArray, List.set_cons_succ, List.set_cons_zero]
                refine mv_mid 6 126 92 (.tmp 125) rfl b (o + t * 33) x.cells (by rfl) (by kernel_rfl) (by kernel_rfl) (by kernel_rfl) (fun _ _ _ h => h) _ (fun w' hw' => (HX.out w' hw').2) Tryz.underlying92 rfl (by rw [x.size]; kernel_rfl) hS0 ?_
                simp only [List.setIfInBounds_toArray, List.set_cons_succ, List.set_cons_zero]
                refine wpAnyH_all (rs := [1, 7]) (by kernel_rfl) (by simp) fun i hi => ?_
                simp only [List.mem_cons, List.not_mem_nil, or_false] at hi
                rcases hi with rfl | rfl
                · refine wpOp_plain rfl rfl ?_
                  refine op_value (.slice so n0 co) (by go_simp) ?_
                  refine ⟨hS0, ?_⟩
                  simp only [Act.put]
                  refine mv_next 7 rfl (by kernel_rfl) ?_
                  refine op_buildOne 22 (.tmp 126) rfl (.agg x.cells) rfl db ?_
                  refine ⟨g1, ?_⟩
                  simp only [Act.put]
                  refine mv_next 8 rfl (by kernel_rfl) ?_
                  refine op_append (.tmp 121) (.tmp 127) 22 rfl rfl rfl hr9 ?_
                  refine ⟨g2, ?_⟩
                  simp only [Act.put]
                  refine mv_rung 9 129 (.pointer (some ⟨g9, 0, none⟩)) rfl (by rfl) (by kernel_rfl) (by kernel_rfl) (by kernel_rfl) (fun _ _ _ h => h) (fun w' _ => by first | rfl | go_simp) g2 ?_
                  simp only [List.setIfInBounds_toArray, List.set_cons_succ, List.set_cons_zero]
                  refine mv_next 10 rfl (by kernel_rfl) ?_
                  go_simp
                  refine ⟨HGb.out.gr, ?_⟩
                  refine wpAnyH_done (by kernel_rfl) ?_ _
                  refine exit_gen (fun W => Gat W5 g9 (Ls ++ [x]) W) HGb.out ?_
                  clear HGb d1 db d2 hr9 g1 g2 d3 d4 hS0
                  intro Wa hGa
                  have HGa : Hid (Gat W5 g9 (Ls ++ [x]) Wa) := hGa
                  clear hGa
                  go_wp2
                  exact ⟨⟨t + 1, by omega, by rw [HN.out], by go_num, by rw [HN.out]; exact HGa.out⟩, by simp [intOf]; omega⟩
                · refine wpOp_plain rfl rfl ?_
                  refine op_buildOne 22 (.tmp 126) rfl (.agg x.cells) rfl db ?_
                  refine ⟨g1, ?_⟩
                  simp only [Act.put]
                  refine mv_next 1 rfl (by kernel_rfl) ?_
                  refine op_value (.slice so n0 co) (by go_simp) ?_
                  refine ⟨g1, ?_⟩
                  simp only [Act.put]
                  refine mv_next 8 rfl (by kernel_rfl) ?_
                  refine op_append (.tmp 121) (.tmp 127) 22 rfl rfl rfl hr9 ?_
                  refine ⟨g2, ?_⟩
                  simp only [Act.put]
                  refine mv_rung 9 129 (.pointer (some ⟨g9, 0, none⟩)) rfl (by rfl) (by kernel_rfl) (by kernel_rfl) (by kernel_rfl) (fun _ _ _ h => h) (fun w' _ => by first | rfl | go_simp) g2 ?_
                  simp only [List.setIfInBounds_toArray, List.set_cons_succ, List.set_cons_zero]
                  refine mv_next 10 rfl (by kernel_rfl) ?_
                  go_simp
                  refine ⟨HGb.out.gr, ?_⟩
                  refine wpAnyH_done (by kernel_rfl) ?_ _
                  refine exit_gen (fun W => Gat W5 g9 (Ls ++ [x]) W) HGb.out ?_
                  clear HGb d1 db d2 hr9 g1 g2 d3 d4 hS0
                  intro Wa hGa
                  have HGa : Hid (Gat W5 g9 (Ls ++ [x]) Wa) := hGa
                  clear hGa
                  go_wp2
                  exact ⟨⟨t + 1, by omega, by rw [HN.out], by go_num, by rw [HN.out]; exact HGa.out⟩, by simp [intOf]; omega⟩
              · skip
                have HN : Hid (outS m (rs.take (t + 1)) = (Ls, true)) := by show _ = _; rw [HST.out]; unfold putS leB; simp [h3]
                go_wp2
                go_quiet (fail)
                refine exit_gen (fun W => Gat W5 g9 Ls W) (HG.out.drewN nq) ?_
                intro Wa hGa
                have HGa : Hid (Gat W5 g9 Ls Wa) := hGa
                clear hGa c1 c0 q0 HG
                obtain ⟨c0, hxc⟩ := HX.out Wa HGa.out.gr
                have c1 := (HA.out _ _ HGa.out).c1
                have q0 : Wa.cell? ⟨b, o + t * 33, none⟩ = some (.string x.name) := hxc 0 _ x.cell0
                clear hxc
                go_wp2
                go_quiet (fail)
                refine exit_gen (fun W => Gat W5 g9 Ls W) (HGa.out.drewN nq) ?_
                clear HGa c0 c1 q0
                intro Wb hGb
                have HGa : Hid (Gat W5 g9 Ls Wb) := hGb
                clear hGb
                go_wp2
                exact ⟨⟨t + 1, by omega, by rw [HN.out], by go_num, by rw [HN.out]; exact HGa.out⟩, by simp [intOf]; omega⟩
          · skip
            have hd2 : decide ((t : Int) < rs.length) = false := by simp; omega
            obtain rfl : t = rs.length := by omega
            rw [List.take_length] at HG
            have c0 := (HA.out _ _ HG.out).c0
            have hL := HLEN.out rs.length (Nat.le_refl _)
            rw [List.take_length] at hL ⊢
            have HOL : Hid (outL m rs = if (outS m rs).2 then (outS m rs).1 else (outS m rs).1 ++ [e]) := by show _ = _; rw [HE.out]; rfl
            generalize outS m rs = st at HG HOL hL ⊢
            obtain ⟨Ls, pb⟩ := st
            dsimp only at HG HOL hL ⊢
            cases pb
            · have HOL2 : Hid (outL m rs = Ls ++ [e]) := HOL.out
              have HOL := HOL2
              have HGa := HG
              have HCT : Hid _ := (HA.out _ _ HGa.out).ct
              have c1 := (HA.out _ _ HGa.out).c1
              obtain ⟨so, n0, co, k9, X9, s9, n9, c9, W9, d1, db, d2, hr9, g1, g2, d3, d4, hGb⟩ := HGa.out.one hg5 e (by first | omega | (simp only [List.length_append, List.length_cons, List.length_nil]; omega))
              have HGb : Hid _ := hGb
              clear hGb
              go_wp2_with (first
                | (refine wpList_build (by rfl) 92 [(0, .tmp 135), (1, .tmp 137)] (by rfl) [(0, .string m.name), (1, .agg (arr .u8 32 m.to))] (by rfl) (.agg e.cells) (HBL.out _) ?_)
                | (refine wpList_buildOne (by rfl) 22 (.tmp 138) (by rfl) (.agg e.cells) (by rfl) _ (by exact db) ?_)
                | (refine load_atg (by rfl) 26 (.tmp 136) (by rfl) (w.heap.size + 1) 33 (by rfl) .u8 32 m.to _ HCT.out Tryz.underlying26 rfl (by kernel_rfl) ?_)
                | (refine list_appR (by rfl) (.tmp 133) (.tmp 139) 22 (by rfl) (by rfl) (by rfl) (by exact hr9) ?_)
                | (refine wpList_gen (fun W => Gat W5 g9 (Ls ++ [e]) W) HGb.out ?_; intro Wc hGc; obtain ⟨sF, nF, cF, rF, hF⟩ := hGc.fin; have HF : Hid (OwnR W5.heap.size Wc (.slice sF nF cF) (Ls ++ [e])) := hF; have RF : Hid _ := rF; have AF : Hid _ := (HA.out _ _ hGc); obtain ⟨-, -, c3, z3⟩ := AF.out.done (.slice none 0 0); clear hGc hF rF; refine wpList_load_row (by rfl) 24 (.tmp 9) (by rfl) g9 (by rfl) 24 #[.slice sF nF cF] (0, 0) _ RF.out Tryz.underlying24 rfl (by kernel_rfl) ?_))
              obtain ⟨r3, b3, -, -⟩ := AF.out.done (.slice sF nF cF)
              have HR3 : Hid _ := r3
              clear r3
              refine bodyPost_ret (v := .tuple #[.agg #[.slice sF nF cF], .int .i64 0]) (results_cell_tmp Tryz.results11 _ _ (w.heap.size + 1 + 1) 24 #[.slice sF nF cF] (0, 0) _ _ rfl rfl HR3.out Tryz.underlying24 rfl (by kernel_rfl)) rfl ⟨HGOOD.out _ _ ?_, b3⟩
              rw [HOL.out]
              refine OwnR.keep HF.out fun k hk => heap_setCell_other _ _ _ _ fun e => ?_
              have h6 := (OwnR.lt HF.out hk).1
              have h7 : k = w.heap.size + 1 + 1 := e
              omega
            · have HOL2 : Hid (outL m rs = Ls) := HOL.out
              have HOL := HOL2
              go_wp2_with (first
                | (refine wpList_gen (fun W => Gat W5 g9 Ls W) HG.out ?_; intro Wc hGc; obtain ⟨sF, nF, cF, rF, hF⟩ := hGc.fin; have HF : Hid (OwnR W5.heap.size Wc (.slice sF nF cF) Ls) := hF; have RF : Hid _ := rF; have AF : Hid _ := (HA.out _ _ hGc); obtain ⟨-, -, c3, z3⟩ := AF.out.done (.slice none 0 0); clear hGc hF rF; refine wpList_load_row (by rfl) 24 (.tmp 9) (by rfl) g9 (by rfl) 24 #[.slice sF nF cF] (0, 0) _ RF.out Tryz.underlying24 rfl (by kernel_rfl) ?_))
              obtain ⟨r3, b3, -, -⟩ := AF.out.done (.slice sF nF cF)
              have HR3 : Hid _ := r3
              clear r3
              refine bodyPost_ret (v := .tuple #[.agg #[.slice sF nF cF], .int .i64 0]) (results_cell_tmp Tryz.results11 _ _ (w.heap.size + 1 + 1) 24 #[.slice sF nF cF] (0, 0) _ _ rfl rfl HR3.out Tryz.underlying24 rfl (by kernel_rfl)) rfl ⟨HGOOD.out _ _ ?_, b3⟩
              rw [HOL.out]
              refine OwnR.keep HF.out fun k hk => heap_setCell_other _ _ _ _ fun e => ?_
              have h6 := (OwnR.lt HF.out hk).1
              have h7 : k = w.heap.size + 1 + 1 := e
              omega
    · rename_i x
      unfold getV
      dsimp only
      have HFD : Hid (findR m.name rs = some x) := hfd
      clear hfd
      have HP : Hid (∀ W, ApplyD rs m w.heap.size (.returned (.tuple #[.agg #[.slice none 0 0], .int .i64 5])) W) := fun W => by
        have he : errL rs m = 5 := by unfold errL; rw [HFD.out]; dsimp only; rw [HNF.out]; rfl
        exact ⟨fun h => (by rw [HBAD.out] at h; cases h), fun _ => ⟨fun _ => by rw [he], fun h => by rw [he] at h; cases h⟩⟩
      go_wp2_with (first | (refine wpList_store_row (by rfl) 26 (.tmp 7) (.tmp 40) (by rfl) W3.heap.size (arr .u8 32 x.id) (by rfl) (by rfl) 26 _ (heap_alloc_new _ _) (by rw [arr_size]; kernel_rfl) (by rw [arr_size]; rfl) (arr_one _ _ _) ?_; refine wpList_gen (fun W => Below W3.heap.size W3 W ∧ W.heap[W3.heap.size]? = some (.cells (arr .u8 32 x.id) 26 (0, 0))) ⟨below_setRow' ((Below.refl _ _).alloc (Nat.le_refl _) _) (Nat.le_refl _) _, heap_setRow_same (heap_alloc_new _ _)⟩ ?_; intro W4 hW4; have HW4 : Hid _ := hW4; have A4 : Hid (ApA w W4 sp cap rs m) := A3.out.grow hW4.1; have HCF : Hid _ := A4.out.cf; have HCT : Hid _ := A4.out.ct; have HCN : Hid _ := A4.out.cn; have HCI : Hid (∀ i, i < 32 → W4.cell? ⟨W3.heap.size, 0 + i, none⟩ = some (.int .u8 (x.id i))) := (fun i hi => (cell_of_row _ _ _ _ _ _ hW4.2).trans (by rw [Nat.zero_add]; exact arr_get hi)); clear hW4; obtain ⟨-, -, c3, z3⟩ := A4.out.done (.slice none 0 0); have c0 := A4.out.c0) | (refine load_atg (by rfl) 26 (.tmp 42) (by rfl) (w.heap.size + 1) 1 (by rfl) .u8 32 m.frm _ HCF.out Tryz.underlying26 rfl (by kernel_rfl) ?_) | (refine load_atg (by rfl) 26 (.tmp 6) (by rfl) (w.heap.size + 1 + 1 + 1) 0 (by rfl) .u8 32 noId _ HCN.out Tryz.underlying26 rfl (by kernel_rfl) ?_) | (refine load_atg (by rfl) 26 (.tmp 51) (by rfl) (w.heap.size + 1) 1 (by rfl) .u8 32 m.frm _ HCF.out Tryz.underlying26 rfl (by kernel_rfl) ?_) | (refine load_atg (by rfl) 26 (.tmp 6) (by rfl) (w.heap.size + 1 + 1 + 1) 0 (by rfl) .u8 32 noId _ HCN.out Tryz.underlying26 rfl (by kernel_rfl) ?_) | (refine load_atg (by rfl) 26 (.tmp 7) (by rfl) (W3.heap.size) 0 (by rfl) .u8 32 x.id _ HCI.out Tryz.underlying26 rfl (by kernel_rfl) ?_) | (refine load_atg (by rfl) 26 (.tmp 62) (by rfl) (w.heap.size + 1) 1 (by rfl) .u8 32 m.frm _ HCF.out Tryz.underlying26 rfl (by kernel_rfl) ?_) | (refine load_atg (by rfl) 26 (.tmp 77) (by rfl) (w.heap.size + 1) 33 (by rfl) .u8 32 m.to _ HCT.out Tryz.underlying26 rfl (by kernel_rfl) ?_) | (refine load_atg (by rfl) 26 (.tmp 6) (by rfl) (w.heap.size + 1 + 1 + 1) 0 (by rfl) .u8 32 noId _ HCN.out Tryz.underlying26 rfl (by kernel_rfl) ?_))
      obtain ⟨r3, b3, -, -⟩ := A4.out.done (.slice none 0 0)
      have HR3 : Hid _ := r3
      clear r3
      exact bodyPost_ret (v := .tuple #[.agg #[.slice none 0 0], .int .i64 5]) (results_cell_tmp Tryz.results11 _ _ (w.heap.size + 1 + 1) 24 #[.slice none 0 0] (0, 0) _ _ rfl rfl HR3.out Tryz.underlying24 rfl (by kernel_rfl)) rfl ⟨HP.out _, b3⟩
end Go.Proofs.YtgfjjglejlnfbaaGreatDoor
