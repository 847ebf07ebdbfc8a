/- The contract of the laying of nodes. -/
import Derived.Test.YthnoiohganknnabDoorPaU
import Derived.Test.YthnoiohganknnabDoorMovesg
namespace Go.Proofs.YthnoiohganknnabDoor
open Go.RowKit

section
variable {P : Program} {ops : Array Oper} {Q : Exit → Act → World → Prop} {md : Region.Mode} {S : World → Prop} {fuel : Nat} {listed : Array Bool} {tm : Array Value} {df : List Deferred} {w : World}
  {ty0 : TypeId} {pos : String} {aft : Array Edge}
/-- A load of many cells that are known one by one is taken first. -/
theorem mv_mid (i d : Nat) (ty : TypeId) (x : Operand) (hi : ops[i]? = some ⟨some d, .load ty x, ty0, pos, aft, none⟩) (g o : Nat) (cs : Array Value) (hx : Act.eval ⟨tm, df⟩ x = .pointer (some ⟨g, o, none⟩))
    (hs : Region.noSelect ops = true) (hf : Region.free md ops listed i = true) (hr : (Region.ready md ops listed).contains i = true)
    (hQ : ∀ c a w, Q (.panic c) (a.put (some d) (.agg cs)) w → Q (.panic c) a w) (D : TypeDesc) (hc : ∀ w, S w → ∀ j u, cs[j]? = some u → w.cell? ⟨g, o + j, none⟩ = some u) (hu : P.underlying ty = some D)
    (hd : D.isRow = true) (hsz : (P.info? ty).map (·.size) = some cs.size) (hS : S w)
    (h : wpAnyH P md ops Q S fuel (listed.setIfInBounds i true) ⟨tm.setIfInBounds d (.agg cs), df⟩ w) : wpAnyH P md ops Q S (fuel + 1) listed ⟨tm, df⟩ w :=
  mv_run i d (.agg cs) hi hs hf hr hQ (fun w' hw' => by
    unfold execOp
    simp only [hx, Instr.loadAt, Instr.sureAddr, Sem.run_bind, Sem.run_pure, Result.andThen_ok, run_mid (hc w' hw') hu hd hsz]) hS h
theorem exit_gen {Q : Exit → Act → World → Prop} {e : Exit} {a : Act} {w0 : World} (F : World → Prop) (h0 : F w0) (h : ∀ W1, F W1 → Q e a W1) : Q e a w0 := h _ h0
end
theorem layL_snoc (i : Nat) : ∀ (l : List Pt) (t : Pt), layL i (l ++ [t]) = layL i l ++ layP (i + cntL l) t
  | [], t => by simp [layL, cntL]
  | a :: l, t => by
    rw [List.cons_append, layL, layL, layL_snoc _ l t, cntL, List.append_assoc, Nat.add_assoc]
theorem kidI_snoc (i : Nat) : ∀ (l : List Pt) (t : Pt), kidI i (l ++ [t]) = kidI i l ++ [i + cntL l]
  | [], t => by simp [kidI, cntL]
  | a :: l, t => by
    rw [List.cons_append, kidI, kidI, kidI_snoc _ l t, cntL, List.cons_append, Nat.add_assoc]
theorem cntL_snoc : ∀ (l : List Pt) (t : Pt), cntL (l ++ [t]) = cntL l + cntP t
  | [], t => by simp [cntL]
  | a :: l, t => by
    rw [List.cons_append, cntL, cntL, cntL_snoc l t, Nat.add_assoc]
mutual
theorem layP_len (i : Nat) : ∀ t : Pt, (layP i t).length = cntP t
  | .mk k x n a f t l => by rw [layP, List.length_cons, layL_len, cntP, Nat.add_comm]
theorem layL_len (i : Nat) : ∀ l : List Pt, (layL i l).length = cntL l
  | [] => rfl
  | t :: l => by rw [layL, List.length_append, layP_len, layL_len, cntL]
end
theorem kidI_len (i : Nat) : ∀ l : List Pt, (kidI i l).length = l.length
  | [] => rfl
  | t :: l => by rw [kidI, List.length_cons, kidI_len, List.length_cons]
theorem cntL_take (l : List Pt) : ∀ j, cntL (l.take j) ≤ cntL l := by
  induction l with
  | nil => intro j; simp
  | cons a l ih =>
    intro j
    cases j with
    | zero => simp [cntL]
    | succ j =>
      rw [List.take_succ_cons, cntL, cntL]
      have := ih j
      omega
theorem cntL_at : ∀ (l : List Pt) (j : Nat) (t : Pt), l[j]? = some t → cntL (l.take j) + cntP t ≤ cntL l
  | [], j, t, h => by simp at h
  | a :: l, 0, t, h => by
    obtain rfl : a = t := by simpa using h
    simp [cntL]
  | a :: l, j + 1, t, h => by
    have := cntL_at l j t (by simpa using h)
    rw [List.take_succ_cons, cntL, cntL]
    omega
theorem cntP_pos (t : Pt) : 1 ≤ cntP t := by cases t; rw [cntP]; omega
theorem len_cnt : ∀ l : List Pt, l.length ≤ cntL l
  | [] => Nat.le_refl _
  | t :: l => by
    have := len_cnt l
    have := cntP_pos t
    rw [List.length_cons, cntL]
    omega
/-- A part was laid as nodes. -/
def LayR (B gt gl : Nat) (w : World) (v : Value) (S : Nat → Prop) (L : List Nd) (t : Pt) (e : Ending) (w' : World) : Prop :=
  e = .returned (.int .i64 L.length) ∧ ∃ v' S', Lay B gt gl w' v' S' (L ++ layP L.length t) ∧ Oth gt v w w' ∧ (v'.ownBlock = v.ownBlock ∨ ∃ q, v'.ownBlock = some q ∧ w.heap.size ≤ q) ∧ ∀ j, S' j → S j ∨ w.heap.size ≤ j
theorem bldNd (m : NdM) (W : World) : (Instr.buildSlice 29 1 #[(0, .agg m.cells)]).run Tryd.prog W = .ok (.slice (some ⟨W.heap.size, 0, none⟩) 1 1) (W.alloc (.cells m.cells 41)) := by kernel_rfl
theorem lay_enter (args : Array Value) (W : World) : (callFunc 34 args).run Tryd.prog W = .ok (.enter 34 args) W := by rfl
/-- What stands behind the first step of the laying. -/
structure LayRest (B gt gl : Nat) (w : World) (v : Value) (S : Nat → Prop) (L : List Nd) (m : NdM) (W : World) (v1 : Value) : Prop where
  lay : Lay B gt gl W v1 S (L ++ [⟨m.k, m.x, m.n, [], m.a, m.f, m.t⟩])
  oth : Oth gt v w W
  bel : Below B w W
  own : v1.ownBlock = v.ownBlock ∨ ∃ q, v1.ownBlock = some q ∧ w.heap.size ≤ q
set_option maxRecDepth 100000 in
set_option maxHeartbeats 8000000 in
theorem lay_any (B gt gl : Nat) (SP : Nat → Prop) (hSP : ∀ j, SP j → j < B) (n : Nat) : ∀ (t : Pt) (w : World) (b : Nat) (v : Value) (S : Nat → Prop) (L : List Nd), cntP t ≤ n → PtAt w SP b t → Lay B gt gl w v S L → L.length + cntP t ≤ 500000 →
    Calls Tryd.prog 34 #[.pointer (some ⟨b, 0, none⟩), .pointer (some ⟨gt, 0, none⟩), .pointer (some ⟨gl, 0, none⟩)] w (LayR B gt gl w v S L t) := by
  induction n with
  | zero => intro t w b v S L h; cases t with | mk k x n a f t l => rw [cntP] at h; omega
  | succ n ih =>
    intro t w b v S L hcnt hpt hlay hbound
    have HIH : Hid (∀ (t : Pt) (w : World) (b : Nat) (v : Value) (S : Nat → Prop) (L : List Nd), cntP t ≤ n → PtAt w SP b t → Lay B gt gl w v S L → L.length + cntP t ≤ 500000 → Calls Tryd.prog 34 #[.pointer (some ⟨b, 0, none⟩), .pointer (some ⟨gt, 0, none⟩), .pointer (some ⟨gl, 0, none⟩)] w (LayR B gt gl w v S L t)) := ih
    have HSP : Hid (∀ j, SP j → j < B) := hSP
    clear ih hSP
    cases hpt with
    | mk _ k x nn a f tt l bs sp cp hrow hb hr hs hl hk =>
    have hcl : 1 + cntL l ≤ n + 1 := hcnt
    have hbd : L.length + (1 + cntL l) ≤ 500000 := hbound
    have hll := len_cnt l
    clear hcnt hbound
    obtain ⟨m, hm⟩ : ∃ m : NdM, m = ⟨k, x, nn, none, 0, 0, a, f, tt⟩ := ⟨_, rfl⟩
    obtain ⟨s0, n0, c0, s1, c1, W2, rfl, d0, dX, hrun, hBW, dW, zW, hL1, hO1, hv1⟩ := (hlay.below ((Below.refl w.heap.size w).drew)).one m (by rw [hm]; exact ⟨rfl, rfl, rfl⟩) (by omega)
    have HMD : Hid (m = ⟨k, x, nn, none, 0, 0, a, f, tt⟩) := hm
    clear hm
    have HL1 : Hid _ := hL1
    have HO1 : Hid _ := hO1
    have HV1 : Hid _ := hv1
    have HBW : Hid _ := hBW
    obtain ⟨s9, c9, e9⟩ := hlay.shape
    obtain ⟨e9a, e9b, e9c⟩ : s0 = s9 ∧ n0 = L.length ∧ c0 = c9 := by injection e9 with a b c; exact ⟨a, b, c⟩
    subst e9b
    clear e9 e9a e9c hL1 hO1 hv1 hBW
    have HROW : Hid (∀ W, Below B w W → W.heap[b]? = some (.cells (paC k x nn a f tt (.slice sp bs.length cp)) 79 (0, 0))) := fun W h => (h.block _ (HSP.out _ hb)).trans hrow
    have HRS : Hid (∀ W, Below B w W → RowsP W sp bs) := fun W h => hr.stay fun q hq => h.block _ (HSP.out _ (hs q hq))
    have HKD : Hid (∀ W, Below B w W → ∀ (i b' : Nat) (t' : Pt), bs[i]? = some b' → l[i]? = some t' → PtAt W SP b' t') := fun W h i b' t' e1 e2 => (hk i b' t' e1 e2).keep (fun _ h => h) fun j hj => h.block j (HSP.out j hj)
    have hw : B ≤ w.heap.size := Nat.le_trans hlay.ne.2.1 (Nat.le_of_lt (lt_of_row hlay.rt))
    have c0' : w.cell? ⟨gt, 0, none⟩ = some (.slice s0 L.length c0) := (cell_of_row _ _ _ _ _ _ hlay.rt).trans rfl
    have HOWN : Hid (∀ q, (Value.slice s0 L.length c0).ownBlock = some q → B ≤ q) := fun q hq => (hlay.own hq).1
    clear hrow hb hr hs hk hlay
    go_enter Tryd.func34, Tryd.ntmps34
    go_wp2
    have hS0 : Below B w w.drew := (Below.refl _ _).drew
    refine mv_begin (S := fun w' => Below B w w') 10 rfl (by kernel_rfl) ?_
    refine mv_rung 0 12 (.pointer (some ⟨gt, 0, none⟩)) rfl (by rfl) (by kernel_rfl) (by kernel_rfl) (by kernel_rfl) (fun _ _ _ h => h) (fun w' _ => by first | rfl | go_simp) hS0 ?_
    simp only [List.setIfInBounds_toArray, List.set_cons_succ, List.set_cons_zero]
    refine mv_rung 2 14 (.pointer (some ⟨b, 0, none⟩)) rfl (by rfl) (by kernel_rfl) (by kernel_rfl) (by kernel_rfl) (fun _ _ _ h => h) (fun w' _ => by first | rfl | go_simp) hS0 ?_
    simp only [List.setIfInBounds_toArray, List.set_cons_succ, List.set_cons_zero]
    refine mv_rung 3 15 (.pointer (some ⟨b, 0, none⟩)) rfl (by rfl) (by kernel_rfl) (by kernel_rfl) (by kernel_rfl) (fun _ _ _ h => h) (fun w' _ => by first | rfl | go_simp) hS0 ?_
    simp only [List.setIfInBounds_toArray, List.set_cons_succ, List.set_cons_zero]
    refine mv_rung 4 16 (.pointer (some ⟨b, 0, none⟩)) rfl (by rfl) (by kernel_rfl) (by kernel_rfl) (by kernel_rfl) (fun _ _ _ h => h) (fun w' _ => by first | rfl | go_simp) hS0 ?_
    simp only [List.setIfInBounds_toArray, List.set_cons_succ, List.set_cons_zero]
    refine mv_mid 5 17 41 (.tmp 16) rfl b 0 m.cells (by rfl) (by kernel_rfl) (by kernel_rfl) (by kernel_rfl) (fun _ _ _ h => h) _ (fun w' hw' j u hu => by
      have h := cell_of_row _ _ (0 + j) _ _ _ (HROW.out w' hw')
      rw [h]
      rw [HMD.out] at hu
      have hj : j < 7 := by have := (Array.getElem?_eq_some_iff.1 hu).1; exact this
      match j, hj with
      | 0, _ => exact hu
      | 1, _ => exact hu
      | 2, _ => exact hu
      | 3, _ => exact hu
      | 4, _ => exact hu
      | 5, _ => exact hu
      | 6, _ => exact hu) Tryd.underlying41 rfl (by kernel_rfl) hS0 ?_
    simp only [List.setIfInBounds_toArray, List.set_cons_succ, List.set_cons_zero]
    have hSX : Below B w (w.drew.alloc (.cells m.cells 41)) := hS0.alloc hw _
    have hSW : Below B w W2 := ⟨HBW.out.os, HBW.out.tape, HBW.out.output, HBW.out.size, HBW.out.block⟩
    have HFIN : Hid (LayRest B gt gl w (.slice s0 L.length c0) S L m (W2.setCell ⟨gt, 0, none⟩ (.slice s1 (L.length + 1) c1)) (.slice s1 (L.length + 1) c1)) := ⟨HL1.out, ⟨HO1.out.os, HO1.out.tape, HO1.out.output, HO1.out.size, HO1.out.block⟩, hSW.setCell (p := ⟨gt, 0, none⟩) HL1.out.ne.2.1 _, HV1.out⟩
    clear HL1 HO1 HV1 HBW
    refine wpAnyH_all (rs := [1, 6]) (by kernel_rfl) (by simp) fun i hi => ?_
    simp only [List.mem_cons, List.not_mem_nil, or_false] at hi
    rcases hi with rfl | rfl
    · refine wpOp_plain rfl rfl ?_
      refine op_value (.slice s0 L.length c0) (by go_simp) ?_
      refine ⟨hS0, ?_⟩
      simp only [Act.put]
      refine mv_next 6 rfl (by kernel_rfl) ?_
      refine op_buildOne 29 (.tmp 17) rfl (.agg m.cells) rfl (bldNd m w.drew) ?_
      refine ⟨hSX, ?_⟩
      simp only [Act.put]
      refine mv_next 7 rfl (by kernel_rfl) ?_
      refine op_append (.tmp 13) (.tmp 18) 29 rfl rfl rfl hrun ?_
      refine ⟨hSW, ?_⟩
      simp only [Act.put]
      refine mv_rung 8 20 (.pointer (some ⟨gt, 0, none⟩)) rfl (by rfl) (by kernel_rfl) (by kernel_rfl) (by kernel_rfl) (fun _ _ _ h => h) (fun w' _ => by first | rfl | go_simp) hSW ?_
      simp only [List.setIfInBounds_toArray, List.set_cons_succ, List.set_cons_zero]
      refine mv_next 9 rfl (by kernel_rfl) ?_
      go_simp
      refine ⟨HFIN.out.bel, ?_⟩
      refine wpAnyH_done (by kernel_rfl) ?_ _
      refine exit_gen (fun W => LayRest B gt gl w (.slice s0 L.length c0) S L m W (.slice s1 (L.length + 1) c1)) HFIN.out ?_
      clear HFIN hrun d0 dX dW zW hSX hSW hS0 c0'
      intro W3 hF
      have HF3 : Hid _ := hF
      clear hF
      have c7 : W3.cell? ⟨b, 7, none⟩ = some (.slice sp bs.length cp) := (cell_of_row _ _ 7 _ _ _ (HROW.out W3 HF3.out.bel)).trans rfl
      go_wp2
      go_loopw [6, 26] (fun u i wr => ∃ (j : Nat) (v' : Value) (S' : Nat → Prop), j ≤ l.length ∧ i = .int .i64 j ∧ OwnI w.heap.size wr u (kidI (L.length + 1) (l.take j)) ∧ Lay B gt gl wr v' S' (L ++ ⟨m.k, m.x, m.n, [], m.a, m.f, m.t⟩ :: layL (L.length + 1) (l.take j)) ∧ Oth gt (.slice s0 L.length c0) w wr ∧ Below B w wr ∧ (v'.ownBlock = (Value.slice s0 L.length c0).ownBlock ∨ ∃ q, v'.ownBlock = some q ∧ w.heap.size ≤ q) ∧ (∀ q, S' q → S q ∨ w.heap.size ≤ q) ∧ ∀ q, S' q → u.ownBlock ≠ some q) (fun _ i _ => l.length - (intOf i).toNat)
      case atStart => exact ⟨0, _, S, Nat.zero_le _, rfl, ownG_nil _ _, HF3.out.lay, HF3.out.oth, HF3.out.bel, HF3.out.own, fun _ h => .inl h, fun _ _ e => by cases e⟩
      case round =>
        obtain ⟨j, v', S', hj, rfl, hu, hL, hO, hB, hv, hS1, hS2⟩ := hrel
        have HU : Hid (OwnI w.heap.size wr u6 (kidI (L.length + 1) (l.take j))) := hu
        have HL : Hid (Lay B gt gl wr v' S' (L ++ ⟨m.k, m.x, m.n, [], m.a, m.f, m.t⟩ :: layL (L.length + 1) (l.take j))) := hL
        have HO : Hid (Oth gt (.slice s0 L.length c0) w wr) := hO
        have HB : Hid (Below B w wr) := hB
        have HV : Hid (v'.ownBlock = (Value.slice s0 L.length c0).ownBlock ∨ ∃ q, v'.ownBlock = some q ∧ w.heap.size ≤ q) := hv
        have HS1 : Hid (∀ q, S' q → S q ∨ w.heap.size ≤ q) := hS1
        have HS2 : Hid (∀ q, S' q → u6.ownBlock ≠ some q) := hS2
        have hsz := hO.size
        clear hu hL hO hB hv hS1 hS2 HF3 c7
        have HLEN : Hid ((L ++ (⟨m.k, m.x, m.n, [], m.a, m.f, m.t⟩ : Nd) :: layL (L.length + 1) (l.take j)).length = L.length + 1 + cntL (l.take j)) := by show _ = _; rw [List.length_append, List.length_cons, layL_len]; omega
        by_cases hlt : j < l.length
        · obtain ⟨bj, hbj⟩ : ∃ bj, bs[j]? = some bj := ⟨_, List.getElem?_eq_getElem (by omega)⟩
          obtain ⟨tj, htj⟩ : ∃ tj, l[j]? = some tj := ⟨_, List.getElem?_eq_getElem (by omega)⟩
          have hc1 := cntL_at l j tj htj
          have HTK : Hid (l.take (j + 1) = l.take j ++ [tj]) := by show _ = _; rw [List.take_add_one, htj]; rfl
          have HKJ : Hid (PtAt wr SP bj tj) := HKD.out wr HB.out j bj tj hbj htj
          obtain ⟨pb, po, hsp, hcells⟩ := HRS.out wr HB.out (by omega)
          have cj : wr.cell? ⟨pb, po + j, none⟩ = some (.pointer (some ⟨bj, 0, none⟩)) := by
            have h := hcells j bj hbj 0 _ rfl
            rw [Nat.mul_one, Nat.add_zero] at h
            exact h
          have cg : wr.cell? ⟨gl, 0, none⟩ = some (.func (Fn.func 34) #[] #[.pointer (some ⟨gt, 0, none⟩), .pointer (some ⟨gl, 0, none⟩)]) := (cell_of_row _ _ _ _ _ _ HL.out.rl).trans rfl
          have hd : decide ((j : Int) < bs.length) = true := by simp; omega
          have hjb : j < bs.length := by omega
          have hcf := lay_enter
          subst hsp
          clear hbj htj hcells
          go_wp2_with fail
          refine (HIH.out tj wr bj v' S' _ (by omega) HKJ.out HL.out (by rw [HLEN.out]; omega)).mono ?_
          rintro e W4 ⟨rfl, v4, S4, hL4, hO4, hv4, hS4⟩
          rw [HLEN.out] at hL4 ⊢
          have HL4 : Hid (Lay B gt gl W4 v4 S4 (L ++ ⟨m.k, m.x, m.n, [], m.a, m.f, m.t⟩ :: layL (L.length + 1) (l.take (j + 1)))) := by
            show Lay _ _ _ _ _ _ _
            rw [HTK.out, layL_snoc, ← List.cons_append, ← List.append_assoc]
            exact hL4
          have hua := HL.out.apart HU.out
          have HU4 : Hid (OwnI w.heap.size W4 u6 (kidI (L.length + 1) (l.take j))) := HU.out.keep fun q hq => hO4.block q (HU.out.lt hq).2 (hua q hq).1 (hua q hq).2.2
          have HO4 : Hid (Oth gt (.slice s0 L.length c0) w W4) := HO.out.trans HV.out hO4
          have HV4 : Hid (v4.ownBlock = (Value.slice s0 L.length c0).ownBlock ∨ ∃ q, v4.ownBlock = some q ∧ w.heap.size ≤ q) := by
            show _ ∨ _
            rcases hv4 with h | ⟨q, h, hq⟩
            · rw [h]; exact HV.out
            · exact .inr ⟨q, h, by omega⟩
          have HS4 : Hid (∀ q, S4 q → S q ∨ w.heap.size ≤ q) := fun q hq => (hS4 q hq).elim (HS1.out q) fun h => .inr (by omega)
          have HT4 : Hid (∀ q, S4 q → u6.ownBlock ≠ some q) := fun q hq => (hS4 q hq).elim (HS2.out q) fun h e => by have := (HU.out.lt e).2; omega
          have hs4 := hO4.size
          have HS5 : Hid (∀ q, S4 q → q < W4.heap.size) := fun q hq => by
            obtain ⟨N, -, -, h3⟩ := hL4.ex
            exact (h3 q hq).2.1
          clear hL4 hO4 hv4 hS4 hua HL HO HV HS1 HS2 HU HKJ cj cg
          obtain ⟨s6, c6, rfl⟩ := OwnG.shape HU4.out
          have hbA : Below W4.heap.size W4 (W4.alloc (.cells #[.int .i64 ((L.length + 1 + cntL (l.take j) : Nat) : Int)] 3)) := (Below.refl _ _).alloc (Nat.le_refl _) _
          have hrow6 := heap_alloc_new W4 (.cells #[.int .i64 ((L.length + 1 + cntL (l.take j) : Nat) : Int)] 3)
          have hsA : (W4.alloc (.cells #[.int .i64 ((L.length + 1 + cntL (l.take j) : Nat) : Int)] 3)).heap.size = W4.heap.size + 1 := by simp
          obtain ⟨v7, W7, hrun7, ho7, hg7, hq7⟩ := own_run (ys := [L.length + 1 + cntL (l.take j)]) (cap := 1) elI 39 (HU4.out.below hbA) (fun e => by cases e) (oneG_rows hrow6) (by rw [kidI_len, List.length_take, List.length_singleton]; omega) (by omega)
          obtain ⟨n7, hn7⟩ : ∃ n7, (kidI (L.length + 1) (l.take j) ++ [L.length + 1 + cntL (l.take j)]).length = n7 := ⟨_, rfl⟩
          obtain ⟨s7, c7, rfl⟩ := OwnG.shape ho7
          rw [hn7] at hrun7 ho7 hq7
          have HU7 : Hid (OwnI w.heap.size W7 (.slice s7 n7 c7) (kidI (L.length + 1) (l.take (j + 1)))) := by
            show OwnG _ _ _ _ _ _ _
            rw [HTK.out, kidI_snoc]
            exact ho7
          have HL7 : Hid (Lay B gt gl W7 v4 S4 (L ++ ⟨m.k, m.x, m.n, [], m.a, m.f, m.t⟩ :: layL (L.length + 1) (l.take (j + 1)))) := (HL4.out.below hbA).beside (HU4.out.below hbA) HT4.out hg7
          have hs7 := hg7.size
          have hk7 : ∀ q, q < w.heap.size → W7.heap[q]? = W4.heap[q]? := fun q hq => (hg7.block q (by omega) fun e => by have := (HU4.out.lt e.symm).1; omega).trans (hbA.block q (by omega))
          have HO7 : Hid (Oth gt (.slice s0 L.length c0) w W7) := ⟨(hg7.os.trans hbA.os).trans HO4.out.os, (hg7.tape.trans hbA.tape).trans HO4.out.tape, (hg7.output.trans hbA.output).trans HO4.out.output, by omega, fun q hq hqt hqv => (hk7 q hq).trans (HO4.out.block q hq hqt hqv)⟩
          have HB7 : Hid (Below B w W7) := ⟨HO7.out.os, HO7.out.tape, HO7.out.output, HO7.out.size, fun q hq => HO7.out.block q (by omega) (by have := HL7.out.ne.2.1; omega) fun e => by have := HOWN.out q e; omega⟩
          have HT7 : Hid (∀ q, S4 q → (Value.slice s7 n7 c7).ownBlock ≠ some q) := fun q hq e => by
            rcases hq7 with h | h
            · exact HT4.out q hq (h.symm.trans e)
            · rw [h] at e
              injection e with e
              have := HS5.out q hq
              omega
          clear ho7 hg7 hq7 hrow6 hbA hsA hk7 HL4 HU4 HO4 HT4 HS5 hn7
          go_wp2_with (refine list_appendg (.tmp 30) (.tmp 34) 39 (by rfl) (by rfl) (by rfl) (by rfl) hrun7 ?_)
          exact ⟨⟨j + 1, v4, S4, by omega, by go_num, HU7.out, HL7.out, HO7.out, HB7.out, HV4.out, HS4.out, HT7.out⟩, by simp [intOf]; omega⟩
        · obtain rfl : j = l.length := by omega
          have hd : decide ((l.length : Int) < bs.length) = false := by simp; omega
          rw [List.take_length] at HL HU
          obtain ⟨g9, su, cu, n9, c9, old, rfl, hn9, rfl, q1, q2, hL9, hO9⟩ := HL.out.kids HU.out (by have := HL.out.ne.2.1; have := hw; omega)
          have HL9 : Hid _ := hL9
          have HO9 : Hid (Oth gt (.slice s0 L.length c0) w _) := HO.out.trans HV.out hO9
          have cg : wr.cell? ⟨gt, 0, none⟩ = some (.slice (some ⟨g9, 0, none⟩) n9 c9) := (cell_of_row _ _ _ _ _ _ HL.out.rt).trans rfl
          have HUL : Hid (∀ q, (Value.slice su (kidI (L.length + 1) l).length cu).ownBlock = some q → w.heap.size ≤ q) := fun q hq => (HU.out.lt hq).1
          clear hL9 hO9 HL HO HU HS2 HLEN
          generalize (kidI (L.length + 1) l).length = nk at HL9 HO9 HUL q1 q2 ⊢
          go_wp2
          go_ret
          have h := HL9.out
          rw [HMD.out] at h
          exact ⟨rfl, _, _, h, HO9.out, HV.out, fun q hq => by
            rcases hq with hq | hq
            · exact HS1.out q hq
            · exact .inr (HUL.out q hq)⟩
    · refine wpOp_plain rfl rfl ?_
      refine op_buildOne 29 (.tmp 17) rfl (.agg m.cells) rfl (bldNd m w.drew) ?_
      refine ⟨hSX, ?_⟩
      simp only [Act.put]
      refine mv_next 1 rfl (by kernel_rfl) ?_
      have dX' : (w.alloc (.cells m.cells 41)).cell? ⟨gt, 0, none⟩ = some (.slice s0 L.length c0) := dX
      refine op_value (.slice s0 L.length c0) (by go_simp) ?_
      clear dX'
      refine ⟨hSX, ?_⟩
      simp only [Act.put]
      refine mv_next 7 rfl (by kernel_rfl) ?_
      refine op_append (.tmp 13) (.tmp 18) 29 rfl rfl rfl hrun ?_
      refine ⟨hSW, ?_⟩
      simp only [Act.put]
      refine mv_rung 8 20 (.pointer (some ⟨gt, 0, none⟩)) rfl (by rfl) (by kernel_rfl) (by kernel_rfl) (by kernel_rfl) (fun _ _ _ h => h) (fun w' _ => by first | rfl | go_simp) hSW ?_
      simp only [List.setIfInBounds_toArray, List.set_cons_succ, List.set_cons_zero]
      refine mv_next 9 rfl (by kernel_rfl) ?_
      go_simp
      refine ⟨HFIN.out.bel, ?_⟩
      refine wpAnyH_done (by kernel_rfl) ?_ _
      refine exit_gen (fun W => LayRest B gt gl w (.slice s0 L.length c0) S L m W (.slice s1 (L.length + 1) c1)) HFIN.out ?_
      clear HFIN hrun d0 dX dW zW hSX hSW hS0 c0'
      intro W3 hF
      have HF3 : Hid _ := hF
      clear hF
      have c7 : W3.cell? ⟨b, 7, none⟩ = some (.slice sp bs.length cp) := (cell_of_row _ _ 7 _ _ _ (HROW.out W3 HF3.out.bel)).trans rfl
      go_wp2
      go_loopw [6, 26] (fun u i wr => ∃ (j : Nat) (v' : Value) (S' : Nat → Prop), j ≤ l.length ∧ i = .int .i64 j ∧ OwnI w.heap.size wr u (kidI (L.length + 1) (l.take j)) ∧ Lay B gt gl wr v' S' (L ++ ⟨m.k, m.x, m.n, [], m.a, m.f, m.t⟩ :: layL (L.length + 1) (l.take j)) ∧ Oth gt (.slice s0 L.length c0) w wr ∧ Below B w wr ∧ (v'.ownBlock = (Value.slice s0 L.length c0).ownBlock ∨ ∃ q, v'.ownBlock = some q ∧ w.heap.size ≤ q) ∧ (∀ q, S' q → S q ∨ w.heap.size ≤ q) ∧ ∀ q, S' q → u.ownBlock ≠ some q) (fun _ i _ => l.length - (intOf i).toNat)
      case atStart => exact ⟨0, _, S, Nat.zero_le _, rfl, ownG_nil _ _, HF3.out.lay, HF3.out.oth, HF3.out.bel, HF3.out.own, fun _ h => .inl h, fun _ _ e => by cases e⟩
      case round =>
        obtain ⟨j, v', S', hj, rfl, hu, hL, hO, hB, hv, hS1, hS2⟩ := hrel
        have HU : Hid (OwnI w.heap.size wr u6 (kidI (L.length + 1) (l.take j))) := hu
        have HL : Hid (Lay B gt gl wr v' S' (L ++ ⟨m.k, m.x, m.n, [], m.a, m.f, m.t⟩ :: layL (L.length + 1) (l.take j))) := hL
        have HO : Hid (Oth gt (.slice s0 L.length c0) w wr) := hO
        have HB : Hid (Below B w wr) := hB
        have HV : Hid (v'.ownBlock = (Value.slice s0 L.length c0).ownBlock ∨ ∃ q, v'.ownBlock = some q ∧ w.heap.size ≤ q) := hv
        have HS1 : Hid (∀ q, S' q → S q ∨ w.heap.size ≤ q) := hS1
        have HS2 : Hid (∀ q, S' q → u6.ownBlock ≠ some q) := hS2
        have hsz := hO.size
        clear hu hL hO hB hv hS1 hS2 HF3 c7
        have HLEN : Hid ((L ++ (⟨m.k, m.x, m.n, [], m.a, m.f, m.t⟩ : Nd) :: layL (L.length + 1) (l.take j)).length = L.length + 1 + cntL (l.take j)) := by show _ = _; rw [List.length_append, List.length_cons, layL_len]; omega
        by_cases hlt : j < l.length
        · obtain ⟨bj, hbj⟩ : ∃ bj, bs[j]? = some bj := ⟨_, List.getElem?_eq_getElem (by omega)⟩
          obtain ⟨tj, htj⟩ : ∃ tj, l[j]? = some tj := ⟨_, List.getElem?_eq_getElem (by omega)⟩
          have hc1 := cntL_at l j tj htj
          have HTK : Hid (l.take (j + 1) = l.take j ++ [tj]) := by show _ = _; rw [List.take_add_one, htj]; rfl
          have HKJ : Hid (PtAt wr SP bj tj) := HKD.out wr HB.out j bj tj hbj htj
          obtain ⟨pb, po, hsp, hcells⟩ := HRS.out wr HB.out (by omega)
          have cj : wr.cell? ⟨pb, po + j, none⟩ = some (.pointer (some ⟨bj, 0, none⟩)) := by
            have h := hcells j bj hbj 0 _ rfl
            rw [Nat.mul_one, Nat.add_zero] at h
            exact h
          have cg : wr.cell? ⟨gl, 0, none⟩ = some (.func (Fn.func 34) #[] #[.pointer (some ⟨gt, 0, none⟩), .pointer (some ⟨gl, 0, none⟩)]) := (cell_of_row _ _ _ _ _ _ HL.out.rl).trans rfl
          have hd : decide ((j : Int) < bs.length) = true := by simp; omega
          have hjb : j < bs.length := by omega
          have hcf := lay_enter
          subst hsp
          clear hbj htj hcells
          go_wp2_with fail
          refine (HIH.out tj wr bj v' S' _ (by omega) HKJ.out HL.out (by rw [HLEN.out]; omega)).mono ?_
          rintro e W4 ⟨rfl, v4, S4, hL4, hO4, hv4, hS4⟩
          rw [HLEN.out] at hL4 ⊢
          have HL4 : Hid (Lay B gt gl W4 v4 S4 (L ++ ⟨m.k, m.x, m.n, [], m.a, m.f, m.t⟩ :: layL (L.length + 1) (l.take (j + 1)))) := by
            show Lay _ _ _ _ _ _ _
            rw [HTK.out, layL_snoc, ← List.cons_append, ← List.append_assoc]
            exact hL4
          have hua := HL.out.apart HU.out
          have HU4 : Hid (OwnI w.heap.size W4 u6 (kidI (L.length + 1) (l.take j))) := HU.out.keep fun q hq => hO4.block q (HU.out.lt hq).2 (hua q hq).1 (hua q hq).2.2
          have HO4 : Hid (Oth gt (.slice s0 L.length c0) w W4) := HO.out.trans HV.out hO4
          have HV4 : Hid (v4.ownBlock = (Value.slice s0 L.length c0).ownBlock ∨ ∃ q, v4.ownBlock = some q ∧ w.heap.size ≤ q) := by
            show _ ∨ _
            rcases hv4 with h | ⟨q, h, hq⟩
            · rw [h]; exact HV.out
            · exact .inr ⟨q, h, by omega⟩
          have HS4 : Hid (∀ q, S4 q → S q ∨ w.heap.size ≤ q) := fun q hq => (hS4 q hq).elim (HS1.out q) fun h => .inr (by omega)
          have HT4 : Hid (∀ q, S4 q → u6.ownBlock ≠ some q) := fun q hq => (hS4 q hq).elim (HS2.out q) fun h e => by have := (HU.out.lt e).2; omega
          have hs4 := hO4.size
          have HS5 : Hid (∀ q, S4 q → q < W4.heap.size) := fun q hq => by
            obtain ⟨N, -, -, h3⟩ := hL4.ex
            exact (h3 q hq).2.1
          clear hL4 hO4 hv4 hS4 hua HL HO HV HS1 HS2 HU HKJ cj cg
          obtain ⟨s6, c6, rfl⟩ := OwnG.shape HU4.out
          have hbA : Below W4.heap.size W4 (W4.alloc (.cells #[.int .i64 ((L.length + 1 + cntL (l.take j) : Nat) : Int)] 3)) := (Below.refl _ _).alloc (Nat.le_refl _) _
          have hrow6 := heap_alloc_new W4 (.cells #[.int .i64 ((L.length + 1 + cntL (l.take j) : Nat) : Int)] 3)
          have hsA : (W4.alloc (.cells #[.int .i64 ((L.length + 1 + cntL (l.take j) : Nat) : Int)] 3)).heap.size = W4.heap.size + 1 := by simp
          obtain ⟨v7, W7, hrun7, ho7, hg7, hq7⟩ := own_run (ys := [L.length + 1 + cntL (l.take j)]) (cap := 1) elI 39 (HU4.out.below hbA) (fun e => by cases e) (oneG_rows hrow6) (by rw [kidI_len, List.length_take, List.length_singleton]; omega) (by omega)
          obtain ⟨n7, hn7⟩ : ∃ n7, (kidI (L.length + 1) (l.take j) ++ [L.length + 1 + cntL (l.take j)]).length = n7 := ⟨_, rfl⟩
          obtain ⟨s7, c7, rfl⟩ := OwnG.shape ho7
          rw [hn7] at hrun7 ho7 hq7
          have HU7 : Hid (OwnI w.heap.size W7 (.slice s7 n7 c7) (kidI (L.length + 1) (l.take (j + 1)))) := by
            show OwnG _ _ _ _ _ _ _
            rw [HTK.out, kidI_snoc]
            exact ho7
          have HL7 : Hid (Lay B gt gl W7 v4 S4 (L ++ ⟨m.k, m.x, m.n, [], m.a, m.f, m.t⟩ :: layL (L.length + 1) (l.take (j + 1)))) := (HL4.out.below hbA).beside (HU4.out.below hbA) HT4.out hg7
          have hs7 := hg7.size
          have hk7 : ∀ q, q < w.heap.size → W7.heap[q]? = W4.heap[q]? := fun q hq => (hg7.block q (by omega) fun e => by have := (HU4.out.lt e.symm).1; omega).trans (hbA.block q (by omega))
          have HO7 : Hid (Oth gt (.slice s0 L.length c0) w W7) := ⟨(hg7.os.trans hbA.os).trans HO4.out.os, (hg7.tape.trans hbA.tape).trans HO4.out.tape, (hg7.output.trans hbA.output).trans HO4.out.output, by omega, fun q hq hqt hqv => (hk7 q hq).trans (HO4.out.block q hq hqt hqv)⟩
          have HB7 : Hid (Below B w W7) := ⟨HO7.out.os, HO7.out.tape, HO7.out.output, HO7.out.size, fun q hq => HO7.out.block q (by omega) (by have := HL7.out.ne.2.1; omega) fun e => by have := HOWN.out q e; omega⟩
          have HT7 : Hid (∀ q, S4 q → (Value.slice s7 n7 c7).ownBlock ≠ some q) := fun q hq e => by
            rcases hq7 with h | h
            · exact HT4.out q hq (h.symm.trans e)
            · rw [h] at e
              injection e with e
              have := HS5.out q hq
              omega
          clear ho7 hg7 hq7 hrow6 hbA hsA hk7 HL4 HU4 HO4 HT4 HS5 hn7
          go_wp2_with (refine list_appendg (.tmp 30) (.tmp 34) 39 (by rfl) (by rfl) (by rfl) (by rfl) hrun7 ?_)
          exact ⟨⟨j + 1, v4, S4, by omega, by go_num, HU7.out, HL7.out, HO7.out, HB7.out, HV4.out, HS4.out, HT7.out⟩, by simp [intOf]; omega⟩
        · obtain rfl : j = l.length := by omega
          have hd : decide ((l.length : Int) < bs.length) = false := by simp; omega
          rw [List.take_length] at HL HU
          obtain ⟨g9, su, cu, n9, c9, old, rfl, hn9, rfl, q1, q2, hL9, hO9⟩ := HL.out.kids HU.out (by have := HL.out.ne.2.1; have := hw; omega)
          have HL9 : Hid _ := hL9
          have HO9 : Hid (Oth gt (.slice s0 L.length c0) w _) := HO.out.trans HV.out hO9
          have cg : wr.cell? ⟨gt, 0, none⟩ = some (.slice (some ⟨g9, 0, none⟩) n9 c9) := (cell_of_row _ _ _ _ _ _ HL.out.rt).trans rfl
          have HUL : Hid (∀ q, (Value.slice su (kidI (L.length + 1) l).length cu).ownBlock = some q → w.heap.size ≤ q) := fun q hq => (HU.out.lt hq).1
          clear hL9 hO9 HL HO HU HS2 HLEN
          generalize (kidI (L.length + 1) l).length = nk at HL9 HO9 HUL q1 q2 ⊢
          go_wp2
          go_ret
          have h := HL9.out
          rw [HMD.out] at h
          exact ⟨rfl, _, _, h, HO9.out, HV.out, fun q hq => by
            rcases hq with hq | hq
            · exact HS1.out q hq
            · exact .inr (HUL.out q hq)⟩
end Go.Proofs.YthnoiohganknnabDoor
