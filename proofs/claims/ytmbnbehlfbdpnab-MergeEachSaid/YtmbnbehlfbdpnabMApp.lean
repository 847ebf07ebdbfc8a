/- An append inside a fence, by what it leaves; what join's two appends leave. No function of the program is walked here. -/
import Derived.Test.YtmbnbehlfbdpnabMJoi
namespace Go.Proofs.Ytmbnbehlfbdpnab
open Go.RowKit

/-- An append, where its run is known. -/
theorem opIn_append {F : Fence} {n : Nat} {P : Program} {Q : Exit → Act → World → Prop} {K : Act → World → Prop} {a : Act} {w w' : World} {o : Oper} {v' vs vx : Value} (s x : Operand) (t : TypeId)
    (ho : o.op = .call { callee := .builtin .append, args := #[s, x], argTypes := #[t, t] }) (hs : a.eval s = vs) (hx : a.eval x = vx) (hr : (Builtin.append_ #[t, t] o.type #[vs, vx]).run P w = .ok v' w') (h : K (a.put o.dst v') w') : o.wpIn F n P a w K Q := by
  have hd : ∀ c, o.op ≠ .defer c := fun c e => by rw [ho] at e; cases e
  refine ⟨fun f hf => ?_, ?_⟩
  · simp [Oper.about, ho, resolve, Target.leads, Sem.run_pure] at hf
  · rw [Oper.semAt_plain F _ _ hd]
    unfold execOp
    simp only [ho, resolve, invoke, builtin, Sem.run_bind, Sem.run_pure, Result.andThen_ok, List.map_toArray, List.map_cons, List.map_nil, hs, hx, hr]
    exact h
theorem listIn_append {F : Fence} {n : Nat} {P : Program} {ops : Array Oper} {rest : List Oper} {Q : Exit → Act → World → Prop} {a : Act} {w w' : World} {o : Oper} {v' vs vx : Value} (hgd : o.guard = none) (s x : Operand) (t : TypeId)
    (ho : o.op = .call { callee := .builtin .append, args := #[s, x], argTypes := #[t, t] }) (hs : a.eval s = vs) (hx : a.eval x = vx) (hr : (Builtin.append_ #[t, t] o.type #[vs, vx]).run P w = .ok v' w') (h : wpListIn F n P ops Q rest (a.put o.dst v') w') : wpListIn F n P ops Q (o :: rest) a w :=
  wpListIn_plain hgd fun _ hK => opIn_append s x t ho hs hx hr (hK _ _ h)
theorem anyIn_append {F : Fence} {n : Nat} {P : Program} {ops : Array Oper} {Q : Exit → Act → World → Prop} {K : Act → World → Prop} {a : Act} {w w' : World} {o : Oper} {v' vs vx : Value} (hgd : o.guard = none) (s x : Operand) (t : TypeId)
    (ho : o.op = .call { callee := .builtin .append, args := #[s, x], argTypes := #[t, t] }) (hs : a.eval s = vs) (hx : a.eval x = vx) (hr : (Builtin.append_ #[t, t] o.type #[vs, vx]).run P w = .ok v' w') (h : K (a.put o.dst v') w') :
    if Region.wanted o (yielded ops a.tmps) = true then Oper.wpIn F n P o a w K Q else (∀ f, o.about P w a.eval = some f → F.fn f) ∧ K (a.put o.dst undef) w := by
  rw [if_pos (wanted_plain hgd)]
  exact opIn_append s x t ho hs hx hr h

/-- What is kept of a round's world. -/
structure Kept (w W : World) (fb cb : Nat) (vf vc : Value) (pre : List Ps) (W2 : World) : Prop where
  ko : KeepsOthers W W2
  kt : KeepsT W W2
  bf : Boxed W2 fb 22 vf
  bc : Boxed W2 cb 29 vc
  of : OwnF w.heap.size W2 vf (joinF pre)
  oc : OwnC w.heap.size W2 vc (joinC pre)
  bl : Below w.heap.size w W2
theorem Kept.below {w W : World} {fb cb : Nat} {vf vc : Value} {pre : List Ps} {W2 W3 : World} (h : Kept w W fb cb vf vc pre W2) (hb : Below W2.heap.size W2 W3) : Kept w W fb cb vf vc pre W3 :=
  ⟨h.ko.trans (KeepsOthers.of_grownBy (grown_of hb) (fun j o e => by cases e)), h.kt.trans (KeepsT.grown (grown_of hb) (fun r e => by cases e)), h.bf.kept (grown_of hb) (by simp), h.bc.kept (grown_of hb) (by simp), h.of.below hb, h.oc.below hb, h.bl.trans (hb.mono h.bl.size)⟩

/-- A clash more. -/
theorem Kept.clash {w W : World} {fb cb : Nat} {vf vc : Value} {pre : List Ps} {W2 : World} (h : Kept w W fb cb vf vc pre W2) (p : Ps) (ty : TypeId) (hcb : w.heap.size ≤ cb) (hlen : (joinC pre).length + 1 ≤ 100000) (hF : fileOf p = []) (hC : clashOf p = [⟨p.1, p.2⟩]) :
    ∃ sp k cap W', (Builtin.append_ #[29, 29] ty #[vc, .slice (some ⟨W2.heap.size, 0, none⟩) 1 1]).run Try.prog (W2.alloc (.cells (Cl.cells ⟨p.1, p.2⟩) 44)) = .ok (.slice sp k cap) W' ∧ W'.cell? ⟨cb, 0, none⟩ = some vc ∧ W'.frozen? ⟨cb, 0, none⟩ = false ∧
      KeepsOthers W (W'.setCell ⟨cb, 0, none⟩ (.slice sp k cap)) ∧ KeepsT W (W'.setCell ⟨cb, 0, none⟩ (.slice sp k cap)) ∧ JI w fb cb (pre ++ [p]) (W'.setCell ⟨cb, 0, none⟩ (.slice sp k cap)) := by
  have k := h.below ((Below.refl _ W2).alloc (Nat.le_refl _) (.cells (Cl.cells ⟨p.1, p.2⟩) 44))
  obtain ⟨v', W', hr, ho, hg⟩ := clash_run ty k.oc (heap_alloc_new W2 (.cells (Cl.cells ⟨p.1, p.2⟩) 44)) hlen k.bl.size
  obtain ⟨sp, cap, rfl, -⟩ := ho.rows
  have hnc : ∀ k', vc.ownBlock = some k' → ∃ cs, (W2.alloc (.cells (Cl.cells ⟨p.1, p.2⟩) 44)).heap[k']? = some (.cells cs 44 (0, 0)) := fun k' hk => k.oc.row hk
  have hne : ∀ (B : Nat) (t : TypeId) (v : Value), Boxed (W2.alloc (.cells (Cl.cells ⟨p.1, p.2⟩) 44)) B t v → t ≠ 44 → some B ≠ vc.ownBlock := fun B t v hb ht e => by
    obtain ⟨cs, hcs⟩ := hnc B e.symm
    have hb' : (W2.alloc (.cells (Cl.cells ⟨p.1, p.2⟩) 44)).heap[B]? = some (.cells #[v] t (0, 0)) := hb
    rw [hb'] at hcs
    injection hcs with hcs
    injection hcs with _ hcs
    exact ht hcs
  have bf1 := k.bf.kept hg (hne _ _ _ k.bf (by decide))
  have bc1 := k.bc.kept hg (hne _ _ _ k.bc (by decide))
  have hfc : fb ≠ cb := fun e => by
    have h1 : W2.heap[fb]? = some (.cells #[vf] 22 (0, 0)) := h.bf
    have h2 : W2.heap[cb]? = some (.cells #[vc] 29 (0, 0)) := h.bc
    rw [e, h2] at h1
    injection h1 with h1
    injection h1 with _ h1
    exact absurd h1 (by decide)
  have of1 : OwnF w.heap.size W' vf (joinF pre) := k.of.keep fun k' hk => hg.block k' (k.of.lt hk).2 fun e => by
    obtain ⟨cs, hcs⟩ := hnc k' e.symm
    obtain ⟨cs', hcs'⟩ := k.of.row hk
    rw [hcs] at hcs'
    injection hcs' with hcs'
    injection hcs' with _ hcs'
    exact absurd hcs' (by decide)
  have bl1 := k.oc.grown (Nat.le_refl _) k.bl.size k.bl hg
  have ko1 : KeepsOthers W W' := k.ko.trans (KeepsOthers.of_grownBy hg fun j o e ho => by
    obtain ⟨cs, hcs⟩ := hnc j e
    rw [hcs] at ho
    cases ho
    rfl)
  have kt1 : KeepsT W W' := k.kt.trans (KeepsT.grown hg fun r e cs t hc => by
    obtain ⟨cs', hcs⟩ := hnc r e
    rw [hcs] at hc
    injection hc with hc
    injection hc with _ hc
    subst hc
    exact not_it (.inr (.inr (.inr rfl))))
  have hs := grownBy_setCell' W' cb (.slice sp (joinC pre ++ [(⟨p.1, p.2⟩ : Cl)]).length cap)
  refine ⟨sp, _, cap, W', hr, bc1.cell, bc1.frozen, ko1.trans (KeepsOthers.setCell _ _ _), kt1.trans (KeepsT.grown hs fun r e cs t hc => ?_), ⟨vf, _, bf1.kept hs (by simp; exact hfc), bc1.set _, ?_, ?_⟩, bl1.setCell (p := ⟨cb, 0, none⟩) hcb _⟩
  · injection e with e
    subst e
    have hb' : W'.heap[cb]? = some (.cells #[vc] 29 (0, 0)) := bc1
    rw [hb'] at hc
    injection hc with hc
    injection hc with _ hc
    subst hc
    exact not_it (.inr (.inl rfl))
  · rw [joinF_one, hF, List.append_nil]
    refine of1.keep fun k' hk => hs.block k' (of1.lt hk).2 fun e => ?_
    injection e with e
    subst e
    obtain ⟨cs', hcs'⟩ := of1.row hk
    have hb' : W'.heap[k']? = some (.cells #[vc] 29 (0, 0)) := bc1
    rw [hb'] at hcs'
    injection hcs' with hcs'
    injection hcs' with _ hcs'
    exact absurd hcs' (by decide)
  · rw [joinC_one, hC]
    refine ho.keep fun k' hk => hs.block k' (ho.lt hk).2 fun e => ?_
    injection e with e
    subst e
    obtain ⟨cs', hcs'⟩ := ho.row hk
    have hb' : W'.heap[k']? = some (.cells #[vc] 29 (0, 0)) := bc1
    rw [hb'] at hcs'
    injection hcs' with hcs'
    injection hcs' with _ hcs'
    exact absurd hcs' (by decide)
/-- A file more. -/
theorem Kept.file {w W : World} {fb cb : Nat} {vf vc : Value} {pre : List Ps} {W2 : World} (h : Kept w W fb cb vf vc pre W2) (p : Ps) (mv : ByteArray) (ty : TypeId) (hfb : w.heap.size ≤ fb) (hlen : (joinF pre).length + 1 ≤ 100000) (hF : fileOf p = [⟨p.1, mv⟩]) (hC : clashOf p = []) :
    ∃ sp k cap W', (Builtin.append_ #[22, 22] ty #[vf, .slice (some ⟨W2.heap.size, 0, none⟩) 1 1]).run Try.prog (W2.alloc (.cells (Fi.cells ⟨p.1, mv⟩) 46)) = .ok (.slice sp k cap) W' ∧ W'.cell? ⟨fb, 0, none⟩ = some vf ∧ W'.frozen? ⟨fb, 0, none⟩ = false ∧
      KeepsOthers W (W'.setCell ⟨fb, 0, none⟩ (.slice sp k cap)) ∧ KeepsT W (W'.setCell ⟨fb, 0, none⟩ (.slice sp k cap)) ∧ JI w fb cb (pre ++ [p]) (W'.setCell ⟨fb, 0, none⟩ (.slice sp k cap)) := by
  have k := h.below ((Below.refl _ W2).alloc (Nat.le_refl _) (.cells (Fi.cells ⟨p.1, mv⟩) 46))
  obtain ⟨v', W', hr, ho, hg, -⟩ := files_run (xs := joinF pre) (ys := [⟨p.1, mv⟩]) (sp := some ⟨W2.heap.size, 0, none⟩) (cap := 1) ty k.of (fun e => by cases e) (oneF_rows (heap_alloc_new W2 (.cells (Fi.cells ⟨p.1, mv⟩) 46))) (fun _ => ⟨_, _, rfl⟩) hlen k.bl.size
  obtain ⟨sp, cap, rfl, -⟩ := ho.rows
  have hnc : ∀ k', vf.ownBlock = some k' → ∃ cs, (W2.alloc (.cells (Fi.cells ⟨p.1, mv⟩) 46)).heap[k']? = some (.cells cs 46 (0, 0)) := fun k' hk => k.of.row hk
  have hne : ∀ (B : Nat) (t : TypeId) (v : Value), Boxed (W2.alloc (.cells (Fi.cells ⟨p.1, mv⟩) 46)) B t v → t ≠ 46 → some B ≠ vf.ownBlock := fun B t v hb ht e => by
    obtain ⟨cs, hcs⟩ := hnc B e.symm
    have hb' : (W2.alloc (.cells (Fi.cells ⟨p.1, mv⟩) 46)).heap[B]? = some (.cells #[v] t (0, 0)) := hb
    rw [hb'] at hcs
    injection hcs with hcs
    injection hcs with _ hcs
    exact ht hcs
  have bf1 := k.bf.kept hg (hne _ _ _ k.bf (by decide))
  have bc1 := k.bc.kept hg (hne _ _ _ k.bc (by decide))
  have hfc : cb ≠ fb := fun e => by
    have h1 : W2.heap[fb]? = some (.cells #[vf] 22 (0, 0)) := h.bf
    have h2 : W2.heap[cb]? = some (.cells #[vc] 29 (0, 0)) := h.bc
    rw [← e, h2] at h1
    injection h1 with h1
    injection h1 with _ h1
    exact absurd h1 (by decide)
  have oc1 : OwnC w.heap.size W' vc (joinC pre) := k.oc.keep fun k' hk => hg.block k' (k.oc.lt hk).2 fun e => by
    obtain ⟨cs, hcs⟩ := hnc k' e.symm
    obtain ⟨cs', hcs'⟩ := k.oc.row hk
    rw [hcs] at hcs'
    injection hcs' with hcs'
    injection hcs' with _ hcs'
    exact absurd hcs' (by decide)
  have bl1 := k.of.grown (Nat.le_refl _) k.bl.size k.bl hg
  have ko1 : KeepsOthers W W' := k.ko.trans (KeepsOthers.of_grownBy hg fun j o e ho => by
    obtain ⟨cs, hcs⟩ := hnc j e
    rw [hcs] at ho
    cases ho
    rfl)
  have kt1 : KeepsT W W' := k.kt.trans (KeepsT.grown hg fun r e cs t hc => by
    obtain ⟨cs', hcs⟩ := hnc r e
    rw [hcs] at hc
    injection hc with hc
    injection hc with _ hc
    subst hc
    exact not_it (.inr (.inr (.inl rfl))))
  have hs := grownBy_setCell' W' fb (.slice sp (joinF pre ++ [(⟨p.1, mv⟩ : Fi)]).length cap)
  refine ⟨sp, _, cap, W', hr, bf1.cell, bf1.frozen, ko1.trans (KeepsOthers.setCell _ _ _), kt1.trans (KeepsT.grown hs fun r e cs t hc => ?_), ⟨_, vc, bf1.set _, bc1.kept hs (by simp; exact hfc), ?_, ?_⟩, bl1.setCell (p := ⟨fb, 0, none⟩) hfb _⟩
  · injection e with e
    subst e
    have hb' : W'.heap[fb]? = some (.cells #[vf] 22 (0, 0)) := bf1
    rw [hb'] at hc
    injection hc with hc
    injection hc with _ hc
    subst hc
    exact not_it (.inl rfl)
  · rw [joinF_one, hF]
    refine ho.keep fun k' hk => hs.block k' (ho.lt hk).2 fun e => ?_
    injection e with e
    subst e
    obtain ⟨cs', hcs'⟩ := ho.row hk
    have hb' : W'.heap[k']? = some (.cells #[vf] 22 (0, 0)) := bf1
    rw [hb'] at hcs'
    injection hcs' with hcs'
    injection hcs' with _ hcs'
    exact absurd hcs' (by decide)
  · rw [joinC_one, hC, List.append_nil]
    refine oc1.keep fun k' hk => hs.block k' (oc1.lt hk).2 fun e => ?_
    injection e with e
    subst e
    obtain ⟨cs', hcs'⟩ := oc1.row hk
    have hb' : W'.heap[k']? = some (.cells #[vf] 22 (0, 0)) := bf1
    rw [hb'] at hcs'
    injection hcs' with hcs'
    injection hcs' with _ hcs'
    exact absurd hcs' (by decide)
end Go.Proofs.Ytmbnbehlfbdpnab
