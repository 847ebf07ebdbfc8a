/- Two finders made in one statement, in whatever order. -/
import Derived.Test.YtmbnbehlfbdpnabMFrm
import Derived.RangeFuncCalls
namespace Go.Proofs.Ytmbnbehlfbdpnab
open Go.RowKit

def fnV (g : Nat) : Value := .func (.func 24) #[] #[.pointer (some ⟨g, 0, none⟩)]
theorem assign_run {P : Program} {ρ : Operand → Value} {o : Oper} {x : Operand} {w : World} (ho : o.op = .assign x) : (execOp ρ o).run P w = .ok (.value (ρ x)) w := by
  unfold execOp
  simp [ho, go_sem]
theorem finder_in (v : Value) (W : World) : Calls Try.prog 15 #[.agg #[v]] W fun e w' => ∃ u, e = .returned u ∧ (u = fnV W.heap.size ∧ w' = W.alloc (.cells #[v] 24)) := by
  refine (finder_any v W).mono ?_
  rintro e w' ⟨rfl, rfl⟩
  exact ⟨_, rfl, rfl, rfl⟩
section
variable {Q : Exit → Act → World → Prop} {ops : Array Oper} {id : Nat} {o0 o1 o2 o3 o4 o5 : Oper}
theorem two_finders (n p1 p2 e1 e2 e3 e4 e5 e6 : Nat) (f0 : Nat → Value) (B : Nat) (W2 : World) (x y : Value)
    (hsz : ops.size = 6) (hbk : backB ops = true) (q0 : ops[0]? = some o0) (q1 : ops[1]? = some o1) (q2 : ops[2]? = some o2) (q3 : ops[3]? = some o3) (q4 : ops[4]? = some o4) (q5 : ops[5]? = some o5)
    (a0 : o0.op = .load 24 (.tmp p1) ∧ o0.dst = some e1 ∧ o0.guard = none)
    (a1 : o1.op = .call { callee := .value (.func 15), args := #[.tmp e1], argTypes := #[24] } ∧ o1.dst = some e2 ∧ o1.guard = none)
    (a2 : o2.op = .load 24 (.tmp p2) ∧ o2.dst = some e3 ∧ o2.guard = none)
    (a3 : o3.op = .call { callee := .value (.func 15), args := #[.tmp e3], argTypes := #[24] } ∧ o3.dst = some e4 ∧ o3.guard = none)
    (a4 : o4.op = .assign (.tmp e2) ∧ o4.dst = some e5 ∧ o4.guard = none)
    (a5 : o5.op = .assign (.tmp e4) ∧ o5.dst = some e6 ∧ o5.guard = none)
    (dp : waitsB o1 0 = true ∧ waitsB o3 2 = true ∧ waitsB o4 1 = true ∧ waitsB o5 3 = true)
    (hn : (p1 < n ∧ p2 < n ∧ e1 < n ∧ e2 < n ∧ e3 < n ∧ e4 < n ∧ e5 < n ∧ e6 < n) ∧ (p1 ≠ e1 ∧ p1 ≠ e2 ∧ p1 ≠ e3 ∧ p1 ≠ e4 ∧ p1 ≠ e5 ∧ p1 ≠ e6) ∧ (p2 ≠ e1 ∧ p2 ≠ e2 ∧ p2 ≠ e3 ∧ p2 ≠ e4 ∧ p2 ≠ e5 ∧ p2 ≠ e6) ∧ (e1 ≠ e2 ∧ e1 ≠ e3 ∧ e1 ≠ e4 ∧ e1 ≠ e5 ∧ e1 ≠ e6) ∧ (e2 ≠ e3 ∧ e2 ≠ e4 ∧ e2 ≠ e5 ∧ e2 ≠ e6) ∧ (e3 ≠ e4 ∧ e3 ≠ e5 ∧ e3 ≠ e6) ∧ (e4 ≠ e5 ∧ e4 ≠ e6) ∧ e5 ≠ e6)
    (hf1 : f0 p1 = .pointer (some ⟨B, 0, none⟩)) (hf2 : f0 p2 = .pointer (some ⟨B + 1, 0, none⟩))
    (r1 : W2.heap[B]? = some (.cells #[x] 24 (0, 0))) (r2 : W2.heap[B + 1]? = some (.cells #[y] 24 (0, 0)))
    (post : ∀ (g1 g2 : Nat) (W' : World), W'.heap[g1]? = some (.cells #[x] 24 (0, 0)) → W'.heap[g2]? = some (.cells #[y] 24 (0, 0)) → Below W2.heap.size W2 W' →
      Q .normal ⟨frm n (updV (updV (updV (updV (updV (updV f0 e1 (.agg #[x])) e2 (fnV g1)) e3 (.agg #[y])) e4 (fnV g2)) e5 (fnV g1)) e6 (fnV g2)), []⟩ W') :
    (Code.region id ops true).wp Try.prog Q ⟨frm n f0, []⟩ W2 := by
  obtain ⟨⟨np1, np2, ne1, ne2, ne3, ne4, ne5, ne6⟩, ⟨x11, x12, x13, x14, x15, x16⟩, ⟨x21, x22, x23, x24, x25, x26⟩, ⟨y12, y13, y14, y15, y16⟩, ⟨y23, y24, y25, y26⟩, ⟨y34, y35, y36⟩, ⟨y45, y46⟩, y56⟩ := hn
  obtain ⟨w1, w3, w4, w5⟩ := dp
  refine region_inv (by kernel_rfl) (fun l a W => ∃ (f : Nat → Value) (g1 g2 : Nat), a = ⟨frm n f, []⟩ ∧ (∀ j, j ≠ e1 → j ≠ e2 → j ≠ e3 → j ≠ e4 → j ≠ e5 → j ≠ e6 → f j = f0 j) ∧
      ((l.getD 0 false = true → f e1 = .agg #[x]) ∧ (l.getD 1 false = true → f e2 = fnV g1 ∧ W.heap[g1]? = some (.cells #[x] 24 (0, 0))) ∧ (l.getD 4 false = true → f e5 = fnV g1 ∧ l.getD 1 false = true)) ∧
      ((l.getD 2 false = true → f e3 = .agg #[y]) ∧ (l.getD 3 false = true → f e4 = fnV g2 ∧ W.heap[g2]? = some (.cells #[y] 24 (0, 0))) ∧ (l.getD 5 false = true → f e6 = fnV g2 ∧ l.getD 3 false = true)) ∧ Below W2.heap.size W2 W) (back_of hbk) ?_ ?_ ?_
  · intro l hl
    have hn : ∀ j, l.getD j false = true → False := fun j h => by rw [hl] at h; cases h
    exact ⟨f0, 0, 0, rfl, fun j _ _ _ _ _ _ => rfl, ⟨fun h => (hn _ h).elim, fun h => (hn _ h).elim, fun h => (hn _ h).elim⟩, ⟨fun h => (hn _ h).elim, fun h => (hn _ h).elim, fun h => (hn _ h).elim⟩, below_drawn' _ 1⟩
  · rintro l a W hall ⟨f, g1, g2, rfl, hf, ⟨i0, i1, i4⟩, ⟨i2, i3, i5⟩, hb⟩
    have hA : ∀ j, j < 6 → l.getD j false = true := fun j hj => hall j (by omega)
    have e := frm_congr (n := n) (f := f) (g := updV (updV (updV (updV (updV (updV f0 e1 (.agg #[x])) e2 (fnV g1)) e3 (.agg #[y])) e4 (fnV g2)) e5 (fnV g1)) e6 (fnV g2)) (fun j _ => by
      by_cases c6 : j = e6
      · subst c6; rw [updV_same]; exact (i5 (hA 5 (by omega))).1
      rw [updV_other c6]
      by_cases c5 : j = e5
      · subst c5; rw [updV_same]; exact (i4 (hA 4 (by omega))).1
      rw [updV_other c5]
      by_cases c4 : j = e4
      · subst c4; rw [updV_same]; exact (i3 (hA 3 (by omega))).1
      rw [updV_other c4]
      by_cases c3 : j = e3
      · subst c3; rw [updV_same]; exact i2 (hA 2 (by omega))
      rw [updV_other c3]
      by_cases c2 : j = e2
      · subst c2; rw [updV_same]; exact (i1 (hA 1 (by omega))).1
      rw [updV_other c2]
      by_cases c1 : j = e1
      · subst c1; rw [updV_same]; exact i0 (hA 0 (by omega))
      rw [updV_other c1]
      exact hf j c1 c2 c3 c4 c5 c6)
    rw [e]
    exact post g1 g2 W (i1 (hA 1 (by omega))).2 (i3 (hA 3 (by omega))).2 hb
  · rintro l a W i o hs ⟨f, g1, g2, rfl, hf, ⟨i0, i1, i4⟩, ⟨i2, i3, i5⟩, hb⟩ ho hop hed K hK
    have hi : i < 6 := by have := (Array.getElem?_eq_some_iff.1 ho).1; omega
    have hsl : ∀ j, (l.setIfInBounds i true).getD j false = (if i = j then true else l.getD j false) := fun j => set_get (by omega)
    have hne : l.getD i false = false := by
      have : i < l.size := by omega
      simpa [this] using hop
    have h6 : i = 0 ∨ i = 1 ∨ i = 2 ∨ i = 3 ∨ i = 4 ∨ i = 5 := by omega
    rcases h6 with rfl | rfl | rfl | rfl | rfl | rfl
    · obtain rfl : o0 = o := by rw [q0] at ho; exact Option.some.inj ho
      refine any_load a0.2.2 24 (.tmp p1) a0.1 ⟨B, 0, none⟩ _ ((frm_eval f [] np1).trans ((hf p1 x11 x12 x13 x14 x15 x16).trans hf1)) (load_repo ((hb.block _ (lt_of_row r1)).trans r1)) ?_
      rw [a0.2.1, frm_put]
      refine hK _ _ ⟨_, g1, g2, rfl, fun j c1 c2 c3 c4 c5 c6 => by rw [updV_other c1]; exact hf j c1 c2 c3 c4 c5 c6, ⟨fun _ => updV_same _ _ _, ?_, ?_⟩, ⟨?_, ?_, ?_⟩, hb⟩
      · simp only [hsl]; rw [updV_other (Ne.symm y12)]; exact i1
      · simp only [hsl]; rw [updV_other (Ne.symm y15)]; exact i4
      · simp only [hsl]; rw [updV_other (Ne.symm y13)]; exact i2
      · simp only [hsl]; rw [updV_other (Ne.symm y14)]; exact i3
      · simp only [hsl]; rw [updV_other (Ne.symm y16)]; exact i5
    · obtain rfl : o1 = o := by rw [q1] at ho; exact Option.some.inj ho
      have g0 := waits_on w1 hed
      refine any_call a1.2.2 15 _ (call_run a1.1 (frm_func f [] _) ((frm_eval f [] ne1).trans (i0 g0)) (enters_of Try.func15 (by kernel_rfl) rfl)) _ (finder_in x W) ?_
      rintro _ W' ⟨rfl, rfl⟩
      rw [a1.2.1, frm_put]
      refine hK _ _ ⟨_, W.heap.size, g2, rfl, fun j c1 c2 c3 c4 c5 c6 => by rw [updV_other c2]; exact hf j c1 c2 c3 c4 c5 c6, ⟨?_, fun _ => ⟨updV_same _ _ _, heap_alloc_new _ _⟩, ?_⟩, ⟨?_, ?_, ?_⟩, hb.alloc hb.size _⟩
      · simp only [hsl]; rw [updV_other y12]; exact i0
      · simp only [hsl]; intro h; have h1 := (i4 h).2; rw [hne] at h1; cases h1
      · simp only [hsl]; rw [updV_other (Ne.symm y23)]; exact i2
      · simp only [hsl]; rw [updV_other (Ne.symm y24)]; exact fun h => ⟨(i3 h).1, (Below.heap_alloc _ _ _ (lt_of_row (i3 h).2)).trans (i3 h).2⟩
      · simp only [hsl]; rw [updV_other (Ne.symm y26)]; exact i5
    · obtain rfl : o2 = o := by rw [q2] at ho; exact Option.some.inj ho
      refine any_load a2.2.2 24 (.tmp p2) a2.1 ⟨B + 1, 0, none⟩ _ ((frm_eval f [] np2).trans ((hf p2 x21 x22 x23 x24 x25 x26).trans hf2)) (load_repo ((hb.block _ (lt_of_row r2)).trans r2)) ?_
      rw [a2.2.1, frm_put]
      refine hK _ _ ⟨_, g1, g2, rfl, fun j c1 c2 c3 c4 c5 c6 => by rw [updV_other c3]; exact hf j c1 c2 c3 c4 c5 c6, ⟨?_, ?_, ?_⟩, ⟨fun _ => updV_same _ _ _, ?_, ?_⟩, hb⟩
      · simp only [hsl]; rw [updV_other y13]; exact i0
      · simp only [hsl]; rw [updV_other y23]; exact i1
      · simp only [hsl]; rw [updV_other (Ne.symm y35)]; exact i4
      · simp only [hsl]; rw [updV_other (Ne.symm y34)]; exact i3
      · simp only [hsl]; rw [updV_other (Ne.symm y36)]; exact i5
    · obtain rfl : o3 = o := by rw [q3] at ho; exact Option.some.inj ho
      have g0 := waits_on w3 hed
      refine any_call a3.2.2 15 _ (call_run a3.1 (frm_func f [] _) ((frm_eval f [] ne3).trans (i2 g0)) (enters_of Try.func15 (by kernel_rfl) rfl)) _ (finder_in y W) ?_
      rintro _ W' ⟨rfl, rfl⟩
      rw [a3.2.1, frm_put]
      refine hK _ _ ⟨_, g1, W.heap.size, rfl, fun j c1 c2 c3 c4 c5 c6 => by rw [updV_other c4]; exact hf j c1 c2 c3 c4 c5 c6, ⟨?_, ?_, ?_⟩, ⟨?_, fun _ => ⟨updV_same _ _ _, heap_alloc_new _ _⟩, ?_⟩, hb.alloc hb.size _⟩
      · simp only [hsl]; rw [updV_other y14]; exact i0
      · simp only [hsl]; rw [updV_other y24]; exact fun h => ⟨(i1 h).1, (Below.heap_alloc _ _ _ (lt_of_row (i1 h).2)).trans (i1 h).2⟩
      · simp only [hsl]; rw [updV_other (Ne.symm y45)]; exact i4
      · simp only [hsl]; rw [updV_other y34]; exact i2
      · simp only [hsl]; intro h; have h1 := (i5 h).2; rw [hne] at h1; cases h1
    · obtain rfl : o4 = o := by rw [q4] at ho; exact Option.some.inj ho
      have g0 := waits_on w4 hed
      refine any_run a4.2.2 _ _ (assign_run a4.1) ?_
      rw [a4.2.1, frm_eval f [] ne2, (i1 g0).1, frm_put]
      refine hK _ _ ⟨_, g1, g2, rfl, fun j c1 c2 c3 c4 c5 c6 => by rw [updV_other c5]; exact hf j c1 c2 c3 c4 c5 c6, ⟨?_, ?_, ?_⟩, ⟨?_, ?_, ?_⟩, hb⟩
      · simp only [hsl]; rw [updV_other y15]; exact i0
      · simp only [hsl]; rw [updV_other y25]; exact i1
      · simp only [hsl]; exact fun _ => ⟨updV_same _ _ _, g0⟩
      · simp only [hsl]; rw [updV_other y35]; exact i2
      · simp only [hsl]; rw [updV_other y45]; exact i3
      · simp only [hsl]; rw [updV_other (Ne.symm y56)]; exact i5
    · obtain rfl : o5 = o := by rw [q5] at ho; exact Option.some.inj ho
      have g0 := waits_on w5 hed
      refine any_run a5.2.2 _ _ (assign_run a5.1) ?_
      rw [a5.2.1, frm_eval f [] ne4, (i3 g0).1, frm_put]
      refine hK _ _ ⟨_, g1, g2, rfl, fun j c1 c2 c3 c4 c5 c6 => by rw [updV_other c6]; exact hf j c1 c2 c3 c4 c5 c6, ⟨?_, ?_, ?_⟩, ⟨?_, ?_, ?_⟩, hb⟩
      · simp only [hsl]; rw [updV_other y16]; exact i0
      · simp only [hsl]; rw [updV_other y26]; exact i1
      · simp only [hsl]; rw [updV_other y56]; exact i4
      · simp only [hsl]; rw [updV_other y36]; exact i2
      · simp only [hsl]; rw [updV_other y46]; exact i3
      · simp only [hsl]; exact fun _ => ⟨updV_same _ _ _, g0⟩
end
end Go.Proofs.Ytmbnbehlfbdpnab
