/- Two repositories cut short in one statement, in whatever order. -/
import Derived.Test.YtmbnbehlfbdpnabMFrm
import Derived.RangeFuncCalls
namespace Go.Proofs.Ytmbnbehlfbdpnab
open Go.RowKit

theorem InF.below {w w' : World} {s : Sl} (h : InF w s) (hb : Below w.heap.size w w') : InF w' s := ⟨RowsAt.below h.1 hb, h.2⟩
theorem ownF_box {B : Nat} {W : World} {v : Value} {xs : List Fi} (h : OwnF B W v xs) {g : Nat} {cs : Array Value} {t : TypeId} (ht : t ≠ 46) (hg : W.heap[g]? = some (.cells cs t (0, 0))) (i : Nat) (x : Value) : OwnF B (W.setCell ⟨g, i, none⟩ x) v xs := h.keep fun k hk => heap_setCell_other _ _ _ _ fun e => by
  obtain ⟨cs', hcs⟩ := h.row hk
  rw [e, hg] at hcs
  injection hcs with hcs
  injection hcs with _ hcs
  exact ht hcs
/-- short of what came in, in a later world. -/
theorem short_in (x : Sl) (w W : World) (hx : InF w x) (hb : Below w.heap.size w W) :
    Calls Try.prog 11 #[.agg #[.slice x.sp x.fs.length x.cap]] W fun e w' => ∃ v, e = .returned v ∧ ∃ (s : Option Addr) (k d : Nat), v = .agg #[.slice s k d] ∧ OwnF w.heap.size w' (.slice s k d) (shortL x.fs) ∧ Below W.heap.size W w' := by
  refine (short_any x W (hx.below hb)).mono ?_
  rintro e W' ⟨⟨v, rfl, ho⟩, hb'⟩
  obtain ⟨s, d, rfl, -⟩ := ho.rows
  exact ⟨_, rfl, s, _, d, rfl, ho.mono hb.size, hb'⟩

section
variable {Q : Exit → Act → World → Prop} {ops : Array Oper} {id : Nat} {o0 o1 o2 o3 o4 o5 : Oper}
theorem two_shorts (n p1 p2 e1 e2 e3 e4 : Nat) (f0 : Nat → Value) (B : Nat) (W2 w : World) (x y : Sl)
    (hsz : ops.size = 6) (hbk : backB ops = true) (q0 : ops[0]? = some o0) (q1 : ops[1]? = some o1) (q2 : ops[2]? = some o2) (q3 : ops[3]? = some o3) (q4 : ops[4]? = some o4) (q5 : ops[5]? = some o5)
    (a0 : o0.op = .load 24 (.tmp p1) ∧ o0.dst = some e1 ∧ o0.guard = none)
    (a1 : o1.op = .call { callee := .value (.func 11), args := #[.tmp e1], argTypes := #[24] } ∧ o1.dst = some e2 ∧ o1.guard = none)
    (a2 : o2.op = .load 24 (.tmp p2) ∧ o2.dst = some e3 ∧ o2.guard = none)
    (a3 : o3.op = .call { callee := .value (.func 11), args := #[.tmp e3], argTypes := #[24] } ∧ o3.dst = some e4 ∧ o3.guard = none)
    (a4 : o4.op = .store 24 (.tmp p1) (.tmp e2) ∧ o4.dst = none ∧ o4.guard = none)
    (a5 : o5.op = .store 24 (.tmp p2) (.tmp e4) ∧ o5.dst = none ∧ o5.guard = none)
    (dp : waitsB o1 0 = true ∧ waitsB o3 2 = true ∧ (waitsB o4 0 = true ∧ waitsB o4 1 = true) ∧ waitsB o5 2 = true ∧ waitsB o5 3 = true)
    (hn : (p1 < n ∧ p2 < n ∧ e1 < n ∧ e2 < n ∧ e3 < n ∧ e4 < n) ∧ (p1 ≠ e1 ∧ p1 ≠ e2 ∧ p1 ≠ e3 ∧ p1 ≠ e4) ∧ (p2 ≠ e1 ∧ p2 ≠ e2 ∧ p2 ≠ e3 ∧ p2 ≠ e4) ∧ e1 ≠ e2 ∧ e1 ≠ e3 ∧ e1 ≠ e4 ∧ e2 ≠ e3 ∧ e2 ≠ e4 ∧ e3 ≠ e4)
    (hf1 : f0 p1 = .pointer (some ⟨B, 0, none⟩)) (hf2 : f0 p2 = .pointer (some ⟨B + 1, 0, none⟩)) (hB : w.heap.size ≤ B)
    (r1 : W2.heap[B]? = some (.cells #[.slice x.sp x.fs.length x.cap] 24 (0, 0))) (r2 : W2.heap[B + 1]? = some (.cells #[.slice y.sp y.fs.length y.cap] 24 (0, 0))) (hb2 : Below w.heap.size w W2) (hx : InF w x) (hy : InF w y)
    (post : ∀ (s1 s2 : Option Addr) (k1 k2 d1 d2 : Nat) (W' : World), OwnF w.heap.size W' (.slice s1 k1 d1) (shortL x.fs) → OwnF w.heap.size W' (.slice s2 k2 d2) (shortL y.fs) → W'.heap[B]? = some (.cells #[.slice s1 k1 d1] 24 (0, 0)) → W'.heap[B + 1]? = some (.cells #[.slice s2 k2 d2] 24 (0, 0)) → Below w.heap.size w W' →
      Q .normal ⟨frm n (updV (updV (updV (updV f0 e1 (.agg #[.slice x.sp x.fs.length x.cap])) e2 (.agg #[.slice s1 k1 d1])) e3 (.agg #[.slice y.sp y.fs.length y.cap])) e4 (.agg #[.slice s2 k2 d2])), []⟩ W') :
    (Code.region id ops true).wp Try.prog Q ⟨frm n f0, []⟩ W2 := by
  obtain ⟨⟨np1, np2, ne1, ne2, ne3, ne4⟩, ⟨x11, x12, x13, x14⟩, ⟨x21, x22, x23, x24⟩, y12, y13, y14, y23, y24, y34⟩ := hn
  obtain ⟨w1, w3, ⟨w40, w41⟩, w52, w53⟩ := dp
  refine region_inv (by kernel_rfl) (fun l a W => ∃ (f : Nat → Value) (s1 s2 : Option Addr) (k1 k2 d1 d2 : Nat), a = ⟨frm n f, []⟩ ∧ (∀ j, j ≠ e1 → j ≠ e2 → j ≠ e3 → j ≠ e4 → f j = f0 j) ∧
      (l.getD 0 false = true → f e1 = .agg #[.slice x.sp x.fs.length x.cap]) ∧ (l.getD 1 false = true → f e2 = .agg #[.slice s1 k1 d1] ∧ OwnF w.heap.size W (.slice s1 k1 d1) (shortL x.fs)) ∧
      (l.getD 2 false = true → f e3 = .agg #[.slice y.sp y.fs.length y.cap]) ∧ (l.getD 3 false = true → f e4 = .agg #[.slice s2 k2 d2] ∧ OwnF w.heap.size W (.slice s2 k2 d2) (shortL y.fs)) ∧
      ((l.getD 4 false = true → l.getD 0 false = true ∧ l.getD 1 false = true) ∧ (l.getD 5 false = true → l.getD 2 false = true ∧ l.getD 3 false = true)) ∧
      W.heap[B]? = some (.cells #[if l.getD 4 false = true then .slice s1 k1 d1 else .slice x.sp x.fs.length x.cap] 24 (0, 0)) ∧ W.heap[B + 1]? = some (.cells #[if l.getD 5 false = true then .slice s2 k2 d2 else .slice y.sp y.fs.length y.cap] 24 (0, 0)) ∧ Below w.heap.size w W) (back_of hbk) ?_ ?_ ?_
  · intro l hl
    refine ⟨f0, none, none, 0, 0, 0, 0, rfl, fun j _ _ _ _ => rfl, fun h => ?_, fun h => ?_, fun h => ?_, fun h => ?_, ⟨fun h => ?_, fun h => ?_⟩, ?_, ?_, hb2.trans (below_drawn' _ 1)⟩
    · rw [hl] at h; cases h
    · rw [hl] at h; cases h
    · rw [hl] at h; cases h
    · rw [hl] at h; cases h
    · rw [hl] at h; cases h
    · rw [hl] at h; cases h
    · rw [hl]; exact r1
    · rw [hl]; exact r2
  · rintro l a W hall ⟨f, s1, s2, k1, k2, d1, d2, rfl, hf, i0, i1, i2, i3, -, rw1, rw2, hb⟩
    have hA : ∀ j, j < 6 → l.getD j false = true := fun j hj => hall j (by omega)
    rw [if_pos (hA 4 (by omega))] at rw1
    rw [if_pos (hA 5 (by omega))] at rw2
    have e := frm_congr (n := n) (f := f) (g := updV (updV (updV (updV f0 e1 (.agg #[.slice x.sp x.fs.length x.cap])) e2 (.agg #[.slice s1 k1 d1])) e3 (.agg #[.slice y.sp y.fs.length y.cap])) e4 (.agg #[.slice s2 k2 d2])) (fun j _ => by
      by_cases c4 : j = e4
      · subst c4; rw [updV_same]; exact (i3 (hA 3 (by omega))).1
      rw [updV_other c4]
      by_cases c3 : j = e3
      · subst c3; rw [updV_same]; exact i2 (hA 2 (by omega))
      rw [updV_other c3]
      by_cases c2 : j = e2
      · subst c2; rw [updV_same]; exact (i1 (hA 1 (by omega))).1
      rw [updV_other c2]
      by_cases c1 : j = e1
      · subst c1; rw [updV_same]; exact i0 (hA 0 (by omega))
      rw [updV_other c1]
      exact hf j c1 c2 c3 c4)
    rw [e]
    exact post s1 s2 k1 k2 d1 d2 W (i1 (hA 1 (by omega))).2 (i3 (hA 3 (by omega))).2 rw1 rw2 hb
  · rintro l a W i o hs ⟨f, s1, s2, k1, k2, d1, d2, rfl, hf, i0, i1, i2, i3, ⟨i4, i5⟩, rw1, rw2, hb⟩ ho hop hed K hK
    have hi : i < 6 := by have := (Array.getElem?_eq_some_iff.1 ho).1; omega
    have hsl : ∀ j, (l.setIfInBounds i true).getD j false = (if i = j then true else l.getD j false) := fun j => set_get (by omega)
    have hne : l.getD i false = false := by
      have : i < l.size := by omega
      simpa [this] using hop
    have h6 : i = 0 ∨ i = 1 ∨ i = 2 ∨ i = 3 ∨ i = 4 ∨ i = 5 := by omega
    rcases h6 with rfl | rfl | rfl | rfl | rfl | rfl
    · obtain rfl : o0 = o := by rw [q0] at ho; exact Option.some.inj ho
      have c4 : l.getD 4 false = false := by
        cases h : l.getD 4 false with
        | false => rfl
        | true => rw [(i4 h).1] at hne; cases hne
      rw [c4, if_neg (by simp)] at rw1
      refine any_load a0.2.2 24 (.tmp p1) a0.1 ⟨B, 0, none⟩ _ ((frm_eval f [] np1).trans ((hf p1 x11 x12 x13 x14).trans hf1)) (load_repo rw1) ?_
      rw [a0.2.1, frm_put]
      refine hK _ _ ⟨_, s1, s2, k1, k2, d1, d2, rfl, fun j c1 c2 c3 c4 => by rw [updV_other c1]; exact hf j c1 c2 c3 c4, fun _ => updV_same _ _ _, ?_, ?_, ?_, ?_, ?_, ?_, hb⟩
      · simp only [hsl]; rw [updV_other (Ne.symm y12)]; exact i1
      · simp only [hsl]; rw [updV_other (Ne.symm y13)]; exact i2
      · simp only [hsl]; rw [updV_other (Ne.symm y14)]; exact i3
      · simp only [hsl]; exact ⟨fun h => ⟨rfl, (i4 h).2⟩, i5⟩
      · simp only [hsl]; rw [c4, if_neg (by simp)]; exact rw1
      · simp only [hsl]; exact rw2
    · obtain rfl : o1 = o := by rw [q1] at ho; exact Option.some.inj ho
      have g0 := waits_on w1 hed
      have c4 : l.getD 4 false = false := by
        cases h : l.getD 4 false with
        | false => rfl
        | true => rw [(i4 h).2] at hne; cases hne
      refine any_call a1.2.2 11 _ (call_run a1.1 (frm_func f [] _) ((frm_eval f [] ne1).trans (i0 g0)) (enters_of Try.func11 (by kernel_rfl) rfl)) _ (short_in x w W hx hb) ?_
      rintro _ W' ⟨s, k, d, rfl, ho', hbw⟩
      rw [a1.2.1, frm_put]
      rw [c4, if_neg (by simp)] at rw1
      refine hK _ _ ⟨_, s, s2, k, k2, d, d2, rfl, fun j c1 c2 c3 c4 => by rw [updV_other c2]; exact hf j c1 c2 c3 c4, ?_, fun _ => ⟨updV_same _ _ _, ho'⟩, ?_, ?_, ?_, ?_, ?_, hb.trans (hbw.mono hb.size)⟩
      · simp only [hsl]; rw [updV_other y12]; exact i0
      · simp only [hsl]; rw [updV_other (Ne.symm y23)]; exact i2
      · simp only [hsl]; rw [updV_other (Ne.symm y24)]; exact fun h => ⟨(i3 h).1, (i3 h).2.below hbw⟩
      · simp only [hsl]; exact ⟨fun h => ⟨(i4 h).1, rfl⟩, i5⟩
      · simp only [hsl]; rw [c4, if_neg (by simp)]; exact (hbw.block _ (lt_of_row rw1)).trans rw1
      · simp only [hsl]; exact (hbw.block _ (lt_of_row rw2)).trans rw2
    · obtain rfl : o2 = o := by rw [q2] at ho; exact Option.some.inj ho
      have c5 : l.getD 5 false = false := by
        cases h : l.getD 5 false with
        | false => rfl
        | true => rw [(i5 h).1] at hne; cases hne
      rw [c5, if_neg (by simp)] at rw2
      refine any_load a2.2.2 24 (.tmp p2) a2.1 ⟨B + 1, 0, none⟩ _ ((frm_eval f [] np2).trans ((hf p2 x21 x22 x23 x24).trans hf2)) (load_repo rw2) ?_
      rw [a2.2.1, frm_put]
      refine hK _ _ ⟨_, s1, s2, k1, k2, d1, d2, rfl, fun j c1 c2 c3 c4 => by rw [updV_other c3]; exact hf j c1 c2 c3 c4, ?_, ?_, fun _ => updV_same _ _ _, ?_, ?_, ?_, ?_, hb⟩
      · simp only [hsl]; rw [updV_other y13]; exact i0
      · simp only [hsl]; rw [updV_other y23]; exact i1
      · simp only [hsl]; rw [updV_other (Ne.symm y34)]; exact i3
      · simp only [hsl]; exact ⟨i4, fun h => ⟨rfl, (i5 h).2⟩⟩
      · simp only [hsl]; exact rw1
      · simp only [hsl]; rw [c5, if_neg (by simp)]; exact rw2
    · obtain rfl : o3 = o := by rw [q3] at ho; exact Option.some.inj ho
      have g2 := waits_on w3 hed
      have c5 : l.getD 5 false = false := by
        cases h : l.getD 5 false with
        | false => rfl
        | true => rw [(i5 h).2] at hne; cases hne
      refine any_call a3.2.2 11 _ (call_run a3.1 (frm_func f [] _) ((frm_eval f [] ne3).trans (i2 g2)) (enters_of Try.func11 (by kernel_rfl) rfl)) _ (short_in y w W hy hb) ?_
      rintro _ W' ⟨s, k, d, rfl, ho', hbw⟩
      rw [a3.2.1, frm_put]
      rw [c5, if_neg (by simp)] at rw2
      refine hK _ _ ⟨_, s1, s, k1, k, d1, d, rfl, fun j c1 c2 c3 c4 => by rw [updV_other c4]; exact hf j c1 c2 c3 c4, ?_, ?_, ?_, fun _ => ⟨updV_same _ _ _, ho'⟩, ?_, ?_, ?_, hb.trans (hbw.mono hb.size)⟩
      · simp only [hsl]; rw [updV_other y14]; exact i0
      · simp only [hsl]; rw [updV_other y24]; exact fun h => ⟨(i1 h).1, (i1 h).2.below hbw⟩
      · simp only [hsl]; rw [updV_other y34]; exact i2
      · simp only [hsl]; exact ⟨i4, fun h => ⟨(i5 h).1, rfl⟩⟩
      · simp only [hsl]; exact (hbw.block _ (lt_of_row rw1)).trans rw1
      · simp only [hsl]; rw [c5, if_neg (by simp)]; exact (hbw.block _ (lt_of_row rw2)).trans rw2
    · obtain rfl : o4 = o := by rw [q4] at ho; exact Option.some.inj ho
      have g0 := waits_on w40 hed
      have g1 := waits_on w41 hed
      rw [hne, if_neg (by simp)] at rw1
      refine any_skip a4.2.2 _ (store_repo a4.1 ((frm_eval f [] np1).trans ((hf p1 x11 x12 x13 x14).trans hf1)) ((frm_eval f [] ne2).trans (i1 g1).1) rw1) ?_
      rw [a4.2.1, frm_put0]
      refine hK _ _ ⟨f, s1, s2, k1, k2, d1, d2, rfl, hf, ?_, ?_, ?_, ?_, ?_, ?_, ?_, hb.setCell (p := ⟨B, 0, none⟩) hB _⟩
      · simp only [hsl]; exact i0
      · simp only [hsl]; exact fun h => ⟨(i1 h).1, ownF_box (i1 h).2 (by decide) rw1 0 _⟩
      · simp only [hsl]; exact i2
      · simp only [hsl]; exact fun h => ⟨(i3 h).1, ownF_box (i3 h).2 (by decide) rw1 0 _⟩
      · simp only [hsl]; exact ⟨fun _ => ⟨g0, g1⟩, i5⟩
      · simp only [hsl]; exact heap_setCell_same _ _ 0 _ _ _ rw1
      · simp only [hsl]; exact (heap_setCell_other _ _ _ _ (by show B + 1 ≠ B; omega)).trans rw2
    · obtain rfl : o5 = o := by rw [q5] at ho; exact Option.some.inj ho
      have g2 := waits_on w52 hed
      have g3 := waits_on w53 hed
      rw [hne, if_neg (by simp)] at rw2
      refine any_skip a5.2.2 _ (store_repo a5.1 ((frm_eval f [] np2).trans ((hf p2 x21 x22 x23 x24).trans hf2)) ((frm_eval f [] ne4).trans (i3 g3).1) rw2) ?_
      rw [a5.2.1, frm_put0]
      refine hK _ _ ⟨f, s1, s2, k1, k2, d1, d2, rfl, hf, ?_, ?_, ?_, ?_, ?_, ?_, ?_, hb.setCell (p := ⟨B + 1, 0, none⟩) (by show w.heap.size ≤ B + 1; omega) _⟩
      · simp only [hsl]; exact i0
      · simp only [hsl]; exact fun h => ⟨(i1 h).1, ownF_box (i1 h).2 (by decide) rw2 0 _⟩
      · simp only [hsl]; exact i2
      · simp only [hsl]; exact fun h => ⟨(i3 h).1, ownF_box (i3 h).2 (by decide) rw2 0 _⟩
      · simp only [hsl]; exact ⟨i4, fun _ => ⟨g2, g3⟩⟩
      · simp only [hsl]; exact (heap_setCell_other _ _ _ _ (by show B ≠ B + 1; omega)).trans rw1
      · simp only [hsl]; exact heap_setCell_same _ _ 0 _ _ _ rw2
end
end Go.Proofs.Ytmbnbehlfbdpnab
