/- The contract of the laws' few: three repositories cut short, in whatever order. -/
import Derived.Test.YtmbnbehlfbdpnabMTwo
namespace Go.Proofs.Ytmbnbehlfbdpnab
open Go.RowKit

def row3 (x y z : Sl) : Array Value := #[.slice x.sp x.fs.length x.cap, .slice y.sp y.fs.length y.cap, .slice z.sp z.fs.length z.cap]
theorem fa_run0 {ρ : Operand → Value} {o : Oper} {x : Operand} {g : Nat} {w : World} (ho : o.op = .fieldAddr 26 x 0) (hx : ρ x = .pointer (some ⟨g, 0, none⟩)) : (execOp ρ o).run Try.prog w = .ok (.value (.pointer (some ⟨g, 0, none⟩))) w := by
  unfold execOp
  simp only [ho, hx]
  kernel_rfl
theorem fa_run1 {ρ : Operand → Value} {o : Oper} {x : Operand} {g : Nat} {w : World} (ho : o.op = .fieldAddr 26 x 1) (hx : ρ x = .pointer (some ⟨g, 0, none⟩)) : (execOp ρ o).run Try.prog w = .ok (.value (.pointer (some ⟨g, 1, none⟩))) w := by
  unfold execOp
  simp only [ho, hx]
  kernel_rfl
theorem fa_run2 {ρ : Operand → Value} {o : Oper} {x : Operand} {g : Nat} {w : World} (ho : o.op = .fieldAddr 26 x 2) (hx : ρ x = .pointer (some ⟨g, 0, none⟩)) : (execOp ρ o).run Try.prog w = .ok (.value (.pointer (some ⟨g, 2, none⟩))) w := by
  unfold execOp
  simp only [ho, hx]
  kernel_rfl
theorem bld_three {ρ : Operand → Value} {o : Oper} {x y z : Operand} {u v t : Value} {w : World} (ho : o.op = .build 26 #[(0, x), (1, y), (2, z)]) (hx : ρ x = .agg #[u]) (hy : ρ y = .agg #[v]) (hz : ρ z = .agg #[t]) : (execOp ρ o).run Try.prog w = .ok (.value (.agg #[u, v, t])) w := by
  unfold execOp
  simp only [ho, List.map_toArray, List.map_cons, List.map_nil, hx, hy, hz]
  kernel_rfl
theorem load_part3 {w : World} {g k : Nat} {cs : Array Value} {v : Value} {t : TypeId} (h : w.heap[g]? = some (.cells cs t (0, 0))) (hk : cs[k]? = some v) : (loadVar 24 ⟨g, k, none⟩).run Try.prog w = .ok (.agg #[v]) w :=
  run_mid (cs := #[v]) (fun j u hu => by
    have hj : j = 0 := by have := (Array.getElem?_eq_some_iff.1 hu).1; simpa using this
    subst hj
    have : v = u := by simpa using hu
    subst this
    exact (cell_of_row _ _ _ _ _ _ h).trans hk) Try.underlying24 rfl (by kernel_rfl)
theorem ownF_row {B : Nat} {W : World} {v : Value} {xs : List Fi} (h : OwnF B W v xs) {g : Nat} {cs : Array Value} {t : TypeId} (ht : t ≠ 46) (hg : W.heap[g]? = some (.cells cs t (0, 0))) (x : Array Value) : OwnF B (W.setRow g x) v xs := h.keep fun k hk => setRow_other _ _ _ _ fun e => by
  obtain ⟨cs', hcs⟩ := h.row hk
  rw [e, hg] at hcs
  injection hcs with hcs
  injection hcs with _ hcs
  exact ht hcs

section
variable {Q : Exit → Act → World → Prop} {ops : Array Oper} {id : Nat} {o0 o1 o2 o3 o4 o5 o6 o7 o8 o9 o10 : Oper}
theorem three_shorts (f0 : Nat → Value) (W2 w : World) (x y z : Sl) (hsz : ops.size = 11) (hbk : backB ops = true)
    (q0 : ops[0]? = some o0)    (q1 : ops[1]? = some o1)    (q2 : ops[2]? = some o2)    (q3 : ops[3]? = some o3)    (q4 : ops[4]? = some o4)    (q5 : ops[5]? = some o5)    (q6 : ops[6]? = some o6)    (q7 : ops[7]? = some o7)    (q8 : ops[8]? = some o8)    (q9 : ops[9]? = some o9)    (q10 : ops[10]? = some o10)
    (a0 : o0.op = .fieldAddr 26 (.tmp 1) 0 ∧ o0.dst = some 3 ∧ o0.guard = none)
    (a1 : o1.op = .load 24 (.tmp 3) ∧ o1.dst = some 4 ∧ o1.guard = none)
    (a2 : o2.op = .call { callee := .value (.func 11), args := #[.tmp 4], argTypes := #[24] } ∧ o2.dst = some 5 ∧ o2.guard = none)
    (a3 : o3.op = .fieldAddr 26 (.tmp 1) 1 ∧ o3.dst = some 6 ∧ o3.guard = none)
    (a4 : o4.op = .load 24 (.tmp 6) ∧ o4.dst = some 7 ∧ o4.guard = none)
    (a5 : o5.op = .call { callee := .value (.func 11), args := #[.tmp 7], argTypes := #[24] } ∧ o5.dst = some 8 ∧ o5.guard = none)
    (a6 : o6.op = .fieldAddr 26 (.tmp 1) 2 ∧ o6.dst = some 9 ∧ o6.guard = none)
    (a7 : o7.op = .load 24 (.tmp 9) ∧ o7.dst = some 10 ∧ o7.guard = none)
    (a8 : o8.op = .call { callee := .value (.func 11), args := #[.tmp 10], argTypes := #[24] } ∧ o8.dst = some 11 ∧ o8.guard = none)
    (a9 : o9.op = .build 26 #[(0, .tmp 5), (1, .tmp 8), (2, .tmp 11)] ∧ o9.dst = some 12 ∧ o9.guard = none)
    (a10 : o10.op = .store 26 (.tmp 2) (.tmp 12) ∧ o10.dst = none ∧ o10.guard = none)
    (dp : waitsB o1 0 = true ∧ waitsB o2 1 = true ∧ waitsB o4 3 = true ∧ waitsB o5 4 = true ∧ waitsB o7 6 = true ∧ waitsB o8 7 = true ∧ waitsB o9 2 = true ∧ waitsB o9 5 = true ∧ waitsB o9 8 = true ∧ waitsB o10 9 = true)
    (hf1 : f0 1 = .pointer (some ⟨w.heap.size, 0, none⟩)) (hf2 : f0 2 = .pointer (some ⟨w.heap.size + 1, 0, none⟩))
    (r1 : W2.heap[w.heap.size]? = some (.cells (row3 x y z) 26 (0, 0))) (r2 : W2.heap[w.heap.size + 1]? = some (.cells #[.slice none 0 0, .slice none 0 0, .slice none 0 0] 26 (0, 0))) (hb2 : Below w.heap.size w W2) (hx : InF w x) (hy : InF w y) (hz : InF w z)
    (post : ∀ (f : Nat → Value) (s1 s2 s3 : Option Addr) (k1 k2 k3 d1 d2 d3 : Nat) (W' : World), f 2 = .pointer (some ⟨w.heap.size + 1, 0, none⟩) → OwnF w.heap.size W' (.slice s1 k1 d1) (shortL x.fs) → OwnF w.heap.size W' (.slice s2 k2 d2) (shortL y.fs) → OwnF w.heap.size W' (.slice s3 k3 d3) (shortL z.fs) → W'.heap[w.heap.size + 1]? = some (.cells #[.slice s1 k1 d1, .slice s2 k2 d2, .slice s3 k3 d3] 26 (0, 0)) → Below w.heap.size w W' → Q .normal ⟨frm 13 f, []⟩ W') :
    (Code.region id ops true).wp Try.prog Q ⟨frm 13 f0, []⟩ W2 := by
  obtain ⟨w1_0, w2_1, w4_3, w5_4, w7_6, w8_7, w9_2, w9_5, w9_8, w10_9⟩ := dp
  refine region_inv (by kernel_rfl) (fun l a W => ∃ (f : Nat → Value) (s1 s2 s3 : Option Addr) (k1 k2 k3 d1 d2 d3 : Nat), a = ⟨frm 13 f, []⟩ ∧ (f 1 = .pointer (some ⟨w.heap.size, 0, none⟩) ∧ f 2 = .pointer (some ⟨w.heap.size + 1, 0, none⟩)) ∧
      ((l.getD 0 false = true → f 3 = .pointer (some ⟨w.heap.size, 0, none⟩)) ∧ (l.getD 1 false = true → f 4 = .agg #[.slice x.sp x.fs.length x.cap]) ∧ (l.getD 2 false = true → f 5 = .agg #[.slice s1 k1 d1] ∧ OwnF w.heap.size W (.slice s1 k1 d1) (shortL x.fs))) ∧
      ((l.getD 3 false = true → f 6 = .pointer (some ⟨w.heap.size, 1, none⟩)) ∧ (l.getD 4 false = true → f 7 = .agg #[.slice y.sp y.fs.length y.cap]) ∧ (l.getD 5 false = true → f 8 = .agg #[.slice s2 k2 d2] ∧ OwnF w.heap.size W (.slice s2 k2 d2) (shortL y.fs))) ∧
      ((l.getD 6 false = true → f 9 = .pointer (some ⟨w.heap.size, 2, none⟩)) ∧ (l.getD 7 false = true → f 10 = .agg #[.slice z.sp z.fs.length z.cap]) ∧ (l.getD 8 false = true → f 11 = .agg #[.slice s3 k3 d3] ∧ OwnF w.heap.size W (.slice s3 k3 d3) (shortL z.fs))) ∧
      ((l.getD 9 false = true → f 12 = .agg #[.slice s1 k1 d1, .slice s2 k2 d2, .slice s3 k3 d3] ∧ l.getD 2 false = true ∧ l.getD 5 false = true ∧ l.getD 8 false = true) ∧ (l.getD 10 false = true → l.getD 9 false = true)) ∧
      W.heap[w.heap.size]? = some (.cells (row3 x y z) 26 (0, 0)) ∧ W.heap[w.heap.size + 1]? = some (.cells (if l.getD 10 false = true then #[.slice s1 k1 d1, .slice s2 k2 d2, .slice s3 k3 d3] else #[.slice none 0 0, .slice none 0 0, .slice none 0 0]) 26 (0, 0)) ∧ Below w.heap.size w W) (back_of hbk) ?_ ?_ ?_
  · intro l hl
    have hn : ∀ j, l.getD j false = true → False := fun j h => by rw [hl] at h; cases h
    refine ⟨f0, none, none, none, 0, 0, 0, 0, 0, 0, rfl, ⟨hf1, hf2⟩, ⟨fun h => (hn _ h).elim, fun h => (hn _ h).elim, fun h => (hn _ h).elim⟩, ⟨fun h => (hn _ h).elim, fun h => (hn _ h).elim, fun h => (hn _ h).elim⟩, ⟨fun h => (hn _ h).elim, fun h => (hn _ h).elim, fun h => (hn _ h).elim⟩, ⟨fun h => (hn _ h).elim, fun h => (hn _ h).elim⟩, r1, ?_, hb2.trans (below_drawn' _ 1)⟩
    rw [hl]
    exact r2
  · rintro l a W hall ⟨f, s1, s2, s3, k1, k2, k3, d1, d2, d3, rfl, ⟨-, g2⟩, ⟨-, -, c1⟩, ⟨-, -, c2⟩, ⟨-, -, c3⟩, -, -, rw2, hb⟩
    have hA : ∀ j, j < 11 → l.getD j false = true := fun j hj => hall j (by omega)
    rw [if_pos (hA 10 (by omega))] at rw2
    exact post f s1 s2 s3 k1 k2 k3 d1 d2 d3 W g2 (c1 (hA 2 (by omega))).2 (c2 (hA 5 (by omega))).2 (c3 (hA 8 (by omega))).2 rw2 hb
  · rintro l a W i o hs ⟨f, s1, s2, s3, k1, k2, k3, d1, d2, d3, rfl, ⟨g1, g2⟩, ⟨m0, m1, m2⟩, ⟨m3, m4, m5⟩, ⟨m6, m7, m8⟩, ⟨m9, m10⟩, rw1, rw2, hb⟩ ho hop hed K hK
    have hi : i < 11 := by have := (Array.getElem?_eq_some_iff.1 ho).1; omega
    have hsl : ∀ j, (l.setIfInBounds i true).getD j false = (if i = j then true else l.getD j false) := fun j => set_get (by omega)
    have hne : l.getD i false = false := by
      have : i < l.size := by omega
      simpa [this] using hop
    have h11 : i = 0 ∨ i = 1 ∨ i = 2 ∨ i = 3 ∨ i = 4 ∨ i = 5 ∨ i = 6 ∨ i = 7 ∨ i = 8 ∨ i = 9 ∨ i = 10 := by omega
    rcases h11 with rfl | rfl | rfl | rfl | rfl | rfl | rfl | rfl | rfl | rfl | rfl
    · obtain rfl : o0 = o := by rw [q0] at ho; exact Option.some.inj ho
      refine any_run a0.2.2 _ _ (fa_run0 a0.1 ((frm_eval f [] (by omega)).trans g1)) ?_
      rw [a0.2.1, frm_put]
      refine hK _ _ ⟨_, s1, s2, s3, k1, k2, k3, d1, d2, d3, rfl, ⟨?_, ?_⟩, ⟨?_, ?_, ?_⟩, ⟨?_, ?_, ?_⟩, ⟨?_, ?_, ?_⟩, ⟨?_, ?_⟩, ?_, ?_, hb⟩
      · rw [updV_other (by omega)]; exact g1
      · rw [updV_other (by omega)]; exact g2
      · exact fun _ => updV_same _ _ _
      · simp only [hsl]; rw [updV_other (by omega)]; exact m1
      · simp only [hsl]; rw [updV_other (by omega)]; exact fun h => ⟨(m2 h).1, (m2 h).2⟩
      · simp only [hsl]; rw [updV_other (by omega)]; exact m3
      · simp only [hsl]; rw [updV_other (by omega)]; exact m4
      · simp only [hsl]; rw [updV_other (by omega)]; exact fun h => ⟨(m5 h).1, (m5 h).2⟩
      · simp only [hsl]; rw [updV_other (by omega)]; exact m6
      · simp only [hsl]; rw [updV_other (by omega)]; exact m7
      · simp only [hsl]; rw [updV_other (by omega)]; exact fun h => ⟨(m8 h).1, (m8 h).2⟩
      · simp only [hsl]; rw [updV_other (by omega)]; exact m9
      · simp only [hsl]; exact m10
      · exact rw1
      · simp only [hsl]; exact rw2
    · obtain rfl : o1 = o := by rw [q1] at ho; exact Option.some.inj ho
      have e0 := waits_on w1_0 hed
      refine any_load a1.2.2 24 (.tmp 3) a1.1 ⟨w.heap.size, 0, none⟩ _ ((frm_eval f [] (by omega)).trans (m0 e0)) (load_part3 rw1 rfl) ?_
      rw [a1.2.1, frm_put]
      refine hK _ _ ⟨_, s1, s2, s3, k1, k2, k3, d1, d2, d3, rfl, ⟨?_, ?_⟩, ⟨?_, ?_, ?_⟩, ⟨?_, ?_, ?_⟩, ⟨?_, ?_, ?_⟩, ⟨?_, ?_⟩, ?_, ?_, hb⟩
      · rw [updV_other (by omega)]; exact g1
      · rw [updV_other (by omega)]; exact g2
      · simp only [hsl]; rw [updV_other (by omega)]; exact m0
      · exact fun _ => updV_same _ _ _
      · simp only [hsl]; rw [updV_other (by omega)]; exact fun h => ⟨(m2 h).1, (m2 h).2⟩
      · simp only [hsl]; rw [updV_other (by omega)]; exact m3
      · simp only [hsl]; rw [updV_other (by omega)]; exact m4
      · simp only [hsl]; rw [updV_other (by omega)]; exact fun h => ⟨(m5 h).1, (m5 h).2⟩
      · simp only [hsl]; rw [updV_other (by omega)]; exact m6
      · simp only [hsl]; rw [updV_other (by omega)]; exact m7
      · simp only [hsl]; rw [updV_other (by omega)]; exact fun h => ⟨(m8 h).1, (m8 h).2⟩
      · simp only [hsl]; rw [updV_other (by omega)]; exact m9
      · simp only [hsl]; exact m10
      · exact rw1
      · simp only [hsl]; exact rw2
    · obtain rfl : o2 = o := by rw [q2] at ho; exact Option.some.inj ho
      have n9 : l.getD 9 false = false := by
        cases h : l.getD 9 false with
        | false => rfl
        | true => rw [(m9 h).2.1] at hne; cases hne
      have n10 : l.getD 10 false = false := by
        cases h : l.getD 10 false with
        | false => rfl
        | true => rw [m10 h] at n9; cases n9
      rw [n10, if_neg (by simp)] at rw2
      have e0 := waits_on w2_1 hed
      refine any_call a2.2.2 11 _ (call_run a2.1 (frm_func f [] _) ((frm_eval f [] (by omega)).trans (m1 e0)) (enters_of Try.func11 (by kernel_rfl) rfl)) _ (short_in x w W hx hb) ?_
      rintro _ W' ⟨s, k, d, rfl, ho', hbw⟩
      rw [a2.2.1, frm_put]
      refine hK _ _ ⟨_, s, s2, s3, k, k2, k3, d, d2, d3, rfl, ⟨?_, ?_⟩, ⟨?_, ?_, ?_⟩, ⟨?_, ?_, ?_⟩, ⟨?_, ?_, ?_⟩, ⟨?_, ?_⟩, ?_, ?_, hb.trans (hbw.mono hb.size)⟩
      · rw [updV_other (by omega)]; exact g1
      · rw [updV_other (by omega)]; exact g2
      · simp only [hsl]; rw [updV_other (by omega)]; exact m0
      · simp only [hsl]; rw [updV_other (by omega)]; exact m1
      · exact fun _ => ⟨updV_same _ _ _, ho'⟩
      · simp only [hsl]; rw [updV_other (by omega)]; exact m3
      · simp only [hsl]; rw [updV_other (by omega)]; exact m4
      · simp only [hsl]; rw [updV_other (by omega)]; exact fun h => ⟨(m5 h).1, ((m5 h).2).below hbw⟩
      · simp only [hsl]; rw [updV_other (by omega)]; exact m6
      · simp only [hsl]; rw [updV_other (by omega)]; exact m7
      · simp only [hsl]; rw [updV_other (by omega)]; exact fun h => ⟨(m8 h).1, ((m8 h).2).below hbw⟩
      · simp only [hsl]; rw [n9]; exact fun h => by cases h
      · simp only [hsl]; exact m10
      · exact (hbw.block _ (lt_of_row rw1)).trans rw1
      · simp only [hsl]; rw [n10, if_neg (by simp)]; exact (hbw.block _ (lt_of_row rw2)).trans rw2
    · obtain rfl : o3 = o := by rw [q3] at ho; exact Option.some.inj ho
      refine any_run a3.2.2 _ _ (fa_run1 a3.1 ((frm_eval f [] (by omega)).trans g1)) ?_
      rw [a3.2.1, frm_put]
      refine hK _ _ ⟨_, s1, s2, s3, k1, k2, k3, d1, d2, d3, rfl, ⟨?_, ?_⟩, ⟨?_, ?_, ?_⟩, ⟨?_, ?_, ?_⟩, ⟨?_, ?_, ?_⟩, ⟨?_, ?_⟩, ?_, ?_, hb⟩
      · rw [updV_other (by omega)]; exact g1
      · rw [updV_other (by omega)]; exact g2
      · simp only [hsl]; rw [updV_other (by omega)]; exact m0
      · simp only [hsl]; rw [updV_other (by omega)]; exact m1
      · simp only [hsl]; rw [updV_other (by omega)]; exact fun h => ⟨(m2 h).1, (m2 h).2⟩
      · exact fun _ => updV_same _ _ _
      · simp only [hsl]; rw [updV_other (by omega)]; exact m4
      · simp only [hsl]; rw [updV_other (by omega)]; exact fun h => ⟨(m5 h).1, (m5 h).2⟩
      · simp only [hsl]; rw [updV_other (by omega)]; exact m6
      · simp only [hsl]; rw [updV_other (by omega)]; exact m7
      · simp only [hsl]; rw [updV_other (by omega)]; exact fun h => ⟨(m8 h).1, (m8 h).2⟩
      · simp only [hsl]; rw [updV_other (by omega)]; exact m9
      · simp only [hsl]; exact m10
      · exact rw1
      · simp only [hsl]; exact rw2
    · obtain rfl : o4 = o := by rw [q4] at ho; exact Option.some.inj ho
      have e0 := waits_on w4_3 hed
      refine any_load a4.2.2 24 (.tmp 6) a4.1 ⟨w.heap.size, 1, none⟩ _ ((frm_eval f [] (by omega)).trans (m3 e0)) (load_part3 rw1 rfl) ?_
      rw [a4.2.1, frm_put]
      refine hK _ _ ⟨_, s1, s2, s3, k1, k2, k3, d1, d2, d3, rfl, ⟨?_, ?_⟩, ⟨?_, ?_, ?_⟩, ⟨?_, ?_, ?_⟩, ⟨?_, ?_, ?_⟩, ⟨?_, ?_⟩, ?_, ?_, hb⟩
      · rw [updV_other (by omega)]; exact g1
      · rw [updV_other (by omega)]; exact g2
      · simp only [hsl]; rw [updV_other (by omega)]; exact m0
      · simp only [hsl]; rw [updV_other (by omega)]; exact m1
      · simp only [hsl]; rw [updV_other (by omega)]; exact fun h => ⟨(m2 h).1, (m2 h).2⟩
      · simp only [hsl]; rw [updV_other (by omega)]; exact m3
      · exact fun _ => updV_same _ _ _
      · simp only [hsl]; rw [updV_other (by omega)]; exact fun h => ⟨(m5 h).1, (m5 h).2⟩
      · simp only [hsl]; rw [updV_other (by omega)]; exact m6
      · simp only [hsl]; rw [updV_other (by omega)]; exact m7
      · simp only [hsl]; rw [updV_other (by omega)]; exact fun h => ⟨(m8 h).1, (m8 h).2⟩
      · simp only [hsl]; rw [updV_other (by omega)]; exact m9
      · simp only [hsl]; exact m10
      · exact rw1
      · simp only [hsl]; exact rw2
    · obtain rfl : o5 = o := by rw [q5] at ho; exact Option.some.inj ho
      have n9 : l.getD 9 false = false := by
        cases h : l.getD 9 false with
        | false => rfl
        | true => rw [(m9 h).2.2.1] at hne; cases hne
      have n10 : l.getD 10 false = false := by
        cases h : l.getD 10 false with
        | false => rfl
        | true => rw [m10 h] at n9; cases n9
      rw [n10, if_neg (by simp)] at rw2
      have e0 := waits_on w5_4 hed
      refine any_call a5.2.2 11 _ (call_run a5.1 (frm_func f [] _) ((frm_eval f [] (by omega)).trans (m4 e0)) (enters_of Try.func11 (by kernel_rfl) rfl)) _ (short_in y w W hy hb) ?_
      rintro _ W' ⟨s, k, d, rfl, ho', hbw⟩
      rw [a5.2.1, frm_put]
      refine hK _ _ ⟨_, s1, s, s3, k1, k, k3, d1, d, d3, rfl, ⟨?_, ?_⟩, ⟨?_, ?_, ?_⟩, ⟨?_, ?_, ?_⟩, ⟨?_, ?_, ?_⟩, ⟨?_, ?_⟩, ?_, ?_, hb.trans (hbw.mono hb.size)⟩
      · rw [updV_other (by omega)]; exact g1
      · rw [updV_other (by omega)]; exact g2
      · simp only [hsl]; rw [updV_other (by omega)]; exact m0
      · simp only [hsl]; rw [updV_other (by omega)]; exact m1
      · simp only [hsl]; rw [updV_other (by omega)]; exact fun h => ⟨(m2 h).1, ((m2 h).2).below hbw⟩
      · simp only [hsl]; rw [updV_other (by omega)]; exact m3
      · simp only [hsl]; rw [updV_other (by omega)]; exact m4
      · exact fun _ => ⟨updV_same _ _ _, ho'⟩
      · simp only [hsl]; rw [updV_other (by omega)]; exact m6
      · simp only [hsl]; rw [updV_other (by omega)]; exact m7
      · simp only [hsl]; rw [updV_other (by omega)]; exact fun h => ⟨(m8 h).1, ((m8 h).2).below hbw⟩
      · simp only [hsl]; rw [n9]; exact fun h => by cases h
      · simp only [hsl]; exact m10
      · exact (hbw.block _ (lt_of_row rw1)).trans rw1
      · simp only [hsl]; rw [n10, if_neg (by simp)]; exact (hbw.block _ (lt_of_row rw2)).trans rw2
    · obtain rfl : o6 = o := by rw [q6] at ho; exact Option.some.inj ho
      refine any_run a6.2.2 _ _ (fa_run2 a6.1 ((frm_eval f [] (by omega)).trans g1)) ?_
      rw [a6.2.1, frm_put]
      refine hK _ _ ⟨_, s1, s2, s3, k1, k2, k3, d1, d2, d3, rfl, ⟨?_, ?_⟩, ⟨?_, ?_, ?_⟩, ⟨?_, ?_, ?_⟩, ⟨?_, ?_, ?_⟩, ⟨?_, ?_⟩, ?_, ?_, hb⟩
      · rw [updV_other (by omega)]; exact g1
      · rw [updV_other (by omega)]; exact g2
      · simp only [hsl]; rw [updV_other (by omega)]; exact m0
      · simp only [hsl]; rw [updV_other (by omega)]; exact m1
      · simp only [hsl]; rw [updV_other (by omega)]; exact fun h => ⟨(m2 h).1, (m2 h).2⟩
      · simp only [hsl]; rw [updV_other (by omega)]; exact m3
      · simp only [hsl]; rw [updV_other (by omega)]; exact m4
      · simp only [hsl]; rw [updV_other (by omega)]; exact fun h => ⟨(m5 h).1, (m5 h).2⟩
      · exact fun _ => updV_same _ _ _
      · simp only [hsl]; rw [updV_other (by omega)]; exact m7
      · simp only [hsl]; rw [updV_other (by omega)]; exact fun h => ⟨(m8 h).1, (m8 h).2⟩
      · simp only [hsl]; rw [updV_other (by omega)]; exact m9
      · simp only [hsl]; exact m10
      · exact rw1
      · simp only [hsl]; exact rw2
    · obtain rfl : o7 = o := by rw [q7] at ho; exact Option.some.inj ho
      have e0 := waits_on w7_6 hed
      refine any_load a7.2.2 24 (.tmp 9) a7.1 ⟨w.heap.size, 2, none⟩ _ ((frm_eval f [] (by omega)).trans (m6 e0)) (load_part3 rw1 rfl) ?_
      rw [a7.2.1, frm_put]
      refine hK _ _ ⟨_, s1, s2, s3, k1, k2, k3, d1, d2, d3, rfl, ⟨?_, ?_⟩, ⟨?_, ?_, ?_⟩, ⟨?_, ?_, ?_⟩, ⟨?_, ?_, ?_⟩, ⟨?_, ?_⟩, ?_, ?_, hb⟩
      · rw [updV_other (by omega)]; exact g1
      · rw [updV_other (by omega)]; exact g2
      · simp only [hsl]; rw [updV_other (by omega)]; exact m0
      · simp only [hsl]; rw [updV_other (by omega)]; exact m1
      · simp only [hsl]; rw [updV_other (by omega)]; exact fun h => ⟨(m2 h).1, (m2 h).2⟩
      · simp only [hsl]; rw [updV_other (by omega)]; exact m3
      · simp only [hsl]; rw [updV_other (by omega)]; exact m4
      · simp only [hsl]; rw [updV_other (by omega)]; exact fun h => ⟨(m5 h).1, (m5 h).2⟩
      · simp only [hsl]; rw [updV_other (by omega)]; exact m6
      · exact fun _ => updV_same _ _ _
      · simp only [hsl]; rw [updV_other (by omega)]; exact fun h => ⟨(m8 h).1, (m8 h).2⟩
      · simp only [hsl]; rw [updV_other (by omega)]; exact m9
      · simp only [hsl]; exact m10
      · exact rw1
      · simp only [hsl]; exact rw2
    · obtain rfl : o8 = o := by rw [q8] at ho; exact Option.some.inj ho
      have n9 : l.getD 9 false = false := by
        cases h : l.getD 9 false with
        | false => rfl
        | true => rw [(m9 h).2.2.2] at hne; cases hne
      have n10 : l.getD 10 false = false := by
        cases h : l.getD 10 false with
        | false => rfl
        | true => rw [m10 h] at n9; cases n9
      rw [n10, if_neg (by simp)] at rw2
      have e0 := waits_on w8_7 hed
      refine any_call a8.2.2 11 _ (call_run a8.1 (frm_func f [] _) ((frm_eval f [] (by omega)).trans (m7 e0)) (enters_of Try.func11 (by kernel_rfl) rfl)) _ (short_in z w W hz hb) ?_
      rintro _ W' ⟨s, k, d, rfl, ho', hbw⟩
      rw [a8.2.1, frm_put]
      refine hK _ _ ⟨_, s1, s2, s, k1, k2, k, d1, d2, d, rfl, ⟨?_, ?_⟩, ⟨?_, ?_, ?_⟩, ⟨?_, ?_, ?_⟩, ⟨?_, ?_, ?_⟩, ⟨?_, ?_⟩, ?_, ?_, hb.trans (hbw.mono hb.size)⟩
      · rw [updV_other (by omega)]; exact g1
      · rw [updV_other (by omega)]; exact g2
      · simp only [hsl]; rw [updV_other (by omega)]; exact m0
      · simp only [hsl]; rw [updV_other (by omega)]; exact m1
      · simp only [hsl]; rw [updV_other (by omega)]; exact fun h => ⟨(m2 h).1, ((m2 h).2).below hbw⟩
      · simp only [hsl]; rw [updV_other (by omega)]; exact m3
      · simp only [hsl]; rw [updV_other (by omega)]; exact m4
      · simp only [hsl]; rw [updV_other (by omega)]; exact fun h => ⟨(m5 h).1, ((m5 h).2).below hbw⟩
      · simp only [hsl]; rw [updV_other (by omega)]; exact m6
      · simp only [hsl]; rw [updV_other (by omega)]; exact m7
      · exact fun _ => ⟨updV_same _ _ _, ho'⟩
      · simp only [hsl]; rw [n9]; exact fun h => by cases h
      · simp only [hsl]; exact m10
      · exact (hbw.block _ (lt_of_row rw1)).trans rw1
      · simp only [hsl]; rw [n10, if_neg (by simp)]; exact (hbw.block _ (lt_of_row rw2)).trans rw2
    · obtain rfl : o9 = o := by rw [q9] at ho; exact Option.some.inj ho
      have e2 := waits_on w9_2 hed
      have e5 := waits_on w9_5 hed
      have e8 := waits_on w9_8 hed
      refine any_run a9.2.2 _ _ (bld_three a9.1 ((frm_eval f [] (by omega)).trans (m2 e2).1) ((frm_eval f [] (by omega)).trans (m5 e5).1) ((frm_eval f [] (by omega)).trans (m8 e8).1)) ?_
      rw [a9.2.1, frm_put]
      refine hK _ _ ⟨_, s1, s2, s3, k1, k2, k3, d1, d2, d3, rfl, ⟨?_, ?_⟩, ⟨?_, ?_, ?_⟩, ⟨?_, ?_, ?_⟩, ⟨?_, ?_, ?_⟩, ⟨?_, ?_⟩, ?_, ?_, hb⟩
      · rw [updV_other (by omega)]; exact g1
      · rw [updV_other (by omega)]; exact g2
      · simp only [hsl]; rw [updV_other (by omega)]; exact m0
      · simp only [hsl]; rw [updV_other (by omega)]; exact m1
      · simp only [hsl]; rw [updV_other (by omega)]; exact fun h => ⟨(m2 h).1, (m2 h).2⟩
      · simp only [hsl]; rw [updV_other (by omega)]; exact m3
      · simp only [hsl]; rw [updV_other (by omega)]; exact m4
      · simp only [hsl]; rw [updV_other (by omega)]; exact fun h => ⟨(m5 h).1, (m5 h).2⟩
      · simp only [hsl]; rw [updV_other (by omega)]; exact m6
      · simp only [hsl]; rw [updV_other (by omega)]; exact m7
      · simp only [hsl]; rw [updV_other (by omega)]; exact fun h => ⟨(m8 h).1, (m8 h).2⟩
      · simp only [hsl]; exact fun _ => ⟨updV_same _ _ _, e2, e5, e8⟩
      · simp only [hsl]; exact fun _ => rfl
      · exact rw1
      · simp only [hsl]; exact rw2
    · obtain rfl : o10 = o := by rw [q10] at ho; exact Option.some.inj ho
      have e9 := waits_on w10_9 hed
      rw [hne, if_neg (by simp)] at rw2
      rw [if_pos (wanted_plain a10.2.2)]
      refine wp_store_row 26 (.tmp 2) (.tmp 12) a10.1 (w.heap.size + 1) #[.slice s1 k1 d1, .slice s2 k2 d2, .slice s3 k3 d3] ((frm_eval f [] (by omega)).trans g2) ((frm_eval f [] (by omega)).trans (m9 e9).1) 26 _ rw2 (by kernel_rfl) rfl (by simp [Value.oneCell']) ?_
      rw [a10.2.1, frm_put0]
      refine hK _ _ ⟨f, s1, s2, s3, k1, k2, k3, d1, d2, d3, rfl, ⟨?_, ?_⟩, ⟨?_, ?_, ?_⟩, ⟨?_, ?_, ?_⟩, ⟨?_, ?_, ?_⟩, ⟨?_, ?_⟩, ?_, ?_, below_setRow' hb (by omega) _⟩
      · exact g1
      · exact g2
      · simp only [hsl]; exact m0
      · simp only [hsl]; exact m1
      · simp only [hsl]; exact fun h => ⟨(m2 h).1, ownF_row ((m2 h).2) (by decide) rw2 _⟩
      · simp only [hsl]; exact m3
      · simp only [hsl]; exact m4
      · simp only [hsl]; exact fun h => ⟨(m5 h).1, ownF_row ((m5 h).2) (by decide) rw2 _⟩
      · simp only [hsl]; exact m6
      · simp only [hsl]; exact m7
      · simp only [hsl]; exact fun h => ⟨(m8 h).1, ownF_row ((m8 h).2) (by decide) rw2 _⟩
      · simp only [hsl]; exact m9
      · simp only [hsl]; exact fun _ => e9
      · exact (setRow_other _ _ _ _ (by omega)).trans rw1
      · simp only [hsl]; exact heap_setRow_same rw2
end
end Go.Proofs.Ytmbnbehlfbdpnab
