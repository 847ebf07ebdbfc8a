/- What an object's lists hold; the contract of object.Same. -/
import Derived.Test.YtgfjjglejlnfbaaGreatDoorEqs
import Derived.Test.YtgfjjglejlnfbaaGreatDoorNameC
namespace Go.Proofs.YtgfjjglejlnfbaaGreatDoor
open Go.RowKit

/-- What an object's lists hold. -/
structure Co where
  nb : Nat
  bf : Nat → Int
  es : List Ent
  ps : List (Nat → Int)
structure Has (w : World) (o : Ob) (c : Co) : Prop where
  b : ∃ sp cap, o.bs = .slice sp c.nb cap ∧ SrcAt w .u8 sp c.nb c.bf
  e : ∃ sp cap, o.es = .slice sp c.es.length cap ∧ RowsAt w 34 Ent.cells sp c.es
  p : ∃ sp cap, o.ps = .slice sp c.ps.length cap ∧ RowsAt w 32 (arr .u8 32) sp c.ps
  bok : ∀ i, i < c.nb → 0 ≤ c.bf i ∧ c.bf i ≤ 255
  bn : ∀ n cap, o.bs = .slice none n cap → cap = 0
  lb : c.nb ≤ 100000000
  le : c.es.length ≤ 100000000
  lp : c.ps.length ≤ 100000000
theorem Has.below {w w' : World} {o : Ob} {c : Co} (h : Has w o c) (hb : Below w.heap.size w w') : Has w' o c := by
  obtain ⟨sp, cp, h1, h2⟩ := h.b
  obtain ⟨sq, cq, h3, h4⟩ := h.e
  obtain ⟨sr, cr, h5, h6⟩ := h.p
  exact ⟨⟨sp, cp, h1, h2.below hb⟩, ⟨sq, cq, h3, h4.below hb⟩, ⟨sr, cr, h5, h6.below hb⟩, h.bok, h.bn, h.lb, h.le, h.lp⟩
/-- Two objects, field by field. -/
def sameB (o : Ob) (c : Co) (p : Ob) (d : Co) : Bool := (o.kind == p.kind) && ((c.nb == d.nb && eqTo c.bf d.bf c.nb) && (eqAll entEq c.es d.es && (eqTo o.tree p.tree 32 && (eqAll idEq c.ps d.ps && ((o.num == p.num) && (o.note.toList == p.note.toList))))))

theorem load_atg {P : Program} {ops : Array Oper} {Q : Exit → Act → World → Prop} {a : Act} {w : World} {rest : List Oper} {o : Oper} (hw : Region.wanted o (yielded ops a.tmps) = true) (ty : TypeId) (x : Operand) (ho : o.op = .load ty x) (g p : Nat) (hx : a.eval x = .pointer (some ⟨g, p, none⟩))
    (k : IntKind) (m : Nat) (f : Nat → Int) (d : TypeDesc) (hc : ∀ i, i < m → w.cell? ⟨g, p + i, none⟩ = some (.int k (f i))) (hu : P.underlying ty = some d)
    (hd : d.isRow = true) (hsz : (P.info? ty).map (·.size) = some m)
    (h : wpList P ops Q rest (a.put o.dst (.agg (arr k m f))) w) : wpList P ops Q (o :: rest) a w :=
  wpList_step fun _ hK => by
    rw [if_pos hw]
    unfold Oper.wp execOp
    simp only [ho, hx, Instr.loadAt, Instr.sureAddr, Sem.run_bind, Sem.run_pure, Result.andThen_ok, run_at hc hu hd hsz]
    exact hK _ _ h
theorem below_drewN {B : Nat} {w w1 : World} (h : Below B w w1) (n : Nat) : Below B w (w1.drewN n) := ⟨h.os, h.tape, h.output, h.size, h.block⟩

set_option maxRecDepth 100000 in
set_option maxHeartbeats 1000000 in
theorem same_any (o p : Ob) (c d : Co) (w : World) (ho : Has w o c) (hp : Has w p d) :
    Calls Tryz.prog 89 #[.agg o.cells, .agg p.cells] w fun e w' => e = .returned (.bool (sameB o c p d)) ∧ Below w.heap.size w w' := by
  go_enter Tryz.func89, Tryz.ntmps89
  have a0 := o.cell0
  have a1 := o.cell1
  have b0 := p.cell0
  have b1 := p.cell1
  cases hk : o.kind == p.kind with
  | false =>
    go_wp2
    go_ret
    refine ⟨ret_bool ?_, ?_⟩
    · simp [sameB, hk]
    · exact ((Below.refl _ _).alloc (Nat.le_refl _) _).alloc (by simp) _
  | true =>
    go_wp2_with fail
    refine calls_gen (fun W1 => Below w.heap.size w W1 ∧ ObRow W1 w.heap.size 0 o ∧ ObRow W1 (w.heap.size + 1) 0 p) ⟨?_, ?_, ?_⟩ ?_
    · exact ((Below.refl _ _).alloc (Nat.le_refl _) _).alloc (by simp) _
    · exact obRow (heap_alloc2_old _ _ _)
    · exact obRow (heap_alloc2_new _ _ _)
    intro W1 ⟨hB1, hr1, hr2⟩
    obtain ⟨s1, k1, hob, hs1⟩ := ho.b
    obtain ⟨t1, l1, hpb, ht1⟩ := hp.b
    rw [hob, hpb]
    refine (equal_any s1 t1 c.nb d.nb k1 l1 c.bf d.bf W1 (hs1.below (hB1.mono (Nat.le_refl _))) (ht1.below hB1) ho.bok hp.bok ho.lb).mono ?_
    rintro e w1 ⟨rfl, rfl⟩
    clear a0 a1 b0 b1
    have x2 : w1.cell? ⟨w.heap.size, 2, none⟩ = some o.es := hr1.c2
    have y2 : w1.cell? ⟨w.heap.size + 1, 2, none⟩ = some p.es := hr2.c2
    cases hq : (c.nb == d.nb && eqTo c.bf d.bf c.nb) with
    | false =>
      go_wp2
      go_ret
      exact ⟨ret_bool (by simp only [sameB, hq, Bool.false_and, Bool.and_false]), hB1⟩
    | true =>
      go_wp2_with fail
      obtain ⟨s2, k2, hoe, hs2⟩ := ho.e
      obtain ⟨t2, l2, hpe, ht2⟩ := hp.e
      rw [hoe, hpe]
      refine (equalE_any s2 t2 k2 l2 c.es d.es w1 (hs2.below hB1) (ht2.below hB1) ho.le).mono ?_
      rintro e w2 ⟨rfl, n, rfl⟩
      clear x2 y2
      have hB2 := below_drewN hB1 n
      have hr1' : ObRow (w1.drewN n) w.heap.size 0 o := hr1.below (below_drewN (Below.refl _ _) n)
      have hr2' : ObRow (w1.drewN n) (w.heap.size + 1) 0 p := hr2.below (below_drewN (Below.refl _ _) n)
      clear hr1 hr2 hB1
      generalize w1.drewN n = W2 at hB2 hr1' hr2'
      have x4 : W2.cell? ⟨w.heap.size, 35, none⟩ = some o.ps := hr1'.c35
      have y4 : W2.cell? ⟨w.heap.size + 1, 35, none⟩ = some p.ps := hr2'.c35
      cases hq2 : eqAll entEq c.es d.es with
      | false =>
        go_wp2
        go_ret
        exact ⟨ret_bool (by simp only [sameB, hq2, Bool.false_and, Bool.and_false]), hB2⟩
      | true =>
        have heq := equal_id o.tree p.tree
        cases hq3 : eqTo o.tree p.tree 32 with
        | false =>
          rw [hq3] at heq
          go_wp2_with (first
            | (refine load_atg (by rfl) 26 (.tmp 25) (by rfl) w.heap.size 3 (by rfl) .u8 32 o.tree _ hr1'.tree Tryz.underlying26 rfl (by kernel_rfl) ?_)
            | (refine load_atg (by rfl) 26 (.tmp 27) (by rfl) (w.heap.size + 1) 3 (by rfl) .u8 32 p.tree _ hr2'.tree Tryz.underlying26 rfl (by kernel_rfl) ?_))
          go_ret
          exact ⟨ret_bool (by simp only [sameB, hq3, Bool.false_and, Bool.and_false]), hB2⟩
        | true =>
          rw [hq3] at heq
          go_wp2_with (first
            | (refine load_atg (by rfl) 26 (.tmp 25) (by rfl) w.heap.size 3 (by rfl) .u8 32 o.tree _ hr1'.tree Tryz.underlying26 rfl (by kernel_rfl) ?_)
            | (refine load_atg (by rfl) 26 (.tmp 27) (by rfl) (w.heap.size + 1) 3 (by rfl) .u8 32 p.tree _ hr2'.tree Tryz.underlying26 rfl (by kernel_rfl) ?_))
          obtain ⟨s3, k3, hop, hs3⟩ := ho.p
          obtain ⟨t3, l3, hpp, ht3⟩ := hp.p
          rw [hop, hpp]
          refine (equalI_any s3 t3 k3 l3 c.ps d.ps W2 (hs3.below hB2) (ht3.below hB2) ho.lp).mono ?_
          rintro e w3 ⟨rfl, m, rfl⟩
          clear x4 y4 heq
          have hB3 := below_drewN hB2 m
          have x5 : (W2.drewN m).cell? ⟨w.heap.size, 36, none⟩ = some (.int .u32 o.num) := hr1'.c36
          have y5 : (W2.drewN m).cell? ⟨w.heap.size + 1, 36, none⟩ = some (.int .u32 p.num) := hr2'.c36
          have x6 : (W2.drewN m).cell? ⟨w.heap.size, 37, none⟩ = some (.string o.note) := hr1'.c37
          have y6 : (W2.drewN m).cell? ⟨w.heap.size + 1, 37, none⟩ = some (.string p.note) := hr2'.c37
          clear hr1' hr2' hB2
          generalize W2.drewN m = W3 at hB3 x5 y5 x6 y6
          cases hq4 : eqAll idEq c.ps d.ps with
          | false =>
            go_wp2
            go_ret
            exact ⟨ret_bool (by simp only [sameB, hq4, Bool.false_and, Bool.and_false]), hB3⟩
          | true =>
            cases hq5 : o.num == p.num with
            | false =>
              go_wp2
              go_ret
              exact ⟨ret_bool (by simp only [sameB, hq5, Bool.false_and, Bool.and_false]), hB3⟩
            | true =>
              go_wp2
              go_ret
              exact ⟨ret_bool (by simp only [sameB, hk, hq, hq2, hq3, hq4, hq5, Bool.true_and]), hB3⟩
end Go.Proofs.YtgfjjglejlnfbaaGreatDoor
