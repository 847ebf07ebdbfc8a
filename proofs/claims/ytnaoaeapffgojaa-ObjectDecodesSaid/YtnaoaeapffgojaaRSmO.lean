/- The contract of the document's Same of objects. -/
import Derived.Test.YtnaoaeapffgojaaRSam
import Derived.Test.YtnaoaeapffgojaaRRgL
namespace Go.Proofs.Ytnaoaeapffgojaa
open Go.RowKit

theorem eqAll_no {α : Type} {eq : α → α → Bool} {r q : List α} (h : r.length ≠ q.length) : eqAll eq r q = false := by
  cases hq : eqAll eq r q with
  | false => rfl
  | true => exact absurd (eqAll_len hq) h

set_option maxRecDepth 100000 in
set_option maxHeartbeats 8000000 in
theorem rsame_any (o p : Ob) (c d : Co) (w : World) (ho : Has w o c) (hp : Has w p d) :
    Calls Try.prog 9 #[.agg o.cells, .agg p.cells] w fun e w' => e = .returned (.bool (sameB o c p d)) ∧ Below w.heap.size w w' := by
  have HO : Hid _ := ho
  have HP : Hid _ := hp
  clear ho hp
  go_enter Try.func9, Try.ntmps9
  have a0 := o.cell0
  have a1 := o.cell1
  have b0 := p.cell0
  have b1 := p.cell1
  by_cases hk : o.kind = p.kind
  rotate_left
  · have hk1 : (o.kind != p.kind) = true := by simpa using hk
    have hk2 : (o.kind == p.kind) = false := by simpa using hk
    go_wp2
    go_ret
    refine ⟨ret_bool ?_, ?_⟩
    · simp [sameB, hk2]
    · exact ((Below.refl _ _).alloc (Nat.le_refl _) _).alloc (by simp) _
  have hk1 : (o.kind != p.kind) = false := by simpa using hk
  have hk2 : (o.kind == p.kind) = true := by simpa using hk
  go_wp2_with fail
  refine calls_gen (fun W1 => Below w.heap.size w W1 ∧ ObRow W1 w.heap.size 0 o ∧ ObRow W1 (w.heap.size + 1) 0 p) ⟨?_, ?_, ?_⟩ ?_
  · exact ((Below.refl _ _).alloc (Nat.le_refl _) _).alloc (by simp) _
  · exact obRow (heap_alloc2_old _ _ _)
  · exact obRow (heap_alloc2_new _ _ _)
  intro W1 ⟨hB1, hr1, hr2⟩
  obtain ⟨s1, k1, hob, hs1⟩ := HO.out.b
  obtain ⟨t1, l1, hpb, ht1⟩ := HP.out.b
  rw [hob, hpb]
  refine (rsame1_any s1 t1 c.nb d.nb k1 l1 c.bf d.bf W1 (hs1.below hB1) (ht1.below hB1) HO.out.lb).mono ?_
  rintro e w1 ⟨rfl, n, rfl⟩
  clear a0 a1 b0 b1 hk1
  have hB2 := below_drewN hB1 n
  have hr1' : ObRow (W1.drewN n) w.heap.size 0 o := hr1.below (below_drewN (Below.refl _ _) n)
  have hr2' : ObRow (W1.drewN n) (w.heap.size + 1) 0 p := hr2.below (below_drewN (Below.refl _ _) n)
  clear hr1 hr2 hB1 hs1 ht1 hob hpb
  generalize W1.drewN n = W2 at hB2 hr1' hr2'
  obtain ⟨s2, k2, hoe, hs2⟩ := HO.out.e
  obtain ⟨t2, l2, hpe, ht2⟩ := HP.out.e
  obtain ⟨s3, k3, hop, hs3⟩ := HO.out.p
  obtain ⟨t3, l3, hpp, ht3⟩ := HP.out.p
  have x2 : W2.cell? ⟨w.heap.size, 2, none⟩ = some (.slice s2 c.es.length k2) := hr1'.c2.trans (by rw [hoe])
  have y2 : W2.cell? ⟨w.heap.size + 1, 2, none⟩ = some (.slice t2 d.es.length l2) := hr2'.c2.trans (by rw [hpe])
  have x4 : W2.cell? ⟨w.heap.size, 35, none⟩ = some (.slice s3 c.ps.length k3) := hr1'.c35.trans (by rw [hop])
  have y4 : W2.cell? ⟨w.heap.size + 1, 35, none⟩ = some (.slice t3 d.ps.length l3) := hr2'.c35.trans (by rw [hpp])
  have x5 : W2.cell? ⟨w.heap.size, 36, none⟩ = some (.int .u32 o.num) := hr1'.c36
  have y5 : W2.cell? ⟨w.heap.size + 1, 36, none⟩ = some (.int .u32 p.num) := hr2'.c36
  have x6 : W2.cell? ⟨w.heap.size, 37, none⟩ = some (.string o.note) := hr1'.c37
  have y6 : W2.cell? ⟨w.heap.size + 1, 37, none⟩ = some (.string p.note) := hr2'.c37
  have HX : Hid _ := hr1'
  have HY : Hid _ := hr2'
  have HS2 : Hid _ := hs2.below hB2
  have HT2 : Hid _ := ht2.below hB2
  have HS3 : Hid _ := hs3.below hB2
  have HT3 : Hid _ := ht3.below hB2
  have hle := HO.out.le
  have hlp := HO.out.lp
  have hle' := HP.out.le
  have hlp' := HP.out.lp
  clear hr1' hr2' hs2 ht2 hs3 ht3 hoe hpe hop hpp HO HP
  have heq := equal_id o.tree p.tree
  cases hq : (c.nb == d.nb && eqTo c.bf d.bf c.nb) with
  | false =>
    go_wp2
    go_ret
    exact ⟨ret_bool (by simp only [sameB, hq, Bool.false_and, Bool.and_false]), hB2⟩
  | true =>
    by_cases hel : c.es.length = d.es.length
    rotate_left
    · have hel1 : ((c.es.length : Int) != (d.es.length : Int)) = true := by simp; omega
      go_wp2
      go_ret
      exact ⟨ret_bool (by simp only [sameB, eqAll_no hel, Bool.false_and, Bool.and_false]), hB2⟩
    have hel1 : ((c.es.length : Int) != (d.es.length : Int)) = false := by simp; omega
    cases hq3 : eqTo o.tree p.tree 32 with
    | false =>
      rw [hq3] at heq
      go_wp2_with (first | (refine load_atg2 26 (.tmp 30) (by rfl) (by rfl) w.heap.size 3 (by rfl) .u8 32 o.tree _ HX.out.tree Try.underlying26 rfl (by kernel_rfl) ?_) | (refine load_atg2 26 (.tmp 32) (by rfl) (by rfl) (w.heap.size + 1) 3 (by rfl) .u8 32 p.tree _ HY.out.tree Try.underlying26 rfl (by kernel_rfl) ?_))
      go_ret
      exact ⟨ret_bool (by simp only [sameB, hq3, Bool.false_and, Bool.and_false]), hB2⟩
    | true =>
      rw [hq3] at heq
      by_cases hpl : c.ps.length = d.ps.length
      rotate_left
      · have hpl1 : ((c.ps.length : Int) != (d.ps.length : Int)) = true := by simp; omega
        go_wp2_with (first | (refine load_atg2 26 (.tmp 30) (by rfl) (by rfl) w.heap.size 3 (by rfl) .u8 32 o.tree _ HX.out.tree Try.underlying26 rfl (by kernel_rfl) ?_) | (refine load_atg2 26 (.tmp 32) (by rfl) (by rfl) (w.heap.size + 1) 3 (by rfl) .u8 32 p.tree _ HY.out.tree Try.underlying26 rfl (by kernel_rfl) ?_))
        go_ret
        exact ⟨ret_bool (by simp only [sameB, eqAll_no hpl, Bool.false_and, Bool.and_false]), hB2⟩
      have hpl1 : ((c.ps.length : Int) != (d.ps.length : Int)) = false := by simp; omega
      cases hq5 : o.num == p.num with
      | false =>
        have hq5n : (o.num != p.num) = true := by simpa using hq5
        go_wp2_with (first | (refine load_atg2 26 (.tmp 30) (by rfl) (by rfl) w.heap.size 3 (by rfl) .u8 32 o.tree _ HX.out.tree Try.underlying26 rfl (by kernel_rfl) ?_) | (refine load_atg2 26 (.tmp 32) (by rfl) (by rfl) (w.heap.size + 1) 3 (by rfl) .u8 32 p.tree _ HY.out.tree Try.underlying26 rfl (by kernel_rfl) ?_))
        go_ret
        exact ⟨ret_bool (by simp only [sameB, hq5, Bool.false_and, Bool.and_false]), hB2⟩
      | true =>
        have hq5n : (o.num != p.num) = false := by simpa using hq5
        cases hq6 : (o.note.toList == p.note.toList) with
        | false =>
          go_wp2_with (first | (refine load_atg2 26 (.tmp 30) (by rfl) (by rfl) w.heap.size 3 (by rfl) .u8 32 o.tree _ HX.out.tree Try.underlying26 rfl (by kernel_rfl) ?_) | (refine load_atg2 26 (.tmp 32) (by rfl) (by rfl) (w.heap.size + 1) 3 (by rfl) .u8 32 p.tree _ HY.out.tree Try.underlying26 rfl (by kernel_rfl) ?_))
          go_ret
          exact ⟨ret_bool (by simp only [sameB, hq6, Bool.and_false]), hB2⟩
        | true =>
          go_wp2_with (first | (refine load_atg2 26 (.tmp 30) (by rfl) (by rfl) w.heap.size 3 (by rfl) .u8 32 o.tree _ HX.out.tree Try.underlying26 rfl (by kernel_rfl) ?_) | (refine load_atg2 26 (.tmp 32) (by rfl) (by rfl) (w.heap.size + 1) 3 (by rfl) .u8 32 p.tree _ HY.out.tree Try.underlying26 rfl (by kernel_rfl) ?_))
          have HSAME : Hid (sameB o c p d = (eqAll entEq c.es d.es && eqAll idEq c.ps d.ps)) := show sameB o c p d = (eqAll entEq c.es d.es && eqAll idEq c.ps d.ps) by simp only [sameB, hk2, hq, hq3, hq5, hq6, Bool.true_and, Bool.and_true]
          clear hk2 hq hq3 hq5 hq6 heq hel1 hpl1 hq5n x5 y5 x6 y6 HX HY
          go_loopw [5] (fun i wr => ∃ (t n : Nat), t ≤ c.es.length ∧ i = .int .i64 t ∧ wr = W2.drewN n ∧ ∀ j, j < t → ∀ a b, c.es[j]? = some a → d.es[j]? = some b → entEq a b = true) (fun i _ => c.es.length - (intOf i).toNat)
          case atStart => exact ⟨0, 0, Nat.zero_le _, rfl, rfl, fun j hj => by omega⟩
          case round =>
            obtain ⟨t, n, ht, rfl, rfl, hz⟩ := hrel
            have HZ : Hid _ := hz
            clear hz
            by_cases hlt : t < c.es.length
            · obtain ⟨b1, o1, rfl, hc1⟩ := HS2.out (by omega)
              obtain ⟨b2, o2, rfl, hc2⟩ := HT2.out (by omega)
              have hx : c.es[t]? = some (c.es[t]'hlt) := List.getElem?_eq_getElem hlt
              have hy : d.es[t]? = some (d.es[t]'(by omega)) := List.getElem?_eq_getElem (by omega)
              generalize hX : c.es[t]'hlt = x at hx
              generalize hY : d.es[t]'(by omega) = y at hy
              have e1 : ∀ m, (loadVar 40 ⟨b1, o1 + t * 34, none⟩).run Try.prog ((W2.drewN n).drewN m) = .ok (.agg (Ent.cells x)) ((W2.drewN n).drewN m) := fun m => run_mid (fun j u hu => hc1 t x hx j u hu) Try.underlying40 rfl (by rw [x.size]; kernel_rfl)
              have e2 : ∀ m, (loadVar 40 ⟨b2, o2 + t * 34, none⟩).run Try.prog ((W2.drewN n).drewN m) = .ok (.agg (Ent.cells y)) ((W2.drewN n).drewN m) := fun m => run_mid (fun j u hu => hc2 t y hy j u hu) Try.underlying40 rfl (by rw [y.size]; kernel_rfl)
              have heq := equal_ent x y
              have hly : t < d.es.length := by omega
              have HXX : Hid _ := hx
              have HYY : Hid _ := hy
              clear hc1 hc2 hX hY hx hy
              cases hb : entEq x y with
              | true =>
                have HB : Hid _ := hb
                rw [hb] at heq
                clear hb
                go_wp2
                refine wp_region_quiet_lit (by kernel_rfl) (by kernel_rfl) ?_
                repeat (go_big_quiet_step (fail))
                refine quiet_load (.agg (Ent.cells x)) 40 (.tmp 69) ⟨b1, o1 + t * 34, none⟩ (by rfl) (by rintro _ ⟨m, rfl⟩; exact e1 m) ?_
                simp only [List.setIfInBounds_toArray, List.set_cons_succ, List.set_cons_zero]
                repeat (go_big_quiet_step (fail))
                refine quiet_load (.agg (Ent.cells y)) 40 (.tmp 74) ⟨b2, o2 + t * 34, none⟩ (by rfl) (by rintro _ ⟨m, rfl⟩; exact e2 m) ?_
                simp only [List.setIfInBounds_toArray, List.set_cons_succ, List.set_cons_zero]
                repeat (go_big_quiet_step (fail))
                refine wpQuiet_nil ?_
                rintro _ ⟨nq, rfl⟩
                clear e1 e2 heq
                go_wp2
                go_roundw
                case rel =>
                  refine ⟨t + 1, n + nq, by omega, by go_num, by simp [World.drewN], fun j hj a b ha hb => ?_⟩
                  by_cases hj' : j < t
                  · exact HZ.out j hj' a b ha hb
                  · obtain rfl : j = t := by omega
                    have q1 := Option.some.inj (ha.symm.trans HXX.out)
                    have q2 := Option.some.inj (hb.symm.trans HYY.out)
                    rw [q1, q2]
                    exact HB.out
                case measure => simp [intOf]; omega
              | false =>
                have HB : Hid _ := hb
                rw [hb] at heq
                clear hb
                go_wp2
                refine wp_region_quiet_lit (by kernel_rfl) (by kernel_rfl) ?_
                repeat (go_big_quiet_step (fail))
                refine quiet_load (.agg (Ent.cells x)) 40 (.tmp 69) ⟨b1, o1 + t * 34, none⟩ (by rfl) (by rintro _ ⟨m, rfl⟩; exact e1 m) ?_
                simp only [List.setIfInBounds_toArray, List.set_cons_succ, List.set_cons_zero]
                repeat (go_big_quiet_step (fail))
                refine quiet_load (.agg (Ent.cells y)) 40 (.tmp 74) ⟨b2, o2 + t * 34, none⟩ (by rfl) (by rintro _ ⟨m, rfl⟩; exact e2 m) ?_
                simp only [List.setIfInBounds_toArray, List.set_cons_succ, List.set_cons_zero]
                repeat (go_big_quiet_step (fail))
                refine wpQuiet_nil ?_
                rintro _ ⟨nq, rfl⟩
                clear e1 e2 heq
                go_wp2
                go_ret
                have hno : eqAll entEq c.es d.es = false := by
                  cases h : eqAll entEq c.es d.es with
                  | false => rfl
                  | true =>
                    have := (eqAll_iff (eq := entEq) (by omega)).1 h t x y HXX.out HYY.out
                    rw [HB.out] at this
                    cases this
                exact ⟨ret_bool (by rw [HSAME.out, hno]; simp), below_drewN (below_drewN hB2 _) _⟩
            · have hall : eqAll entEq c.es d.es = true := (eqAll_iff (eq := entEq) (by omega)).2 fun i a b ha hb => HZ.out i (by have := (List.getElem?_eq_some_iff.1 ha).1; omega) a b ha hb
              have HALL34 : Hid _ := hall
              clear hall
              go_wp2
              clear HS2 HT2 x2 y2 HZ
              have x4 : (W2.drewN n).cell? ⟨w.heap.size, 35, none⟩ = some (.slice s3 c.ps.length k3) := x4
              have y4 : (W2.drewN n).cell? ⟨w.heap.size + 1, 35, none⟩ = some (.slice t3 d.ps.length l3) := y4
              have HS3 : Hid (RowsAt (W2.drewN n) 32 (arr .u8 32) s3 c.ps) := HS3.out
              have HT3 : Hid (RowsAt (W2.drewN n) 32 (arr .u8 32) t3 d.ps) := HT3.out
              have hB3 : Below w.heap.size w (W2.drewN n) := below_drewN hB2 n
              generalize W2.drewN n = W3 at x4 y4 HS3 HT3 hB3
              go_loopw [6] (fun i wr => ∃ (t n : Nat), t ≤ c.ps.length ∧ i = .int .i64 t ∧ wr = W3.drewN n ∧ ∀ j, j < t → ∀ a b, c.ps[j]? = some a → d.ps[j]? = some b → idEq a b = true) (fun i _ => c.ps.length - (intOf i).toNat)
              case atStart => exact ⟨0, 0, Nat.zero_le _, rfl, rfl, fun j hj => by omega⟩
              case round =>
                obtain ⟨t, n, ht, rfl, rfl, hz⟩ := hrel
                have HZ : Hid _ := hz
                clear hz
                by_cases hlt : t < c.ps.length
                · obtain ⟨b1, o1, rfl, hc1⟩ := HS3.out (by omega)
                  obtain ⟨b2, o2, rfl, hc2⟩ := HT3.out (by omega)
                  have hx : c.ps[t]? = some (c.ps[t]'hlt) := List.getElem?_eq_getElem hlt
                  have hy : d.ps[t]? = some (d.ps[t]'(by omega)) := List.getElem?_eq_getElem (by omega)
                  generalize hX : c.ps[t]'hlt = x at hx
                  generalize hY : d.ps[t]'(by omega) = y at hy
                  have e1 : ∀ m, (loadVar 26 ⟨b1, o1 + t * 32, none⟩).run Try.prog ((W3.drewN n).drewN m) = .ok (.agg (arr .u8 32 x)) ((W3.drewN n).drewN m) := fun m => run_mid (fun j u hu => hc1 t x hx j u hu) Try.underlying26 rfl (by rw [arr_size]; kernel_rfl)
                  have e2 : ∀ m, (loadVar 26 ⟨b2, o2 + t * 32, none⟩).run Try.prog ((W3.drewN n).drewN m) = .ok (.agg (arr .u8 32 y)) ((W3.drewN n).drewN m) := fun m => run_mid (fun j u hu => hc2 t y hy j u hu) Try.underlying26 rfl (by rw [arr_size]; kernel_rfl)
                  have heq := equal_id x y
                  have hly : t < d.ps.length := by omega
                  have HXX : Hid _ := hx
                  have HYY : Hid _ := hy
                  clear hc1 hc2 hX hY hx hy
                  cases hb : idEq x y with
                  | true =>
                    have HB : Hid _ := hb
                    unfold idEq at hb
                    rw [hb] at heq
                    clear hb
                    go_wp2
                    refine wp_region_quiet_lit (by kernel_rfl) (by kernel_rfl) ?_
                    repeat (go_big_quiet_step (fail))
                    refine quiet_load (.agg (arr .u8 32 x)) 26 (.tmp 87) ⟨b1, o1 + t * 32, none⟩ (by rfl) (by rintro _ ⟨m, rfl⟩; exact e1 m) ?_
                    simp only [List.setIfInBounds_toArray, List.set_cons_succ, List.set_cons_zero]
                    repeat (go_big_quiet_step (fail))
                    refine quiet_load (.agg (arr .u8 32 y)) 26 (.tmp 92) ⟨b2, o2 + t * 32, none⟩ (by rfl) (by rintro _ ⟨m, rfl⟩; exact e2 m) ?_
                    simp only [List.setIfInBounds_toArray, List.set_cons_succ, List.set_cons_zero]
                    repeat (go_big_quiet_step (fail))
                    refine wpQuiet_nil ?_
                    rintro _ ⟨nq, rfl⟩
                    clear e1 e2 heq
                    go_wp2
                    go_roundw
                    case rel =>
                      refine ⟨t + 1, n + nq, by omega, by go_num, by simp [World.drewN], fun j hj a b ha hb => ?_⟩
                      by_cases hj' : j < t
                      · exact HZ.out j hj' a b ha hb
                      · obtain rfl : j = t := by omega
                        have q1 := Option.some.inj (ha.symm.trans HXX.out)
                        have q2 := Option.some.inj (hb.symm.trans HYY.out)
                        rw [q1, q2]
                        exact HB.out
                    case measure => simp [intOf]; omega
                  | false =>
                    have HB : Hid _ := hb
                    unfold idEq at hb
                    rw [hb] at heq
                    clear hb
                    go_wp2
                    refine wp_region_quiet_lit (by kernel_rfl) (by kernel_rfl) ?_
                    repeat (go_big_quiet_step (fail))
                    refine quiet_load (.agg (arr .u8 32 x)) 26 (.tmp 87) ⟨b1, o1 + t * 32, none⟩ (by rfl) (by rintro _ ⟨m, rfl⟩; exact e1 m) ?_
                    simp only [List.setIfInBounds_toArray, List.set_cons_succ, List.set_cons_zero]
                    repeat (go_big_quiet_step (fail))
                    refine quiet_load (.agg (arr .u8 32 y)) 26 (.tmp 92) ⟨b2, o2 + t * 32, none⟩ (by rfl) (by rintro _ ⟨m, rfl⟩; exact e2 m) ?_
                    simp only [List.setIfInBounds_toArray, List.set_cons_succ, List.set_cons_zero]
                    repeat (go_big_quiet_step (fail))
                    refine wpQuiet_nil ?_
                    rintro _ ⟨nq, rfl⟩
                    clear e1 e2 heq
                    go_wp2
                    go_ret
                    have hno : eqAll idEq c.ps d.ps = false := by
                      cases h : eqAll idEq c.ps d.ps with
                      | false => rfl
                      | true =>
                        have := (eqAll_iff (eq := idEq) (by omega)).1 h t x y HXX.out HYY.out
                        rw [HB.out] at this
                        cases this
                    exact ⟨ret_bool (by rw [HSAME.out, hno]; simp), below_drewN (below_drewN hB3 _) _⟩
                · have hall : eqAll idEq c.ps d.ps = true := (eqAll_iff (eq := idEq) (by omega)).2 fun i a b ha hb => HZ.out i (by have := (List.getElem?_eq_some_iff.1 ha).1; omega) a b ha hb
                  have HALL32 : Hid _ := hall
                  clear hall
                  go_wp2
                  go_ret
                  exact ⟨ret_bool (by rw [HSAME.out, HALL34.out, HALL32.out]; rfl), below_drewN hB3 _⟩
end Go.Proofs.Ytnaoaeapffgojaa
