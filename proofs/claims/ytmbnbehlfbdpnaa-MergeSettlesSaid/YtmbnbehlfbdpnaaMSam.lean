/- Two rows of clashes compared: the contracts of merge's Same and of the document's. -/
import Derived.Test.YtmbnbehlfbdpnaaMWak
import Derived.Test.YtmbnbehlfbdpnaaTSam
namespace Go.Proofs.Ytmbnbehlfbdpnaa
open Go.RowKit

/-- Two clashes compared. -/
def clEq (a b : Cl) : Bool := (a.path.toList == b.path.toList) && ((a.s.b.value.toList == b.s.b.value.toList) && ((a.s.o.value.toList == b.s.o.value.toList) && ((a.s.t.value.toList == b.s.t.value.toList) && ((a.s.b.there == b.s.b.there) && ((a.s.o.there == b.s.o.there) && ((a.s.t.there == b.s.t.there)))))))
theorem equal_cl (a b : Cl) (w : World) : (Op.equalIn 10000 40 (.agg a.cells) (.agg b.cells)).run Try.prog w = .ok (clEq a b) w := by
  have hf : (Try.prog.fieldsOf 40).toList.map (fun f => (f.name == "_", f.type, f.offset)) = [(false, 9, 0), (false, 9, 1), (false, 9, 2), (false, 9, 3), (false, 4, 4), (false, 4, 5), (false, 4, 6)] := by kernel_rfl
  rw [show (10000 : Nat) = 9999 + 1 from rfl, run_equalIn_struct w 9999 40 a.cells b.cells (by kernel_rfl) (by kernel_rfl)]
  have p0 : ∀ e : Cl, (part 9 e.cells 0).run Try.prog w = .ok (.string e.path) w := fun e => by simp [part, isAgg, run_underlying Try.underlying9, Cl.cells]
  have p1 : ∀ e : Cl, (part 9 e.cells 1).run Try.prog w = .ok (.string e.s.b.value) w := fun e => by simp [part, isAgg, run_underlying Try.underlying9, Cl.cells]
  have p2 : ∀ e : Cl, (part 9 e.cells 2).run Try.prog w = .ok (.string e.s.o.value) w := fun e => by simp [part, isAgg, run_underlying Try.underlying9, Cl.cells]
  have p3 : ∀ e : Cl, (part 9 e.cells 3).run Try.prog w = .ok (.string e.s.t.value) w := fun e => by simp [part, isAgg, run_underlying Try.underlying9, Cl.cells]
  have p4 : ∀ e : Cl, (part 4 e.cells 4).run Try.prog w = .ok (.bool e.s.b.there) w := fun e => by simp [part, isAgg, run_underlying Try.underlying4, Cl.cells]
  have p5 : ∀ e : Cl, (part 4 e.cells 5).run Try.prog w = .ok (.bool e.s.o.there) w := fun e => by simp [part, isAgg, run_underlying Try.underlying4, Cl.cells]
  have p6 : ∀ e : Cl, (part 4 e.cells 6).run Try.prog w = .ok (.bool e.s.t.there) w := fun e => by simp [part, isAgg, run_underlying Try.underlying4, Cl.cells]
  generalize (Try.prog.fieldsOf 40).toList = fs at hf ⊢
  have hl : fs.length = 7 := by simpa using congrArg List.length hf
  obtain ⟨f0, f1, f2, f3, f4, f5, f6, rfl⟩ : ∃ a b c d e f g, fs = [a, b, c, d, e, f, g] := by
    match fs, hl with
    | [a, b, c, d, e, f, g], _ => exact ⟨a, b, c, d, e, f, g, rfl⟩
  simp only [List.map_cons, List.map_nil, List.cons.injEq, Prod.mk.injEq, beq_eq_false_iff_ne, ne_eq, and_true] at hf
  obtain ⟨⟨n0, t0, o0⟩, ⟨n1, t1, o1⟩, ⟨n2, t2, o2⟩, ⟨n3, t3, o3⟩, ⟨n4, t4, o4⟩, ⟨n5, t5, o5⟩, n6, t6, o6⟩ := hf
  simp only [Op.eqFields, n0, n1, n2, n3, n4, n5, n6, t0, t1, t2, t3, t4, t5, t6, o0, o1, o2, o3, o4, o5, o6, ne_eq, not_false_eq_true, if_true, Sem.run_bind, p0, Result.andThen_ok, clEq]
  rw [run_equalIn_string w 9998 9 _ _ Try.underlying9]
  simp only [Result.andThen_ok]
  cases h0 : (a.path.toList == b.path.toList) with
  | false => simp
  | true =>
    simp only [Bool.not_true, Bool.false_eq_true, if_false, Bool.true_and, Sem.run_bind, p1, Result.andThen_ok]
    rw [run_equalIn_string w 9998 9 _ _ Try.underlying9]
    cases h1 : (a.s.b.value.toList == b.s.b.value.toList) with
    | false => simp
    | true =>
      simp only [Bool.not_true, Bool.false_eq_true, if_false, Bool.true_and, Sem.run_bind, p2, Result.andThen_ok]
      rw [run_equalIn_string w 9998 9 _ _ Try.underlying9]
      cases h2 : (a.s.o.value.toList == b.s.o.value.toList) with
      | false => simp
      | true =>
        simp only [Bool.not_true, Bool.false_eq_true, if_false, Bool.true_and, Sem.run_bind, p3, Result.andThen_ok]
        rw [run_equalIn_string w 9998 9 _ _ Try.underlying9]
        cases h3 : (a.s.t.value.toList == b.s.t.value.toList) with
        | false => simp
        | true =>
          simp only [Bool.not_true, Bool.false_eq_true, if_false, Bool.true_and, Sem.run_bind, p4, Result.andThen_ok]
          rw [run_equalIn_bool w 9998 4 _ _ Try.underlying4]
          cases h4 : (a.s.b.there == b.s.b.there) with
          | false => simp
          | true =>
            simp only [Bool.not_true, Bool.false_eq_true, if_false, Bool.true_and, Sem.run_bind, p5, Result.andThen_ok]
            rw [run_equalIn_bool w 9998 4 _ _ Try.underlying4]
            cases h5 : (a.s.o.there == b.s.o.there) with
            | false => simp
            | true =>
              simp only [Bool.not_true, Bool.false_eq_true, if_false, Bool.true_and, Sem.run_bind, p6, Result.andThen_ok]
              rw [run_equalIn_bool w 9998 4 _ _ Try.underlying4]
              cases h6 : (a.s.t.there == b.s.t.there) <;> simp
set_option maxRecDepth 100000 in
set_option maxHeartbeats 1000000 in
theorem equalC_any (sp tp : Option Addr) (c1 c2 : Nat) (xs ys : List Cl) (w : World) (h1 : RowsAt w 7 Cl.cells sp xs) (h2 : RowsAt w 7 Cl.cells tp ys) (hlen : xs.length ≤ 100000000) :
    Calls Try.prog 42 #[.slice sp xs.length c1, .slice tp ys.length c2] w fun e w' => e = .returned (.bool (eqAll clEq xs ys)) ∧ ∃ n, w' = w.drewN n := by
  by_cases hl : xs.length = ys.length
  · have hne : ((xs.length : Int) != (ys.length : Int)) = false := by simp [hl]
    have hall := eqAll_iff (eq := clEq) hl
    have HALL : Hid _ := hall
    clear hall
    go_enter Try.func42, Try.ntmps42
    go_wp2
    go_loopw [13] (fun i wr => ∃ (t n : Nat), t ≤ xs.length ∧ i = .int .i64 t ∧ wr = w.drewN n ∧ ∀ j, j < t → ∀ a b, xs[j]? = some a → ys[j]? = some b → clEq a b = true) (fun i _ => xs.length - (intOf i).toNat)
    case atStart => exact ⟨0, 0, Nat.zero_le _, rfl, rfl, fun j hj => by omega⟩
    case round =>
      obtain ⟨t, n, ht, rfl, rfl, hz⟩ := hrel
      have HZ : Hid _ := hz
      clear hz
      by_cases hlt : t < xs.length
      · obtain ⟨b1, o1, rfl, hc1⟩ := h1 (by omega)
        obtain ⟨b2, o2, rfl, hc2⟩ := h2 (by omega)
        have hx : xs[t]? = some (xs[t]'hlt) := List.getElem?_eq_getElem hlt
        have hy : ys[t]? = some (ys[t]'(by omega)) := List.getElem?_eq_getElem (by omega)
        generalize hX : xs[t]'hlt = x at hx
        generalize hY : ys[t]'(by omega) = y at hy
        have e1 : ∀ m, (loadVar 40 ⟨b1, o1 + t * 7, none⟩).run Try.prog ((w.drewN n).drewN m) = .ok (.agg x.cells) ((w.drewN n).drewN m) := fun m => run_mid (fun j u hu => hc1 t x hx j u hu) Try.underlying40 rfl (by rw [x.size]; kernel_rfl)
        have e2 : ∀ m, (loadVar 40 ⟨b2, o2 + t * 7, none⟩).run Try.prog ((w.drewN n).drewN m) = .ok (.agg y.cells) ((w.drewN n).drewN m) := fun m => run_mid (fun j u hu => hc2 t y hy j u hu) Try.underlying40 rfl (by rw [y.size]; kernel_rfl)
        have heq := equal_cl x y
        have hly : t < ys.length := by omega
        have HX : Hid _ := hx
        have HY : Hid _ := hy
        have HL : Hid _ := hl
        clear hc1 hc2 h1 h2 hX hY hx hy
        cases hb : clEq x y with
        | true =>
          rw [hb] at heq
          have HB : Hid _ := hb
          clear hb
          go_wp2
          refine wp_region_quiet_lit (by kernel_rfl) (by kernel_rfl) ?_
          repeat (go_big_quiet_step (fail))
          refine quiet_load (.agg x.cells) 40 (.tmp 18) ⟨b1, o1 + t * 7, none⟩ (by rfl) (by rintro _ ⟨m, rfl⟩; exact e1 m) ?_
          simp only [List.setIfInBounds_toArray, List.set_cons_succ, List.set_cons_zero]
          repeat (go_big_quiet_step (fail))
          refine quiet_load (.agg y.cells) 40 (.tmp 22) ⟨b2, o2 + t * 7, none⟩ (by rfl) (by rintro _ ⟨m, rfl⟩; exact e2 m) ?_
          simp only [List.setIfInBounds_toArray, List.set_cons_succ, List.set_cons_zero]
          repeat (go_big_quiet_step (fail))
          refine wpQuiet_nil ?_
          rintro _ ⟨nq, rfl⟩
          clear e1 e2 heq
          go_wp2
          go_roundw
          case rel =>
            refine ⟨t + 1, n + nq, by omega, by go_num, rfl, fun j hj a b ha hb => ?_⟩
            by_cases hj' : j < t
            · exact HZ.out j hj' a b ha hb
            · obtain rfl : j = t := by omega
              have q1 := Option.some.inj (ha.symm.trans HX.out)
              have q2 := Option.some.inj (hb.symm.trans HY.out)
              rw [q1, q2]
              exact HB.out
          case measure => simp [intOf]; omega
        | false =>
          rw [hb] at heq
          have HB : Hid _ := hb
          clear hb
          go_wp2
          refine wp_region_quiet_lit (by kernel_rfl) (by kernel_rfl) ?_
          repeat (go_big_quiet_step (fail))
          refine quiet_load (.agg x.cells) 40 (.tmp 18) ⟨b1, o1 + t * 7, none⟩ (by rfl) (by rintro _ ⟨m, rfl⟩; exact e1 m) ?_
          simp only [List.setIfInBounds_toArray, List.set_cons_succ, List.set_cons_zero]
          repeat (go_big_quiet_step (fail))
          refine quiet_load (.agg y.cells) 40 (.tmp 22) ⟨b2, o2 + t * 7, none⟩ (by rfl) (by rintro _ ⟨m, rfl⟩; exact e2 m) ?_
          simp only [List.setIfInBounds_toArray, List.set_cons_succ, List.set_cons_zero]
          repeat (go_big_quiet_step (fail))
          refine wpQuiet_nil ?_
          rintro _ ⟨nq, rfl⟩
          clear e1 e2 heq
          go_wp2
          go_ret
          refine ⟨congrArg Ending.returned (congrArg Value.bool ?_), n + nq, by simp [World.drewN, Nat.add_assoc]⟩
          cases h : eqAll clEq xs ys with
          | false => rfl
          | true =>
            have := HALL.out.1 h t x y HX.out HY.out
            rw [HB.out] at this
            cases this
      · have htl : t = xs.length := by omega
        have HT : Hid _ := htl
        clear h1 h2 htl
        go_wp2
        go_ret
        refine ⟨congrArg Ending.returned (congrArg Value.bool ?_), n, rfl⟩
        rw [eq_comm, HALL.out]
        intro i a b ha hb
        have hi : i < xs.length := by
          by_cases hi : i < xs.length
          · exact hi
          · rw [List.getElem?_eq_none (by omega)] at ha; cases ha
        exact HZ.out i (by rw [HT.out]; exact hi) a b ha hb
  · have hne : ((xs.length : Int) != (ys.length : Int)) = true := by simpa using fun h => hl (by omega)
    clear h1 h2
    go_enter Try.func42, Try.ntmps42
    go_wp2
    go_ret
    refine ⟨congrArg Ending.returned (congrArg Value.bool ?_), 0, rfl⟩
    cases h : eqAll clEq xs ys with
    | false => rfl
    | true => exact absurd (eqAll_len h) hl
set_option maxRecDepth 100000 in
set_option maxHeartbeats 1000000 in
theorem r8same_any (sp tp : Option Addr) (c1 c2 : Nat) (xs ys : List Cl) (w : World) (h1 : RowsAt w 7 Cl.cells sp xs) (h2 : RowsAt w 7 Cl.cells tp ys) (hlen : xs.length ≤ 100000000) :
    Calls Try.prog 16 #[.slice sp xs.length c1, .slice tp ys.length c2] w fun e w' => e = .returned (.bool (eqAll clEq xs ys)) ∧ ∃ n, w' = w.drewN n := by
  by_cases hl : xs.length = ys.length
  · have hne : ((xs.length : Int) != (ys.length : Int)) = false := by simp [hl]
    have hall := eqAll_iff (eq := clEq) hl
    have HALL : Hid _ := hall
    clear hall
    go_enter Try.func16, Try.ntmps16
    go_wp2
    go_loopw [13] (fun i wr => ∃ (t n : Nat), t ≤ xs.length ∧ i = .int .i64 t ∧ wr = w.drewN n ∧ ∀ j, j < t → ∀ a b, xs[j]? = some a → ys[j]? = some b → clEq a b = true) (fun i _ => xs.length - (intOf i).toNat)
    case atStart => exact ⟨0, 0, Nat.zero_le _, rfl, rfl, fun j hj => by omega⟩
    case round =>
      obtain ⟨t, n, ht, rfl, rfl, hz⟩ := hrel
      have HZ : Hid _ := hz
      clear hz
      by_cases hlt : t < xs.length
      · obtain ⟨b1, o1, rfl, hc1⟩ := h1 (by omega)
        obtain ⟨b2, o2, rfl, hc2⟩ := h2 (by omega)
        have hx : xs[t]? = some (xs[t]'hlt) := List.getElem?_eq_getElem hlt
        have hy : ys[t]? = some (ys[t]'(by omega)) := List.getElem?_eq_getElem (by omega)
        generalize hX : xs[t]'hlt = x at hx
        generalize hY : ys[t]'(by omega) = y at hy
        have e1 : ∀ m, (loadVar 40 ⟨b1, o1 + t * 7, none⟩).run Try.prog ((w.drewN n).drewN m) = .ok (.agg x.cells) ((w.drewN n).drewN m) := fun m => run_mid (fun j u hu => hc1 t x hx j u hu) Try.underlying40 rfl (by rw [x.size]; kernel_rfl)
        have e2 : ∀ m, (loadVar 40 ⟨b2, o2 + t * 7, none⟩).run Try.prog ((w.drewN n).drewN m) = .ok (.agg y.cells) ((w.drewN n).drewN m) := fun m => run_mid (fun j u hu => hc2 t y hy j u hu) Try.underlying40 rfl (by rw [y.size]; kernel_rfl)
        have heq := equal_cl x y
        have hly : t < ys.length := by omega
        have HX : Hid _ := hx
        have HY : Hid _ := hy
        have HL : Hid _ := hl
        clear hc1 hc2 h1 h2 hX hY hx hy
        cases hb : clEq x y with
        | true =>
          rw [hb] at heq
          have HB : Hid _ := hb
          clear hb
          go_wp2
          refine wp_region_quiet_lit (by kernel_rfl) (by kernel_rfl) ?_
          repeat (go_big_quiet_step (fail))
          refine quiet_load (.agg x.cells) 40 (.tmp 18) ⟨b1, o1 + t * 7, none⟩ (by rfl) (by rintro _ ⟨m, rfl⟩; exact e1 m) ?_
          simp only [List.setIfInBounds_toArray, List.set_cons_succ, List.set_cons_zero]
          repeat (go_big_quiet_step (fail))
          refine quiet_load (.agg y.cells) 40 (.tmp 22) ⟨b2, o2 + t * 7, none⟩ (by rfl) (by rintro _ ⟨m, rfl⟩; exact e2 m) ?_
          simp only [List.setIfInBounds_toArray, List.set_cons_succ, List.set_cons_zero]
          repeat (go_big_quiet_step (fail))
          refine wpQuiet_nil ?_
          rintro _ ⟨nq, rfl⟩
          clear e1 e2 heq
          go_wp2
          go_roundw
          case rel =>
            refine ⟨t + 1, n + nq, by omega, by go_num, rfl, fun j hj a b ha hb => ?_⟩
            by_cases hj' : j < t
            · exact HZ.out j hj' a b ha hb
            · obtain rfl : j = t := by omega
              have q1 := Option.some.inj (ha.symm.trans HX.out)
              have q2 := Option.some.inj (hb.symm.trans HY.out)
              rw [q1, q2]
              exact HB.out
          case measure => simp [intOf]; omega
        | false =>
          rw [hb] at heq
          have HB : Hid _ := hb
          clear hb
          go_wp2
          refine wp_region_quiet_lit (by kernel_rfl) (by kernel_rfl) ?_
          repeat (go_big_quiet_step (fail))
          refine quiet_load (.agg x.cells) 40 (.tmp 18) ⟨b1, o1 + t * 7, none⟩ (by rfl) (by rintro _ ⟨m, rfl⟩; exact e1 m) ?_
          simp only [List.setIfInBounds_toArray, List.set_cons_succ, List.set_cons_zero]
          repeat (go_big_quiet_step (fail))
          refine quiet_load (.agg y.cells) 40 (.tmp 22) ⟨b2, o2 + t * 7, none⟩ (by rfl) (by rintro _ ⟨m, rfl⟩; exact e2 m) ?_
          simp only [List.setIfInBounds_toArray, List.set_cons_succ, List.set_cons_zero]
          repeat (go_big_quiet_step (fail))
          refine wpQuiet_nil ?_
          rintro _ ⟨nq, rfl⟩
          clear e1 e2 heq
          go_wp2
          go_ret
          refine ⟨congrArg Ending.returned (congrArg Value.bool ?_), n + nq, by simp [World.drewN, Nat.add_assoc]⟩
          cases h : eqAll clEq xs ys with
          | false => rfl
          | true =>
            have := HALL.out.1 h t x y HX.out HY.out
            rw [HB.out] at this
            cases this
      · have htl : t = xs.length := by omega
        have HT : Hid _ := htl
        clear h1 h2 htl
        go_wp2
        go_ret
        refine ⟨congrArg Ending.returned (congrArg Value.bool ?_), n, rfl⟩
        rw [eq_comm, HALL.out]
        intro i a b ha hb
        have hi : i < xs.length := by
          by_cases hi : i < xs.length
          · exact hi
          · rw [List.getElem?_eq_none (by omega)] at ha; cases ha
        exact HZ.out i (by rw [HT.out]; exact hi) a b ha hb
  · have hne : ((xs.length : Int) != (ys.length : Int)) = true := by simpa using fun h => hl (by omega)
    clear h1 h2
    go_enter Try.func16, Try.ntmps16
    go_wp2
    go_ret
    refine ⟨congrArg Ending.returned (congrArg Value.bool ?_), 0, rfl⟩
    cases h : eqAll clEq xs ys with
    | false => rfl
    | true => exact absurd (eqAll_len h) hl
set_option maxHeartbeats 1000000 in
theorem msame_any (sp tp : Option Addr) (c1 c2 : Nat) (xs ys : List Cl) (w : World) (h1 : RowsAt w 7 Cl.cells sp xs) (h2 : RowsAt w 7 Cl.cells tp ys) (hlen : xs.length ≤ 100000000) :
    Calls Try.prog 25 #[.slice sp xs.length c1, .slice tp ys.length c2] w fun e w' => e = .returned (.bool (eqAll clEq xs ys)) ∧ ∃ n, w' = w.drewN n := by
  go_enter Try.func25, Try.ntmps25
  go_wp2_with fail
  refine (equalC_any sp tp c1 c2 xs ys w h1 h2 hlen).mono ?_
  rintro e w2 ⟨rfl, n, rfl⟩
  go_wp2
  go_ret
  exact ⟨rfl, n, rfl⟩
theorem clEq_refl (a : Cl) : clEq a a = true := by simp [clEq]
theorem eqAll_refl {α : Type} {eq : α → α → Bool} (h : ∀ a, eq a a = true) : ∀ xs : List α, eqAll eq xs xs = true
  | [] => rfl
  | a :: r => by simp [eqAll, h a, eqAll_refl h r]
end Go.Proofs.Ytmbnbehlfbdpnaa
