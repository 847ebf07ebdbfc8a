/- The contracts of slices.Equal at branches and of refs' Same. -/
import Derived.Test.YtgfjjglejlnfbaaGreatDoorFsD
import Derived.Test.YtgfjjglejlnfbaaGreatDoorMrgA
namespace Go.Proofs.YtgfjjglejlnfbaaGreatDoor
open Go.RowKit

/-- Two branches compared. -/
def reEq (a b : Re) : Bool := (a.name.toList == b.name.toList) && eqTo a.id b.id 32
theorem part_idR (e : Re) (w : World) : (part 26 e.cells 1).run Tryz.prog w = .ok (.agg (arr .u8 32 e.id)) w := by
  have h : e.cells.extract 1 (1 + 32) = arr .u8 32 e.id := by
    apply Array.ext
    · simp [Re.size, arr_size]
    · intro i h1 h2
      have hi : i < 32 := by simpa [arr_size] using h2
      have e1 := e.cellId i hi
      have e2 := arr_get (k := .u8) (f := e.id) hi
      rw [Array.getElem_extract]
      rw [Array.getElem?_eq_getElem (by simp [Re.size]; omega)] at e1
      rw [Array.getElem?_eq_getElem h2] at e2
      exact (Option.some.inj e1).trans (Option.some.inj e2).symm
  simp [part, isAgg, run_underlying Tryz.underlying26, h]
theorem equal_re (a b : Re) (w : World) : (Op.equalIn 10000 92 (.agg a.cells) (.agg b.cells)).run Tryz.prog w = .ok (reEq a b) w := by
  have hf : (Tryz.prog.fieldsOf 92).toList.map (fun f => (f.name == "_", f.type, f.offset)) = [(false, 9, 0), (false, 26, 1)] := by kernel_rfl
  rw [show (10000 : Nat) = 9999 + 1 from rfl, run_equalIn_struct w 9999 92 a.cells b.cells (by kernel_rfl) (by kernel_rfl)]
  have p0 : ∀ e : Re, (part 9 e.cells 0).run Tryz.prog w = .ok (.string e.name) w := fun e => by simp [part, isAgg, run_underlying Tryz.underlying9, e.cell0]
  have e2 := equal_arr 9997 26 5 32 .u8 .u8 a.id b.id Tryz.underlying26 Tryz.underlying5 (by kernel_rfl) w
  generalize (Tryz.prog.fieldsOf 92).toList = fs at hf ⊢
  have hl : fs.length = 2 := by simpa using congrArg List.length hf
  obtain ⟨f0, f1, rfl⟩ : ∃ a b, fs = [a, b] := by
    cases fs with
    | nil => simp at hl
    | cons a r => cases r with
      | nil => simp at hl
      | cons b r => cases r with
        | nil => exact ⟨a, b, rfl⟩
        | cons d r => simp at hl
  simp only [List.map_cons, List.map_nil, List.cons.injEq, Prod.mk.injEq, beq_eq_false_iff_ne, ne_eq, and_true] at hf
  obtain ⟨⟨n0, t0, o0⟩, n1, t1, o1⟩ := hf
  simp only [Op.eqFields, n0, n1, t0, t1, o0, o1, ne_eq, not_false_eq_true, if_true, Sem.run_bind, p0, Result.andThen_ok]
  rw [run_equalIn_string w 9998 9 _ _ Tryz.underlying9]
  simp only [Result.andThen_ok, reEq]
  cases h0 : a.name.toList == b.name.toList with
  | false => simp
  | true =>
    simp only [Bool.not_true, Bool.false_eq_true, if_false, Bool.true_and, Sem.run_bind, part_idR, Result.andThen_ok]
    rw [e2]
    cases eqTo a.id b.id 32 <;> simp
set_option maxRecDepth 100000 in
set_option maxHeartbeats 1000000 in
theorem equalR_any (sp tp : Option Addr) (c1 c2 : Nat) (xs ys : List Re) (w : World) (h1 : RowsAt w 33 Re.cells sp xs) (h2 : RowsAt w 33 Re.cells tp ys) (hlen : xs.length ≤ 100000000) :
    Calls Tryz.prog 42 #[.slice sp xs.length c1, .slice tp ys.length c2] w fun e w' => e = .returned (.bool (eqAll reEq xs ys)) ∧ ∃ n, w' = w.drewN n := by
  by_cases hl : xs.length = ys.length
  · have hne : ((xs.length : Int) != (ys.length : Int)) = false := by simp [hl]
    have hall := eqAll_iff (eq := reEq) hl
    have HALL : Hid _ := hall
    clear hall
    go_enter Tryz.func42, Tryz.ntmps42
    go_wp2
    go_loopw [13] (fun i wr => ∃ (t n : Nat), t ≤ xs.length ∧ i = .int .i64 t ∧ wr = w.drewN n ∧ ∀ j, j < t → ∀ a b, xs[j]? = some a → ys[j]? = some b → reEq a b = true) (fun i _ => xs.length - (intOf i).toNat)
    case atStart => exact ⟨0, 0, Nat.zero_le _, rfl, rfl, fun j hj => by omega⟩
    case round =>
      obtain ⟨t, n, ht, rfl, rfl, hz⟩ := hrel
      have HZ : Hid _ := hz
      clear hz
      by_cases hlt : t < xs.length
      · obtain ⟨b1, o1, rfl, hc1⟩ := h1 (by omega)
        obtain ⟨b2, o2, rfl, hc2⟩ := h2 (by omega)
        have hx : xs[t]? = some (xs[t]'hlt) := List.getElem?_eq_getElem hlt
        have hy : ys[t]? = some (ys[t]'(by omega)) := List.getElem?_eq_getElem (by omega)
        generalize hX : xs[t]'hlt = x at hx
        generalize hY : ys[t]'(by omega) = y at hy
        have e1 : ∀ m, (loadVar 92 ⟨b1, o1 + t * 33, none⟩).run Tryz.prog ((w.drewN n).drewN m) = .ok (.agg x.cells) ((w.drewN n).drewN m) := fun m => run_mid (fun j u hu => hc1 t x hx j u hu) Tryz.underlying92 rfl (by rw [x.size]; kernel_rfl)
        have e2 : ∀ m, (loadVar 92 ⟨b2, o2 + t * 33, none⟩).run Tryz.prog ((w.drewN n).drewN m) = .ok (.agg y.cells) ((w.drewN n).drewN m) := fun m => run_mid (fun j u hu => hc2 t y hy j u hu) Tryz.underlying92 rfl (by rw [y.size]; kernel_rfl)
        have heq := equal_re x y
        have hly : t < ys.length := by omega
        have HX : Hid _ := hx
        have HY : Hid _ := hy
        have HL : Hid _ := hl
        clear hc1 hc2 h1 h2 hX hY hx hy
        cases hb : reEq x y with
        | true =>
          rw [hb] at heq
          have HB : Hid _ := hb
          clear hb
          go_wp2
          refine wp_region_quiet_lit (by kernel_rfl) (by kernel_rfl) ?_
          repeat (go_big_quiet_step (fail))
          refine quiet_load (.agg x.cells) 92 (.tmp 18) ⟨b1, o1 + t * 33, none⟩ (by rfl) (by rintro _ ⟨m, rfl⟩; exact e1 m) ?_
          simp only [List.setIfInBounds_toArray, List.set_cons_succ, List.set_cons_zero]
          repeat (go_big_quiet_step (fail))
          refine quiet_load (.agg y.cells) 92 (.tmp 22) ⟨b2, o2 + t * 33, none⟩ (by rfl) (by rintro _ ⟨m, rfl⟩; exact e2 m) ?_
          simp only [List.setIfInBounds_toArray, List.set_cons_succ, List.set_cons_zero]
          repeat (go_big_quiet_step (fail))
          refine wpQuiet_nil ?_
          rintro _ ⟨nq, rfl⟩
          clear e1 e2 heq
          go_wp2
          go_roundw
          case rel =>
            refine ⟨t + 1, n + nq, by omega, by go_num, rfl, fun j hj a b ha hb => ?_⟩
            by_cases hj' : j < t
            · exact HZ.out j hj' a b ha hb
            · obtain rfl : j = t := by omega
              have q1 := Option.some.inj (ha.symm.trans HX.out)
              have q2 := Option.some.inj (hb.symm.trans HY.out)
              rw [q1, q2]
              exact HB.out
          case measure => simp [intOf]; omega
        | false =>
          rw [hb] at heq
          have HB : Hid _ := hb
          clear hb
          go_wp2
          refine wp_region_quiet_lit (by kernel_rfl) (by kernel_rfl) ?_
          repeat (go_big_quiet_step (fail))
          refine quiet_load (.agg x.cells) 92 (.tmp 18) ⟨b1, o1 + t * 33, none⟩ (by rfl) (by rintro _ ⟨m, rfl⟩; exact e1 m) ?_
          simp only [List.setIfInBounds_toArray, List.set_cons_succ, List.set_cons_zero]
          repeat (go_big_quiet_step (fail))
          refine quiet_load (.agg y.cells) 92 (.tmp 22) ⟨b2, o2 + t * 33, none⟩ (by rfl) (by rintro _ ⟨m, rfl⟩; exact e2 m) ?_
          simp only [List.setIfInBounds_toArray, List.set_cons_succ, List.set_cons_zero]
          repeat (go_big_quiet_step (fail))
          refine wpQuiet_nil ?_
          rintro _ ⟨nq, rfl⟩
          clear e1 e2 heq
          go_wp2
          go_ret
          refine ⟨congrArg Ending.returned (congrArg Value.bool ?_), n + nq, by simp [World.drewN, Nat.add_assoc]⟩
          cases h : eqAll reEq xs ys with
          | false => rfl
          | true =>
            have := HALL.out.1 h t x y HX.out HY.out
            rw [HB.out] at this
            cases this
      · have htl : t = xs.length := by omega
        have HT : Hid _ := htl
        clear h1 h2 htl
        go_wp2
        go_ret
        refine ⟨congrArg Ending.returned (congrArg Value.bool ?_), n, rfl⟩
        rw [eq_comm, HALL.out]
        intro i a b ha hb
        have hi : i < xs.length := by
          by_cases hi : i < xs.length
          · exact hi
          · rw [List.getElem?_eq_none (by omega)] at ha; cases ha
        exact HZ.out i (by rw [HT.out]; exact hi) a b ha hb
  · have hne : ((xs.length : Int) != (ys.length : Int)) = true := by simpa using fun h => hl (by omega)
    clear h1 h2
    go_enter Tryz.func42, Tryz.ntmps42
    go_wp2
    go_ret
    refine ⟨congrArg Ending.returned (congrArg Value.bool ?_), 0, rfl⟩
    cases h : eqAll reEq xs ys with
    | false => rfl
    | true => exact absurd (eqAll_len h) hl

set_option maxRecDepth 100000 in
set_option maxHeartbeats 1000000 in
theorem xsame_any (sp tp : Option Addr) (c1 c2 : Nat) (xs ys : List Re) (w : World) (h1 : RowsAt w 33 Re.cells sp xs) (h2 : RowsAt w 33 Re.cells tp ys) (hlen : xs.length ≤ 100000000) :
    Calls Tryz.prog 13 #[.agg #[.slice sp xs.length c1], .agg #[.slice tp ys.length c2]] w fun e w' => e = .returned (.bool (eqAll reEq xs ys)) ∧ Below w.heap.size w w' := by
  have H1 : Hid _ := h1
  have H2 : Hid _ := h2
  clear h1 h2
  go_enter Tryz.func13, Tryz.ntmps13
  go_wp2_with fail
  refine calls_gen (fun W => Below w.heap.size w W) (((Below.refl _ _).alloc (Nat.le_refl _) _).alloc (by simp) _) ?_
  intro W1 b1
  refine (equalR_any sp tp c1 c2 xs ys W1 (RowsAt.below H1.out b1) (RowsAt.below H2.out b1) hlen).mono ?_
  rintro e W2 ⟨rfl, n, rfl⟩
  have HB : Hid (Below w.heap.size w (W1.drewN n)) := b1.trans ⟨rfl, rfl, rfl, Nat.le_refl _, fun _ _ => rfl⟩
  go_wp2
  go_ret
  exact ⟨rfl, HB.out⟩
end Go.Proofs.YtgfjjglejlnfbaaGreatDoor
