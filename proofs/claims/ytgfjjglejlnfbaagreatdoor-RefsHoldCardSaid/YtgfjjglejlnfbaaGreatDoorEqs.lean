/- The contracts of octet.Equal, and of slices.Equal at entries and at Ids. -/
import Derived.Test.YtgfjjglejlnfbaaGreatDoorObs
namespace Go.Proofs.YtgfjjglejlnfbaaGreatDoor
open Go.RowKit

theorem u8_or_xor {a x y : Int} (ha : 0 ≤ a ∧ a ≤ 255) (hx : 0 ≤ x ∧ x ≤ 255) (hy : 0 ≤ y ∧ y ≤ 255) : 0 ≤ bits .or .u8 a (bits .xor .u8 x y) ∧ bits .or .u8 a (bits .xor .u8 x y) ≤ 255 ∧ (bits .or .u8 a (bits .xor .u8 x y) = 0 ↔ a = 0 ∧ x = y) := by
  obtain ⟨a, rfl⟩ := Int.eq_ofNat_of_zero_le ha.1
  obtain ⟨x, rfl⟩ := Int.eq_ofNat_of_zero_le hx.1
  obtain ⟨y, rfl⟩ := Int.eq_ofNat_of_zero_le hy.1
  have e1 : bits .xor .u8 (x : Int) (y : Int) = ((BitVec.ofNat 8 x ^^^ BitVec.ofNat 8 y).toNat : Int) := by
    show IntKind.u8.wrap ((BitVec.ofInt 8 x ^^^ BitVec.ofInt 8 y).toNat : Int) = _
    rw [IntKind.wrap_u8]
    simp only [BitVec.ofInt_natCast]
    have := (BitVec.ofNat 8 x ^^^ BitVec.ofNat 8 y).isLt
    omega
  rw [e1]
  have e2 : ∀ q : Nat, q < 256 → bits .or .u8 (a : Int) (q : Int) = ((BitVec.ofNat 8 a ||| BitVec.ofNat 8 q).toNat : Int) := fun q _ => by
    show IntKind.u8.wrap ((BitVec.ofInt 8 a ||| BitVec.ofInt 8 q).toNat : Int) = _
    rw [IntKind.wrap_u8]
    simp only [BitVec.ofInt_natCast]
    have := (BitVec.ofNat 8 a ||| BitVec.ofNat 8 q).isLt
    omega
  rw [e2 _ (BitVec.isLt _)]
  have hlt := (BitVec.ofNat 8 a ||| BitVec.ofNat 8 (BitVec.ofNat 8 x ^^^ BitVec.ofNat 8 y).toNat).isLt
  refine ⟨by omega, by omega, ?_⟩
  have e3 : BitVec.ofNat 8 (BitVec.ofNat 8 x ^^^ BitVec.ofNat 8 y).toNat = BitVec.ofNat 8 x ^^^ BitVec.ofNat 8 y := BitVec.eq_of_toNat_eq (by rw [BitVec.toNat_ofNat]; exact Nat.mod_eq_of_lt (BitVec.isLt _))
  rw [e3]
  have hor : ∀ A X : BitVec 8, A ||| X = 0#8 ↔ A = 0#8 ∧ X = 0#8 := fun _ _ => BitVec.or_eq_zero_iff
  have hxor : ∀ X Y : BitVec 8, X ^^^ Y = 0#8 ↔ X = Y := fun _ _ => BitVec.xor_eq_zero_iff
  constructor
  · intro h
    have h' : BitVec.ofNat 8 a ||| (BitVec.ofNat 8 x ^^^ BitVec.ofNat 8 y) = 0#8 := by
      apply BitVec.eq_of_toNat_eq
      simpa using h
    obtain ⟨p, q⟩ := (hor _ _).1 h'
    have q' := (hxor _ _).1 q
    have p1 := congrArg BitVec.toNat p
    have q1 := congrArg BitVec.toNat q'
    simp only [BitVec.toNat_ofNat] at p1 q1
    omega
  · rintro ⟨p, q⟩
    have hx' : x = y := by omega
    have ha' : a = 0 := by omega
    subst hx' ha'
    simp

set_option maxRecDepth 100000 in
set_option maxHeartbeats 1000000 in
theorem equal_any (sp tp : Option Addr) (l1 l2 c1 c2 : Nat) (f g : Nat → Int) (w : World) (h1 : SrcAt w .u8 sp l1 f) (h2 : SrcAt w .u8 tp l2 g) (hf : ∀ i, i < l1 → 0 ≤ f i ∧ f i ≤ 255) (hg : ∀ i, i < l2 → 0 ≤ g i ∧ g i ≤ 255) (hlen : l1 ≤ 100000000) :
    Calls Tryz.prog 117 #[.slice sp l1 c1, .slice tp l2 c2] w fun e w' => e = .returned (.bool (l1 == l2 && eqTo f g l1)) ∧ w' = w := by
  by_cases hl : l1 = l2
  · subst hl
    have hne : ((l1 : Int) != (l1 : Int)) = false := by simp
    go_enter Tryz.func117, Tryz.ntmps117
    go_wp2
    go_loop [5, 15] (fun u i => ∃ (t : Nat) (a : Int), t ≤ l1 ∧ i = .int .i64 t ∧ u = .int .u8 a ∧ (0 ≤ a ∧ a ≤ 255) ∧ (a = 0 ↔ ∀ i, i < t → f i = g i)) (fun _ i => l1 - (intOf i).toNat)
    case atStart => exact ⟨0, 0, Nat.zero_le _, rfl, rfl, by omega, by simp⟩
    case round =>
      obtain ⟨t, a, ht, rfl, rfl, ha, hz⟩ := hrel
      have HZ : Hid _ := hz
      clear hz
      by_cases hlt : t < l1
      · obtain ⟨b1, o1, rfl, hc1⟩ := h1 (by omega)
        obtain ⟨b2, o2, rfl, hc2⟩ := h2 (by omega)
        have e1 := hc1 t hlt
        have e2 := hc2 t hlt
        have hb := u8_or_xor ha (hf t hlt) (hg t hlt)
        generalize hX : f t = x at e1 hb
        generalize hY : g t = y at e2 hb
        have HX : Hid _ := hX
        have HY : Hid _ := hY
        have HB : Hid _ := hb
        have HF : Hid _ := hf
        have HG : Hid _ := hg
        clear hc1 hc2 h1 h2 hX hY hb hf hg ha
        go_wp2
        go_round
        case rel =>
          refine ⟨t + 1, _, by omega, by go_num, rfl, ⟨HB.out.1, HB.out.2.1⟩, HB.out.2.2.trans ?_⟩
          rw [HZ.out, ← HX.out, ← HY.out]
          constructor
          · rintro ⟨p, q⟩ i hi
            by_cases hi' : i < t
            · exact p i hi'
            · obtain rfl : i = t := by omega
              exact q
          · intro p
            exact ⟨fun i hi => p i (by omega), p t (by omega)⟩
        case measure => simp [intOf]; omega
      · have htl : t = l1 := by omega
        have HT : Hid _ := htl
        clear h1 h2 hf hg htl
        go_wp2
        go_ret
        refine ⟨congrArg Ending.returned (congrArg Value.bool ?_), rfl⟩
        have := HZ.out
        rw [HT.out, ← eqTo_iff] at this
        rw [Bool.eq_iff_iff]
        simp [this]
  · have hne : ((l1 : Int) != (l2 : Int)) = true := by simpa using fun h => hl (by omega)
    clear h1 h2 hf hg
    go_enter Tryz.func117, Tryz.ntmps117
    go_wp2
    go_ret
    refine ⟨congrArg Ending.returned (congrArg Value.bool ?_), rfl⟩
    simp [hl]

/-- A load of many cells in a region that only reads. -/
theorem quiet_load {P : Program} {ops : Array Oper} {C : World → Prop} {Q : Act → Prop} {tm : Array Value} {df : List Deferred} {rest : List Oper} {ty0 : TypeId} {pos : String} {aft : Array Edge} {d : Nat} (v : Value) (ty : TypeId) (x : Operand) (p : Addr) (hx : Act.eval ⟨tm, df⟩ x = .pointer (some p))
    (hl : ∀ w, C w → (loadVar ty p).run P w = .ok v w) (h : wpQuiet P ops C Q rest ⟨tm.setIfInBounds d v, df⟩) : wpQuiet P ops C Q (⟨some d, .load ty x, ty0, pos, aft, none⟩ :: rest) ⟨tm, df⟩ := by
  refine wpQuiet_step fun K hK => ?_
  rw [if_pos (wanted_plain rfl)]
  refine ⟨v, fun w hw => ?_, hK _ h⟩
  unfold Oper.quietAt execOp
  simp only [hx, Instr.loadAt, Instr.sureAddr, Sem.run_bind, Sem.run_pure, Result.andThen_ok, hl w hw]
  exact ⟨rfl, rfl⟩

/-- Are two lists of the same length, and each two the same? -/
def eqAll {α : Type} (eq : α → α → Bool) : List α → List α → Bool
  | [], [] => true
  | a :: r, b :: q => eq a b && eqAll eq r q
  | _, _ => false
theorem eqAll_len {α : Type} {eq : α → α → Bool} : ∀ {r q : List α}, eqAll eq r q = true → r.length = q.length
  | [], [], _ => rfl
  | a :: r, b :: q, h => by
    simp [eqAll] at h
    simp [eqAll_len h.2]
  | [], _ :: _, h => by simp [eqAll] at h
  | _ :: _, [], h => by simp [eqAll] at h
theorem eqAll_iff {α : Type} {eq : α → α → Bool} : ∀ {r q : List α}, r.length = q.length → (eqAll eq r q = true ↔ ∀ (i : Nat) a b, r[i]? = some a → q[i]? = some b → eq a b = true)
  | [], [], _ => by simp [eqAll]
  | a :: r, b :: q, h => by
    have h' : r.length = q.length := by simpa using h
    simp only [eqAll, Bool.and_eq_true, eqAll_iff h']
    constructor
    · rintro ⟨p, t⟩ i x y hx hy
      cases i with
      | zero => simp at hx hy; subst hx; subst hy; exact p
      | succ i => exact t i x y (by simpa using hx) (by simpa using hy)
    · intro t
      exact ⟨t 0 a b rfl rfl, fun i x y hx hy => t (i + 1) x y (by simpa using hx) (by simpa using hy)⟩
  | [], _ :: _, h => by simp at h
  | _ :: _, [], h => by simp at h

set_option maxRecDepth 100000 in
set_option maxHeartbeats 1000000 in
theorem equalE_any (sp tp : Option Addr) (c1 c2 : Nat) (xs ys : List Ent) (w : World) (h1 : RowsAt w 34 Ent.cells sp xs) (h2 : RowsAt w 34 Ent.cells tp ys) (hlen : xs.length ≤ 100000000) :
    Calls Tryz.prog 118 #[.slice sp xs.length c1, .slice tp ys.length c2] w fun e w' => e = .returned (.bool (eqAll entEq xs ys)) ∧ ∃ n, w' = w.drewN n := by
  by_cases hl : xs.length = ys.length
  · have hne : ((xs.length : Int) != (ys.length : Int)) = false := by simp [hl]
    have hall := eqAll_iff (eq := entEq) hl
    have HALL : Hid _ := hall
    clear hall
    go_enter Tryz.func118, Tryz.ntmps118
    go_wp2
    go_loopw [13] (fun i wr => ∃ (t n : Nat), t ≤ xs.length ∧ i = .int .i64 t ∧ wr = w.drewN n ∧ ∀ j, j < t → ∀ a b, xs[j]? = some a → ys[j]? = some b → entEq a b = true) (fun i _ => xs.length - (intOf i).toNat)
    case atStart => exact ⟨0, 0, Nat.zero_le _, rfl, rfl, fun j hj => by omega⟩
    case round =>
      obtain ⟨t, n, ht, rfl, rfl, hz⟩ := hrel
      have HZ : Hid _ := hz
      clear hz
      by_cases hlt : t < xs.length
      · obtain ⟨b1, o1, rfl, hc1⟩ := h1 (by omega)
        obtain ⟨b2, o2, rfl, hc2⟩ := h2 (by omega)
        have hx : xs[t]? = some (xs[t]'hlt) := List.getElem?_eq_getElem hlt
        have hy : ys[t]? = some (ys[t]'(by omega)) := List.getElem?_eq_getElem (by omega)
        generalize hX : xs[t]'hlt = x at hx
        generalize hY : ys[t]'(by omega) = y at hy
        have e1 : ∀ m, (loadVar 133 ⟨b1, o1 + t * 34, none⟩).run Tryz.prog ((w.drewN n).drewN m) = .ok (.agg x.cells) ((w.drewN n).drewN m) := fun m => run_mid (fun j u hu => hc1 t x hx j u hu) Tryz.underlying133 rfl (by rw [x.size]; kernel_rfl)
        have e2 : ∀ m, (loadVar 133 ⟨b2, o2 + t * 34, none⟩).run Tryz.prog ((w.drewN n).drewN m) = .ok (.agg y.cells) ((w.drewN n).drewN m) := fun m => run_mid (fun j u hu => hc2 t y hy j u hu) Tryz.underlying133 rfl (by rw [y.size]; kernel_rfl)
        have heq := equal_ent x y
        have hly : t < ys.length := by omega
        have HX : Hid _ := hx
        have HY : Hid _ := hy
        have HL : Hid _ := hl
        clear hc1 hc2 h1 h2 hX hY hx hy
        cases hb : entEq x y with
        | true =>
          rw [hb] at heq
          have HB : Hid _ := hb
          clear hb
          go_wp2
          refine wp_region_quiet_lit (by kernel_rfl) (by kernel_rfl) ?_
          repeat (go_big_quiet_step (fail))
          refine quiet_load (.agg x.cells) 133 (.tmp 18) ⟨b1, o1 + t * 34, none⟩ (by rfl) (by rintro _ ⟨m, rfl⟩; exact e1 m) ?_
          simp only [List.setIfInBounds_toArray, List.set_cons_succ, List.set_cons_zero]
          repeat (go_big_quiet_step (fail))
          refine quiet_load (.agg y.cells) 133 (.tmp 22) ⟨b2, o2 + t * 34, none⟩ (by rfl) (by rintro _ ⟨m, rfl⟩; exact e2 m) ?_
          simp only [List.setIfInBounds_toArray, List.set_cons_succ, List.set_cons_zero]
          repeat (go_big_quiet_step (fail))
          refine wpQuiet_nil ?_
          rintro _ ⟨nq, rfl⟩
          clear e1 e2 heq
          go_wp2
          go_roundw
          case rel =>
            refine ⟨t + 1, n + nq, by omega, by go_num, rfl, fun j hj a b ha hb => ?_⟩
            by_cases hj' : j < t
            · exact HZ.out j hj' a b ha hb
            · obtain rfl : j = t := by omega
              have q1 := Option.some.inj (ha.symm.trans HX.out)
              have q2 := Option.some.inj (hb.symm.trans HY.out)
              rw [q1, q2]
              exact HB.out
          case measure => simp [intOf]; omega
        | false =>
          rw [hb] at heq
          have HB : Hid _ := hb
          clear hb
          go_wp2
          refine wp_region_quiet_lit (by kernel_rfl) (by kernel_rfl) ?_
          repeat (go_big_quiet_step (fail))
          refine quiet_load (.agg x.cells) 133 (.tmp 18) ⟨b1, o1 + t * 34, none⟩ (by rfl) (by rintro _ ⟨m, rfl⟩; exact e1 m) ?_
          simp only [List.setIfInBounds_toArray, List.set_cons_succ, List.set_cons_zero]
          repeat (go_big_quiet_step (fail))
          refine quiet_load (.agg y.cells) 133 (.tmp 22) ⟨b2, o2 + t * 34, none⟩ (by rfl) (by rintro _ ⟨m, rfl⟩; exact e2 m) ?_
          simp only [List.setIfInBounds_toArray, List.set_cons_succ, List.set_cons_zero]
          repeat (go_big_quiet_step (fail))
          refine wpQuiet_nil ?_
          rintro _ ⟨nq, rfl⟩
          clear e1 e2 heq
          go_wp2
          go_ret
          refine ⟨congrArg Ending.returned (congrArg Value.bool ?_), n + nq, by simp [World.drewN, Nat.add_assoc]⟩
          cases h : eqAll entEq xs ys with
          | false => rfl
          | true =>
            have := HALL.out.1 h t x y HX.out HY.out
            rw [HB.out] at this
            cases this
      · have htl : t = xs.length := by omega
        have HT : Hid _ := htl
        clear h1 h2 htl
        go_wp2
        go_ret
        refine ⟨congrArg Ending.returned (congrArg Value.bool ?_), n, rfl⟩
        rw [eq_comm, HALL.out]
        intro i a b ha hb
        have hi : i < xs.length := by
          by_cases hi : i < xs.length
          · exact hi
          · rw [List.getElem?_eq_none (by omega)] at ha; cases ha
        exact HZ.out i (by rw [HT.out]; exact hi) a b ha hb
  · have hne : ((xs.length : Int) != (ys.length : Int)) = true := by simpa using fun h => hl (by omega)
    clear h1 h2
    go_enter Tryz.func118, Tryz.ntmps118
    go_wp2
    go_ret
    refine ⟨congrArg Ending.returned (congrArg Value.bool ?_), 0, rfl⟩
    cases h : eqAll entEq xs ys with
    | false => rfl
    | true => exact absurd (eqAll_len h) hl

/-- Two Ids the same? -/
def idEq (f g : Nat → Int) : Bool := eqTo f g 32
set_option maxRecDepth 100000 in
set_option maxHeartbeats 1000000 in
theorem equalI_any (sp tp : Option Addr) (c1 c2 : Nat) (xs ys : List (Nat → Int)) (w : World) (h1 : RowsAt w 32 (arr .u8 32) sp xs) (h2 : RowsAt w 32 (arr .u8 32) tp ys) (hlen : xs.length ≤ 100000000) :
    Calls Tryz.prog 119 #[.slice sp xs.length c1, .slice tp ys.length c2] w fun e w' => e = .returned (.bool (eqAll idEq xs ys)) ∧ ∃ n, w' = w.drewN n := by
  by_cases hl : xs.length = ys.length
  · have hne : ((xs.length : Int) != (ys.length : Int)) = false := by simp [hl]
    have hall := eqAll_iff (eq := idEq) hl
    have HALL : Hid _ := hall
    clear hall
    go_enter Tryz.func119, Tryz.ntmps119
    go_wp2
    go_loopw [13] (fun i wr => ∃ (t n : Nat), t ≤ xs.length ∧ i = .int .i64 t ∧ wr = w.drewN n ∧ ∀ j, j < t → ∀ a b, xs[j]? = some a → ys[j]? = some b → idEq a b = true) (fun i _ => xs.length - (intOf i).toNat)
    case atStart => exact ⟨0, 0, Nat.zero_le _, rfl, rfl, fun j hj => by omega⟩
    case round =>
      obtain ⟨t, n, ht, rfl, rfl, hz⟩ := hrel
      have HZ : Hid _ := hz
      clear hz
      by_cases hlt : t < xs.length
      · obtain ⟨b1, o1, rfl, hc1⟩ := h1 (by omega)
        obtain ⟨b2, o2, rfl, hc2⟩ := h2 (by omega)
        have hx : xs[t]? = some (xs[t]'hlt) := List.getElem?_eq_getElem hlt
        have hy : ys[t]? = some (ys[t]'(by omega)) := List.getElem?_eq_getElem (by omega)
        generalize hX : xs[t]'hlt = x at hx
        generalize hY : ys[t]'(by omega) = y at hy
        have e1 : ∀ m, (loadVar 26 ⟨b1, o1 + t * 32, none⟩).run Tryz.prog ((w.drewN n).drewN m) = .ok (.agg (arr .u8 32 x)) ((w.drewN n).drewN m) := fun m => run_mid (fun j u hu => hc1 t x hx j u hu) Tryz.underlying26 rfl (by rw [arr_size]; kernel_rfl)
        have e2 : ∀ m, (loadVar 26 ⟨b2, o2 + t * 32, none⟩).run Tryz.prog ((w.drewN n).drewN m) = .ok (.agg (arr .u8 32 y)) ((w.drewN n).drewN m) := fun m => run_mid (fun j u hu => hc2 t y hy j u hu) Tryz.underlying26 rfl (by rw [arr_size]; kernel_rfl)
        have heq : ∀ w, (Op.equalIn 10000 26 (.agg (arr .u8 32 x)) (.agg (arr .u8 32 y))).run Tryz.prog w = .ok (idEq x y) w := equal_id x y
        have hly : t < ys.length := by omega
        have HX : Hid _ := hx
        have HY : Hid _ := hy
        have HL : Hid _ := hl
        clear hc1 hc2 h1 h2 hX hY hx hy
        cases hb : idEq x y with
        | true =>
          rw [hb] at heq
          have HB : Hid _ := hb
          clear hb
          go_wp2
          refine wp_region_quiet_lit (by kernel_rfl) (by kernel_rfl) ?_
          repeat (go_big_quiet_step (fail))
          refine quiet_load (.agg (arr .u8 32 x)) 26 (.tmp 18) ⟨b1, o1 + t * 32, none⟩ (by rfl) (by rintro _ ⟨m, rfl⟩; exact e1 m) ?_
          simp only [List.setIfInBounds_toArray, List.set_cons_succ, List.set_cons_zero]
          repeat (go_big_quiet_step (fail))
          refine quiet_load (.agg (arr .u8 32 y)) 26 (.tmp 22) ⟨b2, o2 + t * 32, none⟩ (by rfl) (by rintro _ ⟨m, rfl⟩; exact e2 m) ?_
          simp only [List.setIfInBounds_toArray, List.set_cons_succ, List.set_cons_zero]
          repeat (go_big_quiet_step (fail))
          refine wpQuiet_nil ?_
          rintro _ ⟨nq, rfl⟩
          clear e1 e2 heq
          go_wp2
          go_roundw
          case rel =>
            refine ⟨t + 1, n + nq, by omega, by go_num, rfl, fun j hj a b ha hb => ?_⟩
            by_cases hj' : j < t
            · exact HZ.out j hj' a b ha hb
            · obtain rfl : j = t := by omega
              have q1 := Option.some.inj (ha.symm.trans HX.out)
              have q2 := Option.some.inj (hb.symm.trans HY.out)
              rw [q1, q2]
              exact HB.out
          case measure => simp [intOf]; omega
        | false =>
          rw [hb] at heq
          have HB : Hid _ := hb
          clear hb
          go_wp2
          refine wp_region_quiet_lit (by kernel_rfl) (by kernel_rfl) ?_
          repeat (go_big_quiet_step (fail))
          refine quiet_load (.agg (arr .u8 32 x)) 26 (.tmp 18) ⟨b1, o1 + t * 32, none⟩ (by rfl) (by rintro _ ⟨m, rfl⟩; exact e1 m) ?_
          simp only [List.setIfInBounds_toArray, List.set_cons_succ, List.set_cons_zero]
          repeat (go_big_quiet_step (fail))
          refine quiet_load (.agg (arr .u8 32 y)) 26 (.tmp 22) ⟨b2, o2 + t * 32, none⟩ (by rfl) (by rintro _ ⟨m, rfl⟩; exact e2 m) ?_
          simp only [List.setIfInBounds_toArray, List.set_cons_succ, List.set_cons_zero]
          repeat (go_big_quiet_step (fail))
          refine wpQuiet_nil ?_
          rintro _ ⟨nq, rfl⟩
          clear e1 e2 heq
          go_wp2
          go_ret
          refine ⟨congrArg Ending.returned (congrArg Value.bool ?_), n + nq, by simp [World.drewN, Nat.add_assoc]⟩
          cases h : eqAll idEq xs ys with
          | false => rfl
          | true =>
            have := HALL.out.1 h t x y HX.out HY.out
            rw [HB.out] at this
            cases this
      · have htl : t = xs.length := by omega
        have HT : Hid _ := htl
        clear h1 h2 htl
        go_wp2
        go_ret
        refine ⟨congrArg Ending.returned (congrArg Value.bool ?_), n, rfl⟩
        rw [eq_comm, HALL.out]
        intro i a b ha hb
        have hi : i < xs.length := by
          by_cases hi : i < xs.length
          · exact hi
          · rw [List.getElem?_eq_none (by omega)] at ha; cases ha
        exact HZ.out i (by rw [HT.out]; exact hi) a b ha hb
  · have hne : ((xs.length : Int) != (ys.length : Int)) = true := by simpa using fun h => hl (by omega)
    clear h1 h2
    go_enter Tryz.func119, Tryz.ntmps119
    go_wp2
    go_ret
    refine ⟨congrArg Ending.returned (congrArg Value.bool ?_), 0, rfl⟩
    cases h : eqAll idEq xs ys with
    | false => rfl
    | true => exact absurd (eqAll_len h) hl
end Go.Proofs.YtgfjjglejlnfbaaGreatDoor
