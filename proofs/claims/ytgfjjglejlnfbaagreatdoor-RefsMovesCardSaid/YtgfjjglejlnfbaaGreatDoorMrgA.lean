/- The contracts of octet.Equal, and of slices.Equal at entries and at Ids. -/
/- What an object's lists hold; the contract of object.Same. -/
/- The contract of object.counted. -/
/- The contract of object.named. -/
import Derived.Test.YtgfjjglejlnfbaaGreatDoorObs
import Derived.Test.YtgfjjglejlnfbaaGreatDoorNameC
namespace Go.Proofs.YtgfjjglejlnfbaaGreatDoor
open Go.RowKit

theorem u8_or_xor {a x y : Int} (ha : 0 ≤ a ∧ a ≤ 255) (hx : 0 ≤ x ∧ x ≤ 255) (hy : 0 ≤ y ∧ y ≤ 255) : 0 ≤ bits .or .u8 a (bits .xor .u8 x y) ∧ bits .or .u8 a (bits .xor .u8 x y) ≤ 255 ∧ (bits .or .u8 a (bits .xor .u8 x y) = 0 ↔ a = 0 ∧ x = y) := by
  obtain ⟨a, rfl⟩ := Int.eq_ofNat_of_zero_le ha.1
  obtain ⟨x, rfl⟩ := Int.eq_ofNat_of_zero_le hx.1
  obtain ⟨y, rfl⟩ := Int.eq_ofNat_of_zero_le hy.1
  have e1 : bits .xor .u8 (x : Int) (y : Int) = ((BitVec.ofNat 8 x ^^^ BitVec.ofNat 8 y).toNat : Int) := by
    show IntKind.u8.wrap ((BitVec.ofInt 8 x ^^^ BitVec.ofInt 8 y).toNat : Int) = _
    rw [IntKind.wrap_u8]
    simp only [BitVec.ofInt_natCast]
    have := (BitVec.ofNat 8 x ^^^ BitVec.ofNat 8 y).isLt
    omega
  rw [e1]
  have e2 : ∀ q : Nat, q < 256 → bits .or .u8 (a : Int) (q : Int) = ((BitVec.ofNat 8 a ||| BitVec.ofNat 8 q).toNat : Int) := fun q _ => by
    show IntKind.u8.wrap ((BitVec.ofInt 8 a ||| BitVec.ofInt 8 q).toNat : Int) = _
    rw [IntKind.wrap_u8]
    simp only [BitVec.ofInt_natCast]
    have := (BitVec.ofNat 8 a ||| BitVec.ofNat 8 q).isLt
    omega
  rw [e2 _ (BitVec.isLt _)]
  have hlt := (BitVec.ofNat 8 a ||| BitVec.ofNat 8 (BitVec.ofNat 8 x ^^^ BitVec.ofNat 8 y).toNat).isLt
  refine ⟨by omega, by omega, ?_⟩
  have e3 : BitVec.ofNat 8 (BitVec.ofNat 8 x ^^^ BitVec.ofNat 8 y).toNat = BitVec.ofNat 8 x ^^^ BitVec.ofNat 8 y := BitVec.eq_of_toNat_eq (by rw [BitVec.toNat_ofNat]; exact Nat.mod_eq_of_lt (BitVec.isLt _))
  rw [e3]
  have hor : ∀ A X : BitVec 8, A ||| X = 0#8 ↔ A = 0#8 ∧ X = 0#8 := fun _ _ => BitVec.or_eq_zero_iff
  have hxor : ∀ X Y : BitVec 8, X ^^^ Y = 0#8 ↔ X = Y := fun _ _ => BitVec.xor_eq_zero_iff
  constructor
  · intro h
    have h' : BitVec.ofNat 8 a ||| (BitVec.ofNat 8 x ^^^ BitVec.ofNat 8 y) = 0#8 := by
      apply BitVec.eq_of_toNat_eq
      simpa using h
    obtain ⟨p, q⟩ := (hor _ _).1 h'
    have q' := (hxor _ _).1 q
    have p1 := congrArg BitVec.toNat p
    have q1 := congrArg BitVec.toNat q'
    simp only [BitVec.toNat_ofNat] at p1 q1
    omega
  · rintro ⟨p, q⟩
    have hx' : x = y := by omega
    have ha' : a = 0 := by omega
    subst hx' ha'
    simp

set_option maxRecDepth 100000 in
set_option maxHeartbeats 1000000 in
theorem equal_any (sp tp : Option Addr) (l1 l2 c1 c2 : Nat) (f g : Nat → Int) (w : World) (h1 : SrcAt w .u8 sp l1 f) (h2 : SrcAt w .u8 tp l2 g) (hf : ∀ i, i < l1 → 0 ≤ f i ∧ f i ≤ 255) (hg : ∀ i, i < l2 → 0 ≤ g i ∧ g i ≤ 255) (hlen : l1 ≤ 100000000) :
    Calls Tryz.prog 117 #[.slice sp l1 c1, .slice tp l2 c2] w fun e w' => e = .returned (.bool (l1 == l2 && eqTo f g l1)) ∧ w' = w := by
  by_cases hl : l1 = l2
  · subst hl
    have hne : ((l1 : Int) != (l1 : Int)) = false := by simp
    go_enter Tryz.func117, Tryz.ntmps117
    go_wp2
    go_loop [5, 15] (fun u i => ∃ (t : Nat) (a : Int), t ≤ l1 ∧ i = .int .i64 t ∧ u = .int .u8 a ∧ (0 ≤ a ∧ a ≤ 255) ∧ (a = 0 ↔ ∀ i, i < t → f i = g i)) (fun _ i => l1 - (intOf i).toNat)
    case atStart => exact ⟨0, 0, Nat.zero_le _, rfl, rfl, by omega, by simp⟩
    case round =>
      obtain ⟨t, a, ht, rfl, rfl, ha, hz⟩ := hrel
      have HZ : Hid _ := hz
      clear hz
      by_cases hlt : t < l1
      · obtain ⟨b1, o1, rfl, hc1⟩ := h1 (by omega)
        obtain ⟨b2, o2, rfl, hc2⟩ := h2 (by omega)
        have e1 := hc1 t hlt
        have e2 := hc2 t hlt
        have hb := u8_or_xor ha (hf t hlt) (hg t hlt)
        generalize hX : f t = x at e1 hb
        generalize hY : g t = y at e2 hb
        have HX : Hid _ := hX
        have HY : Hid _ := hY
        have HB : Hid _ := hb
        have HF : Hid _ := hf
        have HG : Hid _ := hg
        clear hc1 hc2 h1 h2 hX hY hb hf hg ha
        go_wp2
        go_round
        case rel =>
          refine ⟨t + 1, _, by omega, by go_num, rfl, ⟨HB.out.1, HB.out.2.1⟩, HB.out.2.2.trans ?_⟩
          rw [HZ.out, ← HX.out, ← HY.out]
          constructor
          · rintro ⟨p, q⟩ i hi
            by_cases hi' : i < t
            · exact p i hi'
            · obtain rfl : i = t := by omega
              exact q
          · intro p
            exact ⟨fun i hi => p i (by omega), p t (by omega)⟩
        case measure => simp [intOf]; omega
      · have htl : t = l1 := by omega
        have HT : Hid _ := htl
        clear h1 h2 hf hg htl
        go_wp2
        go_ret
        refine ⟨congrArg Ending.returned (congrArg Value.bool ?_), rfl⟩
        have := HZ.out
        rw [HT.out, ← eqTo_iff] at this
        rw [Bool.eq_iff_iff]
        simp [this]
  · have hne : ((l1 : Int) != (l2 : Int)) = true := by simpa using fun h => hl (by omega)
    clear h1 h2 hf hg
    go_enter Tryz.func117, Tryz.ntmps117
    go_wp2
    go_ret
    refine ⟨congrArg Ending.returned (congrArg Value.bool ?_), rfl⟩
    simp [hl]

/-- A load of many cells in a region that only reads. -/
theorem quiet_load {P : Program} {ops : Array Oper} {C : World → Prop} {Q : Act → Prop} {tm : Array Value} {df : List Deferred} {rest : List Oper} {ty0 : TypeId} {pos : String} {aft : Array Edge} {d : Nat} (v : Value) (ty : TypeId) (x : Operand) (p : Addr) (hx : Act.eval ⟨tm, df⟩ x = .pointer (some p))
    (hl : ∀ w, C w → (loadVar ty p).run P w = .ok v w) (h : wpQuiet P ops C Q rest ⟨tm.setIfInBounds d v, df⟩) : wpQuiet P ops C Q (⟨some d, .load ty x, ty0, pos, aft, none⟩ :: rest) ⟨tm, df⟩ := by
  refine wpQuiet_step fun K hK => ?_
  rw [if_pos (wanted_plain rfl)]
  refine ⟨v, fun w hw => ?_, hK _ h⟩
  unfold Oper.quietAt execOp
  simp only [hx, Instr.loadAt, Instr.sureAddr, Sem.run_bind, Sem.run_pure, Result.andThen_ok, hl w hw]
  exact ⟨rfl, rfl⟩

/-- Are two lists of the same length, and each two the same? -/
def eqAll {α : Type} (eq : α → α → Bool) : List α → List α → Bool
  | [], [] => true
  | a :: r, b :: q => eq a b && eqAll eq r q
  | _, _ => false
theorem eqAll_len {α : Type} {eq : α → α → Bool} : ∀ {r q : List α}, eqAll eq r q = true → r.length = q.length
  | [], [], _ => rfl
  | a :: r, b :: q, h => by
    simp [eqAll] at h
    simp [eqAll_len h.2]
  | [], _ :: _, h => by simp [eqAll] at h
  | _ :: _, [], h => by simp [eqAll] at h
theorem eqAll_iff {α : Type} {eq : α → α → Bool} : ∀ {r q : List α}, r.length = q.length → (eqAll eq r q = true ↔ ∀ (i : Nat) a b, r[i]? = some a → q[i]? = some b → eq a b = true)
  | [], [], _ => by simp [eqAll]
  | a :: r, b :: q, h => by
    have h' : r.length = q.length := by simpa using h
    simp only [eqAll, Bool.and_eq_true, eqAll_iff h']
    constructor
    · rintro ⟨p, t⟩ i x y hx hy
      cases i with
      | zero => simp at hx hy; subst hx; subst hy; exact p
      | succ i => exact t i x y (by simpa using hx) (by simpa using hy)
    · intro t
      exact ⟨t 0 a b rfl rfl, fun i x y hx hy => t (i + 1) x y (by simpa using hx) (by simpa using hy)⟩
  | [], _ :: _, h => by simp at h
  | _ :: _, [], h => by simp at h

set_option maxRecDepth 100000 in
set_option maxHeartbeats 1000000 in
theorem equalE_any (sp tp : Option Addr) (c1 c2 : Nat) (xs ys : List Ent) (w : World) (h1 : RowsAt w 34 Ent.cells sp xs) (h2 : RowsAt w 34 Ent.cells tp ys) (hlen : xs.length ≤ 100000000) :
    Calls Tryz.prog 118 #[.slice sp xs.length c1, .slice tp ys.length c2] w fun e w' => e = .returned (.bool (eqAll entEq xs ys)) ∧ ∃ n, w' = w.drewN n := by
  by_cases hl : xs.length = ys.length
  · have hne : ((xs.length : Int) != (ys.length : Int)) = false := by simp [hl]
    have hall := eqAll_iff (eq := entEq) hl
    have HALL : Hid _ := hall
    clear hall
    go_enter Tryz.func118, Tryz.ntmps118
    go_wp2
    go_loopw [13] (fun i wr => ∃ (t n : Nat), t ≤ xs.length ∧ i = .int .i64 t ∧ wr = w.drewN n ∧ ∀ j, j < t → ∀ a b, xs[j]? = some a → ys[j]? = some b → entEq a b = true) (fun i _ => xs.length - (intOf i).toNat)
    case atStart => exact ⟨0, 0, Nat.zero_le _, rfl, rfl, fun j hj => by omega⟩
    case round =>
      obtain ⟨t, n, ht, rfl, rfl, hz⟩ := hrel
      have HZ : Hid _ := hz
      clear hz
      by_cases hlt : t < xs.length
      · obtain ⟨b1, o1, rfl, hc1⟩ := h1 (by omega)
        obtain ⟨b2, o2, rfl, hc2⟩ := h2 (by omega)
        have hx : xs[t]? = some (xs[t]'hlt) := List.getElem?_eq_getElem hlt
        have hy : ys[t]? = some (ys[t]'(by omega)) := List.getElem?_eq_getElem (by omega)
        generalize hX : xs[t]'hlt = x at hx
        generalize hY : ys[t]'(by omega) = y at hy
        have e1 : ∀ m, (loadVar 133 ⟨b1, o1 + t * 34, none⟩).run Tryz.prog ((w.drewN n).drewN m) = .ok (.agg x.cells) ((w.drewN n).drewN m) := fun m => run_mid (fun j u hu => hc1 t x hx j u hu) Tryz.underlying133 rfl (by rw [x.size]; kernel_rfl)
        have e2 : ∀ m, (loadVar 133 ⟨b2, o2 + t * 34, none⟩).run Tryz.prog ((w.drewN n).drewN m) = .ok (.agg y.cells) ((w.drewN n).drewN m) := fun m => run_mid (fun j u hu => hc2 t y hy j u hu) Tryz.underlying133 rfl (by rw [y.size]; kernel_rfl)
        have heq := equal_ent x y
        have hly : t < ys.length := by omega
        have HX : Hid _ := hx
        have HY : Hid _ := hy
        have HL : Hid _ := hl
        clear hc1 hc2 h1 h2 hX hY hx hy
        cases hb : entEq x y with
        | true =>
          rw [hb] at heq
          have HB : Hid _ := hb
          clear hb
          go_wp2
          refine wp_region_quiet_lit (by kernel_rfl) (by kernel_rfl) ?_
          repeat (go_big_quiet_step (fail))
          refine quiet_load (.agg x.cells) 133 (.tmp 18) ⟨b1, o1 + t * 34, none⟩ (by rfl) (by rintro _ ⟨m, rfl⟩; exact e1 m) ?_
          simp only [List.setIfInBounds_toArray, List.set_cons_succ, List.set_cons_zero]
          repeat (go_big_quiet_step (fail))
          refine quiet_load (.agg y.cells) 133 (.tmp 22) ⟨b2, o2 + t * 34, none⟩ (by rfl) (by rintro _ ⟨m, rfl⟩; exact e2 m) ?_
          simp only [List.setIfInBounds_toArray, List.set_cons_succ, List.set_cons_zero]
          repeat (go_big_quiet_step (fail))
          refine wpQuiet_nil ?_
          rintro _ ⟨nq, rfl⟩
          clear e1 e2 heq
          go_wp2
          go_roundw
          case rel =>
            refine ⟨t + 1, n + nq, by omega, by go_num, rfl, fun j hj a b ha hb => ?_⟩
            by_cases hj' : j < t
            · exact HZ.out j hj' a b ha hb
            · obtain rfl : j = t := by omega
              have q1 := Option.some.inj (ha.symm.trans HX.out)
              have q2 := Option.some.inj (hb.symm.trans HY.out)
              rw [q1, q2]
              exact HB.out
          case measure => simp [intOf]; omega
        | false =>
          rw [hb] at heq
          have HB : Hid _ := hb
          clear hb
          go_wp2
          refine wp_region_quiet_lit (by kernel_rfl) (by kernel_rfl) ?_
          repeat (go_big_quiet_step (fail))
          refine quiet_load (.agg x.cells) 133 (.tmp 18) ⟨b1, o1 + t * 34, none⟩ (by rfl) (by rintro _ ⟨m, rfl⟩; exact e1 m) ?_
          simp only [List.setIfInBounds_toArray, List.set_cons_succ, List.set_cons_zero]
          repeat (go_big_quiet_step (fail))
          refine quiet_load (.agg y.cells) 133 (.tmp 22) ⟨b2, o2 + t * 34, none⟩ (by rfl) (by rintro _ ⟨m, rfl⟩; exact e2 m) ?_
          simp only [List.setIfInBounds_toArray, List.set_cons_succ, List.set_cons_zero]
          repeat (go_big_quiet_step (fail))
          refine wpQuiet_nil ?_
          rintro _ ⟨nq, rfl⟩
          clear e1 e2 heq
          go_wp2
          go_ret
          refine ⟨congrArg Ending.returned (congrArg Value.bool ?_), n + nq, by simp [World.drewN, Nat.add_assoc]⟩
          cases h : eqAll entEq xs ys with
          | false => rfl
          | true =>
            have := HALL.out.1 h t x y HX.out HY.out
            rw [HB.out] at this
            cases this
      · have htl : t = xs.length := by omega
        have HT : Hid _ := htl
        clear h1 h2 htl
        go_wp2
        go_ret
        refine ⟨congrArg Ending.returned (congrArg Value.bool ?_), n, rfl⟩
        rw [eq_comm, HALL.out]
        intro i a b ha hb
        have hi : i < xs.length := by
          by_cases hi : i < xs.length
          · exact hi
          · rw [List.getElem?_eq_none (by omega)] at ha; cases ha
        exact HZ.out i (by rw [HT.out]; exact hi) a b ha hb
  · have hne : ((xs.length : Int) != (ys.length : Int)) = true := by simpa using fun h => hl (by omega)
    clear h1 h2
    go_enter Tryz.func118, Tryz.ntmps118
    go_wp2
    go_ret
    refine ⟨congrArg Ending.returned (congrArg Value.bool ?_), 0, rfl⟩
    cases h : eqAll entEq xs ys with
    | false => rfl
    | true => exact absurd (eqAll_len h) hl

/-- Two Ids the same? -/
def idEq (f g : Nat → Int) : Bool := eqTo f g 32
set_option maxRecDepth 100000 in
set_option maxHeartbeats 1000000 in
theorem equalI_any (sp tp : Option Addr) (c1 c2 : Nat) (xs ys : List (Nat → Int)) (w : World) (h1 : RowsAt w 32 (arr .u8 32) sp xs) (h2 : RowsAt w 32 (arr .u8 32) tp ys) (hlen : xs.length ≤ 100000000) :
    Calls Tryz.prog 119 #[.slice sp xs.length c1, .slice tp ys.length c2] w fun e w' => e = .returned (.bool (eqAll idEq xs ys)) ∧ ∃ n, w' = w.drewN n := by
  by_cases hl : xs.length = ys.length
  · have hne : ((xs.length : Int) != (ys.length : Int)) = false := by simp [hl]
    have hall := eqAll_iff (eq := idEq) hl
    have HALL : Hid _ := hall
    clear hall
    go_enter Tryz.func119, Tryz.ntmps119
    go_wp2
    go_loopw [13] (fun i wr => ∃ (t n : Nat), t ≤ xs.length ∧ i = .int .i64 t ∧ wr = w.drewN n ∧ ∀ j, j < t → ∀ a b, xs[j]? = some a → ys[j]? = some b → idEq a b = true) (fun i _ => xs.length - (intOf i).toNat)
    case atStart => exact ⟨0, 0, Nat.zero_le _, rfl, rfl, fun j hj => by omega⟩
    case round =>
      obtain ⟨t, n, ht, rfl, rfl, hz⟩ := hrel
      have HZ : Hid _ := hz
      clear hz
      by_cases hlt : t < xs.length
      · obtain ⟨b1, o1, rfl, hc1⟩ := h1 (by omega)
        obtain ⟨b2, o2, rfl, hc2⟩ := h2 (by omega)
        have hx : xs[t]? = some (xs[t]'hlt) := List.getElem?_eq_getElem hlt
        have hy : ys[t]? = some (ys[t]'(by omega)) := List.getElem?_eq_getElem (by omega)
        generalize hX : xs[t]'hlt = x at hx
        generalize hY : ys[t]'(by omega) = y at hy
        have e1 : ∀ m, (loadVar 26 ⟨b1, o1 + t * 32, none⟩).run Tryz.prog ((w.drewN n).drewN m) = .ok (.agg (arr .u8 32 x)) ((w.drewN n).drewN m) := fun m => run_mid (fun j u hu => hc1 t x hx j u hu) Tryz.underlying26 rfl (by rw [arr_size]; kernel_rfl)
        have e2 : ∀ m, (loadVar 26 ⟨b2, o2 + t * 32, none⟩).run Tryz.prog ((w.drewN n).drewN m) = .ok (.agg (arr .u8 32 y)) ((w.drewN n).drewN m) := fun m => run_mid (fun j u hu => hc2 t y hy j u hu) Tryz.underlying26 rfl (by rw [arr_size]; kernel_rfl)
        have heq : ∀ w, (Op.equalIn 10000 26 (.agg (arr .u8 32 x)) (.agg (arr .u8 32 y))).run Tryz.prog w = .ok (idEq x y) w := equal_id x y
        have hly : t < ys.length := by omega
        have HX : Hid _ := hx
        have HY : Hid _ := hy
        have HL : Hid _ := hl
        clear hc1 hc2 h1 h2 hX hY hx hy
        cases hb : idEq x y with
        | true =>
          rw [hb] at heq
          have HB : Hid _ := hb
          clear hb
          go_wp2
          refine wp_region_quiet_lit (by kernel_rfl) (by kernel_rfl) ?_
          repeat (go_big_quiet_step (fail))
          refine quiet_load (.agg (arr .u8 32 x)) 26 (.tmp 18) ⟨b1, o1 + t * 32, none⟩ (by rfl) (by rintro _ ⟨m, rfl⟩; exact e1 m) ?_
          simp only [List.setIfInBounds_toArray, List.set_cons_succ, List.set_cons_zero]
          repeat (go_big_quiet_step (fail))
          refine quiet_load (.agg (arr .u8 32 y)) 26 (.tmp 22) ⟨b2, o2 + t * 32, none⟩ (by rfl) (by rintro _ ⟨m, rfl⟩; exact e2 m) ?_
          simp only [List.setIfInBounds_toArray, List.set_cons_succ, List.set_cons_zero]
          repeat (go_big_quiet_step (fail))
          refine wpQuiet_nil ?_
          rintro _ ⟨nq, rfl⟩
          clear e1 e2 heq
          go_wp2
          go_roundw
          case rel =>
            refine ⟨t + 1, n + nq, by omega, by go_num, rfl, fun j hj a b ha hb => ?_⟩
            by_cases hj' : j < t
            · exact HZ.out j hj' a b ha hb
            · obtain rfl : j = t := by omega
              have q1 := Option.some.inj (ha.symm.trans HX.out)
              have q2 := Option.some.inj (hb.symm.trans HY.out)
              rw [q1, q2]
              exact HB.out
          case measure => simp [intOf]; omega
        | false =>
          rw [hb] at heq
          have HB : Hid _ := hb
          clear hb
          go_wp2
          refine wp_region_quiet_lit (by kernel_rfl) (by kernel_rfl) ?_
          repeat (go_big_quiet_step (fail))
          refine quiet_load (.agg (arr .u8 32 x)) 26 (.tmp 18) ⟨b1, o1 + t * 32, none⟩ (by rfl) (by rintro _ ⟨m, rfl⟩; exact e1 m) ?_
          simp only [List.setIfInBounds_toArray, List.set_cons_succ, List.set_cons_zero]
          repeat (go_big_quiet_step (fail))
          refine quiet_load (.agg (arr .u8 32 y)) 26 (.tmp 22) ⟨b2, o2 + t * 32, none⟩ (by rfl) (by rintro _ ⟨m, rfl⟩; exact e2 m) ?_
          simp only [List.setIfInBounds_toArray, List.set_cons_succ, List.set_cons_zero]
          repeat (go_big_quiet_step (fail))
          refine wpQuiet_nil ?_
          rintro _ ⟨nq, rfl⟩
          clear e1 e2 heq
          go_wp2
          go_ret
          refine ⟨congrArg Ending.returned (congrArg Value.bool ?_), n + nq, by simp [World.drewN, Nat.add_assoc]⟩
          cases h : eqAll idEq xs ys with
          | false => rfl
          | true =>
            have := HALL.out.1 h t x y HX.out HY.out
            rw [HB.out] at this
            cases this
      · have htl : t = xs.length := by omega
        have HT : Hid _ := htl
        clear h1 h2 htl
        go_wp2
        go_ret
        refine ⟨congrArg Ending.returned (congrArg Value.bool ?_), n, rfl⟩
        rw [eq_comm, HALL.out]
        intro i a b ha hb
        have hi : i < xs.length := by
          by_cases hi : i < xs.length
          · exact hi
          · rw [List.getElem?_eq_none (by omega)] at ha; cases ha
        exact HZ.out i (by rw [HT.out]; exact hi) a b ha hb
  · have hne : ((xs.length : Int) != (ys.length : Int)) = true := by simpa using fun h => hl (by omega)
    clear h1 h2
    go_enter Tryz.func119, Tryz.ntmps119
    go_wp2
    go_ret
    refine ⟨congrArg Ending.returned (congrArg Value.bool ?_), 0, rfl⟩
    cases h : eqAll idEq xs ys with
    | false => rfl
    | true => exact absurd (eqAll_len h) hl
end Go.Proofs.YtgfjjglejlnfbaaGreatDoor

namespace Go.Proofs.YtgfjjglejlnfbaaGreatDoor
open Go.RowKit

/-- What an object's lists hold. -/
structure Co where
  nb : Nat
  bf : Nat → Int
  es : List Ent
  ps : List (Nat → Int)
structure Has (w : World) (o : Ob) (c : Co) : Prop where
  b : ∃ sp cap, o.bs = .slice sp c.nb cap ∧ SrcAt w .u8 sp c.nb c.bf
  e : ∃ sp cap, o.es = .slice sp c.es.length cap ∧ RowsAt w 34 Ent.cells sp c.es
  p : ∃ sp cap, o.ps = .slice sp c.ps.length cap ∧ RowsAt w 32 (arr .u8 32) sp c.ps
  bok : ∀ i, i < c.nb → 0 ≤ c.bf i ∧ c.bf i ≤ 255
  bn : ∀ n cap, o.bs = .slice none n cap → cap = 0
  lb : c.nb ≤ 100000000
  le : c.es.length ≤ 100000000
  lp : c.ps.length ≤ 100000000
theorem Has.below {w w' : World} {o : Ob} {c : Co} (h : Has w o c) (hb : Below w.heap.size w w') : Has w' o c := by
  obtain ⟨sp, cp, h1, h2⟩ := h.b
  obtain ⟨sq, cq, h3, h4⟩ := h.e
  obtain ⟨sr, cr, h5, h6⟩ := h.p
  exact ⟨⟨sp, cp, h1, h2.below hb⟩, ⟨sq, cq, h3, h4.below hb⟩, ⟨sr, cr, h5, h6.below hb⟩, h.bok, h.bn, h.lb, h.le, h.lp⟩
/-- Two objects, field by field. -/
def sameB (o : Ob) (c : Co) (p : Ob) (d : Co) : Bool := (o.kind == p.kind) && ((c.nb == d.nb && eqTo c.bf d.bf c.nb) && (eqAll entEq c.es d.es && (eqTo o.tree p.tree 32 && (eqAll idEq c.ps d.ps && ((o.num == p.num) && (o.note.toList == p.note.toList))))))

theorem load_atg {P : Program} {ops : Array Oper} {Q : Exit → Act → World → Prop} {a : Act} {w : World} {rest : List Oper} {o : Oper} (hw : Region.wanted o (yielded ops a.tmps) = true) (ty : TypeId) (x : Operand) (ho : o.op = .load ty x) (g p : Nat) (hx : a.eval x = .pointer (some ⟨g, p, none⟩))
    (k : IntKind) (m : Nat) (f : Nat → Int) (d : TypeDesc) (hc : ∀ i, i < m → w.cell? ⟨g, p + i, none⟩ = some (.int k (f i))) (hu : P.underlying ty = some d)
    (hd : d.isRow = true) (hsz : (P.info? ty).map (·.size) = some m)
    (h : wpList P ops Q rest (a.put o.dst (.agg (arr k m f))) w) : wpList P ops Q (o :: rest) a w :=
  wpList_step fun _ hK => by
    rw [if_pos hw]
    unfold Oper.wp execOp
    simp only [ho, hx, Instr.loadAt, Instr.sureAddr, Sem.run_bind, Sem.run_pure, Result.andThen_ok, run_at hc hu hd hsz]
    exact hK _ _ h
theorem below_drewN {B : Nat} {w w1 : World} (h : Below B w w1) (n : Nat) : Below B w (w1.drewN n) := ⟨h.os, h.tape, h.output, h.size, h.block⟩

set_option maxRecDepth 100000 in
set_option maxHeartbeats 1000000 in
theorem same_any (o p : Ob) (c d : Co) (w : World) (ho : Has w o c) (hp : Has w p d) :
    Calls Tryz.prog 89 #[.agg o.cells, .agg p.cells] w fun e w' => e = .returned (.bool (sameB o c p d)) ∧ Below w.heap.size w w' := by
  go_enter Tryz.func89, Tryz.ntmps89
  have a0 := o.cell0
  have a1 := o.cell1
  have b0 := p.cell0
  have b1 := p.cell1
  cases hk : o.kind == p.kind with
  | false =>
    go_wp2
    go_ret
    refine ⟨ret_bool ?_, ?_⟩
    · simp [sameB, hk]
    · exact ((Below.refl _ _).alloc (Nat.le_refl _) _).alloc (by simp) _
  | true =>
    go_wp2_with fail
    refine calls_gen (fun W1 => Below w.heap.size w W1 ∧ ObRow W1 w.heap.size 0 o ∧ ObRow W1 (w.heap.size + 1) 0 p) ⟨?_, ?_, ?_⟩ ?_
    · exact ((Below.refl _ _).alloc (Nat.le_refl _) _).alloc (by simp) _
    · exact obRow (heap_alloc2_old _ _ _)
    · exact obRow (heap_alloc2_new _ _ _)
    intro W1 ⟨hB1, hr1, hr2⟩
    obtain ⟨s1, k1, hob, hs1⟩ := ho.b
    obtain ⟨t1, l1, hpb, ht1⟩ := hp.b
    rw [hob, hpb]
    refine (equal_any s1 t1 c.nb d.nb k1 l1 c.bf d.bf W1 (hs1.below (hB1.mono (Nat.le_refl _))) (ht1.below hB1) ho.bok hp.bok ho.lb).mono ?_
    rintro e w1 ⟨rfl, rfl⟩
    clear a0 a1 b0 b1
    have x2 : w1.cell? ⟨w.heap.size, 2, none⟩ = some o.es := hr1.c2
    have y2 : w1.cell? ⟨w.heap.size + 1, 2, none⟩ = some p.es := hr2.c2
    cases hq : (c.nb == d.nb && eqTo c.bf d.bf c.nb) with
    | false =>
      go_wp2
      go_ret
      exact ⟨ret_bool (by simp only [sameB, hq, Bool.false_and, Bool.and_false]), hB1⟩
    | true =>
      go_wp2_with fail
      obtain ⟨s2, k2, hoe, hs2⟩ := ho.e
      obtain ⟨t2, l2, hpe, ht2⟩ := hp.e
      rw [hoe, hpe]
      refine (equalE_any s2 t2 k2 l2 c.es d.es w1 (hs2.below hB1) (ht2.below hB1) ho.le).mono ?_
      rintro e w2 ⟨rfl, n, rfl⟩
      clear x2 y2
      have hB2 := below_drewN hB1 n
      have hr1' : ObRow (w1.drewN n) w.heap.size 0 o := hr1.below (below_drewN (Below.refl _ _) n)
      have hr2' : ObRow (w1.drewN n) (w.heap.size + 1) 0 p := hr2.below (below_drewN (Below.refl _ _) n)
      clear hr1 hr2 hB1
      generalize w1.drewN n = W2 at hB2 hr1' hr2'
      have x4 : W2.cell? ⟨w.heap.size, 35, none⟩ = some o.ps := hr1'.c35
      have y4 : W2.cell? ⟨w.heap.size + 1, 35, none⟩ = some p.ps := hr2'.c35
      cases hq2 : eqAll entEq c.es d.es with
      | false =>
        go_wp2
        go_ret
        exact ⟨ret_bool (by simp only [sameB, hq2, Bool.false_and, Bool.and_false]), hB2⟩
      | true =>
        have heq := equal_id o.tree p.tree
        cases hq3 : eqTo o.tree p.tree 32 with
        | false =>
          rw [hq3] at heq
          go_wp2_with (first
            | (refine load_atg (by rfl) 26 (.tmp 25) (by rfl) w.heap.size 3 (by rfl) .u8 32 o.tree _ hr1'.tree Tryz.underlying26 rfl (by kernel_rfl) ?_)
            | (refine load_atg (by rfl) 26 (.tmp 27) (by rfl) (w.heap.size + 1) 3 (by rfl) .u8 32 p.tree _ hr2'.tree Tryz.underlying26 rfl (by kernel_rfl) ?_))
          go_ret
          exact ⟨ret_bool (by simp only [sameB, hq3, Bool.false_and, Bool.and_false]), hB2⟩
        | true =>
          rw [hq3] at heq
          go_wp2_with (first
            | (refine load_atg (by rfl) 26 (.tmp 25) (by rfl) w.heap.size 3 (by rfl) .u8 32 o.tree _ hr1'.tree Tryz.underlying26 rfl (by kernel_rfl) ?_)
            | (refine load_atg (by rfl) 26 (.tmp 27) (by rfl) (w.heap.size + 1) 3 (by rfl) .u8 32 p.tree _ hr2'.tree Tryz.underlying26 rfl (by kernel_rfl) ?_))
          obtain ⟨s3, k3, hop, hs3⟩ := ho.p
          obtain ⟨t3, l3, hpp, ht3⟩ := hp.p
          rw [hop, hpp]
          refine (equalI_any s3 t3 k3 l3 c.ps d.ps W2 (hs3.below hB2) (ht3.below hB2) ho.lp).mono ?_
          rintro e w3 ⟨rfl, m, rfl⟩
          clear x4 y4 heq
          have hB3 := below_drewN hB2 m
          have x5 : (W2.drewN m).cell? ⟨w.heap.size, 36, none⟩ = some (.int .u32 o.num) := hr1'.c36
          have y5 : (W2.drewN m).cell? ⟨w.heap.size + 1, 36, none⟩ = some (.int .u32 p.num) := hr2'.c36
          have x6 : (W2.drewN m).cell? ⟨w.heap.size, 37, none⟩ = some (.string o.note) := hr1'.c37
          have y6 : (W2.drewN m).cell? ⟨w.heap.size + 1, 37, none⟩ = some (.string p.note) := hr2'.c37
          clear hr1' hr2' hB2
          generalize W2.drewN m = W3 at hB3 x5 y5 x6 y6
          cases hq4 : eqAll idEq c.ps d.ps with
          | false =>
            go_wp2
            go_ret
            exact ⟨ret_bool (by simp only [sameB, hq4, Bool.false_and, Bool.and_false]), hB3⟩
          | true =>
            cases hq5 : o.num == p.num with
            | false =>
              go_wp2
              go_ret
              exact ⟨ret_bool (by simp only [sameB, hq5, Bool.false_and, Bool.and_false]), hB3⟩
            | true =>
              go_wp2
              go_ret
              exact ⟨ret_bool (by simp only [sameB, hk, hq, hq2, hq3, hq4, hq5, Bool.true_and]), hB3⟩
end Go.Proofs.YtgfjjglejlnfbaaGreatDoor

namespace Go.Proofs.YtgfjjglejlnfbaaGreatDoor
open Go.RowKit

/-- An object with those fields alone that count for its Kind. -/
def countedO (o : Ob) : Ob :=
  if o.kind = 1 then ⟨o.kind, o.bs, .slice none 0 0, fun _ => 0, .slice none 0 0, 0, ⟨#[]⟩⟩
  else if o.kind = 2 then ⟨o.kind, .slice none 0 0, o.es, fun _ => 0, .slice none 0 0, 0, ⟨#[]⟩⟩
  else if o.kind = 3 then ⟨o.kind, .slice none 0 0, .slice none 0 0, o.tree, o.ps, o.num, o.note⟩
  else ⟨o.kind, .slice none 0 0, .slice none 0 0, fun _ => 0, .slice none 0 0, 0, ⟨#[]⟩⟩

theorem zero_obj : (Tryz.prog.info? 65).bind (·.zero) = some (.agg (Ob.cells ⟨0, .slice none 0 0, .slice none 0 0, fun _ => 0, .slice none 0 0, 0, ⟨#[]⟩⟩)) := by kernel_rfl
theorem places_obj (w : World) : ((Tryz.prog.fieldsOf 65).mapM fun (f : Field) => (do pure (f.offset, ← sizeOf f.type) : Sem (Nat × Nat))).run Tryz.prog w = .ok #[(0, 1), (1, 1), (2, 1), (3, 32), (35, 1), (36, 1), (37, 1)] w := by
  kernel_rfl
theorem build_obj {parts : Array (Nat × Value)} {cs : Array Value} (h : Instr.fill ((#[(0, 1), (1, 1), (2, 1), (3, 32), (35, 1), (36, 1), (37, 1)] : Array (Nat × Nat))[·]?) (Ob.cells ⟨0, .slice none 0 0, .slice none 0 0, fun _ => 0, .slice none 0 0, 0, ⟨#[]⟩⟩) parts.toList = some cs) (w : World) :
    (Instr.build 65 parts).run Tryz.prog w = .ok (.agg cs) w := by
  have hz := zero_obj
  have hp := places_obj w
  have hu : Tryz.prog.underlying 65 = some (.struct (Tryz.prog.fieldsOf 65)) := by kernel_rfl
  cases hq : Tryz.prog.info? 65 with
  | none => simp [hq] at hz
  | some q =>
    have hq1 : q.zero = some (.agg (Ob.cells ⟨0, .slice none 0 0, .slice none 0 0, fun _ => 0, .slice none 0 0, 0, ⟨#[]⟩⟩)) := by simpa [hq] using hz
    have hzv : (zeroValue 65).run Tryz.prog w = .ok (.agg (Ob.cells ⟨0, .slice none 0 0, .slice none 0 0, fun _ => 0, .slice none 0 0, 0, ⟨#[]⟩⟩)) w := by simp [zeroValue, typeInfo, hq, hq1]
    unfold Instr.build
    simp only [Sem.run_bind, hzv, Result.andThen_ok, run_underlying hu, hp]
    have hc : (Value.agg (Ob.cells ⟨0, .slice none 0 0, .slice none 0 0, fun _ => 0, .slice none 0 0, 0, ⟨#[]⟩⟩)).cells = Ob.cells ⟨0, .slice none 0 0, .slice none 0 0, fun _ => 0, .slice none 0 0, 0, ⟨#[]⟩⟩ := rfl
    rw [hc, h]
    rfl
theorem build1 (k : Int) (sp : Option Addr) (n cap : Nat) (w : World) : (Instr.build 65 #[(0, .int .i64 k), (1, .slice sp n cap)]).run Tryz.prog w = .ok (.agg (Ob.cells ⟨k, .slice sp n cap, .slice none 0 0, fun _ => 0, .slice none 0 0, 0, ⟨#[]⟩⟩)) w := build_obj (by kernel_rfl) w
theorem build2 (k : Int) (sp : Option Addr) (n cap : Nat) (w : World) : (Instr.build 65 #[(0, .int .i64 k), (2, .slice sp n cap)]).run Tryz.prog w = .ok (.agg (Ob.cells ⟨k, .slice none 0 0, .slice sp n cap, fun _ => 0, .slice none 0 0, 0, ⟨#[]⟩⟩)) w := build_obj (by kernel_rfl) w
theorem build3 (k : Int) (f : Nat → Int) (sp : Option Addr) (n cap : Nat) (x : Int) (s : ByteArray) (w : World) : (Instr.build 65 #[(0, .int .i64 k), (3, .agg (arr .u8 32 f)), (4, .slice sp n cap), (5, .int .u32 x), (6, .string s)]).run Tryz.prog w = .ok (.agg (Ob.cells ⟨k, .slice none 0 0, .slice none 0 0, f, .slice sp n cap, x, s⟩)) w := build_obj (by kernel_rfl) w
theorem build0 (k : Int) (w : World) : (Instr.build 65 #[(0, .int .i64 k)]).run Tryz.prog w = .ok (.agg (Ob.cells ⟨k, .slice none 0 0, .slice none 0 0, fun _ => 0, .slice none 0 0, 0, ⟨#[]⟩⟩)) w := build_obj (by kernel_rfl) w
theorem buildz (w : World) : (Instr.build 65 #[]).run Tryz.prog w = .ok (.agg (Ob.cells ⟨0, .slice none 0 0, .slice none 0 0, fun _ => 0, .slice none 0 0, 0, ⟨#[]⟩⟩)) w := build_obj (by kernel_rfl) w

theorem ob_one (o : Ob) (h1 : o.bs.oneCell' = true) (h2 : o.es.oneCell' = true) (h3 : o.ps.oneCell' = true) : o.cells.all (·.oneCell') = true := by
  have e : o.cells.all (·.oneCell') = (#[Value.int .i64 o.kind, o.bs, o.es].all (·.oneCell') && (arr .u8 32 o.tree).all (·.oneCell') && #[o.ps, .int .u32 o.num, .string o.note].all (·.oneCell')) := by
    simp only [Ob.cells, Array.all_append]
  rw [e, arr_one]
  have e1 : #[Value.int .i64 o.kind, o.bs, o.es].all (·.oneCell') = true := by
    rw [Array.all_eq_true_iff_forall_mem]
    intro v hv
    have hv' : v = .int .i64 o.kind ∨ v = o.bs ∨ v = o.es := by simpa using hv
    rcases hv' with rfl | rfl | rfl
    · rfl
    · exact h1
    · exact h2
  have e2 : #[o.ps, .int .u32 o.num, .string o.note].all (·.oneCell') = true := by
    rw [Array.all_eq_true_iff_forall_mem]
    intro v hv
    have hv' : v = o.ps ∨ v = .int .u32 o.num ∨ v = .string o.note := by simpa using hv
    rcases hv' with rfl | rfl | rfl
    · exact h3
    · rfl
    · rfl
  rw [e1, e2]
  rfl

/-- A struct is built. -/
theorem wpList_build {P : Program} {ops : Array Oper} {Q : Exit → Act → World → Prop} {a : Act} {w : World} {rest : List Oper} {o : Oper} (hgd : o.guard = none) (ty : TypeId) (ps : List (Nat × Operand)) (ho : o.op = .build ty ps.toArray)
    (vs : List (Nat × Value)) (hv : (ps.map fun (i, x) => (i, a.eval x)) = vs) (v : Value) (hr : (Instr.build ty vs.toArray).run P w = .ok v w) (h : wpList P ops Q rest (a.put o.dst v) w) : wpList P ops Q (o :: rest) a w :=
  wpList_plain hgd fun _ hK => by
    unfold Oper.wp execOp
    simp only [ho, List.map_toArray, hv, Sem.run_bind, Sem.run_pure, Result.andThen_ok, hr]
    exact hK _ _ h

set_option maxRecDepth 100000 in
set_option maxHeartbeats 1000000 in
theorem counted_any (o : Ob) (c : Co) (w : World) (ho : Has w o c) :
    Calls Tryz.prog 106 #[.agg o.cells] w fun e w' => e = .returned (.agg (countedO o).cells) ∧ Below w.heap.size w w' := by
  obtain ⟨s1, k1, hob, -⟩ := ho.b
  obtain ⟨s2, k2, hoe, -⟩ := ho.e
  obtain ⟨s3, k3, hop, -⟩ := ho.p
  clear ho
  have a0 := o.cell0
  by_cases h1 : o.kind = 1
  · have a1 := o.cell1
    rw [hob] at a1
    rw [h1] at a0
    have he : countedO o = ⟨1, .slice s1 c.nb k1, .slice none 0 0, fun _ => 0, .slice none 0 0, 0, ⟨#[]⟩⟩ := by unfold countedO; rw [if_pos h1, h1, hob]
    rw [he]
    have hb := build1 1 s1 c.nb k1
    have hone := ob_one ⟨1, .slice s1 c.nb k1, .slice none 0 0, fun _ => 0, .slice none 0 0, 0, ⟨#[]⟩⟩ rfl rfl rfl
    have hsz := Ob.size ⟨1, .slice s1 c.nb k1, .slice none 0 0, fun _ => 0, .slice none 0 0, 0, ⟨#[]⟩⟩
    clear he hob hoe hop
    generalize Ob.cells ⟨1, .slice s1 c.nb k1, .slice none 0 0, fun _ => 0, .slice none 0 0, 0, ⟨#[]⟩⟩ = X at hb hone hsz ⊢
    have HB : Hid _ := hb
    have HO : Hid _ := hone
    have HS : Hid _ := hsz
    clear hone hsz hb
    go_enter Tryz.func106, Tryz.ntmps106
    go_wp2_with (first
      | (refine wpList_build (by rfl) 65 _ (by rfl) [(0, .int .i64 1), (1, .slice s1 c.nb k1)] (by rfl) (.agg X) (HB.out _) ?_)
      | (refine wpList_store_row (by rfl) 65 (.tmp 2) (.tmp 11) (by rfl) (w.heap.size + 1) X (by rfl) (by rfl) 65 _ (heap_alloc2_new _ _ _) (by rw [HS.out]; kernel_rfl) (by rw [HS.out]; rfl) HO.out ?_))
    refine bodyPost_ret (v := .agg X) ?_ rfl ⟨rfl, ?_⟩
    · exact results_cell_row Tryz.results106 _ _ (w.heap.size + 1) 65 X (0, 0) _ rfl (heap_setRow_same (heap_alloc2_new _ _ _)) Tryz.underlying65 rfl (by rw [HS.out]; kernel_rfl)
    · exact below_setRow' (((Below.refl _ _).alloc (Nat.le_refl _) _).alloc (by simp) _) (by omega) _
  by_cases h2 : o.kind = 2
  · have a1 := o.cell2
    rw [hoe] at a1
    rw [h2] at a0
    have he : countedO o = ⟨2, .slice none 0 0, .slice s2 c.es.length k2, fun _ => 0, .slice none 0 0, 0, ⟨#[]⟩⟩ := by unfold countedO; rw [if_neg h1, if_pos h2, h2, hoe]
    rw [he]
    have hb := build2 2 s2 c.es.length k2
    have hone := ob_one ⟨2, .slice none 0 0, .slice s2 c.es.length k2, fun _ => 0, .slice none 0 0, 0, ⟨#[]⟩⟩ rfl rfl rfl
    have hsz := Ob.size ⟨2, .slice none 0 0, .slice s2 c.es.length k2, fun _ => 0, .slice none 0 0, 0, ⟨#[]⟩⟩
    clear he hob hoe hop
    generalize Ob.cells ⟨2, .slice none 0 0, .slice s2 c.es.length k2, fun _ => 0, .slice none 0 0, 0, ⟨#[]⟩⟩ = X at hb hone hsz ⊢
    have HB : Hid _ := hb
    have HO : Hid _ := hone
    have HS : Hid _ := hsz
    clear hone hsz hb
    go_enter Tryz.func106, Tryz.ntmps106
    go_wp2_with (first
      | (refine wpList_build (by rfl) 65 _ (by rfl) [(0, .int .i64 2), (2, .slice s2 c.es.length k2)] (by rfl) (.agg X) (HB.out _) ?_)
      | (refine wpList_store_row (by rfl) 65 (.tmp 2) (.tmp 18) (by rfl) (w.heap.size + 1) X (by rfl) (by rfl) 65 _ (heap_alloc2_new _ _ _) (by rw [HS.out]; kernel_rfl) (by rw [HS.out]; rfl) HO.out ?_))
    refine bodyPost_ret (v := .agg X) ?_ rfl ⟨rfl, ?_⟩
    · exact results_cell_row Tryz.results106 _ _ (w.heap.size + 1) 65 X (0, 0) _ rfl (heap_setRow_same (heap_alloc2_new _ _ _)) Tryz.underlying65 rfl (by rw [HS.out]; kernel_rfl)
    · exact below_setRow' (((Below.refl _ _).alloc (Nat.le_refl _) _).alloc (by simp) _) (by omega) _
  by_cases h3 : o.kind = 3
  · have a4 := o.cell35
    rw [hop] at a4
    have a5 := o.cell36
    have a6 := o.cell37
    rw [h3] at a0
    have he : countedO o = ⟨3, .slice none 0 0, .slice none 0 0, o.tree, .slice s3 c.ps.length k3, o.num, o.note⟩ := by unfold countedO; rw [if_neg h1, if_neg h2, if_pos h3, h3, hop]
    rw [he]
    have hb := build3 3 o.tree s3 c.ps.length k3 o.num o.note
    have hone := ob_one ⟨3, .slice none 0 0, .slice none 0 0, o.tree, .slice s3 c.ps.length k3, o.num, o.note⟩ rfl rfl rfl
    have hsz := Ob.size ⟨3, .slice none 0 0, .slice none 0 0, o.tree, .slice s3 c.ps.length k3, o.num, o.note⟩
    clear he hob hoe hop
    generalize Ob.cells ⟨3, .slice none 0 0, .slice none 0 0, o.tree, .slice s3 c.ps.length k3, o.num, o.note⟩ = X at hb hone hsz ⊢
    have HB : Hid _ := hb
    have HO : Hid _ := hone
    have HS : Hid _ := hsz
    clear hone hsz hb
    go_enter Tryz.func106, Tryz.ntmps106
    go_wp2_with (first
      | (refine wpList_build (by rfl) 65 _ (by rfl) [(0, .int .i64 3), (3, .agg (arr .u8 32 o.tree)), (4, .slice s3 c.ps.length k3), (5, .int .u32 o.num), (6, .string o.note)] (by rfl) (.agg X) (HB.out _) ?_)
      | (refine wpList_store_row (by rfl) 65 (.tmp 2) (.tmp 31) (by rfl) (w.heap.size + 1) X (by rfl) (by rfl) 65 _ (heap_alloc2_new _ _ _) (by rw [HS.out]; kernel_rfl) (by rw [HS.out]; rfl) HO.out ?_)
      | (refine load_at (by rfl) 26 (.tmp 23) (by rfl) w.heap.size 3 (by rfl) .u8 32 o.tree _ (obRow (heap_alloc2_old _ _ _)).tree Tryz.underlying26 rfl (by kernel_rfl) ?_))
    refine bodyPost_ret (v := .agg X) ?_ rfl ⟨rfl, ?_⟩
    · exact results_cell_row Tryz.results106 _ _ (w.heap.size + 1) 65 X (0, 0) _ rfl (heap_setRow_same (heap_alloc2_new _ _ _)) Tryz.underlying65 rfl (by rw [HS.out]; kernel_rfl)
    · exact below_setRow' (((Below.refl _ _).alloc (Nat.le_refl _) _).alloc (by simp) _) (by omega) _
  · have e1 : (o.kind == 1) = false := by simpa using h1
    have e2 : (o.kind == 2) = false := by simpa using h2
    have e3 : (o.kind == 3) = false := by simpa using h3
    have he : countedO o = ⟨o.kind, .slice none 0 0, .slice none 0 0, fun _ => 0, .slice none 0 0, 0, ⟨#[]⟩⟩ := by unfold countedO; rw [if_neg h1, if_neg h2, if_neg h3]
    rw [he]
    have hb := build0 o.kind
    have hone := ob_one ⟨o.kind, .slice none 0 0, .slice none 0 0, fun _ => 0, .slice none 0 0, 0, ⟨#[]⟩⟩ rfl rfl rfl
    have hsz := Ob.size ⟨o.kind, .slice none 0 0, .slice none 0 0, fun _ => 0, .slice none 0 0, 0, ⟨#[]⟩⟩
    clear he hob hoe hop
    generalize Ob.cells ⟨o.kind, .slice none 0 0, .slice none 0 0, fun _ => 0, .slice none 0 0, 0, ⟨#[]⟩⟩ = X at hb hone hsz ⊢
    have HB : Hid _ := hb
    have HO : Hid _ := hone
    have HS : Hid _ := hsz
    clear hone hsz hb
    go_enter Tryz.func106, Tryz.ntmps106
    go_wp2_with (first
      | (refine wpList_build (by rfl) 65 _ (by rfl) [(0, .int .i64 o.kind)] (by rfl) (.agg X) (HB.out _) ?_)
      | (refine wpList_store_row (by rfl) 65 (.tmp 2) (.tmp 34) (by rfl) (w.heap.size + 1) X (by rfl) (by rfl) 65 _ (heap_alloc2_new _ _ _) (by rw [HS.out]; kernel_rfl) (by rw [HS.out]; rfl) HO.out ?_))
    refine bodyPost_ret (v := .agg X) ?_ rfl ⟨rfl, ?_⟩
    · exact results_cell_row Tryz.results106 _ _ (w.heap.size + 1) 65 X (0, 0) _ rfl (heap_setRow_same (heap_alloc2_new _ _ _)) Tryz.underlying65 rfl (by rw [HS.out]; kernel_rfl)
    · exact below_setRow' (((Below.refl _ _).alloc (Nat.le_refl _) _).alloc (by simp) _) (by omega) _
end Go.Proofs.YtgfjjglejlnfbaaGreatDoor

namespace Go.Proofs.YtgfjjglejlnfbaaGreatDoor
open Go.RowKit

/-- A world is given a name in the midst of a region. -/
theorem wpList_gen {P : Program} {ops : Array Oper} {Q : Exit → Act → World → Prop} {l : List Oper} {a : Act} {w0 : World} (F : World → Prop) (h0 : F w0) (h : ∀ W1, F W1 → wpList P ops Q l a W1) : wpList P ops Q l a w0 := h _ h0
theorem ent_one (e : Ent) : e.cells.all (·.oneCell') = true := by
  have h : e.cells.all (·.oneCell') = (#[Value.string e.name, .bool e.folder].all (·.oneCell') && (arr .u8 32 e.id).all (·.oneCell')) := by
    simp only [Ent.cells, Array.all_append]
  rw [h, arr_one]
  simp [Value.oneCell']

/-- May these be the names behind that one, and rise? -/
def leB (a b : ByteArray) : Bool := Op.bytesLess a.toList b.toList || (a.toList == b.toList)
def namedFrom (last : ByteArray) : List Ent → Bool
  | [] => true
  | e :: r => nameB e.name && !(leB e.name last) && namedFrom e.name r

set_option maxRecDepth 100000 in
set_option maxHeartbeats 1000000 in
theorem named_any (sp : Option Addr) (cap : Nat) (es : List Ent) (w : World) (h1 : RowsAt w 34 Ent.cells sp es) (hlen : es.length ≤ 100000000) :
    Calls Tryz.prog 107 #[.slice sp es.length cap] w fun e w' => e = .returned (.bool (namedFrom ⟨#[]⟩ es)) ∧ Below w.heap.size w w' := by
  go_enter Tryz.func107, Tryz.ntmps107
  go_wp2
  go_loopw [3, 8] (fun l i wr => ∃ (t : Nat) (last : ByteArray), t ≤ es.length ∧ i = .int .i64 t ∧ l = .string last ∧ Below w.heap.size w wr ∧ namedFrom ⟨#[]⟩ es = namedFrom last (es.drop t)) (fun _ i _ => es.length - (intOf i).toNat)
  case atStart => exact ⟨0, ⟨#[]⟩, Nat.zero_le _, rfl, rfl, Below.refl _ _, rfl⟩
  case round =>
    obtain ⟨t, last, ht, rfl, rfl, hB, hz⟩ := hrel
    have HZ : Hid _ := hz
    clear hz
    by_cases hlt : t < es.length
    · obtain ⟨b1, o1, rfl, hc1⟩ := h1 (by omega)
      have hx : es[t]? = some (es[t]'hlt) := List.getElem?_eq_getElem hlt
      generalize hX : es[t]'hlt = x at hx
      have e1 : ∀ j u, x.cells[j]? = some u → wr.cell? ⟨b1, o1 + t * 34 + j, none⟩ = some u := fun j u hu => (hB.cell (p := ⟨b1, _, none⟩) (block_lt_of_cell (hc1 t x hx j u hu))).trans (hc1 t x hx j u hu)
      have hd : es.drop t = x :: es.drop (t + 1) := by rw [List.drop_eq_getElem_cons hlt, hX]
      have HE : Hid _ := e1
      have HD : Hid _ := hd
      have HH : Hid _ := h1
      clear hc1 hX hx e1 hd h1
      go_wp2_with (first
        | (refine load_mid (by rfl) 133 (.tmp 10) (by rfl) b1 (o1 + t * 34) (by rfl) x.cells _ HE.out Tryz.underlying133 rfl (by rw [x.size]; kernel_rfl) ?_)
        | (refine wpList_store_row (by rfl) 133 (.tmp 5) (.tmp 11) (by rfl) wr.heap.size x.cells (by rfl) (by rfl) 133 _ (heap_alloc_new _ _) (by rw [x.size]; kernel_rfl) (by rw [x.size]; rfl) (ent_one x) ?_; refine wpList_gen (fun W => Below w.heap.size w W ∧ W.cell? ⟨wr.heap.size, 0, none⟩ = some (.string x.name)) ⟨below_setRow' (hB.alloc hB.size _) hB.size _, (cell_of_row _ _ _ _ _ _ (heap_setRow_same (heap_alloc_new _ _))).trans x.cell0⟩ ?_; intro W1 hW1; have hB1 := hW1.1; have hc0 := hW1.2; clear hW1))
      refine (name_any x.name W1).mono ?_
      rintro e w2 ⟨rfl, hB2⟩
      have hc2 : w2.cell? ⟨wr.heap.size, 0, none⟩ = some (.string x.name) := (hB2.cell (p := ⟨wr.heap.size, 0, none⟩) (block_lt_of_cell hc0)).trans hc0
      have hBw : Below w.heap.size w w2 := hB1.trans (hB2.mono hB1.size)
      clear hB1 hB2 hc0 hB
      cases hn : nameB x.name with
      | false =>
        go_wp2
        go_ret
        refine ⟨ret_bool ?_, hBw⟩
        rw [HZ.out, HD.out, namedFrom, hn]
        rfl
      | true =>
        cases hl : leB x.name last with
        | true =>
          have hl' : Op.bytesLess x.name.toList last.toList = true ∨ (x.name.toList == last.toList) = true := by simpa [leB] using hl
          have HL : Hid _ := hl
          clear hl
          go_wp2
          · go_ret
            refine ⟨ret_bool ?_, hBw⟩
            rw [HZ.out, HD.out, namedFrom, hn, HL.out]
            rfl
          · exfalso
            rename_i hh
            rcases hl' with q | q
            · rw [hh.1] at q; cases q
            · rw [hh.2] at q; cases q
        | false =>
          have h1 : Op.bytesLess x.name.toList last.toList = false := by
            unfold leB at hl
            exact (Bool.or_eq_false_iff.1 hl).1
          have h2 : (x.name.toList == last.toList) = false := by
            unfold leB at hl
            exact (Bool.or_eq_false_iff.1 hl).2
          have HL : Hid _ := hl
          clear hl
          go_wp2
          go_roundw
          case rel =>
            refine ⟨t + 1, x.name, by omega, by go_num, rfl, hBw, ?_⟩
            rw [HZ.out, HD.out, namedFrom, hn, HL.out]
            rfl
          case measure => simp [intOf]; omega
    · have htl : es.drop t = [] := List.drop_eq_nil_of_le (by omega)
      have HT : Hid _ := htl
      clear h1 htl
      go_wp2
      go_ret
      refine ⟨ret_bool ?_, hB⟩
      rw [HZ.out, HT.out]
      rfl
end Go.Proofs.YtgfjjglejlnfbaaGreatDoor
