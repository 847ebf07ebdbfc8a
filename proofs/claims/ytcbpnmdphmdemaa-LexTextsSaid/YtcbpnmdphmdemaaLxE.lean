/- Which tokens are the same; the contracts of lex's Same and of the document's; the law LexSame. -/
import Derived.Test.YtcbpnmdphmdemaaLxF
namespace Go.Proofs.Ytcbpnmdphmdemaa
open Go.RowKit

/-- Are two tokens the same, but for their places? -/
def tkEq (a b : Tok) : Bool := (a.kind == b.kind) && (a.text.toList == b.text.toList)
theorem tkEq_refl (a : Tok) : tkEq a a = true := by simp [tkEq]
theorem eqAll_refl {α : Type} {eq : α → α → Bool} (h : ∀ a, eq a a = true) : ∀ l : List α, eqAll eq l l = true
  | [] => rfl
  | a :: r => by rw [eqAll, h a, eqAll_refl h r]; rfl
theorem eqAll_ne {α : Type} {eq : α → α → Bool} {r q : List α} (h : ¬ r.length = q.length) : eqAll eq r q = false := by
  rw [← Bool.not_eq_true]
  exact fun hh => h (eqAll_len hh)
theorem eqAll_no {α : Type} {eq : α → α → Bool} {r q : List α} {i : Nat} {a b : α} (ha : r[i]? = some a) (hb : q[i]? = some b) (h : eq a b = false) : eqAll eq r q = false := by
  rw [← Bool.not_eq_true]
  intro hh
  have := (eqAll_iff (eqAll_len hh)).1 hh i a b ha hb
  rw [h] at this
  cases this
set_option maxRecDepth 100000 in
set_option maxHeartbeats 1000000 in
theorem same1_any (a b : Tok) (w : World) : Calls Try.prog 50 #[.agg a.cells, .agg b.cells] w fun e w' => e = .returned (.bool (tkEq a b)) ∧ Below w.heap.size w w' := by
  unfold Tok.cells
  go_enter Try.func50, Try.ntmps50
  go_wp2
  all_goals go_ret
  all_goals (refine ⟨ret_bool ?_, ((Below.refl _ _).alloc (Nat.le_refl _) _).alloc (by simp) _⟩; simp_all [tkEq])
set_option maxRecDepth 100000 in
set_option maxHeartbeats 2000000 in
theorem eqFT_any (sp tp : Option Addr) (c1 c2 : Nat) (xs ys : List Tok) (w : World) (h1 : RowsT w sp xs) (h2 : RowsT w tp ys) (hl : xs.length ≤ 1000000) (hlc : ys.length ≤ 1000000) :
    Calls Try.prog 49 #[.slice sp xs.length c1, .slice tp ys.length c2, .func (.func 50) #[] #[]] w fun e w' => e = .returned (.bool (eqAll tkEq xs ys)) ∧ Below w.heap.size w w' := by
  have H1 : Hid (RowsT w sp xs) := h1
  have H2 : Hid (RowsT w tp ys) := h2
  clear h1 h2
  by_cases hlen : xs.length = ys.length
  · have HIF : Hid (eqAll tkEq xs ys = true ↔ ∀ (i : Nat) a b, xs[i]? = some a → ys[i]? = some b → tkEq a b = true) := eqAll_iff hlen
    have hln : ((xs.length : Int) != (ys.length : Int)) = false := by simp; omega
    have HLEN : Hid (xs.length = ys.length) := hlen
    clear hlen
    go_enter Try.func49, Try.ntmps49
    go_wp2
    go_loopw [17] (fun i wr => ∃ t : Nat, t ≤ xs.length ∧ i = .int .i64 t ∧ Below w.heap.size w wr ∧ ∀ (j : Nat) (a b : Tok), j < t → xs[j]? = some a → ys[j]? = some b → tkEq a b = true) (fun i _ => xs.length - (intOf i).toNat)
    case atStart => exact ⟨0, Nat.zero_le _, rfl, Below.refl _ _, fun j a b hj => by omega⟩
    case round =>
      obtain ⟨t, ht, rfl, hB, hz⟩ := hrel
      have HZ : Hid (∀ (j : Nat) (a b : Tok), j < t → xs[j]? = some a → ys[j]? = some b → tkEq a b = true) := hz
      clear hz
      by_cases hlt : t < xs.length
      · have hlt2 : t < ys.length := by have := HLEN.out; omega
        have hd : decide ((t : Int) < xs.length) = true := by simp; omega
        have hd2 : decide ((t : Int) < ys.length) = true := by simp; omega
        obtain ⟨b1, f1, rfl, -⟩ := H1.out (by omega)
        obtain ⟨b2, f2, rfl, -⟩ := H2.out (by omega)
        obtain ⟨x, hx⟩ : ∃ x, xs[t]? = some x := ⟨_, List.getElem?_eq_getElem hlt⟩
        obtain ⟨y, hy⟩ : ∃ y, ys[t]? = some y := ⟨_, List.getElem?_eq_getElem hlt2⟩
        obtain ⟨k0, k1, k2⟩ := tok_cell (RowsAt.below H1.out hB) hx
        obtain ⟨l0, l1, l2⟩ := tok_cell (RowsAt.below H2.out hB) hy
        have lt2 : b2 < wr.heap.size := block_lt_of_cell l0
        have HX : Hid (xs[t]? = some x) := hx
        have HY : Hid (ys[t]? = some y) := hy
        clear hx hy
        have HBB : Hid (Below w.heap.size w ((wr.alloc (.cells #[.int .i64 x.kind, .string x.text, .int .i64 x.pos] 32)).alloc (.cells #[.int .i64 y.kind, .string y.text, .int .i64 y.pos] 32))) := (hB.alloc hB.size _).alloc (by simp; exact Nat.le_succ_of_le hB.size) _
        cases hq : tkEq x y
        · have HNO : Hid (eqAll tkEq xs ys = false) := eqAll_no HX.out HY.out hq
          go_wp2_with (go_at_call 50; refine (same1_any x y _).mono ?_; rintro e W10 ⟨rfl, b10⟩; rw [hq])
          go_ret
          exact ⟨ret_bool HNO.out.symm, HBB.out.trans (b10.mono HBB.out.size)⟩
        · have HNX : Hid (∀ (j : Nat) (a b : Tok), j < t + 1 → xs[j]? = some a → ys[j]? = some b → tkEq a b = true) := fun j a b hj ha hb => by
            by_cases hjt : j < t
            · exact HZ.out j a b hjt ha hb
            · obtain rfl : j = t := by omega
              rw [HX.out] at ha
              rw [HY.out] at hb
              injection ha with ha
              injection hb with hb
              rw [← ha, ← hb]
              exact hq
          go_wp2_with (go_at_call 50; refine (same1_any x y _).mono ?_; rintro e W10 ⟨rfl, b10⟩; rw [hq])
          exact ⟨⟨t + 1, by omega, by go_num, HBB.out.trans (b10.mono HBB.out.size), HNX.out⟩, by simp [intOf]; omega⟩
      · have hd : decide ((t : Int) < xs.length) = false := by simp; omega
        have HYES : Hid (eqAll tkEq xs ys = true) := HIF.out.2 fun j a b ha hb => HZ.out j a b (by have := (List.getElem?_eq_some_iff.1 ha).1; omega) ha hb
        go_wp2
        go_ret
        exact ⟨ret_bool HYES.out.symm, hB⟩
  · have hln : ((xs.length : Int) != (ys.length : Int)) = true := by simp; omega
    have HNO : Hid (eqAll tkEq xs ys = false) := eqAll_ne hlen
    go_enter Try.func49, Try.ntmps49
    go_wp2
    go_ret
    exact ⟨ret_bool HNO.out.symm, Below.refl _ _⟩
set_option maxRecDepth 100000 in
theorem same_any (sp tp : Option Addr) (c1 c2 : Nat) (xs ys : List Tok) (w : World) (h1 : RowsT w sp xs) (h2 : RowsT w tp ys) (hl : xs.length ≤ 1000000) (hlc : ys.length ≤ 1000000) :
    Calls Try.prog 26 #[.slice sp xs.length c1, .slice tp ys.length c2] w fun e w' => e = .returned (.bool (eqAll tkEq xs ys)) ∧ Below w.heap.size w w' := by
  have H1 : Hid (RowsT w sp xs) := h1
  have H2 : Hid (RowsT w tp ys) := h2
  clear h1 h2
  go_enter Try.func26, Try.ntmps26
  go_wp2_with fail
  refine (eqFT_any sp tp c1 c2 xs ys w H1.out H2.out hl hlc).mono ?_
  rintro e W ⟨rfl, b⟩
  go_wp2
  go_ret
  exact ⟨rfl, b⟩
theorem drewN_two (w : World) (n m : Nat) : (w.drewN n).drewN m = w.drewN (n + m) := by simp [World.drewN, Nat.add_assoc]
set_option maxRecDepth 100000 in
set_option maxHeartbeats 2000000 in
theorem ssame_any (sp tp : Option Addr) (c1 c2 : Nat) (xs ys : List Tok) (w : World) (h1 : RowsT w sp xs) (h2 : RowsT w tp ys) (hl : xs.length ≤ 1000000) (hlc : ys.length ≤ 1000000) :
    Calls Try.prog 27 #[.slice sp xs.length c1, .slice tp ys.length c2] w fun e w' => e = .returned (.bool (eqAll tkEq xs ys)) ∧ ∃ n, w' = w.drewN n := by
  have H1 : Hid (RowsT w sp xs) := h1
  have H2 : Hid (RowsT w tp ys) := h2
  clear h1 h2
  by_cases hlen : xs.length = ys.length
  · have HIF : Hid (eqAll tkEq xs ys = true ↔ ∀ (i : Nat) a b, xs[i]? = some a → ys[i]? = some b → tkEq a b = true) := eqAll_iff hlen
    have hln : ((xs.length : Int) != (ys.length : Int)) = false := by simp; omega
    have HLEN : Hid (xs.length = ys.length) := hlen
    clear hlen
    go_enter Try.func27, Try.ntmps27
    go_wp2
    go_loopw [13] (fun i wr => ∃ t n : Nat, t ≤ xs.length ∧ i = .int .i64 t ∧ wr = w.drewN n ∧ ∀ (j : Nat) (a b : Tok), j < t → xs[j]? = some a → ys[j]? = some b → tkEq a b = true) (fun i _ => xs.length - (intOf i).toNat)
    case atStart => exact ⟨0, 0, Nat.zero_le _, rfl, rfl, fun j a b hj => by omega⟩
    case round =>
      obtain ⟨t, n, ht, rfl, rfl, hz⟩ := hrel
      have HZ : Hid (∀ (j : Nat) (a b : Tok), j < t → xs[j]? = some a → ys[j]? = some b → tkEq a b = true) := hz
      clear hz
      by_cases hlt : t < xs.length
      · have hlt2 : t < ys.length := by have := HLEN.out; omega
        have hd : decide ((t : Int) < xs.length) = true := by simp; omega
        have hd2 : decide ((t : Int) < ys.length) = true := by simp; omega
        obtain ⟨b1, f1, rfl, -⟩ := H1.out (by omega)
        obtain ⟨b2, f2, rfl, -⟩ := H2.out (by omega)
        obtain ⟨x, hx⟩ : ∃ x, xs[t]? = some x := ⟨_, List.getElem?_eq_getElem hlt⟩
        obtain ⟨y, hy⟩ : ∃ y, ys[t]? = some y := ⟨_, List.getElem?_eq_getElem hlt2⟩
        obtain ⟨k0, k1, -⟩ := tok_cell H1.out hx
        obtain ⟨l0, l1, -⟩ := tok_cell H2.out hy
        have HX : Hid (xs[t]? = some x) := hx
        have HY : Hid (ys[t]? = some y) := hy
        clear hx hy
        cases a1 : (x.kind == y.kind)
        · have a1' : (x.kind != y.kind) = true := by rw [bne, a1]; rfl
          have HNO : Hid (eqAll tkEq xs ys = false) := eqAll_no HX.out HY.out (by unfold tkEq; rw [a1]; rfl)
          clear a1
          go_wp2
          go_quiet (fail)
          go_wp2
          go_ret
          exact ⟨ret_bool HNO.out.symm, n + nq, drewN_two _ _ _⟩
        · have a1' : (x.kind != y.kind) = false := by rw [bne, a1]; rfl
          cases a2 : (x.text.toList == y.text.toList)
          · have a2' : (x.text.toList != y.text.toList) = true := by rw [bne, a2]; rfl
            have HNO : Hid (eqAll tkEq xs ys = false) := eqAll_no HX.out HY.out (by unfold tkEq; rw [a1, a2]; rfl)
            clear a1
            go_wp2
            go_quiet (fail)
            go_wp2
            go_ret
            exact ⟨ret_bool HNO.out.symm, n + nq, drewN_two _ _ _⟩
          · have a2' : (x.text.toList != y.text.toList) = false := by rw [bne, a2]; rfl
            have hq : tkEq x y = true := by unfold tkEq; rw [a1, a2]; rfl
            have HNX : Hid (∀ (j : Nat) (a b : Tok), j < t + 1 → xs[j]? = some a → ys[j]? = some b → tkEq a b = true) := fun j a b hj ha hb => by
              by_cases hjt : j < t
              · exact HZ.out j a b hjt ha hb
              · obtain rfl : j = t := by omega
                rw [HX.out] at ha
                rw [HY.out] at hb
                injection ha with ha
                injection hb with hb
                rw [← ha, ← hb]
                exact hq
            clear a1 hq
            go_wp2
            go_quiet (fail)
            go_wp2
            exact ⟨⟨t + 1, n + nq, by omega, by go_num, rfl, HNX.out⟩, by simp [intOf]; omega⟩
      · have hd : decide ((t : Int) < xs.length) = false := by simp; omega
        have HYES : Hid (eqAll tkEq xs ys = true) := HIF.out.2 fun j a b ha hb => HZ.out j a b (by have := (List.getElem?_eq_some_iff.1 ha).1; omega) ha hb
        go_wp2
        go_ret
        exact ⟨ret_bool HYES.out.symm, n, rfl⟩
  · have hln : ((xs.length : Int) != (ys.length : Int)) = true := by simp; omega
    have HNO : Hid (eqAll tkEq xs ys = false) := eqAll_ne hlen
    go_enter Try.func27, Try.ntmps27
    go_wp2
    go_ret
    exact ⟨ret_bool HNO.out.symm, 0, rfl⟩
end Go.Proofs.Ytcbpnmdphmdemaa
