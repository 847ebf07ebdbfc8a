/- A Reader in memory; the contracts of its Err, Left, take, number, U8, U16, U32 and Raw. -/
import Derived.Test.YtnaoaeapffgojaaEncC
namespace Go.Proofs.Ytnaoaeapffgojaa
open Go.RowKit

/-- The bytes that a Reader steps over, and where it is behind that. -/
def tk (L : List Int) (p : Nat × Int) (n : Nat) : (Nat × Int) × List Int :=
  if p.2 = 0 then (if L.length - p.1 < n then ((p.1, 7), []) else ((p.1 + n, 0), (L.drop p.1).take n)) else (p, [])

/-- A Reader: its bytes, its place, its error. -/
structure Rd (w : World) (B g : Nat) (L : List Int) (p : Nat × Int) : Prop where
  row : ∃ sp cap, w.heap[g]? = some (.cells #[.slice sp L.length cap, .int .i64 p.1, .int .i64 p.2] 76 (0, 0)) ∧ L.length ≤ cap ∧ (sp = none → cap = 0) ∧ (0 < L.length → ∃ b, sp = some ⟨b, 0, none⟩) ∧
    (∀ q, sp = some q → ∃ b, q = ⟨b, 0, none⟩ ∧ b ≠ g ∧ b < B ∧ ∀ j, j < L.length → w.cell? ⟨b, j, none⟩ = some (.int .u8 (L.getD j 0)))
  big : B ≤ w.heap.size
  own : g < B
  le : p.1 ≤ L.length
  len : L.length ≤ 100000
  ok : ∀ x ∈ L, 0 ≤ x ∧ x ≤ 255
theorem grown_trans {w w1 w2 : World} {g : Nat} (h : w.grownBy w1 (some g)) (h' : w1.grownBy w2 (some g)) : w.grownBy w2 (some g) :=
  ⟨h'.os.trans h.os, h'.tape.trans h.tape, h'.output.trans h.output, Nat.le_trans h.size h'.size, fun k hk hne => (h'.block k (Nat.lt_of_lt_of_le hk h.size) hne).trans (h.block k hk hne)⟩
theorem grown_refl (w : World) (g : Option Nat) : w.grownBy w g := ⟨rfl, rfl, rfl, Nat.le_refl _, fun _ _ _ => rfl⟩
theorem grown_drewN {w w1 : World} {g : Option Nat} (h : w.grownBy w1 g) (n : Nat) : w.grownBy (w1.drewN n) g := ⟨h.os, h.tape, h.output, h.size, h.block⟩
theorem grown_below {w w1 w2 : World} {g : Option Nat} (h : w.grownBy w1 g) (h' : Below w1.heap.size w1 w2) : w.grownBy w2 g :=
  ⟨h'.os.trans h.os, h'.tape.trans h.tape, h'.output.trans h.output, Nat.le_trans h.size h'.size, fun k hk hne => (h'.block k (Nat.lt_of_lt_of_le hk h.size)).trans (h.block k hk hne)⟩
theorem grown_setCell {w w1 : World} {g : Nat} (h : w.grownBy w1 (some g)) (j : Nat) (v : Value) : w.grownBy (w1.setCell ⟨g, j, none⟩ v) (some g) :=
  ⟨h.os, h.tape, h.output, by simpa [World.setCell] using h.size, fun k hk hne => by rw [heap_setCell_other _ _ _ _ (fun e => hne (by rw [e]))]; exact h.block k hk hne⟩
/-- A Reader whose row is as it was, and whose bytes are. -/
theorem Rd.keepB {w w' : World} {B g : Nat} {L : List Int} {p : Nat × Int} (h : Rd w B g L p) (hb : Below B w w') : Rd w' B g L p := by
  obtain ⟨sp, cap, h1, h2, h3, h4, h5⟩ := h.row
  refine ⟨⟨sp, cap, (hb.block g h.own).trans h1, h2, h3, h4, fun q hq => ?_⟩, Nat.le_trans h.big hb.size, h.own, h.le, h.len, h.ok⟩
  obtain ⟨b, e, n, l, c⟩ := h5 q hq
  exact ⟨b, e, n, l, fun j hj => (hb.cell (p := ⟨b, j, none⟩) l).trans (c j hj)⟩
theorem Rd.keep {w w' : World} {B g : Nat} {L : List Int} {p : Nat × Int} (h : Rd w B g L p) (hb : Below w.heap.size w w') : Rd w' B g L p := h.keepB (hb.mono h.big)
/-- A Reader whose row has changed. -/
theorem Rd.turn {w w' : World} {B g : Nat} {L : List Int} {p p' : Nat × Int} (h : Rd w B g L p) (hg : w.grownBy w' (some g)) (hp : p'.1 ≤ L.length)
    (hr : ∀ sp cap, w.heap[g]? = some (.cells #[.slice sp L.length cap, .int .i64 p.1, .int .i64 p.2] 76 (0, 0)) → w'.heap[g]? = some (.cells #[.slice sp L.length cap, .int .i64 p'.1, .int .i64 p'.2] 76 (0, 0))) : Rd w' B g L p' := by
  obtain ⟨sp, cap, h1, h2, h3, h4, h5⟩ := h.row
  refine ⟨⟨sp, cap, hr sp cap h1, h2, h3, h4, fun q hq => ?_⟩, Nat.le_trans h.big hg.size, h.own, hp, h.len, h.ok⟩
  obtain ⟨b, e, n, l, c⟩ := h5 q hq
  refine ⟨b, e, n, l, fun j hj => ?_⟩
  rw [World.cell?_of_block (hg.block b (Nat.lt_of_lt_of_le l h.big) (fun e => n (by injection e)))]
  exact c j hj

theorem ret_slice {sp : Option Addr} {a b cap : Nat} (h : a = b) : Ending.returned (.slice sp a cap) = .returned (.slice sp b cap) := by rw [h]

set_option maxRecDepth 100000 in
theorem err_any (g : Nat) (e0 : Int) (w : World) (h : w.cell? ⟨g, 2, none⟩ = some (.int .i64 e0)) : Calls Try.prog 29 #[.pointer (some ⟨g, 0, none⟩)] w fun e w' => e = .returned (.int .i64 e0) ∧ w' = w := by
  go_enter Try.func29, Try.ntmps29
  go_wp2
  go_ret
  exact ⟨rfl, rfl⟩

set_option maxRecDepth 100000 in
theorem left_any (g : Nat) (sp : Option Addr) (n cap : Nat) (a0 : Nat) (w : World) (h : w.cell? ⟨g, 0, none⟩ = some (.slice sp n cap)) (h1 : w.cell? ⟨g, 1, none⟩ = some (.int .i64 a0)) (hn : n ≤ 100000) (ha : a0 ≤ n) :
    Calls Try.prog 46 #[.pointer (some ⟨g, 0, none⟩)] w fun e w' => e = .returned (.int .i64 ((n : Int) - a0)) ∧ ∃ m, w' = w.drewN m := by
  go_enter Try.func46, Try.ntmps46
  go_wp2
  go_quiet (fail)
  go_wp2
  go_ret
  exact ⟨rfl, nq, rfl⟩

set_option maxRecDepth 100000 in
set_option maxHeartbeats 1000000 in
theorem take_any {B : Nat} (g : Nat) (L : List Int) (p : Nat × Int) (n : Nat) (w : World) (h : Rd w B g L p) (hn : n ≤ 100000) :
    Calls Try.prog 42 #[.pointer (some ⟨g, 0, none⟩), .int .i64 n] w fun e w' => ∃ sp cap, e = .returned (.slice sp (tk L p n).2.length cap) ∧ (sp = none → cap = 0) ∧ SrcAt w' .u8 sp (tk L p n).2.length (fun i => (tk L p n).2.getD i 0) ∧ Rd w' B g L (tk L p n).1 ∧ w.grownBy w' (some g) := by
  obtain ⟨sp, cap, h1, h2, h3, h4, h5⟩ := h.row
  have hle := h.le
  have hlen := h.len
  have hbig := h.big
  have HH : Hid _ := h
  have c0 : w.cell? ⟨g, 0, none⟩ = some (.slice sp L.length cap) := (cell_of_row _ _ _ _ _ _ h1).trans rfl
  have c1 : w.cell? ⟨g, 1, none⟩ = some (.int .i64 p.1) := (cell_of_row _ _ _ _ _ _ h1).trans rfl
  have c2 : w.cell? ⟨g, 2, none⟩ = some (.int .i64 p.2) := (cell_of_row _ _ _ _ _ _ h1).trans rfl
  have hz : ∀ j, w.frozen? ⟨g, j, none⟩ = false := fun j => frozen_of_row _ _ j _ _ h1
  have H1 : Hid _ := h1
  have H5 : Hid _ := h5
  have H4 : Hid _ := h4
  clear h h1 h5 h4
  go_enter Try.func42, Try.ntmps42
  go_wp2_with fail
  refine (err_any g p.2 w c2).mono ?_
  rintro e w1 ⟨rfl, rfl⟩
  by_cases he : p.2 = 0
  · rw [he] at c2 ⊢
    go_wp2_with fail
    refine (left_any g sp L.length cap p.1 w1 c0 c1 hlen hle).mono ?_
    rintro e w2 ⟨rfl, m, rfl⟩
    by_cases hs : L.length - p.1 < n
    · have hs' : (L.length : Int) - p.1 < n := by omega
      have ht : tk L p n = ((p.1, 7), []) := by simp [tk, he, hs]
      have HT : Hid _ := ht
      clear ht
      go_wp2
      go_ret
      rw [HT.out]
      refine ⟨none, 0, rfl, fun _ => rfl, fun h => by simp at h, Rd.turn HH.out (grown_setCell (grown_drewN (grown_refl _ _) m) _ _) hle fun sp' cap' hr => ?_, grown_setCell (grown_drewN (grown_refl _ _) m) _ _⟩
      rw [heap_setCell_same _ _ _ _ _ _ (show (w1.drewN m).heap[g]? = _ from hr)]
      rfl
    · have hs' : ¬ (L.length : Int) - p.1 < n := by omega
      have ht : tk L p n = ((p.1 + n, 0), (L.drop p.1).take n) := by simp [tk, he, hs]
      have HT : Hid _ := ht
      clear ht
      go_wp2
      refine wp_gen (fun W => Rd W B g L (p.1 + n, 0) ∧ w1.grownBy W (some g) ∧ W.heap[g]? = some (.cells #[.slice sp L.length cap, .int .i64 ((p.1 + n : Nat) : Int), .int .i64 0] 76 (0, 0))) ⟨?_, ?_, ?_⟩ ?_
      · refine Rd.turn HH.out (grown_setCell (grown_drewN (grown_refl _ _) m) _ _) (by simp only; omega) fun sp' cap' hr => ?_
        rw [heap_setCell_same _ _ _ _ _ _ (show (w1.drewN m).heap[g]? = _ from hr), he]
        simp
      · exact grown_setCell (grown_drewN (grown_refl _ _) m) _ _
      · rw [heap_setCell_same _ _ _ _ _ _ (show (w1.drewN m).heap[g]? = _ from H1.out), he]
        simp
      intro W ⟨hR, hG, hrow⟩
      have d0 : W.cell? ⟨g, 0, none⟩ = some (.slice sp L.length cap) := (cell_of_row _ _ _ _ _ _ hrow).trans rfl
      have d1 : W.cell? ⟨g, 1, none⟩ = some (.int .i64 ((p.1 + n : Nat) : Int)) := (cell_of_row _ _ _ _ _ _ hrow).trans rfl
      have HG : Hid _ := hG
      have HRD : Hid _ := hR
      have hlt : ((L.drop p.1).take n).length = n := by simp; omega
      clear c0 c1 c2 hz hrow hR hG
      cases sp with
      | none =>
        have l0 : L.length = 0 := by
          by_cases hl : 0 < L.length
          · obtain ⟨b, q⟩ := H4.out hl; cases q
          · omega
        have hc0 := h3 rfl
        have n0 : n = 0 := by omega
        have p0 : p.1 = 0 := by omega
        rw [l0, hc0] at d0
        rw [p0, n0] at d1
        have hnn : ((n : Nat) : Int) = 0 := by omega
        rw [p0]
        have d1' : W.cell? ⟨g, 1, none⟩ = some (.int .i64 0) := d1
        have N0 : Hid _ := n0
        clear d1 n0
        go_quiet (fail)
        go_wp2
        go_ret
        rw [HT.out]
        refine ⟨none, 0, ret_slice (by rw [hlt, N0.out]), fun _ => rfl, fun hp => by rw [hlt, N0.out] at hp; omega, Rd.keep HRD.out (below_drewN (Below.refl _ _) _), grown_drewN HG.out _⟩
      | some q =>
        obtain ⟨b, rfl, hbg, hbl, hcell⟩ := H5.out q rfl
        have hcell' : Hid (∀ j, j < L.length → W.cell? ⟨b, j, none⟩ = some (.int .u8 (L.getD j 0))) := fun j hj => by
          rw [World.cell?_of_block (HG.out.block b (Nat.lt_of_lt_of_le hbl hbig) (fun e => hbg (by injection e)))]
          exact hcell j hj
        clear hcell
        go_quiet (fail)
        go_wp2
        · go_ret
          rw [HT.out]
          refine ⟨_, _, ret_slice hlt.symm, fun h => (by cases h), fun hp => ?_, Rd.keep HRD.out (below_drewN (Below.refl _ _) _), grown_drewN HG.out _⟩
          rw [hlt] at hp
          omega
        · go_ret
          rw [HT.out]
          refine ⟨_, _, ret_slice hlt.symm, fun h => (by cases h), fun hp => ⟨b, p.1, rfl, fun j hj => ?_⟩, Rd.keep HRD.out (below_drewN (Below.refl _ _) _), grown_drewN HG.out _⟩
          rw [hlt] at hj
          show W.cell? _ = _
          rw [hcell'.out (p.1 + j) (by omega)]
          simp [hj]
  · have ht : tk L p n = (p, []) := by simp [tk, he]
    have HT : Hid _ := ht
    clear ht
    go_wp2
    go_ret
    rw [HT.out]
    exact ⟨none, 0, rfl, fun _ => rfl, fun h => by simp at h, HH.out, grown_refl _ _⟩

/-- Bytes as a number, the highest first. -/
def numOf (M : List Int) : Int := M.foldl (fun x b => 256 * x + b) 0
theorem numOf_snoc (M : List Int) (b : Int) : numOf (M ++ [b]) = 256 * numOf M + b := by simp [numOf]
theorem fold_lt : ∀ (M : List Int) (a : Int), 0 ≤ a → (∀ x ∈ M, 0 ≤ x ∧ x ≤ 255) → 0 ≤ M.foldl (fun x b => 256 * x + b) a ∧ M.foldl (fun x b => 256 * x + b) a < (a + 1) * 256 ^ M.length
  | [], a, ha, _ => by simp; omega
  | b :: M, a, ha, h => by
    have hb := h b (by simp)
    have ih := fold_lt M (256 * a + b) (by omega) fun x hx => h x (by simp [hx])
    rw [List.foldl_cons, List.length_cons]
    refine ⟨ih.1, Int.lt_of_lt_of_le ih.2 ?_⟩
    have e : (a + 1) * 256 ^ (M.length + 1) = (256 * a + 256) * 256 ^ M.length := by
      rw [Int.pow_succ, Int.mul_comm (256 ^ M.length) 256, ← Int.mul_assoc]
      congr 1
      omega
    rw [e]
    exact Int.mul_le_mul_of_nonneg_right (by omega) (Int.pow_nonneg (by omega))
theorem numOf_lt (M : List Int) (h : ∀ x ∈ M, 0 ≤ x ∧ x ≤ 255) : 0 ≤ numOf M ∧ numOf M < 256 ^ M.length := by
  have := fold_lt M 0 (by omega) h
  simpa [numOf] using this
theorem tk_ok {L : List Int} (h : ∀ x ∈ L, 0 ≤ x ∧ x ≤ 255) (p : Nat × Int) (n : Nat) : ∀ x ∈ (tk L p n).2, 0 ≤ x ∧ x ≤ 255 := by
  unfold tk
  intro x hx
  split at hx
  · split at hx
    · simp at hx
    · exact h x (List.mem_of_mem_drop (List.mem_of_mem_take hx))
  · simp at hx
theorem tk_len (L : List Int) (p : Nat × Int) (n : Nat) : (tk L p n).2.length ≤ n := by
  unfold tk
  split
  · split
    · simp
    · simp; omega
  · simp
theorem or_byte (x b : Int) (hx : 0 ≤ x) (hx' : x < 72057594037927936) (hb : 0 ≤ b ∧ b ≤ 255) : bits .or .u64 (256 * x) b = 256 * x + b := by
  obtain ⟨x, rfl⟩ := Int.eq_ofNat_of_zero_le hx
  obtain ⟨b, rfl⟩ := Int.eq_ofNat_of_zero_le hb.1
  show IntKind.u64.wrap ((BitVec.ofInt 64 (256 * (x : Int)) ||| BitVec.ofInt 64 (b : Int)).toNat : Int) = _
  have e1 : BitVec.ofInt 64 (256 * (x : Int)) = BitVec.ofNat 64 (256 * x) := by rw [show (256 * (x : Int)) = ((256 * x : Nat) : Int) by omega, BitVec.ofInt_natCast]
  rw [e1, BitVec.ofInt_natCast, BitVec.toNat_or, BitVec.toNat_ofNat, BitVec.toNat_ofNat, Nat.mod_eq_of_lt (by omega), Nat.mod_eq_of_lt (by omega)]
  have e2 : 256 * x ||| b = 256 * x + b := by
    have := Nat.two_pow_add_eq_or_of_lt (i := 8) (b := b) (by omega) x
    rw [show 256 * x = 2 ^ 8 * x from rfl, this]
  rw [e2, IntKind.wrap_u64]
  omega

set_option maxRecDepth 100000 in
set_option maxHeartbeats 1000000 in
theorem number_any {B : Nat} (g : Nat) (L : List Int) (p : Nat × Int) (n : Nat) (w : World) (h : Rd w B g L p) (hn : n ≤ 4) :
    Calls Try.prog 41 #[.pointer (some ⟨g, 0, none⟩), .int .i64 n] w fun e w' => e = .returned (.int .u64 (numOf (tk L p n).2)) ∧ Rd w' B g L (tk L p n).1 ∧ w.grownBy w' (some g) := by
  have hok := tk_ok h.ok p n
  have hlen := tk_len L p n
  go_enter Try.func41, Try.ntmps41
  go_wp2_with fail
  refine (take_any g L p n w h (by omega)).mono ?_
  rintro e w1 ⟨sp, cap, rfl, -, hsrc, hR, hG⟩
  have HR : Hid _ := hR
  have HG : Hid _ := hG
  clear hR hG h
  generalize hMM : (tk L p n).2 = M at hsrc hok hlen
  have HMM : Hid _ := hMM
  clear hMM
  go_wp2
  go_loop [5, 12] (fun x i => ∃ t : Nat, t ≤ M.length ∧ i = .int .i64 t ∧ x = .int .u64 (numOf (M.take t))) (fun _ i => M.length - (intOf i).toNat)
  case atStart => exact ⟨0, Nat.zero_le _, rfl, rfl⟩
  case round =>
    obtain ⟨t, ht, rfl, rfl⟩ := hrel
    by_cases hlt : t < M.length
    · obtain ⟨b, off, rfl, hc⟩ := hsrc (by omega)
      have e1 : w1.cell? ⟨b, off + t, none⟩ = some (.int .u8 (M.getD t 0)) := hc t hlt
      have hm : M.getD t 0 = M[t]'hlt := by simp [hlt]
      have htk : M.take (t + 1) = M.take t ++ [M[t]'hlt] := by simp
      have hb := hok _ (List.getElem_mem hlt)
      rw [hm] at e1
      generalize M[t]'hlt = y at e1 htk hb
      have hv := numOf_lt (M.take t) fun x hx => hok x (List.mem_of_mem_take hx)
      have hv2 : numOf (M.take t) < 16777216 := by
        refine Int.lt_of_lt_of_le hv.2 ?_
        have hl3 : (M.take t).length ≤ 3 := by simp; omega
        have h3 : (M.take t).length = 0 ∨ (M.take t).length = 1 ∨ (M.take t).length = 2 ∨ (M.take t).length = 3 := by omega
        rcases h3 with q | q | q | q <;> rw [q] <;> decide
      have HTK : Hid _ := htk
      generalize hX : numOf (M.take t) = x at hv hv2
      have HX : Hid _ := hX
      have hor := or_byte x y hv.1 (by omega) hb
      clear hc htk hX hsrc hm
      have HOK : Hid _ := hok
      clear hok
      go_wp2
      go_round
      case rel =>
        refine ⟨t + 1, by omega, by go_num, ?_⟩
        rw [HTK.out, numOf_snoc, HX.out, Int.mul_comm x 256, hor]
      case measure => simp [intOf]; omega
    · have htl : M.take t = M := List.take_of_length_le (by omega)
      have HT : Hid _ := htl
      clear htl hsrc hok
      go_wp2
      go_ret
      exact ⟨ret_int (by rw [HMM.out, HT.out]), HR.out, HG.out⟩
theorem numOf_len {M : List Int} {n : Nat} (h : ∀ x ∈ M, 0 ≤ x ∧ x ≤ 255) (hl : M.length ≤ n) : 0 ≤ numOf M ∧ numOf M < 256 ^ n := by
  have := numOf_lt M h
  refine ⟨this.1, Int.lt_of_lt_of_le this.2 ?_⟩
  have e : ∀ k : Nat, (256 : Int) ^ k = ((256 ^ k : Nat) : Int) := fun k => by simp
  rw [e, e]
  exact Int.ofNat_le.2 (Nat.pow_le_pow_right (by omega) hl)

set_option maxRecDepth 100000 in
theorem u8_any {B : Nat} (g : Nat) (L : List Int) (p : Nat × Int) (w : World) (h : Rd w B g L p) :
    Calls Try.prog 20 #[.pointer (some ⟨g, 0, none⟩)] w fun e w' => e = .returned (.int .u8 (numOf (tk L p 1).2)) ∧ Rd w' B g L (tk L p 1).1 ∧ w.grownBy w' (some g) := by
  have hb := numOf_len (tk_ok h.ok p 1) (tk_len L p 1)
  have hb1 : numOf (tk L p 1).2 < 256 := hb.2
  go_enter Try.func20, Try.ntmps20
  go_wp2_with fail
  refine (number_any g L p 1 w h (by omega)).mono ?_
  rintro e w1 ⟨rfl, hR, hG⟩
  have HR : Hid _ := hR
  have HG : Hid _ := hG
  have hb0 := hb.1
  clear hR hG h hb
  generalize hX : numOf (tk L p 1).2 = x at hb0 hb1
  have HX : Hid _ := hX
  clear hX
  go_wp2
  go_ret
  exact ⟨ret_int (by rw [HX.out]), HR.out, HG.out⟩

set_option maxRecDepth 100000 in
theorem u16_any {B : Nat} (g : Nat) (L : List Int) (p : Nat × Int) (w : World) (h : Rd w B g L p) :
    Calls Try.prog 22 #[.pointer (some ⟨g, 0, none⟩)] w fun e w' => e = .returned (.int .u16 (numOf (tk L p 2).2)) ∧ Rd w' B g L (tk L p 2).1 ∧ w.grownBy w' (some g) := by
  have hb := numOf_len (tk_ok h.ok p 2) (tk_len L p 2)
  have hb1 : numOf (tk L p 2).2 < 65536 := hb.2
  go_enter Try.func22, Try.ntmps22
  go_wp2_with fail
  refine (number_any g L p 2 w h (by omega)).mono ?_
  rintro e w1 ⟨rfl, hR, hG⟩
  have HR : Hid _ := hR
  have HG : Hid _ := hG
  have hb0 := hb.1
  clear hR hG h hb
  generalize hX : numOf (tk L p 2).2 = x at hb0 hb1
  have HX : Hid _ := hX
  clear hX
  go_wp2
  go_ret
  exact ⟨ret_int (by rw [HX.out]), HR.out, HG.out⟩

set_option maxRecDepth 100000 in
theorem u32_any {B : Nat} (g : Nat) (L : List Int) (p : Nat × Int) (w : World) (h : Rd w B g L p) :
    Calls Try.prog 27 #[.pointer (some ⟨g, 0, none⟩)] w fun e w' => e = .returned (.int .u32 (numOf (tk L p 4).2)) ∧ Rd w' B g L (tk L p 4).1 ∧ w.grownBy w' (some g) := by
  have hb := numOf_len (tk_ok h.ok p 4) (tk_len L p 4)
  have hb1 : numOf (tk L p 4).2 < 4294967296 := hb.2
  go_enter Try.func27, Try.ntmps27
  go_wp2_with fail
  refine (number_any g L p 4 w h (by omega)).mono ?_
  rintro e w1 ⟨rfl, hR, hG⟩
  have HR : Hid _ := hR
  have HG : Hid _ := hG
  have hb0 := hb.1
  clear hR hG h hb
  generalize hX : numOf (tk L p 4).2 = x at hb0 hb1
  have HX : Hid _ := hX
  clear hX
  go_wp2
  go_ret
  exact ⟨ret_int (by rw [HX.out]), HR.out, HG.out⟩

theorem own_nil (w : World) : Own w (.slice none 0 0) [] := ⟨rfl, .inl ⟨rfl, rfl⟩⟩

set_option maxRecDepth 100000 in
set_option maxHeartbeats 1000000 in
theorem raw_any {B : Nat} (g : Nat) (L : List Int) (p : Nat × Int) (n : Nat) (w : World) (h : Rd w B g L p) (hn : n ≤ 70000) :
    Calls Try.prog 21 #[.pointer (some ⟨g, 0, none⟩), .int .i64 n] w fun e w' => ∃ v, e = .returned v ∧ Own w' v (tk L p n).2 ∧ (∀ k, v.ownBlock = some k → w.heap.size ≤ k) ∧ Rd w' B g L (tk L p n).1 ∧ w.grownBy w' (some g) := by
  have hlen := tk_len L p n
  go_enter Try.func21, Try.ntmps21
  go_wp2_with fail
  refine (take_any g L p n w h (by omega)).mono ?_
  rintro e w1 ⟨sp, cap, rfl, hcap, hsrc, hR, hG⟩
  have HR : Hid _ := hR
  have HG : Hid _ := hG
  clear hR hG h
  generalize hMM : (tk L p n).2 = M at hsrc hlen
  have HMM : Hid _ := hMM
  clear hMM
  have HS : Hid (SrcAt w1 .u8 sp M.length (fun i => M.getD i 0)) := hsrc
  have HC : Hid (sp = none → cap = 0 ∧ M.length = 0) := fun h => ⟨hcap h, by
    by_cases h0 : 0 < M.length
    · obtain ⟨_, _, q, _⟩ := hsrc h0
      rw [h] at q
      cases q
    · omega⟩
  clear hsrc hcap
  go_wp2_with (at_builtin; refine own_append (by rfl) (.const (.slice none 0 0)) (.tmp 7) (by rfl) (.slice none 0 0) [] (by rfl) (own_nil _) sp M.length cap _ (by rfl) HC.out HS.out (by simp; omega) ?_; intro v2 w2 hO2 hS2)
  go_ret
  have hB : Below w1.heap.size w1 w2 := hS2.below (B := w1.heap.size) (fun k hk => by cases hk) (Nat.le_refl _)
  refine ⟨v2, rfl, ?_, fun k hk => ?_, Rd.keep HR.out hB, grown_below HG.out hB⟩
  · rw [range_getD, List.nil_append] at hO2
    rw [HMM.out]
    exact hO2
  · have := HG.out.size
    rcases hS2.block with q | ⟨j, q, hj⟩
    · rw [q] at hk; cases hk
    · rw [q] at hk; injection hk with hk; omega
end Go.Proofs.Ytnaoaeapffgojaa
