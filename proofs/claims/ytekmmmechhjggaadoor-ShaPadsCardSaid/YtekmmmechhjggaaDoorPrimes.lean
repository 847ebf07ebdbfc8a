/- The first 64 primes; numbers that the call itself gathers by append; the contract of the reference's Primes. -/
import Derived.Test.YtekmmmechhjggaaDoorPut
namespace Go.Proofs.YtekmmmechhjggaaDoor
open Go.RowKit

theorem info51 : (Tryd.prog.info? 51).map (fun i => (i.zero, i.size, i.bytes)) = some (some (.int .u64 0), 1, 8) := by kernel_rfl
def valsU (n : Nat) (f : Nat → Int) : List Value := (List.range n).map fun i => Value.int .u64 (f i)
theorem valsU_succ (n : Nat) (f : Nat → Int) : valsU n f ++ [.int .u64 (f n)] = valsU (n + 1) f := by
  unfold valsU
  rw [List.range_succ, List.map_append]
  rfl
theorem valsU_congr {n : Nat} {f g : Nat → Int} (h : ∀ i, i < n → f i = g i) : valsU n f = valsU n g := by
  unfold valsU
  apply List.map_congr_left
  intro i hi
  rw [h i (List.mem_range.1 hi)]
/-- v owns n numbers f, among the blocks from B on. -/
def OwnU (w : World) (B : Nat) (v : Value) (n : Nat) (f : Nat → Int) : Prop := w.ownsRow B 51 1 v n (valsU n f)
theorem OwnU.src {w : World} {B : Nat} {v : Value} {n : Nat} {f : Nat → Int} (h : OwnU w B v n f) : ∃ sp cap, v = .slice sp n cap ∧ SrcAt w .u64 sp n f ∧ n ≤ cap ∧ cap ≤ maxLen := by
  rcases h.2 with ⟨rfl, rfl⟩ | ⟨g, cap, cur, rfl, hg, hh, h1, h2, _, htake⟩
  · exact ⟨none, 0, rfl, fun h => absurd h (by omega), Nat.le_refl _, Nat.zero_le _⟩
  · refine ⟨some ⟨g, 0, none⟩, cap, rfl, fun _ => ⟨g, 0, rfl, fun j hj => ?_⟩, h1, h2⟩
    have hc := World.ownsRow.cellAt h j (by omega)
    rw [Nat.zero_add, hc]
    simp [valsU, hj]
theorem OwnU.below {w w' : World} {B : Nat} {v : Value} {n : Nat} {f : Nat → Int} (h : OwnU w B v n f) (hb : Below w.heap.size w w') : OwnU w' B v n f := by
  refine ⟨h.1, ?_⟩
  rcases h.2 with h | ⟨g, cap, cur, hv, hg, hh, r⟩
  · exact .inl h
  · exact .inr ⟨g, cap, cur, hv, hg, (hb.block _ (lt_of_row hh)).trans hh, r⟩
theorem OwnU.ge {w : World} {B : Nat} {v : Value} {n : Nat} {f : Nat → Int} (h : OwnU w B v n f) : ∀ k, v.ownBlock = some k → B ≤ k := by
  intro k hk
  rcases h.2 with ⟨rfl, _⟩ | ⟨g, cap, cur, rfl, hg, _⟩
  · cases hk
  · simp [Value.ownBlock] at hk; omega
theorem OwnU.congr {w : World} {B : Nat} {v : Value} {n : Nat} {f g : Nat → Int} (h : OwnU w B v n f) (hfg : ∀ i, i < n → f i = g i) : OwnU w B v n g := by
  unfold OwnU at *
  rw [← valsU_congr hfg]; exact h

/-- One byte more. -/
theorem append_u64 {w : World} {ops : Array Oper} {rest : List Oper} {o : Oper} {a : Act} {Q : Exit → Act → World → Prop} (hgd : o.guard = none) (s x : Operand)
    (ho : o.op = .call { callee := .builtin .append, args := #[s, x], argTypes := #[58, 58] }) (B : Nat) (v : Value) (n : Nat) (f : Nat → Int) (y : Int) (hs : a.eval s = v) (W : World) (hW : w = W.alloc (.cells #[.int .u64 y] 51)) (hx : a.eval x = .slice (some ⟨W.heap.size, 0, none⟩) 1 1)
    (hown : OwnU W B v n f) (hy : f n = y) (hn : n ≤ 1000000) (w0 : World) (hb : Below B w0 W) (hBW : B ≤ W.heap.size)
    (h : ∀ v' w', Hid (OwnU w' B v' (n + 1) f) → Below B w0 w' → wpList Tryd.prog ops Q rest (a.put o.dst v') w') : wpList Tryd.prog ops Q (o :: rest) a w := by
  subst hW
  obtain ⟨i0, hi, hz0, hz1, hz2⟩ := info_parts info51
  refine wpList_append_own _ hgd s x 58 ho B 51 i0 (.int .u64 0) 1 8 Tryd.underlying58 hi hz0 hz1 hz2 rfl (by omega) v n (valsU n f) hs (hown.alloc _) ⟨W.heap.size, 0, none⟩ 1 1 [.int .u64 y] hx rfl ?_ ?_ ?_ (by omega) (by simp; omega) ?_
  · intro j u hj
    match j, hj with
    | 0, hj => simp at hj; subst hj; simp [Addr.add]
  · intro u hu; simp at hu; subst hu; rfl
  · unfold maxLen; omega
  · intro v' w' hown' hgrow _
    refine h v' w' ?_ ?_
    · have e : valsU n f ++ [.int .u64 y] = valsU (n + 1) f := by rw [← hy]; exact valsU_succ n f
      rw [e] at hown'
      exact hown'
    · exact ((hb.alloc hBW _).grown hgrow (by simp; omega) hown.ge)


def primesL : List Nat := [2, 3, 5, 7, 11, 13, 17, 19, 23, 29, 31, 37, 41, 43, 47, 53, 59, 61, 67, 71, 73, 79, 83, 89, 97, 101, 103, 107, 109, 113, 127, 131, 137, 139, 149, 151, 157, 163, 167, 173, 179, 181, 191, 193, 197, 199, 211, 223, 227, 229, 233, 239, 241, 251, 257, 263, 269, 271, 277, 281, 283, 293, 307, 311]
def prF (i : Nat) : Int := (primesL.getD i 0 : Nat)
def cntL (x : Nat) : Nat := (primesL.filter fun q => decide (q < x)).length
/-- No number from 2 to below d divides x. -/
def noDiv (x : Nat) : Nat → Bool
  | 0 => true
  | d + 1 => noDiv x d && (decide (d < 2) || x % d != 0)
theorem prime_yes : ∀ x : Nat, x < 312 → 2 ≤ x → noDiv x x = true → cntL (x + 1) = cntL x + 1 ∧ primesL.getD (cntL x) 0 = x := by decide +kernel
theorem prime_no : ∀ x : Nat, x < 312 → 2 ≤ x → noDiv x x = false → cntL (x + 1) = cntL x := by decide +kernel
theorem cnt_312 : cntL 312 = 64 := by decide +kernel
theorem cnt_2 : cntL 2 = 0 := by decide +kernel

set_option maxRecDepth 100000 in
set_option maxHeartbeats 2000000 in
theorem primes_any (n : Nat) (w : World) (hn : n ≤ 64) :
    Calls Tryd.prog 36 #[.int .i64 n] w fun e w' => ∃ v, e = .returned v ∧ OwnU w' w.heap.size v n prF ∧ Below w.heap.size w w' := by
  go_enter Tryd.func36, Tryd.ntmps36
  go_wp2
  go_loopw [3, 4] (fun v u wr => ∃ x : Nat, 2 ≤ x ∧ x ≤ 312 ∧ u = .int .u64 x ∧ cntL x ≤ n ∧ OwnU wr w.heap.size v (cntL x) prF ∧ Below w.heap.size w wr) (fun _ u _ => 312 - (intOf u).toNat)
  case atStart => exact ⟨2, by omega, by omega, rfl, by rw [cnt_2]; omega, by rw [cnt_2]; exact World.ownsRow_nil _ _ _ _, Below.refl _ _⟩
  case round =>
    obtain ⟨x, hx2, hx, rfl, hcn, hown, hBr⟩ := hrel
    have HO : Hid (OwnU wr w.heap.size u3 (cntL x) prF) := hown
    obtain ⟨sq, cq, rfl, _, hcq, hcm⟩ := hown.src
    unfold maxLen at hcm
    have HC312 : Hid (x = 312 → cntL x = 64) := fun h => by rw [h]; exact cnt_312
    have HYES : Hid (x < 312 → noDiv x x = true → cntL (x + 1) = cntL x + 1 ∧ primesL.getD (cntL x) 0 = x) := fun h => prime_yes x h hx2
    have HNO : Hid (x < 312 → noDiv x x = false → cntL (x + 1) = cntL x) := fun h => prime_no x h hx2
    generalize hcc : cntL x = c at *
    have HCC : Hid _ := hcc
    clear hcc hown
    by_cases hlt : c < n
    · have hx311 : x < 312 := by
        by_cases h : x = 312
        · have := HC312.out h; omega
        · omega
      go_wp2
      go_loopw [5, 6] (fun b e wq => ∃ d : Nat, 2 ≤ d ∧ d ≤ x ∧ e = .int .u64 d ∧ b = .bool (noDiv x d) ∧ OwnU wq w.heap.size (.slice sq c cq) c prF ∧ Below w.heap.size w wq) (fun _ e _ => x - (intOf e).toNat)
      case atStart => exact ⟨2, by omega, hx2, rfl, rfl, HO.out, hBr⟩
      case round =>
        obtain ⟨d, hd2, hdx, rfl, rfl, hO1, hB1⟩ := hrel
        have HO1 : Hid _ := hO1
        clear hO1
        by_cases hdlt : d < x
        · have HND : Hid (noDiv x (d + 1) = (noDiv x d && (decide (d < 2) || x % d != 0))) := rfl
          by_cases hdiv : x % d = 0
          · have t : ((x : Int) % (d : Int) == 0) = true := by
              have h : ((x % d : Nat) : Int) = 0 := by rw [hdiv]; rfl
              rw [Int.natCast_emod] at h
              simpa using h
            have HE : Hid (noDiv x (d + 1) = false) := by
              show noDiv x (d + 1) = false
              rw [HND.out, hdiv]; simp; omega
            clear hdiv
            go_wp2
            go_roundw
            case rel => exact ⟨d + 1, by omega, by omega, by go_num, by rw [HE.out], HO1.out, hB1⟩
            case measure => simp [intOf]; omega
          · have t : ((x : Int) % (d : Int) == 0) = false := by
              have h : ¬ ((x % d : Nat) : Int) = 0 := by omega
              rw [Int.natCast_emod] at h
              simpa using h
            have HE : Hid (noDiv x (d + 1) = noDiv x d) := by
              show noDiv x (d + 1) = noDiv x d
              rw [HND.out]
              have : (x % d != 0) = true := by simpa using hdiv
              rw [this]; simp
            clear hdiv
            go_wp2
            go_roundw
            case rel => exact ⟨d + 1, by omega, by omega, by go_num, by rw [HE.out], HO1.out, hB1⟩
            case measure => simp [intOf]; omega
        · have hdx' : d = x := by omega
          cases hnd : noDiv x d with
          | true =>
            have hy := HYES.out hx311 (by rw [hdx'] at hnd; exact hnd)
            have HY1 : Hid (cntL (x + 1) = c + 1) := hy.1
            have HY2 : Hid (prF c = (x : Int)) := congrArg (fun q : Nat => (q : Int)) hy.2
            clear hy hdx' hnd
            go_wp2_with (at_builtin; refine append_u64 (by rfl) (.tmp 23) (.tmp 25) (by rfl) w.heap.size (.slice sq c cq) c prF x (by rfl) wr (by rfl) (by rfl) HO1.out HY2.out (by omega) w hB1 hB1.size ?_; intro v1 w2 hO2 hB2)
            go_roundw
            case rel => exact ⟨x + 1, by omega, by omega, by go_num, by rw [HY1.out]; omega, by rw [HY1.out]; exact hO2.out, hB2⟩
            case measure => simp [intOf]; omega
          | false =>
            have hn1 := HNO.out hx311 (by rw [hdx'] at hnd; exact hnd)
            have HN1 : Hid _ := hn1
            clear hn1 hdx' hnd
            go_wp2
            go_roundw
            case rel => exact ⟨x + 1, by omega, by omega, by go_num, by rw [HN1.out]; omega, by rw [HN1.out]; exact HO1.out, hB1⟩
            case measure => simp [intOf]; omega
    · have hcn' : c = n := by omega
      have HCN : Hid _ := hcn'
      clear hcn'
      go_wp2
      go_ret
      exact ⟨.slice sq c cq, rfl, by have := HO.out; rw [HCN.out] at this ⊢; exact this, hBr⟩
end Go.Proofs.YtekmmmechhjggaaDoor
