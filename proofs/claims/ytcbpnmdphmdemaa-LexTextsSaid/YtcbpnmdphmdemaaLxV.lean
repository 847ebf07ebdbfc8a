/- What numbers and texts say; the contracts of lex's Number and Value. -/
import Derived.Test.YtcbpnmdphmdemaaLxQ
import Derived.Test.YtcbpnmdphmdemaaLxL
namespace Go.Proofs.Ytcbpnmdphmdemaa
open Go.RowKit

/-- A token's number. -/
def numO (t : Tok) : Option Nat := if t.kind = 2 then decO t.text.data.toList else none
/-- What a token's text says. -/
def valO (t : Tok) : Option (List UInt8) := if t.kind = 3 then (match unqO t.text.data.toList with | some (v, n) => if n = t.text.size then some v else none | none => none) else none
def numV (o : Option Nat) (e : Int) : Value := match o with | none => .tuple #[.int .i64 0, .int .i64 e] | some n => .tuple #[.int .i64 n, .int .i64 0]
set_option maxRecDepth 100000 in
set_option maxHeartbeats 1000000 in
theorem number_is (t : Tok) (w : World) : Calls Try.prog 18 #[.agg t.cells] w fun e w' => e = .returned (numV (numO t) 201) ∧ Below w.heap.size w w' := by
  unfold Tok.cells
  go_enter Try.func18, Try.ntmps18
  go_wp2_with fail
  refine calls_gen (fun W => W.heap[w.heap.size]? = some (.cells #[.int .i64 t.kind, .string t.text, .int .i64 t.pos] 32 (0, 0)) ∧ Below w.heap.size w W) ⟨heap_alloc_new _ _, (Below.refl _ _).alloc (Nat.le_refl _) _⟩ ?_
  rintro W0 ⟨hr0, b0⟩
  refine (decimal_any t.text W0).mono ?_
  rintro e W1 ⟨rfl, b1⟩
  have hr1 : W1.heap[w.heap.size]? = some (.cells #[.int .i64 t.kind, .string t.text, .int .i64 t.pos] 32 (0, 0)) := (b1.block _ (lt_of_row hr0)).trans hr0
  have c0 : W1.cell? ⟨w.heap.size, 0, none⟩ = some (.int .i64 t.kind) := (cell_of_row _ _ 0 _ _ _ hr1).trans rfl
  have bw : Below w.heap.size w W1 := b0.trans (b1.mono b0.size)
  clear hr0 hr1 b0 b1
  cases hk : (t.kind == 2)
  · have hk' : (t.kind != 2) = true := by rw [bne, hk]; rfl
    have HN : Hid (numO t = none) := by unfold numO; rw [if_neg (by simpa using hk)]; exact rfl
    clear hk
    unfold decV
    go_wp2
    go_ret2
    refine ⟨?_, bw⟩
    rw [HN.out]
    exact rfl
  · have hk' : (t.kind != 2) = false := by rw [bne, hk]; rfl
    have HN : Hid (numO t = decO t.text.data.toList) := by unfold numO; rw [if_pos (by simpa using hk)]; exact rfl
    clear hk
    cases hd : decO t.text.data.toList with
    | none =>
      have HX : Hid (numO t = none) := by rw [HN.out, hd]; exact rfl
      unfold decV
      go_wp2
      go_ret2
      refine ⟨?_, bw⟩
      rw [HX.out]
      exact rfl
    | some n =>
      have HX : Hid (numO t = some n) := by rw [HN.out, hd]; exact rfl
      unfold decV
      go_wp2
      go_ret2
      refine ⟨?_, bw⟩
      rw [HX.out]
      exact rfl
set_option maxRecDepth 100000 in
set_option maxHeartbeats 2000000 in
theorem value_is (t : Tok) (w : World) (hs : t.text.size ≤ 100000) : Calls Try.prog 20 #[.agg t.cells] w fun e w' => e = .returned (strV (valO t) 200) ∧ Below w.heap.size w w' := by
  unfold Tok.cells
  obtain ⟨cap, WT, cs, fr, hcv, bT, hrT, hcs, hcap⟩ := text_row t.text (w.alloc (.cells #[.int .i64 t.kind, .string t.text, .int .i64 t.pos] 32))
  have hsz : (w.alloc (.cells #[.int .i64 t.kind, .string t.text, .int .i64 t.pos] 32)).heap.size = w.heap.size + 1 := by simp
  have HTL : Hid (t.text.size = t.text.data.toList.length) := by show t.text.size = t.text.data.toList.length; simp
  rw [hsz] at hcv bT hrT
  have HBA : Hid (BA WT (some ⟨w.heap.size + 1, 0, none⟩) t.text.data.toList) := BA.of_row hrT hcs
  have bw0 : Below w.heap.size w WT := ((Below.refl _ _).alloc (Nat.le_refl _) _).trans (bT.mono (by omega))
  have hr0 : WT.heap[w.heap.size]? = some (.cells #[.int .i64 t.kind, .string t.text, .int .i64 t.pos] 32 (0, 0)) := (bT.block _ (by omega)).trans (heap_alloc_new _ _)
  clear hrT hcs bT hsz
  go_enter Try.func20, Try.ntmps20
  go_wp2_with fail
  have HU : Hid (Calls Try.prog 43 #[.slice (some ⟨w.heap.size + 1, 0, none⟩) t.text.size cap] WT fun e w' => UnqP WT.heap.size w' (unqO t.text.data.toList) e ∧ Below WT.heap.size WT w') := by
    have := unquote_any (some ⟨w.heap.size + 1, 0, none⟩) cap t.text.data.toList WT HBA.out (by have := HTL.out; omega) (by have := HTL.out; omega)
    rw [← HTL.out] at this
    exact this
  refine HU.out.mono ?_
  rintro e W1 ⟨hP, b1⟩
  have hr1 : W1.heap[w.heap.size]? = some (.cells #[.int .i64 t.kind, .string t.text, .int .i64 t.pos] 32 (0, 0)) := (b1.block _ (lt_of_row hr0)).trans hr0
  have c0 : W1.cell? ⟨w.heap.size, 0, none⟩ = some (.int .i64 t.kind) := (cell_of_row _ _ 0 _ _ _ hr1).trans rfl
  have c1 : W1.cell? ⟨w.heap.size, 1, none⟩ = some (.string t.text) := (cell_of_row _ _ 1 _ _ _ hr1).trans rfl
  have bw : Below w.heap.size w W1 := bw0.trans (b1.mono bw0.size)
  clear hr0 hr1 b1 bw0 HU HBA hcv
  have HNK : Hid (¬ t.kind = 3 → valO t = none) := fun h => by unfold valO; rw [if_neg h]
  have HVK : Hid (t.kind = 3 → valO t = match unqO t.text.data.toList with | some (v, n) => if n = t.text.size then some v else none | none => none) := fun h => by unfold valO; rw [if_pos h]
  cases hu : unqO t.text.data.toList with
  | none =>
    rw [hu] at hP
    unfold UnqP at hP
    subst hP
    have HX : Hid (valO t = none) := by
      by_cases hk : t.kind = 3
      · exact (HVK.out hk).trans (by rw [hu])
      · exact HNK.out hk
    clear HNK HVK hu
    cases hk : (t.kind == 3)
    · have hk' : (t.kind != 3) = true := by rw [bne, hk]; rfl
      clear hk
      go_wp2
      go_ret2
      refine ⟨?_, bw⟩
      rw [HX.out]
      exact rfl
    · have hk' : (t.kind != 3) = false := by rw [bne, hk]; rfl
      clear hk
      go_wp2
      go_ret2
      refine ⟨?_, bw⟩
      rw [HX.out]
      exact rfl
  | some p =>
    obtain ⟨v, n⟩ := p
    rw [hu] at hP
    obtain ⟨u, rfl, hO⟩ := hP
    have hn := unqO_size hu
    have hn0 : ((n : Int) == 0) = false := by rw [beq_eq_false_iff_ne]; omega
    obtain ⟨su, cu, rfl, hRu, -, -, -⟩ := OwnG.rows elB hO
    have hcv := conv_str (BA.of_rows hRu) cu
    cases hk : (t.kind == 3)
    · have hk' : (t.kind != 3) = true := by rw [bne, hk]; rfl
      have HX : Hid (valO t = none) := HNK.out (by simpa using hk)
      clear hk HNK HVK hu
      go_wp2
      go_ret2
      refine ⟨?_, bw⟩
      rw [HX.out]
      exact rfl
    · have hk' : (t.kind != 3) = false := by rw [bne, hk]; rfl
      have HV : Hid (valO t = if n = t.text.size then some v else none) := (HVK.out (by simpa using hk)).trans (by rw [hu])
      clear hk HNK HVK hu
      by_cases hlt : n < t.text.size
      · have HX : Hid (valO t = none) := by rw [HV.out, if_neg (by omega)]; exact rfl
        have hd : (n : Int) < t.text.size := by omega
        clear HV
        go_wp2
        go_ret2
        refine ⟨?_, bw⟩
        rw [HX.out]
        exact rfl
      · have HX : Hid (valO t = some v) := by rw [HV.out, if_pos (by have := HTL.out; omega)]; exact rfl
        have hd : ¬ (n : Int) < t.text.size := by omega
        clear HV
        go_wp2
        go_ret2
        refine ⟨?_, bw⟩
        rw [HX.out]
        exact rfl
end Go.Proofs.Ytcbpnmdphmdemaa
