/- The contract of the reference's Times: the product, modulo 2^192. -/
import Derived.Test.YtekmmmechhjggaaDoorPlus
namespace Go.Proofs.YtekmmmechhjggaaDoor
open Go.RowKit

def valTo (l : Nat → Int) : Nat → Int
  | 0 => 0
  | i + 1 => valTo l i + l i * pl i
theorem valTo_six (l : Nat → Int) : valTo l 6 = val6 l := by
  simp [valTo, val6, pl]
theorem times_split (z x E : Int) : z * (x % 4294967296) % 4294967296 * E + z * (x % 4294967296) / 4294967296 * (E * 4294967296) + z * (x / 4294967296) % 4294967296 * (E * 4294967296) + z * (x / 4294967296) / 4294967296 * (E * 4294967296 * 4294967296) = z * x * E := by
  have e1 : z * (x % 4294967296) % 4294967296 = z * (x % 4294967296) - 4294967296 * (z * (x % 4294967296) / 4294967296) := by omega
  have e2 : z * (x / 4294967296) % 4294967296 = z * (x / 4294967296) - 4294967296 * (z * (x / 4294967296) / 4294967296) := by omega
  have e3 : x % 4294967296 = x - 4294967296 * (x / 4294967296) := by omega
  rw [e1, e2]
  generalize z * (x % 4294967296) / 4294967296 = p
  generalize z * (x / 4294967296) / 4294967296 = q
  rw [e3]
  generalize x / 4294967296 = h
  grind
theorem emod_chain (a b c d M : Int) : (((a % M + b) % M + c) % M + d) % M = (a + b + c + d) % M := by
  rw [Int.emod_add_emod, Int.add_assoc ((a % M + b) % M), Int.emod_add_emod, Int.add_assoc (a % M), Int.emod_add_emod, Int.add_assoc a b, Int.add_assoc a (b + c), Int.add_assoc b c d]
/-- A world is given a name in the midst of a region. -/
theorem wpList_name {P : Program} {ops : Array Oper} {Q : Exit → Act → World → Prop} {l : List Oper} {a : Act} {w0 : World} (F : World → Prop) (h0 : F w0) (h : ∀ W1, F W1 → wpList P ops Q l a W1) : wpList P ops Q l a w0 := h _ h0
theorem times_step (V T z x : Int) (i : Nat) (hV : V % M192 = T % M192) :
    ((((V + z * (x % 4294967296) % 4294967296 * pl i) % M192 + z * (x % 4294967296) / 4294967296 * pl (i + 1)) % M192 + z * (x / 4294967296) % 4294967296 * pl (i + 1)) % M192 + z * (x / 4294967296) / 4294967296 * pl (i + 2)) % M192 = (T + z * x * pl i) % M192 := by
  have hs := times_split z x (pl i)
  rw [emod_chain]
  rw [show pl (i + 2) = pl i * 4294967296 * 4294967296 by rw [show i + 2 = i + 1 + 1 from rfl, pl_succ, pl_succ], pl_succ]
  have e : V + z * (x % 4294967296) % 4294967296 * pl i + z * (x % 4294967296) / 4294967296 * (pl i * 4294967296) + z * (x / 4294967296) % 4294967296 * (pl i * 4294967296) + z * (x / 4294967296) / 4294967296 * (pl i * 4294967296 * 4294967296) = V + z * x * pl i := by
    rw [← hs]; omega
  rw [e, Int.add_emod, hV, ← Int.add_emod]
theorem mul_bound {a b : Int} (ha : 0 ≤ a ∧ a < 4294967296) (hb : 0 ≤ b ∧ b < 4294967296) : 0 ≤ a * b ∧ a * b ≤ 18446744065119617025 := by
  refine ⟨Int.mul_nonneg ha.1 hb.1, ?_⟩
  have h1 : a * b ≤ 4294967295 * b := Int.mul_le_mul_of_nonneg_right (by omega) hb.1
  omega

set_option maxRecDepth 100000 in
set_option maxHeartbeats 2000000 in
theorem times_any (l : Nat → Int) (x : Int) (w : World) (hl : ok6 l) (hx0 : 0 ≤ x) (hx : x ≤ 18446744073709551615) :
    Calls Tryd.prog 43 #[.agg (arr .u64 6 l), .int .u64 x] w fun e w' => ∃ m, e = .returned (.agg (arr .u64 6 m)) ∧ ok6 m ∧ val6 m = (val6 l * x) % M192 ∧ Below w.heap.size w w' := by
  go_enter Tryd.func43, Tryd.ntmps43
  go_wp2
  refine wp_gen (fun W1 => Below w.heap.size w W1 ∧ W1.heap[w.heap.size]? = some (.cells (arr .u64 6 l) 66 (0, 0)) ∧ W1.heap[w.heap.size + 1]? = some (.cells (arr .u64 6 fun _ => 0) 66 (0, 0)) ∧ W1.heap[w.heap.size + 1 + 1]? = some (.cells (arr .u64 6 fun _ => 0) 66 (0, 0))) ⟨?_, ?_, ?_, ?_⟩ ?_
  · exact (((Below.refl _ _).alloc (Nat.le_refl _) _).alloc (by simp) _).alloc (by simp; omega) _
  · rw [Below.heap_alloc _ _ _ (by simp; omega), Below.heap_alloc _ _ _ (by simp), heap_alloc_new]
  · exact (heap3 _ _ _ _).trans rfl
  · have := heap_alloc2_new (w.alloc (.cells (arr .u64 6 l) 66)) (.cells (arr .u64 6 fun _ => 0) 66) (.cells (arr .u64 6 fun _ => 0) 66)
    rw [World.size_alloc] at this
    exact this
  intro W1 ⟨hB, hr0, hr1, hr2⟩
  have H0 : Hid _ := hr0
  have H1 : Hid _ := hr1
  have H2 : Hid _ := hr2
  clear hr0 hr1 hr2
  go_loopw [8] (fun u wr => ∃ i : Nat, ∃ m : Nat → Int, i ≤ 6 ∧ u = .int .i64 i ∧ ok6 m ∧ val6 m % M192 = (valTo l i * x) % M192 ∧ Below w.heap.size w wr ∧ wr.heap[w.heap.size]? = some (.cells (arr .u64 6 l) 66 (0, 0)) ∧ wr.heap[w.heap.size + 1]? = some (.cells (arr .u64 6 fun _ => 0) 66 (0, 0)) ∧ wr.heap[w.heap.size + 1 + 1]? = some (.cells (arr .u64 6 m) 66 (0, 0))) (fun u _ => 6 - (intOf u).toNat)
  case atStart => exact ⟨0, fun _ => 0, by omega, rfl, fun _ => ⟨Int.le_refl 0, by show (0 : Int) < 4294967296; decide⟩, by simp [valTo, val6], hB, H0.out, H1.out, H2.out⟩
  case round =>
    obtain ⟨i, m, hi, rfl, hm, hval, hBr, hr0, hr1, hr2⟩ := hrel
    have HM : Hid (ok6 m) := hm
    have HVAL : Hid _ := hval
    clear H0 H1 H2 hB hm hval
    have H0 : Hid _ := hr0
    have H1 : Hid _ := hr1
    have H2 : Hid _ := hr2
    by_cases hlt : i < 6
    · have hc : wr.cell? ⟨w.heap.size, i, none⟩ = some (.int .u64 (l i)) := row_cell hr0 hlt
      have hli := hl i
      have HSTEP : Hid (((((val6 m + l i * (x % 4294967296) % 4294967296 * pl i) % M192 + l i * (x % 4294967296) / 4294967296 * pl (i + 1)) % M192 + l i * (x / 4294967296) % 4294967296 * pl (i + 1)) % M192 + l i * (x / 4294967296) / 4294967296 * pl (i + 2)) % M192 = (valTo l (i + 1) * x) % M192) := by
        have h := times_step (val6 m) (valTo l i * x) (l i) x i HVAL.out
        have e : valTo l (i + 1) * x = valTo l i * x + l i * x * pl i := by
          show (valTo l i + l i * pl i) * x = _
          generalize valTo l i = t
          generalize pl i = E
          generalize l i = z
          grind
        rw [e]; exact h
      have hm1 := mul_bound hli (show 0 ≤ x % 4294967296 ∧ x % 4294967296 < 4294967296 by omega)
      have hm2 := mul_bound hli (show 0 ≤ x / 4294967296 ∧ x / 4294967296 < 4294967296 by omega)
      clear hr0 hr1 hr2
      generalize hz0 : l i = z at hc hli HSTEP hm1 hm2
      clear hz0
      go_wp2
      go_quiet (fail)
      go_wp2_with (refine wpList_load_row (by rfl) 66 (.tmp 7) (by rfl) (w.heap.size + 1 + 1) (by rfl) 66 (arr .u64 6 m) (0, 0) _ H2.out Tryd.underlying66 rfl (by rw [arr_size]; kernel_rfl) ?_)
      have hp := plus_any m (i) (z * (x % 4294967296) % 4294967296) (wr.drewN nq) HM.out (by omega) (by omega) (by omega)
      refine hp.mono ?_
      clear hp
      rintro e v1 ⟨m1, rfl, hk1, hv1, hb1⟩
      have HK1 : Hid (ok6 m1) := hk1
      have HV1 : Hid _ := hv1
      clear hk1 hv1
      have G01 : Hid (v1.heap[w.heap.size]? = some (.cells (arr .u64 6 l) 66 (0, 0))) := (hb1.block _ (lt_of_row H0.out)).trans H0.out
      have G11 : Hid (v1.heap[w.heap.size + 1]? = some (.cells (arr .u64 6 fun _ => 0) 66 (0, 0))) := (hb1.block _ (lt_of_row H1.out)).trans H1.out
      have G21 : Hid (v1.heap[w.heap.size + 1 + 1]? = some (.cells (arr .u64 6 m) 66 (0, 0))) := (hb1.block _ (lt_of_row H2.out)).trans H2.out
      have B1 : Below w.heap.size w v1 := (below_drewN hBr _).trans (hb1.mono (by exact hBr.size))
      go_wp2_with (first | (refine wpList_store_row (by rfl) 66 (.tmp 7) (.tmp 33) (by rfl) (w.heap.size + 1 + 1) (arr .u64 6 m1) (by rfl) (by rfl) 66 (arr .u64 6 m) G21.out (by rw [arr_size]; kernel_rfl) (by rw [arr_size, arr_size]) (arr_one _ _ _) ?_; refine wpList_name (fun X1 => Below w.heap.size w X1 ∧ X1.heap[w.heap.size]? = some (.cells (arr .u64 6 l) 66 (0, 0)) ∧ X1.heap[w.heap.size + 1]? = some (.cells (arr .u64 6 fun _ => 0) 66 (0, 0)) ∧ X1.heap[w.heap.size + 1 + 1]? = some (.cells (arr .u64 6 m1) 66 (0, 0))) ⟨below_setRow' B1 (by omega) _, (setRow_other _ _ _ _ (by omega)).trans G01.out, (setRow_other _ _ _ _ (by omega)).trans G11.out, heap_setRow_same G21.out⟩ ?_; rintro X1 ⟨C1, hx01, hx11, hx21⟩; have K01 : Hid _ := hx01; have K11 : Hid _ := hx11; have K21 : Hid _ := hx21; clear hx01 hx11 hx21 G01 G11 G21 B1 hb1) | (refine wpList_load_row (by rfl) 66 (.tmp 7) (by rfl) (w.heap.size + 1 + 1) (by rfl) 66 (arr .u64 6 m1) (0, 0) _ K21.out Tryd.underlying66 rfl (by rw [arr_size]; kernel_rfl) ?_))
      have hp := plus_any m1 (i + 1) (z * (x % 4294967296) / 4294967296) X1 HK1.out (by omega) (by omega) (by omega)
      rw [Int.natCast_add, Int.natCast_one] at hp
      refine hp.mono ?_
      clear hp
      rintro e v2 ⟨m2, rfl, hk2, hv2, hb2⟩
      have HK2 : Hid (ok6 m2) := hk2
      have HV2 : Hid _ := hv2
      clear hk2 hv2
      have G02 : Hid (v2.heap[w.heap.size]? = some (.cells (arr .u64 6 l) 66 (0, 0))) := (hb2.block _ (lt_of_row K01.out)).trans K01.out
      have G12 : Hid (v2.heap[w.heap.size + 1]? = some (.cells (arr .u64 6 fun _ => 0) 66 (0, 0))) := (hb2.block _ (lt_of_row K11.out)).trans K11.out
      have G22 : Hid (v2.heap[w.heap.size + 1 + 1]? = some (.cells (arr .u64 6 m1) 66 (0, 0))) := (hb2.block _ (lt_of_row K21.out)).trans K21.out
      have B2 : Below w.heap.size w v2 := C1.trans (hb2.mono C1.size)
      go_wp2_with (first | (refine wpList_store_row (by rfl) 66 (.tmp 7) (.tmp 39) (by rfl) (w.heap.size + 1 + 1) (arr .u64 6 m2) (by rfl) (by rfl) 66 (arr .u64 6 m1) G22.out (by rw [arr_size]; kernel_rfl) (by rw [arr_size, arr_size]) (arr_one _ _ _) ?_; refine wpList_name (fun X2 => Below w.heap.size w X2 ∧ X2.heap[w.heap.size]? = some (.cells (arr .u64 6 l) 66 (0, 0)) ∧ X2.heap[w.heap.size + 1]? = some (.cells (arr .u64 6 fun _ => 0) 66 (0, 0)) ∧ X2.heap[w.heap.size + 1 + 1]? = some (.cells (arr .u64 6 m2) 66 (0, 0))) ⟨below_setRow' B2 (by omega) _, (setRow_other _ _ _ _ (by omega)).trans G02.out, (setRow_other _ _ _ _ (by omega)).trans G12.out, heap_setRow_same G22.out⟩ ?_; rintro X2 ⟨C2, hx02, hx12, hx22⟩; have K02 : Hid _ := hx02; have K12 : Hid _ := hx12; have K22 : Hid _ := hx22; clear hx02 hx12 hx22 G02 G12 G22 B2 hb2) | (refine wpList_load_row (by rfl) 66 (.tmp 7) (by rfl) (w.heap.size + 1 + 1) (by rfl) 66 (arr .u64 6 m2) (0, 0) _ K22.out Tryd.underlying66 rfl (by rw [arr_size]; kernel_rfl) ?_))
      have hp := plus_any m2 (i + 1) (z * (x / 4294967296) % 4294967296) X2 HK2.out (by omega) (by omega) (by omega)
      rw [Int.natCast_add, Int.natCast_one] at hp
      refine hp.mono ?_
      clear hp
      rintro e v3 ⟨m3, rfl, hk3, hv3, hb3⟩
      have HK3 : Hid (ok6 m3) := hk3
      have HV3 : Hid _ := hv3
      clear hk3 hv3
      have G03 : Hid (v3.heap[w.heap.size]? = some (.cells (arr .u64 6 l) 66 (0, 0))) := (hb3.block _ (lt_of_row K02.out)).trans K02.out
      have G13 : Hid (v3.heap[w.heap.size + 1]? = some (.cells (arr .u64 6 fun _ => 0) 66 (0, 0))) := (hb3.block _ (lt_of_row K12.out)).trans K12.out
      have G23 : Hid (v3.heap[w.heap.size + 1 + 1]? = some (.cells (arr .u64 6 m2) 66 (0, 0))) := (hb3.block _ (lt_of_row K22.out)).trans K22.out
      have B3 : Below w.heap.size w v3 := C2.trans (hb3.mono C2.size)
      go_wp2_with (first | (refine wpList_store_row (by rfl) 66 (.tmp 7) (.tmp 45) (by rfl) (w.heap.size + 1 + 1) (arr .u64 6 m3) (by rfl) (by rfl) 66 (arr .u64 6 m2) G23.out (by rw [arr_size]; kernel_rfl) (by rw [arr_size, arr_size]) (arr_one _ _ _) ?_; refine wpList_name (fun X3 => Below w.heap.size w X3 ∧ X3.heap[w.heap.size]? = some (.cells (arr .u64 6 l) 66 (0, 0)) ∧ X3.heap[w.heap.size + 1]? = some (.cells (arr .u64 6 fun _ => 0) 66 (0, 0)) ∧ X3.heap[w.heap.size + 1 + 1]? = some (.cells (arr .u64 6 m3) 66 (0, 0))) ⟨below_setRow' B3 (by omega) _, (setRow_other _ _ _ _ (by omega)).trans G03.out, (setRow_other _ _ _ _ (by omega)).trans G13.out, heap_setRow_same G23.out⟩ ?_; rintro X3 ⟨C3, hx03, hx13, hx23⟩; have K03 : Hid _ := hx03; have K13 : Hid _ := hx13; have K23 : Hid _ := hx23; clear hx03 hx13 hx23 G03 G13 G23 B3 hb3) | (refine wpList_load_row (by rfl) 66 (.tmp 7) (by rfl) (w.heap.size + 1 + 1) (by rfl) 66 (arr .u64 6 m3) (0, 0) _ K23.out Tryd.underlying66 rfl (by rw [arr_size]; kernel_rfl) ?_))
      have hp := plus_any m3 (i + 2) (z * (x / 4294967296) / 4294967296) X3 HK3.out (by omega) (by omega) (by omega)
      rw [Int.natCast_add] at hp; change Calls Tryd.prog 47 #[_, .int .i64 ((i : Int) + 2), _] _ _ at hp
      refine hp.mono ?_
      clear hp
      rintro e v4 ⟨m4, rfl, hk4, hv4, hb4⟩
      have HK4 : Hid (ok6 m4) := hk4
      have HV4 : Hid _ := hv4
      clear hk4 hv4
      have G04 : Hid (v4.heap[w.heap.size]? = some (.cells (arr .u64 6 l) 66 (0, 0))) := (hb4.block _ (lt_of_row K03.out)).trans K03.out
      have G14 : Hid (v4.heap[w.heap.size + 1]? = some (.cells (arr .u64 6 fun _ => 0) 66 (0, 0))) := (hb4.block _ (lt_of_row K13.out)).trans K13.out
      have G24 : Hid (v4.heap[w.heap.size + 1 + 1]? = some (.cells (arr .u64 6 m3) 66 (0, 0))) := (hb4.block _ (lt_of_row K23.out)).trans K23.out
      have B4 : Below w.heap.size w v4 := C3.trans (hb4.mono C3.size)
      go_wp2_with (first | (refine wpList_store_row (by rfl) 66 (.tmp 7) (.tmp 51) (by rfl) (w.heap.size + 1 + 1) (arr .u64 6 m4) (by rfl) (by rfl) 66 (arr .u64 6 m3) G24.out (by rw [arr_size]; kernel_rfl) (by rw [arr_size, arr_size]) (arr_one _ _ _) ?_; refine wpList_name (fun X4 => Below w.heap.size w X4 ∧ X4.heap[w.heap.size]? = some (.cells (arr .u64 6 l) 66 (0, 0)) ∧ X4.heap[w.heap.size + 1]? = some (.cells (arr .u64 6 fun _ => 0) 66 (0, 0)) ∧ X4.heap[w.heap.size + 1 + 1]? = some (.cells (arr .u64 6 m4) 66 (0, 0))) ⟨below_setRow' B4 (by omega) _, (setRow_other _ _ _ _ (by omega)).trans G04.out, (setRow_other _ _ _ _ (by omega)).trans G14.out, heap_setRow_same G24.out⟩ ?_; rintro X4 ⟨C4, hx04, hx14, hx24⟩; have K04 : Hid _ := hx04; have K14 : Hid _ := hx14; have K24 : Hid _ := hx24; clear hx04 hx14 hx24 G04 G14 G24 B4 hb4) | (refine wpList_load_row (by rfl) 66 (.tmp 7) (by rfl) (w.heap.size + 1 + 1) (by rfl) 66 (arr .u64 6 m4) (0, 0) _ K24.out Tryd.underlying66 rfl (by rw [arr_size]; kernel_rfl) ?_))
      go_roundw
      case rel =>
        refine ⟨i + 1, m4, by omega, by go_num, HK4.out, ?_, C4, K04.out, K14.out, K24.out⟩
        rw [HV4.out, Int.emod_emod, HV3.out, HV2.out, HV1.out]
        exact HSTEP.out
      case measure => simp [intOf]; omega
    · have h6 : i = 6 := by omega
      have HI6 : Hid _ := h6
      clear h6 hr0 hr1 hr2
      go_wp2_with (first
        | (refine wpList_load_row (by rfl) 66 (.tmp 7) (by rfl) (w.heap.size + 1 + 1) (by rfl) 66 _ (0, 0) _ H2.out Tryd.underlying66 rfl (by rw [arr_size]; kernel_rfl) ?_)
        | (refine wpList_store_row (by rfl) 66 (.tmp 4) (.tmp 52) (by rfl) (w.heap.size + 1) _ (by rfl) (by rfl) 66 (arr .u64 6 fun _ => 0) H1.out (by rw [arr_size]; kernel_rfl) (by rw [arr_size, arr_size]) (arr_one _ _ _) ?_))
      refine bodyPost_ret (v := .agg (arr .u64 6 m)) ?_ rfl ⟨m, rfl, HM.out, ?_, ?_⟩
      · exact results_cell_row Tryd.results43 _ _ (w.heap.size + 1) 66 _ (0, 0) _ rfl (heap_setRow_same H1.out) Tryd.underlying66 rfl (by rw [arr_size]; kernel_rfl)
      · have h := HVAL.out
        have hb := val6_bound m HM.out
        rw [HI6.out, valTo_six, Int.emod_eq_of_lt hb.1 hb.2] at h
        exact h
      · exact below_setRow' hBr (by omega) _
end Go.Proofs.YtekmmmechhjggaaDoor
