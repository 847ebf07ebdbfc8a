/- The contract of object.Id: the digest of an object's bytes. -/
import Derived.Test.YtgfjjglejlnfbaaGreatDoorMrgB
import Derived.Test.YtgfjjglejlnfbaaGreatDoorFitL
namespace Go.Proofs.YtgfjjglejlnfbaaGreatDoor
open Go.RowKit

/-- The two tables of the digest lie. -/
structure Tab (w : World) (K : Nat → Int) (S : St) : Prop where
  k : ∀ i : Nat, i < 64 → w.cell? ⟨2, i, none⟩ = some (.int .u32 (K i))
  h : ∀ i : Nat, i < 8 → w.cell? ⟨0, i, none⟩ = some (.int .u32 (S.fn i))
  ok : S.ok
theorem Tab.below {w w' : World} {K : Nat → Int} {S : St} (h : Tab w K S) (hb : Below w.heap.size w w') : Tab w' K S :=
  ⟨fun i hi => (hb.cell (block_lt_of_cell (h.k i hi))).trans (h.k i hi), fun i hi => (hb.cell (block_lt_of_cell (h.h i hi))).trans (h.h i hi), h.ok⟩
/-- The digest of bytes. -/
def digF (K : Nat → Int) (S : St) (L : List Int) : Nat → Int := outF (sumF K S (fun i => L.getD i 0) L.length)
/-- What Id leaves. -/
def IdPost (K : Nat → Int) (S : St) (o : Ob) (c : Co) (w : World) (e : Ending) (w' : World) : Prop :=
  Below w.heap.size w w' ∧ ((rightB o c = true ∧ e = .returned (.tuple #[.agg (arr .u8 32 (digF K S (encB o c))), .int .i64 0])) ∨ (rightB o c = false ∧ e = .returned (.tuple #[.agg (arr .u8 32 fun _ => 0), .int .i64 150])))
theorem build_id (w : World) : (Instr.build 26 #[]).run Tryz.prog w = .ok (.agg (arr .u8 32 fun _ => 0)) w := by kernel_rfl

set_option maxRecDepth 100000 in
set_option maxHeartbeats 1000000 in
theorem objid_any (K : Nat → Int) (S : St) (o : Ob) (c : Co) (w : World) (hT : Tab w K S) (ho : Has w o c) (hF : Fit o c) : Calls Tryz.prog 34 #[.agg o.cells] w (IdPost K S o c w) := by
  have HH : Hid _ := ho
  have HT : Hid _ := hT
  clear ho hT
  go_enter Tryz.func34, Tryz.ntmps34
  go_wp2_with (refine wpList_load_row (by rfl) 65 (.tmp 1) (by rfl) w.heap.size (by rfl) 65 o.cells (0, 0) _ (heap_alloc2_old _ _ _) Tryz.underlying65 rfl (by rw [Ob.size]; kernel_rfl) ?_)
  refine calls_gen (fun W1 => Below w.heap.size w W1 ∧ W1.heap[w.heap.size + 1]? = some (.cells (arr .u8 32 fun _ => 0) 26 (0, 0))) ⟨?_, ?_⟩ ?_
  · exact ((Below.refl _ _).alloc (Nat.le_refl _) _).alloc (by simp) _
  · exact (heap_alloc2_new _ _ _).trans rfl
  intro W1 ⟨hB1, hrow⟩
  refine (encode_any o c W1 (HH.out.below hB1) hF.n).mono ?_
  rintro e w2 ⟨hB2, hc⟩
  have HR : Hid _ := (hB2.block _ (lt_of_row hrow)).trans hrow
  have f2 : Below w.heap.size w w2 := hB1.trans (hB2.mono hB1.size)
  clear hrow hB1 hB2
  rcases hc with ⟨hr, v, rfl, hO, -⟩ | ⟨hr, rfl⟩
  · obtain ⟨sv, cv, rfl, hS⟩ := Own.src hO
    have HS : Hid _ := hS
    clear hO hS
    go_wp2_with fail
    refine (sum_any sv (encB o c).length cv (fun i => (encB o c).getD i 0) K S w2 HS.out (by have := enc_len hr; omega) (fun i => getD_ok (enc_ok hr hF HH.out.bok) i) (HT.out.below f2).k (HT.out.below f2).h HT.out.ok).mono ?_
    rintro e w3 ⟨rfl, hB3⟩
    have HR3 : Hid _ := (hB3.block _ (lt_of_row HR.out)).trans HR.out
    have f3 : Below w.heap.size w w3 := f2.trans (hB3.mono f2.size)
    have hd : outF (sumF K S (fun i => (encB o c).getD i 0) (encB o c).length) = digF K S (encB o c) := rfl
    rw [hd]
    generalize hD : digF K S (encB o c) = D
    have HD : Hid _ := hD
    clear hD hd hB3 HR HS f2
    go_wp2_with (refine wpList_store_row (by rfl) 26 (.tmp 2) (.tmp 16) (by rfl) (w.heap.size + 1) (arr .u8 32 D) (by rfl) (by rfl) 26 _ HR3.out (by rw [arr_size]; kernel_rfl) (by rw [arr_size, arr_size]) (arr_one _ _ _) ?_)
    refine bodyPost_ret (v := .tuple #[.agg (arr .u8 32 D), .int .i64 0]) ?_ rfl ⟨below_setRow' f3 (by omega) _, .inl ⟨hr, by rw [HD.out]⟩⟩
    exact results_cell_tmp Tryz.results34 _ _ (w.heap.size + 1) 26 _ (0, 0) _ _ rfl rfl (heap_setRow_same HR3.out) Tryz.underlying26 rfl (by rw [arr_size]; kernel_rfl)
  · have HB : Hid _ := build_id
    go_wp2_with (first
      | (refine wpList_build (by rfl) 26 _ (by rfl) [] (by rfl) (.agg (arr .u8 32 fun _ => 0)) (HB.out _) ?_)
      | (refine wpList_store_row (by rfl) 26 (.tmp 2) (.tmp 13) (by rfl) (w.heap.size + 1) (arr .u8 32 fun _ => 0) (by rfl) (by rfl) 26 _ HR.out (by rw [arr_size]; kernel_rfl) (by rw [arr_size]) (arr_one _ _ _) ?_))
    refine bodyPost_ret (v := .tuple #[.agg (arr .u8 32 fun _ => 0), .int .i64 150]) ?_ rfl ⟨below_setRow' f2 (by omega) _, .inr ⟨hr, rfl⟩⟩
    exact results_cell_tmp Tryz.results34 _ _ (w.heap.size + 1) 26 _ (0, 0) _ _ rfl rfl (heap_setRow_same HR.out) Tryz.underlying26 rfl (by rw [arr_size]; kernel_rfl)
end Go.Proofs.YtgfjjglejlnfbaaGreatDoor
