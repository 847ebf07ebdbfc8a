/- The contracts of refs' none and Get. -/
import Derived.Test.YtgfjjglejlnfbaaGreatDoorFsL
import Derived.Test.YtgfjjglejlnfbaaGreatDoorIdZ
namespace Go.Proofs.YtgfjjglejlnfbaaGreatDoor
open Go.RowKit

/-- An Id of noughts. -/
def noId : Nat → Int := fun _ => 0
def noneB (f : Nat → Int) : Bool := eqTo f noId 32
theorem build_no (w : World) : (Instr.build 26 #[]).run Tryz.prog w = .ok (.agg (arr .u8 32 noId)) w := by kernel_rfl
theorem arr_no : arr .u8 32 noId = #[.int .u8 0, .int .u8 0, .int .u8 0, .int .u8 0, .int .u8 0, .int .u8 0, .int .u8 0, .int .u8 0, .int .u8 0, .int .u8 0, .int .u8 0, .int .u8 0, .int .u8 0, .int .u8 0, .int .u8 0, .int .u8 0, .int .u8 0, .int .u8 0, .int .u8 0, .int .u8 0, .int .u8 0, .int .u8 0, .int .u8 0, .int .u8 0, .int .u8 0, .int .u8 0, .int .u8 0, .int .u8 0, .int .u8 0, .int .u8 0, .int .u8 0, .int .u8 0] := by kernel_rfl
set_option maxRecDepth 100000 in
set_option maxHeartbeats 1000000 in
theorem xnone_any (f : Nat → Int) (w : World) : Calls Tryz.prog 37 #[.agg (arr .u8 32 f)] w fun e w' => e = .returned (.bool (noneB f)) ∧ Below w.heap.size w w' := by
  have g0 := heap_alloc_new w (.cells (arr .u8 32 f) 26)
  have b0 : Below w.heap.size w (w.alloc (.cells (arr .u8 32 f) 26)) := (Below.refl _ _).alloc (Nat.le_refl _) _
  have heq : (Op.equalIn 10000 26 (.agg (arr .u8 32 f)) (.agg (arr .u8 32 noId))).run Tryz.prog (w.alloc (.cells (arr .u8 32 f) 26)) = .ok (noneB f) (w.alloc (.cells (arr .u8 32 f) 26)) := equal_id f noId _
  rw [arr_no] at heq
  have HG : Hid _ := g0
  generalize noneB f = r at heq ⊢
  clear g0
  go_enter Tryz.func37, Tryz.ntmps37
  go_wp2_with (refine wpList_load_row (by rfl) 26 (.tmp 1) (by rfl) w.heap.size (by rfl) 26 (arr .u8 32 f) (0, 0) _ HG.out Tryz.underlying26 rfl (by rw [arr_size]; kernel_rfl) ?_)
  go_ret
  exact ⟨rfl, b0⟩
/-- What Get tells. -/
def GetX (rs : List Re) (name : ByteArray) (e : Ending) : Prop :=
  (refsB rs = false ∧ e = .returned (.tuple #[.agg (arr .u8 32 noId), .int .i64 190])) ∨
  (refsB rs = true ∧ (∀ f ∈ rs, f.name ≠ name) ∧ e = .returned (.tuple #[.agg (arr .u8 32 noId), .int .i64 4])) ∨
  (refsB rs = true ∧ ∃ f ∈ rs, f.name = name ∧ e = .returned (.tuple #[.agg (arr .u8 32 f.id), .int .i64 0]))
set_option maxRecDepth 100000 in
set_option maxHeartbeats 2000000 in
theorem xget_any (sp : Option Addr) (cap : Nat) (rs : List Re) (name : ByteArray) (w : World) (hr : RowsAt w 33 Re.cells sp rs) (hl : rs.length ≤ 1000000) :
    Calls Tryz.prog 14 #[.agg #[.slice sp rs.length cap], .string name] w fun e w' => GetX rs name e ∧ Below w.heap.size w w' := by
  have HR : Hid (∀ W, Below w.heap.size w W → RowsAt W 33 Re.cells sp rs) := fun W h => hr.below h
  have HBI : Hid _ := build_no
  clear hr
  go_enter Tryz.func14, Tryz.ntmps14
  go_wp2_with fail
  refine calls_gen (fun W1 => Below w.heap.size w W1 ∧ W1.heap[w.heap.size]? = some (.cells #[.slice sp rs.length cap] 24 (0, 0)) ∧ W1.heap[w.heap.size + 1]? = some (.cells (arr .u8 32 noId) 26 (0, 0))) ⟨((Below.refl _ _).alloc (Nat.le_refl _) _).alloc (by simp) _, ?_, ?_⟩ ?_
  · exact (Below.heap_alloc _ _ _ (by simp)).trans (heap_alloc_new _ _)
  · exact (heap_alloc2_new _ _ _).trans rfl
  rintro W1 ⟨b1, g0, g1⟩
  refine (xcheck_any sp cap rs W1 (HR.out W1 b1) (by omega)).mono ?_
  rintro e W2 ⟨rfl, b12⟩
  have b2 : Below w.heap.size w W2 := b1.trans (b12.mono b1.size)
  have q0 := (b12.block _ (lt_of_row g0)).trans g0
  have HG1 : Hid (W2.heap[w.heap.size + 1]? = some (.cells (arr .u8 32 noId) 26 (0, 0))) := (b12.block _ (lt_of_row g1)).trans g1
  clear b1 b12 g0 g1
  unfold checkX
  cases hrb : refsB rs with
  | false =>
    have HP : Hid (GetX rs name (.returned (.tuple #[.agg (arr .u8 32 noId), .int .i64 190]))) := .inl ⟨hrb, rfl⟩
    clear hrb
    go_wp2_with (first
      | (refine wpList_build (by rfl) 26 _ (by rfl) [] (by rfl) (.agg (arr .u8 32 noId)) (HBI.out _) ?_)
      | (refine wpList_store_row (by rfl) 26 (.tmp 4) (.tmp 13) (by rfl) (w.heap.size + 1) (arr .u8 32 noId) (by rfl) (by rfl) 26 _ HG1.out (by rw [arr_size]; kernel_rfl) (by rw [arr_size]) (arr_one _ _ _) ?_))
    refine bodyPost_ret (v := .tuple #[.agg (arr .u8 32 noId), .int .i64 190]) ?_ rfl ⟨HP.out, below_setRow' b2 (by omega) _⟩
    exact results_cell_tmp Tryz.results14 _ _ (w.heap.size + 1) 26 _ (0, 0) _ _ rfl rfl (heap_setRow_same HG1.out) Tryz.underlying26 rfl (by rw [arr_size]; kernel_rfl)
  | true =>
    have hup := (upR_of hrb).1
    have HRB : Hid (refsB rs = true) := hrb
    have c0 : W2.cell? ⟨w.heap.size, 0, none⟩ = some (.slice sp rs.length cap) := (cell_of_row _ _ _ _ _ _ q0).trans rfl
    clear hrb
    go_wp2_with fail
    refine (xplace_any sp cap rs name W2 (HR.out W2 b2) hl (mono_of hup name)).mono ?_
    rintro e W3 ⟨⟨k, hk, rfl⟩, b23⟩
    have b3 : Below w.heap.size w W3 := b2.trans (b23.mono b2.size)
    have q3 := (b23.block _ (lt_of_row q0)).trans q0
    have HG3 : Hid (W3.heap[w.heap.size + 1]? = some (.cells (arr .u8 32 noId) 26 (0, 0))) := (b23.block _ (lt_of_row HG1.out)).trans HG1.out
    clear b2 b23 q0 HG1 c0
    have c0 : W3.cell? ⟨w.heap.size, 0, none⟩ = some (.slice sp rs.length cap) := (cell_of_row _ _ _ _ _ _ q3).trans rfl
    cases hfd : foundR rs name k with
    | false =>
      have HP : Hid (GetX rs name (.returned (.tuple #[.agg (arr .u8 32 noId), .int .i64 4]))) := .inr (.inl ⟨HRB.out, none_named hup hk hfd, rfl⟩)
      clear hfd hk hup
      go_wp2_with (first
        | (refine wpList_build (by rfl) 26 _ (by rfl) [] (by rfl) (.agg (arr .u8 32 noId)) (HBI.out _) ?_)
        | (refine wpList_store_row (by rfl) 26 (.tmp 4) (.tmp 23) (by rfl) (w.heap.size + 1) (arr .u8 32 noId) (by rfl) (by rfl) 26 _ HG3.out (by rw [arr_size]; kernel_rfl) (by rw [arr_size]) (arr_one _ _ _) ?_))
      refine bodyPost_ret (v := .tuple #[.agg (arr .u8 32 noId), .int .i64 4]) ?_ rfl ⟨HP.out, below_setRow' b3 (by omega) _⟩
      exact results_cell_tmp Tryz.results14 _ _ (w.heap.size + 1) 26 _ (0, 0) _ _ rfl rfl (heap_setRow_same HG3.out) Tryz.underlying26 rfl (by rw [arr_size]; kernel_rfl)
    | true =>
      obtain ⟨f, hf, hfn⟩ := found_name hfd
      have hkl := (List.getElem?_eq_some_iff.1 hf).1
      have HP : Hid (GetX rs name (.returned (.tuple #[.agg (arr .u8 32 f.id), .int .i64 0]))) := .inr (.inr ⟨HRB.out, f, List.mem_of_getElem? hf, hfn, rfl⟩)
      have hrw := HR.out W3 b3
      obtain ⟨b, off, rfl, -⟩ := hrw (by omega)
      have HCE : Hid (∀ i, i < 32 → W3.cell? ⟨b, off + k * 33 + 1 + i, none⟩ = some (.int .u8 (f.id i))) := fun i hi => by
        have := re_cells hrw hf (1 + i) _ (f.cellId i hi)
        rw [← Nat.add_assoc] at this
        exact this
      have hd1 : decide ((k : Int) < rs.length) = true := by simp; omega
      clear hfd hk hup hf hfn hrw
      go_wp2_with (first
        | (refine load_at (by rfl) 26 (.tmp 28) (by rfl) b (off + k * 33 + 1) (by rfl) .u8 32 f.id _ HCE.out Tryz.underlying26 rfl (by kernel_rfl) ?_)
        | (refine wpList_store_row (by rfl) 26 (.tmp 4) (.tmp 29) (by rfl) (w.heap.size + 1) (arr .u8 32 f.id) (by rfl) (by rfl) 26 _ HG3.out (by rw [arr_size]; kernel_rfl) (by rw [arr_size, arr_size]) (arr_one _ _ _) ?_))
      refine bodyPost_ret (v := .tuple #[.agg (arr .u8 32 f.id), .int .i64 0]) ?_ rfl ⟨HP.out, below_setRow' b3 (by omega) _⟩
      exact results_cell_tmp Tryz.results14 _ _ (w.heap.size + 1) 26 _ (0, 0) _ _ rfl rfl (heap_setRow_same HG3.out) Tryz.underlying26 rfl (by rw [arr_size]; kernel_rfl)
end Go.Proofs.YtgfjjglejlnfbaaGreatDoor
