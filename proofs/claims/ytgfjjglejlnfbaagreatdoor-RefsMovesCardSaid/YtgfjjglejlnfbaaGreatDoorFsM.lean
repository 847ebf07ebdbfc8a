/- A move, and the contract of refs' movable. -/
import Derived.Test.YtgfjjglejlnfbaaGreatDoorFsN
import Derived.Test.YtgfjjglejlnfbaaGreatDoorFsE
namespace Go.Proofs.YtgfjjglejlnfbaaGreatDoor
open Go.RowKit

structure Mv where
  name : ByteArray
  frm : Nat → Int
  to : Nat → Int
def Mv.cells (m : Mv) : Array Value := #[.string m.name] ++ (arr .u8 32 m.frm ++ arr .u8 32 m.to)
theorem Mv.size (m : Mv) : m.cells.size = 65 := by simp [Mv.cells, arr_size]
theorem Mv.cell0 (m : Mv) : m.cells[0]? = some (.string m.name) := by simp [Mv.cells, Array.getElem?_append]
theorem Mv.cellF (m : Mv) (j : Nat) (h : j < 32) : m.cells[1 + j]? = some (.int .u8 (m.frm j)) := by
  simp only [Mv.cells]
  rw [Array.getElem?_append_right (by simp)]
  simp only [List.size_toArray, List.length_cons, List.length_nil, Nat.zero_add, Nat.add_sub_cancel_left]
  rw [Array.getElem?_append_left (by rw [arr_size]; exact h)]
  exact arr_get h
theorem Mv.cellT (m : Mv) (j : Nat) (h : j < 32) : m.cells[33 + j]? = some (.int .u8 (m.to j)) := by
  simp only [Mv.cells]
  rw [Array.getElem?_append_right (by simp; omega)]
  simp only [List.size_toArray, List.length_cons, List.length_nil, Nat.zero_add]
  rw [Array.getElem?_append_right (by rw [arr_size]; omega), arr_size, show 33 + j - 1 - 32 = j by omega]
  exact arr_get h
theorem mv_one (m : Mv) : m.cells.all (·.oneCell') = true := by
  rw [Array.all_eq_true]
  intro i hi
  have hi' : i < 65 := by rw [← m.size]; exact hi
  have h := Array.getElem?_eq_getElem hi
  by_cases h0 : i = 0
  · subst h0
    rw [m.cell0] at h
    rw [← Option.some.inj h]
    rfl
  · by_cases h1 : i < 33
    · obtain ⟨j, rfl⟩ : ∃ j, i = 1 + j := ⟨i - 1, by omega⟩
      rw [m.cellF j (by omega)] at h
      rw [← Option.some.inj h]
      rfl
    · obtain ⟨j, rfl⟩ : ∃ j, i = 33 + j := ⟨i - 33, by omega⟩
      rw [m.cellT j (by omega)] at h
      rw [← Option.some.inj h]
      rfl
/-- A load of many cells in a region that only reads, its guard open. -/
theorem quiet_loadg {P : Program} {ops : Array Oper} {C : World → Prop} {Q : Act → Prop} {tm : Array Value} {df : List Deferred} {rest : List Oper} {ty0 : TypeId} {pos : String} {aft : Array Edge} {d : Nat} {gd : Option (Nat × Bool)} (v : Value) (ty : TypeId) (x : Operand) (p : Addr) (hw : Region.wanted ⟨some d, .load ty x, ty0, pos, aft, gd⟩ (yielded ops tm) = true) (hx : Act.eval ⟨tm, df⟩ x = .pointer (some p))
    (hl : ∀ w, C w → (loadVar ty p).run P w = .ok v w) (h : wpQuiet P ops C Q rest ⟨tm.setIfInBounds d v, df⟩) : wpQuiet P ops C Q (⟨some d, .load ty x, ty0, pos, aft, gd⟩ :: rest) ⟨tm, df⟩ := by
  refine wpQuiet_step fun K hK => ?_
  rw [if_pos hw]
  refine ⟨v, fun w hw => ?_, hK _ h⟩
  unfold Oper.quietAt execOp
  simp only [hx, Instr.loadAt, Instr.sureAddr, Sem.run_bind, Sem.run_pure, Result.andThen_ok, hl w hw]
  exact ⟨rfl, rfl⟩
/-- Why a branch can't be moved so. -/
def movX (rs : List Re) (m : Mv) (k : Nat) (t : Bool) : Int :=
  if !(noneB m.frm) && !t then 4 else if noneB m.frm && t then 5 else if t && !(eqTo (rs.getD k ⟨⟨#[]⟩, noId⟩).id m.frm 32) then 191 else if !t && (rs.length == 8) then 6 else 0
set_option maxRecDepth 100000 in
set_option maxHeartbeats 4000000 in
theorem movable_any (sp : Option Addr) (cap : Nat) (rs : List Re) (m : Mv) (k : Nat) (t : Bool) (w : World) (hr : RowsAt w 33 Re.cells sp rs) (hl : rs.length ≤ 1000000) (hk : t = true → k < rs.length) :
    Calls Tryz.prog 39 #[.agg #[.slice sp rs.length cap], .agg m.cells, .int .i64 k, .bool t] w fun e w' => e = .returned (.int .i64 (movX rs m k t)) ∧ Below w.heap.size w w' := by
  have HR : Hid (∀ W, Below w.heap.size w W → RowsAt W 33 Re.cells sp rs) := fun W h => hr.below h
  have HK : Hid (t = true → k < rs.length) := hk
  have g1 := heap_alloc_new (w.alloc (.cells #[.slice sp rs.length cap] 24)) (.cells m.cells 28)
  rw [World.size_alloc] at g1
  have g0 : ((w.alloc (.cells #[.slice sp rs.length cap] 24)).alloc (.cells m.cells 28)).heap[w.heap.size]? = some (.cells #[.slice sp rs.length cap] 24 (0, 0)) := (Below.heap_alloc _ _ _ (by simp)).trans (heap_alloc_new _ _)
  have b0 : Below w.heap.size w ((w.alloc (.cells #[.slice sp rs.length cap] 24)).alloc (.cells m.cells 28)) := ((Below.refl _ _).alloc (Nat.le_refl _) _).alloc (by simp) _
  have HC0 : Hid (∀ i, i < 32 → ((w.alloc (.cells #[.slice sp rs.length cap] 24)).alloc (.cells m.cells 28)).cell? ⟨w.heap.size + 1, 1 + i, none⟩ = some (.int .u8 (m.frm i))) := fun i hi => (cell_of_row _ _ _ _ _ _ g1).trans (m.cellF i hi)
  have HG : Hid (((w.alloc (.cells #[.slice sp rs.length cap] 24)).alloc (.cells m.cells 28)).heap[w.heap.size]? = some (.cells #[.slice sp rs.length cap] 24 (0, 0)) ∧ ((w.alloc (.cells #[.slice sp rs.length cap] 24)).alloc (.cells m.cells 28)).heap[w.heap.size + 1]? = some (.cells m.cells 28 (0, 0)) ∧ Below w.heap.size w ((w.alloc (.cells #[.slice sp rs.length cap] 24)).alloc (.cells m.cells 28))) := ⟨g0, g1, b0⟩
  clear hr hk g0 g1 b0
  go_enter Tryz.func39, Tryz.ntmps39
  go_wp2_with (refine load_at (by rfl) 26 (.tmp 10) (by rfl) (w.heap.size + 1) 1 (by rfl) .u8 32 m.frm _ HC0.out Tryz.underlying26 rfl (by kernel_rfl) ?_)
  refine calls_gen (fun W1 => W1.heap[w.heap.size]? = some (.cells #[.slice sp rs.length cap] 24 (0, 0)) ∧ W1.heap[w.heap.size + 1]? = some (.cells m.cells 28 (0, 0)) ∧ Below w.heap.size w W1) HG.out ?_
  rintro W1 ⟨g0, g1, b1⟩
  have HW : Hid (∀ W, Below W1.heap.size W1 W → W.cell? ⟨w.heap.size, 0, none⟩ = some (.slice sp rs.length cap) ∧ (∀ i, i < 32 → W.cell? ⟨w.heap.size + 1, 1 + i, none⟩ = some (.int .u8 (m.frm i))) ∧ Below w.heap.size w W) := fun W h =>
    ⟨(cell_of_row _ _ _ _ _ _ ((h.block _ (lt_of_row g0)).trans g0)).trans rfl, fun i hi => (cell_of_row _ _ _ _ _ _ ((h.block _ (lt_of_row g1)).trans g1)).trans (m.cellF i hi), b1.trans (h.mono b1.size)⟩
  clear HC0 HG g0 g1 b1
  refine (xnone_any m.frm W1).mono ?_
  rintro e W2 ⟨rfl, b2⟩
  obtain ⟨c0, hcf, hb2⟩ := HW.out W2 b2
  have HCF : Hid (∀ i, i < 32 → W2.cell? ⟨w.heap.size + 1, 1 + i, none⟩ = some (.int .u8 (m.frm i))) := hcf
  clear hcf
  cases hn : noneB m.frm <;> cases t
  · have HE : Hid (movX rs m k false = 4) := by show _ = _; unfold movX; rw [hn]; rfl
    clear hn
    go_wp2
    go_ret
    exact ⟨by rw [HE.out]; rfl, hb2⟩
  · have HN : Hid (noneB m.frm = false) := hn
    have hkl := HK.out rfl
    clear hn
    go_wp2_with (refine load_at (by rfl) 26 (.tmp 19) (by rfl) (w.heap.size + 1) 1 (by rfl) .u8 32 m.frm _ HCF.out Tryz.underlying26 rfl (by kernel_rfl) ?_)
    refine (xnone_any m.frm W2).mono ?_
    rintro e W3 ⟨rfl, b3⟩
    rw [HN.out]
    have b13 : Below W1.heap.size W1 W3 := b2.trans (b3.mono b2.size)
    clear HCF c0 b3 hb2
    obtain ⟨c0, hcf, hb3⟩ := HW.out W3 b13
    obtain ⟨f, hf⟩ : ∃ f, rs[k]? = some f := ⟨_, List.getElem?_eq_getElem hkl⟩
    have HEV : Hid (∀ b, eqTo f.id m.frm 32 = b → movX rs m k true = if b then 0 else 191) := fun b hb => by
      unfold movX
      rw [HN.out, List.getD_eq_getElem?_getD, hf]
      show (if (true && !(eqTo f.id m.frm 32)) = true then (191 : Int) else 0) = _
      rw [hb]
      cases b <;> rfl
    have hrw := HR.out W3 hb3
    obtain ⟨b, off, rfl, -⟩ := hrw (by omega)
    have e1 : ∀ n, (loadVar 26 ⟨b, off + k * 33 + 1, none⟩).run Tryz.prog (W3.drewN n) = .ok (.agg (arr .u8 32 f.id)) (W3.drewN n) := fun n => run_mid (fun j u hu => by
      have hj : j < 32 := by have := (Array.getElem?_eq_some_iff.1 hu).1; rwa [arr_size] at this
      rw [arr_get hj] at hu
      have h1 := re_cells hrw hf (1 + j) _ (f.cellId j hj)
      rw [← Option.some.inj hu, Nat.add_assoc]
      exact h1) Tryz.underlying26 rfl (by rw [arr_size]; kernel_rfl)
    have e2 : ∀ n, (loadVar 26 ⟨w.heap.size + 1, 1, none⟩).run Tryz.prog (W3.drewN n) = .ok (.agg (arr .u8 32 m.frm)) (W3.drewN n) := fun n => run_mid (fun j u hu => by
      have hj : j < 32 := by have := (Array.getElem?_eq_some_iff.1 hu).1; rwa [arr_size] at this
      rw [arr_get hj] at hu
      rw [← Option.some.inj hu]
      exact hcf j hj) Tryz.underlying26 rfl (by rw [arr_size]; kernel_rfl)
    have heq : ∀ w, (Op.equalIn 10000 26 (.agg (arr .u8 32 f.id)) (.agg (arr .u8 32 m.frm))).run Tryz.prog w = .ok (eqTo f.id m.frm 32) w := equal_id f.id m.frm
    have hd1 : decide ((k : Int) < rs.length) = true := by simp; omega
    have HE1 : Hid _ := e1
    have HE2 : Hid _ := e2
    clear e1 e2 hcf hrw hf HW b13
    cases hb : eqTo f.id m.frm 32
    · have HF : Hid (movX rs m k true = 191) := HEV.out false hb
      rw [hb] at heq
      clear hb HEV
      go_wp2
      refine wp_region_quiet_lit (by kernel_rfl) (by kernel_rfl) ?_
      repeat (go_big_quiet_step (fail))
      refine quiet_loadg (.agg (arr .u8 32 f.id)) 26 (.tmp 32) ⟨b, off + k * 33 + 1, none⟩ (by rfl) (by rfl) (by rintro _ ⟨n, rfl⟩; exact HE1.out n) ?_
      simp only [List.setIfInBounds_toArray, List.set_cons_succ, List.set_cons_zero]
      repeat (go_big_quiet_step (fail))
      refine quiet_loadg (.agg (arr .u8 32 m.frm)) 26 (.tmp 34) ⟨w.heap.size + 1, 1, none⟩ (by rfl) (by rfl) (by rintro _ ⟨n, rfl⟩; exact HE2.out n) ?_
      simp only [List.setIfInBounds_toArray, List.set_cons_succ, List.set_cons_zero]
      repeat (go_big_quiet_step (fail))
      refine wpQuiet_nil ?_
      rintro _ ⟨nq, rfl⟩
      clear heq
      go_wp2
      go_ret
      exact ⟨by rw [HF.out]; rfl, hb3.trans ⟨rfl, rfl, rfl, Nat.le_refl _, fun _ _ => rfl⟩⟩
    · have HF : Hid (movX rs m k true = 0) := HEV.out true hb
      rw [hb] at heq
      clear hb HEV
      go_wp2
      refine wp_region_quiet_lit (by kernel_rfl) (by kernel_rfl) ?_
      repeat (go_big_quiet_step (fail))
      refine quiet_loadg (.agg (arr .u8 32 f.id)) 26 (.tmp 32) ⟨b, off + k * 33 + 1, none⟩ (by rfl) (by rfl) (by rintro _ ⟨n, rfl⟩; exact HE1.out n) ?_
      simp only [List.setIfInBounds_toArray, List.set_cons_succ, List.set_cons_zero]
      repeat (go_big_quiet_step (fail))
      refine quiet_loadg (.agg (arr .u8 32 m.frm)) 26 (.tmp 34) ⟨w.heap.size + 1, 1, none⟩ (by rfl) (by rfl) (by rintro _ ⟨n, rfl⟩; exact HE2.out n) ?_
      simp only [List.setIfInBounds_toArray, List.set_cons_succ, List.set_cons_zero]
      repeat (go_big_quiet_step (fail))
      refine wpQuiet_nil ?_
      rintro _ ⟨nq, rfl⟩
      clear heq
      go_wp2
      go_ret
      exact ⟨by rw [HF.out]; rfl, hb3.trans ⟨rfl, rfl, rfl, Nat.le_refl _, fun _ _ => rfl⟩⟩
  · have HN : Hid (noneB m.frm = true) := hn
    clear hn
    go_wp2_with (refine load_at (by rfl) 26 (.tmp 19) (by rfl) (w.heap.size + 1) 1 (by rfl) .u8 32 m.frm _ HCF.out Tryz.underlying26 rfl (by kernel_rfl) ?_)
    refine (xnone_any m.frm W2).mono ?_
    rintro e W3 ⟨rfl, b3⟩
    rw [HN.out]
    have b13 : Below W1.heap.size W1 W3 := b2.trans (b3.mono b2.size)
    clear HCF c0 b3 hb2
    obtain ⟨c0, hcf, hb3⟩ := HW.out W3 b13
    clear hcf b13
    by_cases h8 : rs.length = 8
    · have HE : Hid (movX rs m k false = 6) := by show _ = _; unfold movX; rw [HN.out, h8]; rfl
      have hd8 : ((rs.length : Int) == 8) = true := by rw [h8]; rfl
      clear h8
      go_wp2
      go_quiet (fail)
      go_wp2
      go_ret
      exact ⟨by rw [HE.out]; rfl, hb3.trans ⟨rfl, rfl, rfl, Nat.le_refl _, fun _ _ => rfl⟩⟩
    · have HE : Hid (movX rs m k false = 0) := by
        show _ = _
        unfold movX
        rw [HN.out, show (rs.length == 8) = false by simpa using h8]
        rfl
      have hd8 : ((rs.length : Int) == 8) = false := by simp; omega
      clear h8
      go_wp2
      go_quiet (fail)
      go_wp2
      go_ret
      exact ⟨by rw [HE.out]; rfl, hb3.trans ⟨rfl, rfl, rfl, Nat.le_refl _, fun _ _ => rfl⟩⟩
  · have HN : Hid (noneB m.frm = true) := hn
    have HE : Hid (movX rs m k true = 5) := by show _ = _; unfold movX; rw [hn]; rfl
    clear hn
    go_wp2_with (refine load_at (by rfl) 26 (.tmp 19) (by rfl) (w.heap.size + 1) 1 (by rfl) .u8 32 m.frm _ HCF.out Tryz.underlying26 rfl (by kernel_rfl) ?_)
    refine (xnone_any m.frm W2).mono ?_
    rintro e W3 ⟨rfl, b3⟩
    rw [HN.out]
    have b13 : Below W1.heap.size W1 W3 := b2.trans (b3.mono b2.size)
    clear HCF c0 b3 hb2
    obtain ⟨c0, hcf, hb3⟩ := HW.out W3 b13
    clear hcf b13
    go_wp2
    go_ret
    exact ⟨by rw [HE.out]; rfl, hb3⟩
end Go.Proofs.YtgfjjglejlnfbaaGreatDoor
