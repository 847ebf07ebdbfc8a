/- The contract of object.counted. -/
import Derived.Test.YtgfjjglejlnfbaaGreatDoorSameC
namespace Go.Proofs.YtgfjjglejlnfbaaGreatDoor
open Go.RowKit

/-- An object with those fields alone that count for its Kind. -/
def countedO (o : Ob) : Ob :=
  if o.kind = 1 then ⟨o.kind, o.bs, .slice none 0 0, fun _ => 0, .slice none 0 0, 0, ⟨#[]⟩⟩
  else if o.kind = 2 then ⟨o.kind, .slice none 0 0, o.es, fun _ => 0, .slice none 0 0, 0, ⟨#[]⟩⟩
  else if o.kind = 3 then ⟨o.kind, .slice none 0 0, .slice none 0 0, o.tree, o.ps, o.num, o.note⟩
  else ⟨o.kind, .slice none 0 0, .slice none 0 0, fun _ => 0, .slice none 0 0, 0, ⟨#[]⟩⟩

theorem zero_obj : (Tryz.prog.info? 65).bind (·.zero) = some (.agg (Ob.cells ⟨0, .slice none 0 0, .slice none 0 0, fun _ => 0, .slice none 0 0, 0, ⟨#[]⟩⟩)) := by kernel_rfl
theorem places_obj (w : World) : ((Tryz.prog.fieldsOf 65).mapM fun (f : Field) => (do pure (f.offset, ← sizeOf f.type) : Sem (Nat × Nat))).run Tryz.prog w = .ok #[(0, 1), (1, 1), (2, 1), (3, 32), (35, 1), (36, 1), (37, 1)] w := by
  kernel_rfl
theorem build_obj {parts : Array (Nat × Value)} {cs : Array Value} (h : Instr.fill ((#[(0, 1), (1, 1), (2, 1), (3, 32), (35, 1), (36, 1), (37, 1)] : Array (Nat × Nat))[·]?) (Ob.cells ⟨0, .slice none 0 0, .slice none 0 0, fun _ => 0, .slice none 0 0, 0, ⟨#[]⟩⟩) parts.toList = some cs) (w : World) :
    (Instr.build 65 parts).run Tryz.prog w = .ok (.agg cs) w := by
  have hz := zero_obj
  have hp := places_obj w
  have hu : Tryz.prog.underlying 65 = some (.struct (Tryz.prog.fieldsOf 65)) := by kernel_rfl
  cases hq : Tryz.prog.info? 65 with
  | none => simp [hq] at hz
  | some q =>
    have hq1 : q.zero = some (.agg (Ob.cells ⟨0, .slice none 0 0, .slice none 0 0, fun _ => 0, .slice none 0 0, 0, ⟨#[]⟩⟩)) := by simpa [hq] using hz
    have hzv : (zeroValue 65).run Tryz.prog w = .ok (.agg (Ob.cells ⟨0, .slice none 0 0, .slice none 0 0, fun _ => 0, .slice none 0 0, 0, ⟨#[]⟩⟩)) w := by simp [zeroValue, typeInfo, hq, hq1]
    unfold Instr.build
    simp only [Sem.run_bind, hzv, Result.andThen_ok, run_underlying hu, hp]
    have hc : (Value.agg (Ob.cells ⟨0, .slice none 0 0, .slice none 0 0, fun _ => 0, .slice none 0 0, 0, ⟨#[]⟩⟩)).cells = Ob.cells ⟨0, .slice none 0 0, .slice none 0 0, fun _ => 0, .slice none 0 0, 0, ⟨#[]⟩⟩ := rfl
    rw [hc, h]
    rfl
theorem build1 (k : Int) (sp : Option Addr) (n cap : Nat) (w : World) : (Instr.build 65 #[(0, .int .i64 k), (1, .slice sp n cap)]).run Tryz.prog w = .ok (.agg (Ob.cells ⟨k, .slice sp n cap, .slice none 0 0, fun _ => 0, .slice none 0 0, 0, ⟨#[]⟩⟩)) w := build_obj (by kernel_rfl) w
theorem build2 (k : Int) (sp : Option Addr) (n cap : Nat) (w : World) : (Instr.build 65 #[(0, .int .i64 k), (2, .slice sp n cap)]).run Tryz.prog w = .ok (.agg (Ob.cells ⟨k, .slice none 0 0, .slice sp n cap, fun _ => 0, .slice none 0 0, 0, ⟨#[]⟩⟩)) w := build_obj (by kernel_rfl) w
theorem build3 (k : Int) (f : Nat → Int) (sp : Option Addr) (n cap : Nat) (x : Int) (s : ByteArray) (w : World) : (Instr.build 65 #[(0, .int .i64 k), (3, .agg (arr .u8 32 f)), (4, .slice sp n cap), (5, .int .u32 x), (6, .string s)]).run Tryz.prog w = .ok (.agg (Ob.cells ⟨k, .slice none 0 0, .slice none 0 0, f, .slice sp n cap, x, s⟩)) w := build_obj (by kernel_rfl) w
theorem build0 (k : Int) (w : World) : (Instr.build 65 #[(0, .int .i64 k)]).run Tryz.prog w = .ok (.agg (Ob.cells ⟨k, .slice none 0 0, .slice none 0 0, fun _ => 0, .slice none 0 0, 0, ⟨#[]⟩⟩)) w := build_obj (by kernel_rfl) w
theorem buildz (w : World) : (Instr.build 65 #[]).run Tryz.prog w = .ok (.agg (Ob.cells ⟨0, .slice none 0 0, .slice none 0 0, fun _ => 0, .slice none 0 0, 0, ⟨#[]⟩⟩)) w := build_obj (by kernel_rfl) w

theorem ob_one (o : Ob) (h1 : o.bs.oneCell' = true) (h2 : o.es.oneCell' = true) (h3 : o.ps.oneCell' = true) : o.cells.all (·.oneCell') = true := by
  have e : o.cells.all (·.oneCell') = (#[Value.int .i64 o.kind, o.bs, o.es].all (·.oneCell') && (arr .u8 32 o.tree).all (·.oneCell') && #[o.ps, .int .u32 o.num, .string o.note].all (·.oneCell')) := by
    simp only [Ob.cells, Array.all_append]
  rw [e, arr_one]
  have e1 : #[Value.int .i64 o.kind, o.bs, o.es].all (·.oneCell') = true := by
    rw [Array.all_eq_true_iff_forall_mem]
    intro v hv
    have hv' : v = .int .i64 o.kind ∨ v = o.bs ∨ v = o.es := by simpa using hv
    rcases hv' with rfl | rfl | rfl
    · rfl
    · exact h1
    · exact h2
  have e2 : #[o.ps, .int .u32 o.num, .string o.note].all (·.oneCell') = true := by
    rw [Array.all_eq_true_iff_forall_mem]
    intro v hv
    have hv' : v = o.ps ∨ v = .int .u32 o.num ∨ v = .string o.note := by simpa using hv
    rcases hv' with rfl | rfl | rfl
    · exact h3
    · rfl
    · rfl
  rw [e1, e2]
  rfl

/-- A struct is built. -/
theorem wpList_build {P : Program} {ops : Array Oper} {Q : Exit → Act → World → Prop} {a : Act} {w : World} {rest : List Oper} {o : Oper} (hgd : o.guard = none) (ty : TypeId) (ps : List (Nat × Operand)) (ho : o.op = .build ty ps.toArray)
    (vs : List (Nat × Value)) (hv : (ps.map fun (i, x) => (i, a.eval x)) = vs) (v : Value) (hr : (Instr.build ty vs.toArray).run P w = .ok v w) (h : wpList P ops Q rest (a.put o.dst v) w) : wpList P ops Q (o :: rest) a w :=
  wpList_plain hgd fun _ hK => by
    unfold Oper.wp execOp
    simp only [ho, List.map_toArray, hv, Sem.run_bind, Sem.run_pure, Result.andThen_ok, hr]
    exact hK _ _ h

set_option maxRecDepth 100000 in
set_option maxHeartbeats 1000000 in
theorem counted_any (o : Ob) (c : Co) (w : World) (ho : Has w o c) :
    Calls Tryz.prog 106 #[.agg o.cells] w fun e w' => e = .returned (.agg (countedO o).cells) ∧ Below w.heap.size w w' := by
  obtain ⟨s1, k1, hob, -⟩ := ho.b
  obtain ⟨s2, k2, hoe, -⟩ := ho.e
  obtain ⟨s3, k3, hop, -⟩ := ho.p
  clear ho
  have a0 := o.cell0
  by_cases h1 : o.kind = 1
  · have a1 := o.cell1
    rw [hob] at a1
    rw [h1] at a0
    have he : countedO o = ⟨1, .slice s1 c.nb k1, .slice none 0 0, fun _ => 0, .slice none 0 0, 0, ⟨#[]⟩⟩ := by unfold countedO; rw [if_pos h1, h1, hob]
    rw [he]
    have hb := build1 1 s1 c.nb k1
    have hone := ob_one ⟨1, .slice s1 c.nb k1, .slice none 0 0, fun _ => 0, .slice none 0 0, 0, ⟨#[]⟩⟩ rfl rfl rfl
    have hsz := Ob.size ⟨1, .slice s1 c.nb k1, .slice none 0 0, fun _ => 0, .slice none 0 0, 0, ⟨#[]⟩⟩
    clear he hob hoe hop
    generalize Ob.cells ⟨1, .slice s1 c.nb k1, .slice none 0 0, fun _ => 0, .slice none 0 0, 0, ⟨#[]⟩⟩ = X at hb hone hsz ⊢
    have HB : Hid _ := hb
    have HO : Hid _ := hone
    have HS : Hid _ := hsz
    clear hone hsz hb
    go_enter Tryz.func106, Tryz.ntmps106
    go_wp2_with (first
      | (refine wpList_build (by rfl) 65 _ (by rfl) [(0, .int .i64 1), (1, .slice s1 c.nb k1)] (by rfl) (.agg X) (HB.out _) ?_)
      | (refine wpList_store_row (by rfl) 65 (.tmp 2) (.tmp 11) (by rfl) (w.heap.size + 1) X (by rfl) (by rfl) 65 _ (heap_alloc2_new _ _ _) (by rw [HS.out]; kernel_rfl) (by rw [HS.out]; rfl) HO.out ?_))
    refine bodyPost_ret (v := .agg X) ?_ rfl ⟨rfl, ?_⟩
    · exact results_cell_row Tryz.results106 _ _ (w.heap.size + 1) 65 X (0, 0) _ rfl (heap_setRow_same (heap_alloc2_new _ _ _)) Tryz.underlying65 rfl (by rw [HS.out]; kernel_rfl)
    · exact below_setRow' (((Below.refl _ _).alloc (Nat.le_refl _) _).alloc (by simp) _) (by omega) _
  by_cases h2 : o.kind = 2
  · have a1 := o.cell2
    rw [hoe] at a1
    rw [h2] at a0
    have he : countedO o = ⟨2, .slice none 0 0, .slice s2 c.es.length k2, fun _ => 0, .slice none 0 0, 0, ⟨#[]⟩⟩ := by unfold countedO; rw [if_neg h1, if_pos h2, h2, hoe]
    rw [he]
    have hb := build2 2 s2 c.es.length k2
    have hone := ob_one ⟨2, .slice none 0 0, .slice s2 c.es.length k2, fun _ => 0, .slice none 0 0, 0, ⟨#[]⟩⟩ rfl rfl rfl
    have hsz := Ob.size ⟨2, .slice none 0 0, .slice s2 c.es.length k2, fun _ => 0, .slice none 0 0, 0, ⟨#[]⟩⟩
    clear he hob hoe hop
    generalize Ob.cells ⟨2, .slice none 0 0, .slice s2 c.es.length k2, fun _ => 0, .slice none 0 0, 0, ⟨#[]⟩⟩ = X at hb hone hsz ⊢
    have HB : Hid _ := hb
    have HO : Hid _ := hone
    have HS : Hid _ := hsz
    clear hone hsz hb
    go_enter Tryz.func106, Tryz.ntmps106
    go_wp2_with (first
      | (refine wpList_build (by rfl) 65 _ (by rfl) [(0, .int .i64 2), (2, .slice s2 c.es.length k2)] (by rfl) (.agg X) (HB.out _) ?_)
      | (refine wpList_store_row (by rfl) 65 (.tmp 2) (.tmp 18) (by rfl) (w.heap.size + 1) X (by rfl) (by rfl) 65 _ (heap_alloc2_new _ _ _) (by rw [HS.out]; kernel_rfl) (by rw [HS.out]; rfl) HO.out ?_))
    refine bodyPost_ret (v := .agg X) ?_ rfl ⟨rfl, ?_⟩
    · exact results_cell_row Tryz.results106 _ _ (w.heap.size + 1) 65 X (0, 0) _ rfl (heap_setRow_same (heap_alloc2_new _ _ _)) Tryz.underlying65 rfl (by rw [HS.out]; kernel_rfl)
    · exact below_setRow' (((Below.refl _ _).alloc (Nat.le_refl _) _).alloc (by simp) _) (by omega) _
  by_cases h3 : o.kind = 3
  · have a4 := o.cell35
    rw [hop] at a4
    have a5 := o.cell36
    have a6 := o.cell37
    rw [h3] at a0
    have he : countedO o = ⟨3, .slice none 0 0, .slice none 0 0, o.tree, .slice s3 c.ps.length k3, o.num, o.note⟩ := by unfold countedO; rw [if_neg h1, if_neg h2, if_pos h3, h3, hop]
    rw [he]
    have hb := build3 3 o.tree s3 c.ps.length k3 o.num o.note
    have hone := ob_one ⟨3, .slice none 0 0, .slice none 0 0, o.tree, .slice s3 c.ps.length k3, o.num, o.note⟩ rfl rfl rfl
    have hsz := Ob.size ⟨3, .slice none 0 0, .slice none 0 0, o.tree, .slice s3 c.ps.length k3, o.num, o.note⟩
    clear he hob hoe hop
    generalize Ob.cells ⟨3, .slice none 0 0, .slice none 0 0, o.tree, .slice s3 c.ps.length k3, o.num, o.note⟩ = X at hb hone hsz ⊢
    have HB : Hid _ := hb
    have HO : Hid _ := hone
    have HS : Hid _ := hsz
    clear hone hsz hb
    go_enter Tryz.func106, Tryz.ntmps106
    go_wp2_with (first
      | (refine wpList_build (by rfl) 65 _ (by rfl) [(0, .int .i64 3), (3, .agg (arr .u8 32 o.tree)), (4, .slice s3 c.ps.length k3), (5, .int .u32 o.num), (6, .string o.note)] (by rfl) (.agg X) (HB.out _) ?_)
      | (refine wpList_store_row (by rfl) 65 (.tmp 2) (.tmp 31) (by rfl) (w.heap.size + 1) X (by rfl) (by rfl) 65 _ (heap_alloc2_new _ _ _) (by rw [HS.out]; kernel_rfl) (by rw [HS.out]; rfl) HO.out ?_)
      | (refine load_at (by rfl) 26 (.tmp 23) (by rfl) w.heap.size 3 (by rfl) .u8 32 o.tree _ (obRow (heap_alloc2_old _ _ _)).tree Tryz.underlying26 rfl (by kernel_rfl) ?_))
    refine bodyPost_ret (v := .agg X) ?_ rfl ⟨rfl, ?_⟩
    · exact results_cell_row Tryz.results106 _ _ (w.heap.size + 1) 65 X (0, 0) _ rfl (heap_setRow_same (heap_alloc2_new _ _ _)) Tryz.underlying65 rfl (by rw [HS.out]; kernel_rfl)
    · exact below_setRow' (((Below.refl _ _).alloc (Nat.le_refl _) _).alloc (by simp) _) (by omega) _
  · have e1 : (o.kind == 1) = false := by simpa using h1
    have e2 : (o.kind == 2) = false := by simpa using h2
    have e3 : (o.kind == 3) = false := by simpa using h3
    have he : countedO o = ⟨o.kind, .slice none 0 0, .slice none 0 0, fun _ => 0, .slice none 0 0, 0, ⟨#[]⟩⟩ := by unfold countedO; rw [if_neg h1, if_neg h2, if_neg h3]
    rw [he]
    have hb := build0 o.kind
    have hone := ob_one ⟨o.kind, .slice none 0 0, .slice none 0 0, fun _ => 0, .slice none 0 0, 0, ⟨#[]⟩⟩ rfl rfl rfl
    have hsz := Ob.size ⟨o.kind, .slice none 0 0, .slice none 0 0, fun _ => 0, .slice none 0 0, 0, ⟨#[]⟩⟩
    clear he hob hoe hop
    generalize Ob.cells ⟨o.kind, .slice none 0 0, .slice none 0 0, fun _ => 0, .slice none 0 0, 0, ⟨#[]⟩⟩ = X at hb hone hsz ⊢
    have HB : Hid _ := hb
    have HO : Hid _ := hone
    have HS : Hid _ := hsz
    clear hone hsz hb
    go_enter Tryz.func106, Tryz.ntmps106
    go_wp2_with (first
      | (refine wpList_build (by rfl) 65 _ (by rfl) [(0, .int .i64 o.kind)] (by rfl) (.agg X) (HB.out _) ?_)
      | (refine wpList_store_row (by rfl) 65 (.tmp 2) (.tmp 34) (by rfl) (w.heap.size + 1) X (by rfl) (by rfl) 65 _ (heap_alloc2_new _ _ _) (by rw [HS.out]; kernel_rfl) (by rw [HS.out]; rfl) HO.out ?_))
    refine bodyPost_ret (v := .agg X) ?_ rfl ⟨rfl, ?_⟩
    · exact results_cell_row Tryz.results106 _ _ (w.heap.size + 1) 65 X (0, 0) _ rfl (heap_setRow_same (heap_alloc2_new _ _ _)) Tryz.underlying65 rfl (by rw [HS.out]; kernel_rfl)
    · exact below_setRow' (((Below.refl _ _).alloc (Nat.le_refl _) _).alloc (by simp) _) (by omega) _
end Go.Proofs.YtgfjjglejlnfbaaGreatDoor
