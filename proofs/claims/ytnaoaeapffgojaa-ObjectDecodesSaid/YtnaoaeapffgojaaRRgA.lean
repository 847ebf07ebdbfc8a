/- The contract of the document's Right. -/
import Derived.Test.YtnaoaeapffgojaaRRgL
namespace Go.Proofs.Ytnaoaeapffgojaa
open Go.RowKit


set_option maxRecDepth 100000 in
set_option maxHeartbeats 8000000 in
theorem rright_lo (o : Ob) (c : Co) (w : World) (ho : In w o c) (hsm : Sml o c) (hlo : o.kind < 1) :
    Calls Try.prog 15 #[.agg o.cells] w fun e w' => e = .returned (.bool (rightB o c)) ∧ Below w.heap.size w w' := by
  obtain ⟨s1, k1, hob, -⟩ := ho.b
  obtain ⟨s2, k2, hoe, hrows, -⟩ := ho.e
  obtain ⟨s3, k3, hop, -⟩ := ho.p
  have HR : Hid _ := hrows
  have HN : Hid _ := hsm.names
  have a0 := o.cell0
  have a1 := o.cell1
  have a2 := o.cell2
  have a35 := o.cell35
  have a36 := o.cell36
  have a37 := o.cell37
  have HOB : Hid _ := hob
  have HOE : Hid _ := hoe
  have HOP : Hid _ := hop
  rw [hob] at a1
  rw [hoe] at a2
  rw [hop] at a35
  have hb1 := hsm.nb
  have hb2 := hsm.es
  have hb3 := hsm.ps
  have hb4 := hsm.note
  clear hob hoe hop hrows ho hsm
  have heq := equal_id o.tree (fun _ => 0)
  have d1 : decide (o.kind < 1) = true := by simpa using hlo
  go_enter Try.func15, Try.ntmps15
  go_wp2
  go_ret
  exact ⟨ret_bool (by rw [right_none (by omega)]), ((Below.refl _ _).alloc (Nat.le_refl _) _).alloc (by simp) _⟩

set_option maxRecDepth 100000 in
set_option maxHeartbeats 8000000 in
theorem rright_hi (o : Ob) (c : Co) (w : World) (ho : In w o c) (hsm : Sml o c) (hhi : 3 < o.kind) :
    Calls Try.prog 15 #[.agg o.cells] w fun e w' => e = .returned (.bool (rightB o c)) ∧ Below w.heap.size w w' := by
  obtain ⟨s1, k1, hob, -⟩ := ho.b
  obtain ⟨s2, k2, hoe, hrows, -⟩ := ho.e
  obtain ⟨s3, k3, hop, -⟩ := ho.p
  have HR : Hid _ := hrows
  have HN : Hid _ := hsm.names
  have a0 := o.cell0
  have a1 := o.cell1
  have a2 := o.cell2
  have a35 := o.cell35
  have a36 := o.cell36
  have a37 := o.cell37
  have HOB : Hid _ := hob
  have HOE : Hid _ := hoe
  have HOP : Hid _ := hop
  rw [hob] at a1
  rw [hoe] at a2
  rw [hop] at a35
  have hb1 := hsm.nb
  have hb2 := hsm.es
  have hb3 := hsm.ps
  have hb4 := hsm.note
  clear hob hoe hop hrows ho hsm
  have heq := equal_id o.tree (fun _ => 0)
  have d1 : decide (o.kind < 1) = false := by simp; omega
  have d2 : decide (3 < o.kind) = true := by simpa using hhi
  go_enter Try.func15, Try.ntmps15
  go_wp2
  go_ret
  exact ⟨ret_bool (by rw [right_none (by omega)]), ((Below.refl _ _).alloc (Nat.le_refl _) _).alloc (by simp) _⟩

set_option maxRecDepth 100000 in
set_option maxHeartbeats 8000000 in
theorem rright_1 (o : Ob) (c : Co) (w : World) (ho : In w o c) (hsm : Sml o c) (hk : o.kind = 1) :
    Calls Try.prog 15 #[.agg o.cells] w fun e w' => e = .returned (.bool (rightB o c)) ∧ Below w.heap.size w w' := by
  obtain ⟨s1, k1, hob, -⟩ := ho.b
  obtain ⟨s2, k2, hoe, hrows, -⟩ := ho.e
  obtain ⟨s3, k3, hop, -⟩ := ho.p
  have HR : Hid _ := hrows
  have HN : Hid _ := hsm.names
  have a0 := o.cell0
  have a1 := o.cell1
  have a2 := o.cell2
  have a35 := o.cell35
  have a36 := o.cell36
  have a37 := o.cell37
  have HOB : Hid _ := hob
  have HOE : Hid _ := hoe
  have HOP : Hid _ := hop
  rw [hob] at a1
  rw [hoe] at a2
  rw [hop] at a35
  have hb1 := hsm.nb
  have hb2 := hsm.es
  have hb3 := hsm.ps
  have hb4 := hsm.note
  clear hob hoe hop hrows ho hsm
  have heq := equal_id o.tree (fun _ => 0)
  rw [hk] at a0
  by_cases he : c.es.length = 0
  rotate_left
  · have d4 : decide (0 < (c.es.length : Int)) = true := by simp; omega
    have d4e : (c.es.length == 0) = false := by simpa using he
    go_enter Try.func15, Try.ntmps15
    go_wp2
    go_ret
    exact ⟨ret_bool (by rw [right_one hk, d4e]; rfl), ((Below.refl _ _).alloc (Nat.le_refl _) _).alloc (by simp) _⟩
  rw [he] at a2
  cases htr : eqTo o.tree (fun _ => 0) 32 with
  | false =>
    rw [htr] at heq
    go_enter Try.func15, Try.ntmps15
    go_wp2_with (first | (refine load_atg2 26 (.tmp 38) (by rfl) (by rfl) w.heap.size 3 (by rfl) .u8 32 o.tree _ (obRow (heap_alloc2_old _ _ _)).tree Try.underlying26 rfl (by kernel_rfl) ?_) | (refine load_rowg2 26 (.tmp 3) (by rfl) (by rfl) (w.heap.size + 1) (by rfl) 26 (arr .u8 32 fun _ => 0) (0, 0) _ ((heap_alloc2_new _ _ _).trans rfl) Try.underlying26 rfl (by rw [arr_size]; kernel_rfl) ?_))
    go_ret
    exact ⟨ret_bool (by rw [right_one hk, restB, htr]; simp), ((Below.refl _ _).alloc (Nat.le_refl _) _).alloc (by simp) _⟩
  | true =>
    rw [htr] at heq
    by_cases hp : c.ps.length = 0
    rotate_left
    · have d5 : decide (0 < (c.ps.length : Int)) = true := by simp; omega
      have d5e : (c.ps.length == 0) = false := by simpa using hp
      go_enter Try.func15, Try.ntmps15
      go_wp2_with (first | (refine load_atg2 26 (.tmp 38) (by rfl) (by rfl) w.heap.size 3 (by rfl) .u8 32 o.tree _ (obRow (heap_alloc2_old _ _ _)).tree Try.underlying26 rfl (by kernel_rfl) ?_) | (refine load_rowg2 26 (.tmp 3) (by rfl) (by rfl) (w.heap.size + 1) (by rfl) 26 (arr .u8 32 fun _ => 0) (0, 0) _ ((heap_alloc2_new _ _ _).trans rfl) Try.underlying26 rfl (by rw [arr_size]; kernel_rfl) ?_))
      go_ret
      exact ⟨ret_bool (by rw [right_one hk, restB, d5e]; simp), ((Below.refl _ _).alloc (Nat.le_refl _) _).alloc (by simp) _⟩
    rw [hp] at a35
    by_cases hn : o.num = 0
    rotate_left
    · have d6 : (o.num != 0) = true := by simpa using hn
      have d6e : (o.num == 0) = false := by simpa using hn
      go_enter Try.func15, Try.ntmps15
      go_wp2_with (first | (refine load_atg2 26 (.tmp 38) (by rfl) (by rfl) w.heap.size 3 (by rfl) .u8 32 o.tree _ (obRow (heap_alloc2_old _ _ _)).tree Try.underlying26 rfl (by kernel_rfl) ?_) | (refine load_rowg2 26 (.tmp 3) (by rfl) (by rfl) (w.heap.size + 1) (by rfl) 26 (arr .u8 32 fun _ => 0) (0, 0) _ ((heap_alloc2_new _ _ _).trans rfl) Try.underlying26 rfl (by rw [arr_size]; kernel_rfl) ?_))
      go_ret
      exact ⟨ret_bool (by rw [right_one hk, restB, d6e]; simp), ((Below.refl _ _).alloc (Nat.le_refl _) _).alloc (by simp) _⟩
    rw [hn] at a36
    cases hnt : (o.note.toList == []) with
    | false =>
      go_enter Try.func15, Try.ntmps15
      go_wp2_with (first | (refine load_atg2 26 (.tmp 38) (by rfl) (by rfl) w.heap.size 3 (by rfl) .u8 32 o.tree _ (obRow (heap_alloc2_old _ _ _)).tree Try.underlying26 rfl (by kernel_rfl) ?_) | (refine load_rowg2 26 (.tmp 3) (by rfl) (by rfl) (w.heap.size + 1) (by rfl) 26 (arr .u8 32 fun _ => 0) (0, 0) _ ((heap_alloc2_new _ _ _).trans rfl) Try.underlying26 rfl (by rw [arr_size]; kernel_rfl) ?_))
      go_ret
      exact ⟨ret_bool (by rw [right_one hk, restB, hnt]; simp), ((Below.refl _ _).alloc (Nat.le_refl _) _).alloc (by simp) _⟩
    | true =>
      have hn0 : o.note.size = 0 := note_nil (by simpa using hnt)
      have hrest : restB o c = true := by rw [restB, htr, hp, hn, hnt]; rfl
      go_enter Try.func15, Try.ntmps15
      go_wp2_with (first | (refine load_atg2 26 (.tmp 38) (by rfl) (by rfl) w.heap.size 3 (by rfl) .u8 32 o.tree _ (obRow (heap_alloc2_old _ _ _)).tree Try.underlying26 rfl (by kernel_rfl) ?_) | (refine load_rowg2 26 (.tmp 3) (by rfl) (by rfl) (w.heap.size + 1) (by rfl) 26 (arr .u8 32 fun _ => 0) (0, 0) _ ((heap_alloc2_new _ _ _).trans rfl) Try.underlying26 rfl (by rw [arr_size]; kernel_rfl) ?_))
      refine wp_gen (fun W1 => Below w.heap.size w W1 ∧ ObRow W1 w.heap.size 0 o) ⟨((Below.refl _ _).alloc (Nat.le_refl _) _).alloc (by simp) _, obRow (heap_alloc2_old _ _ _)⟩ ?_
      intro W1 ⟨fW, hrow⟩
      clear a0 a1 a2 a35 a36 a37 heq
      have HRW : Hid _ := hrow
      clear hrow
      go_loopw [4] (fun i wr => ∃ t : Nat, t ≤ c.es.length ∧ t ≤ 32 ∧ i = .int .i64 t ∧ Below W1.heap.size W1 wr ∧ namedFrom ⟨#[]⟩ (c.es.take t) = true) (fun i _ => c.es.length - (intOf i).toNat)
      case atStart => exact ⟨0, Nat.zero_le _, by omega, rfl, Below.refl _ _, rfl⟩
      case round =>
        obtain ⟨t, ht, ht2, rfl, hBr, hz⟩ := hrel
        have HZ : Hid _ := hz
        have hrr := HRW.out.below hBr
        have r1 : wr.cell? ⟨w.heap.size, 1, none⟩ = some (.slice s1 c.nb k1) := hrr.c1.trans (by rw [HOB.out])
        have r2 : wr.cell? ⟨w.heap.size, 2, none⟩ = some (.slice s2 c.es.length k2) := hrr.c2.trans (by rw [HOE.out])
        have r35 : wr.cell? ⟨w.heap.size, 35, none⟩ = some (.slice s3 c.ps.length k3) := hrr.c35.trans (by rw [HOP.out])
        have r37 : wr.cell? ⟨w.heap.size, 37, none⟩ = some (.string o.note) := hrr.c37
        clear hz hrr HRW
        by_cases hlt : t < c.es.length
        · omega
        · clear HR HN
          rw [hp] at r35
          have e4 : decide ((o.note.size : Int) ≤ 200) = true := by simp; omega
          have e1 : decide ((c.nb : Int) ≤ 4096) = decide (c.nb ≤ 4096) := decide_eq_decide.2 (by omega)
          cases h1 : decide (c.nb ≤ 4096) <;> (rw [h1] at e1; go_wp2; go_ret; refine ⟨ret_bool ?_, fW.trans (hBr.mono fW.size)⟩; rw [right_one hk, he, hrest, h1]; rfl)
end Go.Proofs.Ytnaoaeapffgojaa
