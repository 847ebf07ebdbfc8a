/- The contract of the document's Right. -/
import Derived.Test.YtnaoaeapffgojaaRRgL
namespace Go.Proofs.Ytnaoaeapffgojaa
open Go.RowKit


set_option maxRecDepth 100000 in
set_option maxHeartbeats 8000000 in
theorem rright_3 (o : Ob) (c : Co) (w : World) (ho : In w o c) (hsm : Sml o c) (hk : o.kind = 3) :
    Calls Try.prog 15 #[.agg o.cells] w fun e w' => e = .returned (.bool (rightB o c)) ∧ Below w.heap.size w w' := by
  obtain ⟨s1, k1, hob, -⟩ := ho.b
  obtain ⟨s2, k2, hoe, hrows, -⟩ := ho.e
  obtain ⟨s3, k3, hop, -⟩ := ho.p
  have HR : Hid _ := hrows
  have HN : Hid _ := hsm.names
  have a0 := o.cell0
  have a1 := o.cell1
  have a2 := o.cell2
  have a35 := o.cell35
  have a36 := o.cell36
  have a37 := o.cell37
  have HOB : Hid _ := hob
  have HOE : Hid _ := hoe
  have HOP : Hid _ := hop
  rw [hob] at a1
  rw [hoe] at a2
  rw [hop] at a35
  have hb1 := hsm.nb
  have hb2 := hsm.es
  have hb3 := hsm.ps
  have hb4 := hsm.note
  clear hob hoe hop hrows ho hsm
  have heq := equal_id o.tree (fun _ => 0)
  rw [hk] at a0
  by_cases hbz : c.nb = 0
  rotate_left
  · have d4 : decide (0 < (c.nb : Int)) = true := by simp; omega
    have d4e : (c.nb == 0) = false := by simpa using hbz
    go_enter Try.func15, Try.ntmps15
    go_wp2
    go_ret
    exact ⟨ret_bool (by rw [right_three hk, d4e]; rfl), ((Below.refl _ _).alloc (Nat.le_refl _) _).alloc (by simp) _⟩
  rw [hbz] at a1
  by_cases he : c.es.length = 0
  rotate_left
  · have d4 : decide (0 < (c.es.length : Int)) = true := by simp; omega
    have d4e : (c.es.length == 0) = false := by simpa using he
    go_enter Try.func15, Try.ntmps15
    go_wp2
    go_ret
    exact ⟨ret_bool (by rw [right_three hk, d4e]; simp), ((Below.refl _ _).alloc (Nat.le_refl _) _).alloc (by simp) _⟩
  rw [he] at a2
  go_enter Try.func15, Try.ntmps15
  go_wp2
  refine wp_gen (fun W1 => Below w.heap.size w W1 ∧ ObRow W1 w.heap.size 0 o) ⟨((Below.refl _ _).alloc (Nat.le_refl _) _).alloc (by simp) _, obRow (heap_alloc2_old _ _ _)⟩ ?_
  intro W1 ⟨fW, hrow⟩
  clear a0 a1 a2 a35 a36 a37 heq
  have HRW : Hid _ := hrow
  clear hrow
  go_loopw [4] (fun i wr => ∃ t : Nat, t ≤ c.es.length ∧ t ≤ 32 ∧ i = .int .i64 t ∧ Below W1.heap.size W1 wr ∧ namedFrom ⟨#[]⟩ (c.es.take t) = true) (fun i _ => c.es.length - (intOf i).toNat)
  case atStart => exact ⟨0, Nat.zero_le _, by omega, rfl, Below.refl _ _, rfl⟩
  case round =>
    obtain ⟨t, ht, ht2, rfl, hBr, hz⟩ := hrel
    have HZ : Hid _ := hz
    have hrr := HRW.out.below hBr
    have r1 : wr.cell? ⟨w.heap.size, 1, none⟩ = some (.slice s1 c.nb k1) := hrr.c1.trans (by rw [HOB.out])
    have r2 : wr.cell? ⟨w.heap.size, 2, none⟩ = some (.slice s2 c.es.length k2) := hrr.c2.trans (by rw [HOE.out])
    have r35 : wr.cell? ⟨w.heap.size, 35, none⟩ = some (.slice s3 c.ps.length k3) := hrr.c35.trans (by rw [HOP.out])
    have r37 : wr.cell? ⟨w.heap.size, 37, none⟩ = some (.string o.note) := hrr.c37
    clear hz hrr HRW
    by_cases hlt : t < c.es.length
    · omega
    · clear HR HN
      rw [hbz] at r1
      have e2 : decide ((c.ps.length : Int) ≤ 2) = decide (c.ps.length ≤ 2) := decide_eq_decide.2 (by omega)
      have e4 : decide ((o.note.size : Int) ≤ 200) = decide (o.note.size ≤ 200) := decide_eq_decide.2 (by omega)
      cases h2 : decide (c.ps.length ≤ 2) <;> cases h4 : decide (o.note.size ≤ 200) <;> (rw [h2] at e2; rw [h4] at e4; go_wp2; go_ret; refine ⟨ret_bool ?_, fW.trans (hBr.mono fW.size)⟩; rw [right_three hk, hbz, he, h2, h4]; rfl)
end Go.Proofs.Ytnaoaeapffgojaa
