/- The contract of the document's Bytes at a blob. -/
import Derived.Test.YtnaoaeapffgojaaDoorBotO
namespace Go.Proofs.YtnaoaeapffgojaaDoor
open Go.RowKit

theorem one_src {x : Int} (i : Nat) (hi : i < 1) : (fun _ => x : Nat → Int) i = [x].getD i 0 := by
  obtain rfl : i = 0 := by omega
  rfl
set_option maxRecDepth 100000 in
set_option maxHeartbeats 2000000 in
theorem rbytes_1 (o : Ob) (c : Co) (w : World) (ho : In w o c) (hsm : Small o c) (hk : o.kind = 1) :
    Calls Tryd.prog 13 #[.agg o.cells] w fun e w' => ∃ v, e = .returned v ∧ Own w' v (encB o c) ∧ Below w.heap.size w w' := by
  obtain ⟨s1, k1, hob, hsrc, -⟩ := ho.b
  have hb1 := hsm.nb
  have HENC : Hid (encB o c = [1] ++ (beBytes 2 c.nb ++ (List.range c.nb).map c.bf)) := show encB o c = [1] ++ (beBytes 2 c.nb ++ (List.range c.nb).map c.bf) by simp [encB, hk]
  have a0 := o.cell0
  rw [hk] at a0
  have HSRC : Hid (SrcAt w .u8 s1 c.nb c.bf) := hsrc
  have HOB : Hid _ := hob
  clear ho hsm hk hsrc hob
  go_enter Tryd.func13, Tryd.ntmps13
  go_wp2
  refine wp_gen (fun W1 => Below w.heap.size w W1 ∧ ObRow W1 w.heap.size 0 o ∧ SrcAt W1 .u8 (some ⟨w.heap.size + 1, 0, none⟩) 1 (fun _ => 1)) ⟨((Below.refl _ _).alloc (Nat.le_refl _) _).alloc (by simp) _, obRow (heap_alloc2_old _ _ _), srcAt_row (n := 1) (f := fun _ => 1) (heap_alloc2_new _ _ _) (Nat.le_refl _)⟩ ?_
  intro W1 ⟨f1, hrow, hs1⟩
  have r1 : W1.cell? ⟨w.heap.size, 1, none⟩ = some (.slice s1 c.nb k1) := hrow.c1.trans (by rw [HOB.out])
  have hltW : w.heap.size < W1.heap.size := block_lt_of_cell r1
  have hwu : IntKind.u64.wrap (c.nb : Int) = c.nb := by rw [IntKind.wrap_u64]; omega
  clear a0 hrow
  have hS0 : Below W1.heap.size W1 W1.drew := (Below.refl _ _).drew
  refine mv_begin (S := fun w' => Below W1.heap.size W1 w') 11 rfl (by kernel_rfl) ?_
  refine mv_rung 0 14 (.slice (some ⟨w.heap.size + 1, 0, none⟩) 1 1) rfl (by rfl) (by kernel_rfl) (by kernel_rfl) (by kernel_rfl) (fun _ _ _ h => h) (fun w' hw' => by first | rfl | go_simp) hS0 ?_
  simp only [List.setIfInBounds_toArray, List.set_cons_succ, List.set_cons_zero]
  refine mv_rung 1 15 (.pointer (some ⟨w.heap.size, 1, none⟩)) rfl (by rfl) (by kernel_rfl) (by kernel_rfl) (by kernel_rfl) (fun _ _ _ h => h) (fun w' hw' => by first | rfl | go_simp) hS0 ?_
  simp only [List.setIfInBounds_toArray, List.set_cons_succ, List.set_cons_zero]
  refine mv_rung 2 16 (.slice s1 c.nb k1) rfl (by rfl) (by kernel_rfl) (by kernel_rfl) (by kernel_rfl) (fun _ _ _ h => h) (fun w' hw' => by have q : w'.cell? ⟨w.heap.size, 1, none⟩ = some (.slice s1 c.nb k1) := (hw'.cell (p := ⟨w.heap.size, 1, none⟩) hltW).trans r1; first | rfl | go_simp) hS0 ?_
  simp only [List.setIfInBounds_toArray, List.set_cons_succ, List.set_cons_zero]
  refine mv_rung 3 17 (.int .i64 c.nb) rfl (by rfl) (by kernel_rfl) (by kernel_rfl) (by kernel_rfl) (fun _ _ _ h => h) (fun w' hw' => by first | rfl | go_simp) hS0 ?_
  simp only [List.setIfInBounds_toArray, List.set_cons_succ, List.set_cons_zero]
  refine mv_rung 4 18 (.int .u64 c.nb) rfl (by rfl) (by kernel_rfl) (by kernel_rfl) (by kernel_rfl) (fun _ _ _ h => h) (fun w' hw' => by first | rfl | go_simp) hS0 ?_
  simp only [List.setIfInBounds_toArray, List.set_cons_succ, List.set_cons_zero]
  refine mv_rung 6 20 (.pointer (some ⟨w.heap.size, 1, none⟩)) rfl (by rfl) (by kernel_rfl) (by kernel_rfl) (by kernel_rfl) (fun _ _ _ h => h) (fun w' hw' => by first | rfl | go_simp) hS0 ?_
  simp only [List.setIfInBounds_toArray, List.set_cons_succ, List.set_cons_zero]
  refine mv_rung 7 21 (.slice s1 c.nb k1) rfl (by rfl) (by kernel_rfl) (by kernel_rfl) (by kernel_rfl) (fun _ _ _ h => h) (fun w' hw' => by have q : w'.cell? ⟨w.heap.size, 1, none⟩ = some (.slice s1 c.nb k1) := (hw'.cell (p := ⟨w.heap.size, 1, none⟩) hltW).trans r1; first | rfl | go_simp) hS0 ?_
  simp only [List.setIfInBounds_toArray, List.set_cons_succ, List.set_cons_zero]
  refine mv_nextg 5 rfl (by rfl) (by kernel_rfl) ?_
  go_simp
  refine (high_own c.nb 2 W1.drew (by omega) (by omega) (by omega)).mono ?_
  rintro e wa ⟨rfl, hHa, hBa⟩
  have hSa : Below W1.heap.size W1 wa := hS0.trans hBa
  refine ⟨hSa, ?_⟩
  refine mv_nextg 8 rfl (by rfl) (by kernel_rfl) ?_
  go_simp
  have fa : Below w.heap.size w wa := f1.trans (hSa.mono f1.size)
  have hb := both_own (some ⟨W1.heap.size, 0, none⟩) s1 2 k1 (beBytes 2 c.nb) ((List.range c.nb).map c.bf) wa hHa (src_list (SrcAt.below HSRC.out fa)) (by rw [be_len]; omega) (by simp; omega)
  rw [be_len, List.length_map, List.length_range] at hb
  refine hb.mono ?_
  rintro e wb ⟨vb, rfl, hOb, -, hBb⟩
  clear hb
  have hSb : Below W1.heap.size W1 wb := hSa.trans (hBb.mono hSa.size)
  have hMl : (beBytes 2 c.nb ++ (List.range c.nb).map c.bf).length ≤ 100000 := by simp [be_len]; omega
  generalize hM : beBytes 2 c.nb ++ (List.range c.nb).map c.bf = M at hOb hMl
  have HM : Hid _ := hM
  clear hM
  obtain ⟨sb, cb, rfl, hsb⟩ := Own.src hOb
  refine ⟨hSb, ?_⟩
  refine mv_nextg 9 rfl (by rfl) (by kernel_rfl) ?_
  go_simp
  have hc := both_own (some ⟨w.heap.size + 1, 0, none⟩) sb 1 cb [1] M wb ((SrcAt.below hs1 hSb).congr (fun i hi => one_src i hi)) hsb (by simp) hMl
  refine hc.mono ?_
  rintro e wc ⟨vc, rfl, hOc, -, hBc⟩
  clear hc
  have hSc : Below W1.heap.size W1 wc := hSb.trans (hBc.mono hSb.size)
  refine ⟨hSc, ?_⟩
  refine mv_rung 10 2 (vc) rfl (by rfl) (by kernel_rfl) (by kernel_rfl) (by kernel_rfl) (fun _ _ _ h => h) (fun w' hw' => by first | rfl | go_simp) hSc ?_
  simp only [List.setIfInBounds_toArray, List.set_cons_succ, List.set_cons_zero]
  refine wpAnyH_done (by kernel_rfl) ?_ _
  have HO : Hid (Own wc vc (encB o c)) := by rw [HENC.out, HM.out]; exact hOc
  have fc : Below w.heap.size w wc := f1.trans (hSc.mono f1.size)
  clear hSa hSb hSc hBa hBb hBc hOb hOc hsb hHa hS0 r1 fa hwu
  go_wp2
  go_ret
  exact ⟨_, rfl, HO.out, fc⟩
end Go.Proofs.YtnaoaeapffgojaaDoor
