/- The contract of the document's Bytes at a tree. -/
import Derived.Test.YtnaoaeapffgojaaDoorRByC
namespace Go.Proofs.YtnaoaeapffgojaaDoor
open Go.RowKit

/-- The same, beside an entry's row. -/
structure GE (o : Ob) (x : Ent) (w W : World) (e : Nat) (v : Value) (L : List Int) : Prop where
  g : G o w W v L
  row : W.heap[e]? = some (.cells x.cells 49 (0, 0))
  ne : v.ownBlock ≠ some e
theorem GE.c0 {o : Ob} {x : Ent} {w W : World} {e : Nat} {v : Value} {L : List Int} (h : GE o x w W e v L) : W.cell? ⟨e, 0, none⟩ = some (.string x.name) := (cell_of_row _ _ _ _ _ _ h.row).trans x.cell0
theorem GE.fresh {o : Ob} {x : Ent} {w W W' : World} {e : Nat} {v v' : Value} {L L' : List Int} (h : GE o x w W e v L) (hb : Below W.heap.size W W') (hO : Own W' v' L') (hk : ∀ k, v'.ownBlock = some k → W.heap.size ≤ k) : GE o x w W' e v' L' :=
  ⟨h.g.fresh hb hO hk, (hb.block _ (lt_of_row h.row)).trans h.row, fun q => by have := hk _ q; have := lt_of_row h.row; omega⟩
theorem GE.step {o : Ob} {x : Ent} {w W W' : World} {e : Nat} {v v' : Value} {L L' : List Int} (h : GE o x w W e v L) (hs : Step W v W' v') (hO : Own W' v' L') : GE o x w W' e v' L' := by
  refine ⟨h.g.step hs hO, (hs.keep (lt_of_row h.row) h.ne).trans h.row, fun q => ?_⟩
  rcases hs.block with r | ⟨k, r, hk⟩
  · rw [r] at q; exact h.ne q
  · rw [r] at q; injection q with q; have := lt_of_row h.row; omega
theorem GE.keep {o : Ob} {x : Ent} {w W W' : World} {e : Nat} {v : Value} {L : List Int} (h : GE o x w W e v L) (hb : Below W.heap.size W W') : GE o x w W' e v L :=
  ⟨⟨h.g.b.trans (hb.mono (Nat.le_of_lt h.g.lt)), h.g.r.below hb, Own.below h.g.own hb, h.g.blk⟩, (hb.block _ (lt_of_row h.row)).trans h.row, h.ne⟩

set_option maxRecDepth 100000 in
set_option maxHeartbeats 2000000 in
theorem rbytes_2 (o : Ob) (c : Co) (w : World) (ho : In w o c) (hk : o.kind = 2) (hr : rightB o c = true) :
    Calls Tryd.prog 13 #[.agg o.cells] w fun e w' => ∃ v, e = .returned v ∧ Own w' v (encB o c) ∧ Below w.heap.size w w' := by
  obtain ⟨s2, k2, hoe, hrows, -⟩ := ho.e
  obtain ⟨⟨hes, hnm⟩, -⟩ := right_tree hr hk
  have hsz : ∀ e ∈ c.es, e.name.size ≤ 24 := fun e he => name_size (named_names _ _ hnm e he)
  have HENC : Hid (encB o c = ([2] ++ [(c.es.length : Int)]) ++ c.es.flatMap entBytes) := show encB o c = ([2] ++ [(c.es.length : Int)]) ++ c.es.flatMap entBytes by simp [encB, hk]
  have a0 := o.cell0
  have a2 := o.cell2
  rw [hk] at a0
  rw [hoe] at a2
  have HROWS : Hid _ := hrows
  have HOE : Hid _ := hoe
  have HSZ : Hid _ := hsz
  have hwp : IntKind.u8.wrap (c.es.length : Int) = c.es.length := by rw [IntKind.wrap_u8]; omega
  have HG0 : Hid (G o w ((w.alloc (.cells o.cells 29)).alloc (.cells #[.int .u8 2] 5)) (.slice (some ⟨w.heap.size + 1, 0, none⟩) 1 1) [2]) := ⟨((Below.refl _ _).alloc (Nat.le_refl _) _).alloc (by simp) _, obRow (heap_alloc2_old _ _ _), own_row (n := 1) (f := fun _ => 2) (heap_alloc2_new _ _ _) (by omega), fun k hk => by have := own_block hk; omega⟩
  clear ho hk hr hoe hrows hsz hnm
  go_enter Tryd.func13, Tryd.ntmps13
  go_wp2_with (at_builtin; refine own_append (by rfl) (.tmp 27) (.tmp 32) (by rfl) (.slice (some ⟨w.heap.size + 1, 0, none⟩) 1 1) [2] (by rfl) (Own.below HG0.out.own ((Below.refl _ _).alloc (Nat.le_refl _) _)) (some ⟨w.heap.size + 1 + 1, 0, none⟩) 1 1 _ (by rfl) (by simp) (srcAt_one' (by simp)) (by simp) ?_; intro v3 w3 hO3 hS3; have hG3 : G o w w3 v3 ([2] ++ [(c.es.length : Int)]) := HG0.out.step (Step.trans (Step.alloc _) hS3) hO3; have HG3 : Hid _ := hG3; have r2 : w3.cell? ⟨w.heap.size, 2, none⟩ = some (.slice s2 c.es.length k2) := hG3.r.c2.trans (by rw [HOE.out]); clear hO3 hS3 hG3 a0 a2)
  generalize hL3 : [2] ++ [(c.es.length : Int)] = L3 at HG3 HENC
  have hl3 : L3.length = 2 := by rw [← hL3]; rfl
  clear hL3 r2 HG0
  go_loopw [3, 4] (fun v i wr => ∃ t : Nat, t ≤ c.es.length ∧ i = .int .i64 t ∧ G o w wr v (L3 ++ (c.es.take t).flatMap entBytes)) (fun _ i _ => c.es.length - (intOf i).toNat)
  case atStart => exact ⟨0, Nat.zero_le _, rfl, by simpa using HG3.out⟩
  case round =>
    obtain ⟨t, ht, rfl, hG⟩ := hrel
    have r2 : wr.cell? ⟨w.heap.size, 2, none⟩ = some (.slice s2 c.es.length k2) := hG.r.c2.trans (by rw [HOE.out])
    have hml : (L3 ++ (c.es.take t).flatMap entBytes).length ≤ 2000 := by
      have hf := flat_len entBytes 58 (c.es.take t) fun e he => by rw [ent_len]; have := HSZ.out e (List.mem_of_mem_take he); omega
      rw [List.length_append]
      rw [List.length_take] at hf
      have : min t c.es.length * 58 ≤ 32 * 58 := Nat.mul_le_mul_right _ (by omega)
      omega
    clear HG3
    by_cases hlt : t < c.es.length
    rotate_left
    · have htl : c.es.take t = c.es := List.take_of_length_le (by omega)
      rw [htl] at hG
      have HG : Hid _ := hG
      clear hG htl
      go_wp2
      go_ret
      exact ⟨_, rfl, by rw [HENC.out]; exact HG.out.own, HG.out.b⟩
    obtain ⟨b1, o1, rfl, hc1⟩ := HROWS.out (by omega)
    have hx : c.es[t]? = some (c.es[t]'hlt) := List.getElem?_eq_getElem hlt
    have hxs := HSZ.out _ (List.getElem_mem hlt)
    generalize hX : c.es[t]'hlt = x at hx hxs
    have e1 : ∀ j u, x.cells[j]? = some u → wr.cell? ⟨b1, o1 + t * 34 + j, none⟩ = some u := fun j u hu => (hG.b.cell (p := ⟨b1, _, none⟩) (block_lt_of_cell (hc1 t x hx j u hu))).trans (hc1 t x hx j u hu)
    have htk : L3 ++ (c.es.take (t + 1)).flatMap entBytes = (L3 ++ (c.es.take t).flatMap entBytes) ++ entBytes x := by rw [List.take_add_one, hx]; simp
    have HTK : Hid _ := htk
    have HE : Hid _ := e1
    generalize hM : L3 ++ (c.es.take t).flatMap entBytes = M at hG hml HTK
    have HG : Hid _ := hG
    have hwz : IntKind.u8.wrap (x.name.size : Int) = x.name.size := by rw [IntKind.wrap_u8]; omega
    clear hc1 hX hx e1 htk hM hG
    go_wp2_with (first
      | (refine load_mid (by rfl) 49 (.tmp 44) (by rfl) b1 (o1 + t * 34) (by rfl) x.cells _ HE.out Tryd.underlying49 rfl (by rw [x.size]; kernel_rfl) ?_)
      | (refine wpList_store_row (by rfl) 49 (.tmp 5) (.tmp 45) (by rfl) wr.heap.size x.cells (by rfl) (by rfl) 49 _ (heap_alloc_new _ _) (by rw [x.size]; kernel_rfl) (by rw [x.size]; rfl) (ent_one x) ?_; refine wpList_gen (fun W => Below wr.heap.size wr W ∧ W.heap[wr.heap.size]? = some (.cells x.cells 49 (0, 0))) ⟨below_setRow' ((Below.refl _ _).alloc (Nat.le_refl _) _) (Nat.le_refl _) _, heap_setRow_same (heap_alloc_new _ _)⟩ ?_; intro W4 hW4; have HW4 : Hid _ := hW4; clear hW4))
    have hE0 : GE o x w W4.drew wr.heap.size u3 M := ⟨⟨(HG.out.b.trans (HW4.out.1.mono (Nat.le_of_lt HG.out.lt))).drew, (HG.out.r.below HW4.out.1).below (Below.refl _ _).drew, Own.below (Own.below HG.out.own HW4.out.1) (Below.refl _ _).drew, HG.out.blk⟩, HW4.out.2, fun q => Nat.lt_irrefl _ (Own.lt HG.out.own q)⟩
    have hs0 := hE0.c0
    have HK : Hid (∀ (W : World) (v : Value), GE o x w W wr.heap.size v (M ++ [(x.name.size : Int)] ++ bytesOf x.name) → GE o x w W wr.heap.size v (M ++ ((x.name.size : Int) :: bytesOf x.name))) := fun W v h => by simpa using h
    generalize hek : wr.heap.size = ek at *
    refine mv_begin (S := fun w' => w'.cell? ⟨ek, 0, none⟩ = some (.string x.name)) 12 rfl (by kernel_rfl) ?_
    refine mv_rung 0 46 (u3) rfl (by rfl) (by kernel_rfl) (by kernel_rfl) (by kernel_rfl) (fun _ _ _ h => h) (fun w' hw' => by first | rfl | go_simp) hs0 ?_
    simp only [List.setIfInBounds_toArray, List.set_cons_succ, List.set_cons_zero]
    refine mv_rung 1 47 (.pointer (some ⟨ek, 0, none⟩)) rfl (by rfl) (by kernel_rfl) (by kernel_rfl) (by kernel_rfl) (fun _ _ _ h => h) (fun w' hw' => by first | rfl | go_simp) hs0 ?_
    simp only [List.setIfInBounds_toArray, List.set_cons_succ, List.set_cons_zero]
    refine mv_rung 2 48 (.string x.name) rfl (by rfl) (by kernel_rfl) (by kernel_rfl) (by kernel_rfl) (fun _ _ _ h => h) (fun w' hw' => by first | rfl | go_simp) hs0 ?_
    simp only [List.setIfInBounds_toArray, List.set_cons_succ, List.set_cons_zero]
    refine mv_rung 3 49 (.int .i64 x.name.size) rfl (by rfl) (by kernel_rfl) (by kernel_rfl) (by kernel_rfl) (fun _ _ _ h => h) (fun w' hw' => by first | rfl | go_simp) hs0 ?_
    simp only [List.setIfInBounds_toArray, List.set_cons_succ, List.set_cons_zero]
    refine mv_rung 4 50 (.int .u8 x.name.size) rfl (by rfl) (by kernel_rfl) (by kernel_rfl) (by kernel_rfl) (fun _ _ _ h => h) (fun w' hw' => by first | rfl | go_simp) hs0 ?_
    simp only [List.setIfInBounds_toArray, List.set_cons_succ, List.set_cons_zero]
    refine mv_rung 7 53 (.pointer (some ⟨ek, 0, none⟩)) rfl (by rfl) (by kernel_rfl) (by kernel_rfl) (by kernel_rfl) (fun _ _ _ h => h) (fun w' hw' => by first | rfl | go_simp) hs0 ?_
    simp only [List.setIfInBounds_toArray, List.set_cons_succ, List.set_cons_zero]
    refine mv_rung 8 54 (.string x.name) rfl (by rfl) (by kernel_rfl) (by kernel_rfl) (by kernel_rfl) (fun _ _ _ h => h) (fun w' hw' => by first | rfl | go_simp) hs0 ?_
    simp only [List.setIfInBounds_toArray, List.set_cons_succ, List.set_cons_zero]
    refine wpAnyH_all (rs := [5, 9]) (by kernel_rfl) (by simp) fun i hi => ?_
    simp only [List.mem_cons, List.not_mem_nil, or_false] at hi
    rcases hi with rfl | rfl
    · refine wpOp_plain rfl rfl ?_
      refine op_buildS 22 (.tmp 50) rfl (.int .u8 x.name.size) rfl (bldOne _ W4.drew) ?_
      have hBb : Below W4.drew.heap.size W4.drew (W4.drew.alloc (.cells #[.int .u8 (x.name.size : Int)] 5)) := (Below.refl _ _).alloc (Nat.le_refl _) _
      have hGb := hE0.keep hBb
      have hsb : SrcAt (W4.drew.alloc (.cells #[.int .u8 (x.name.size : Int)] 5)) .u8 (some ⟨W4.drew.heap.size, 0, none⟩) 1 (fun _ => (x.name.size : Int)) := srcAt_one
      refine ⟨hGb.c0, ?_⟩
      simp only [Act.put]
      generalize hbk : W4.drew.heap.size = kb at hsb
      generalize W4.drew.alloc (.cells #[.int .u8 (x.name.size : Int)] 5) = Wb at hBb hGb hsb
      refine wpAnyH_all (rs := [6, 9]) (by kernel_rfl) (by simp) fun i hi => ?_
      simp only [List.mem_cons, List.not_mem_nil, or_false] at hi
      rcases hi with rfl | rfl
      · refine wpOp_plain rfl rfl ?_
        obtain ⟨v7, Wa, hra, hOa, hSa⟩ := own_run (c := 1) 22 hGb.g.own hsb (by omega)
        refine op_append (.tmp 46) (.tmp 51) 22 rfl rfl rfl hra ?_
        have hGa : GE o x w Wa ek v7 (M ++ [(x.name.size : Int)]) := hGb.step hSa hOa
        refine ⟨hGa.c0, ?_⟩
        simp only [Act.put]
        refine mv_next 9 rfl (by kernel_rfl) ?_
        obtain ⟨cc, Wc, hrc, hBc, hszc, hsc⟩ := text_bytes x.name Wa
        refine op_convert 9 22 (.tmp 54) rfl rfl hrc ?_
        have hGc := hGa.keep hBc
        refine ⟨hGc.c0, ?_⟩
        simp only [Act.put]
        have hlM : (M ++ [(x.name.size : Int)]).length ≤ 3000 := by rw [List.length_append]; simp; omega
        generalize hM7 : M ++ [(x.name.size : Int)] = M7 at hGc hlM HK
        obtain ⟨s7, c7, hv7, hs7⟩ := Own.src hGc.g.own
        subst hv7
        have hb := both_own s7 (some ⟨Wa.heap.size, 0, none⟩) c7 cc M7 (bytesOf x.name) Wc hs7 hsc (by omega) (by rw [bytesOf_len]; omega)
        rw [bytesOf_len] at hb
        refine mv_nextg 10 rfl (by rfl) (by kernel_rfl) ?_
        go_simp
        refine hb.mono ?_
        rintro e wz ⟨vz, rfl, hOz, hkz, hBz⟩
        have hGz := HK.out wz vz (hGc.fresh hBz hOz hkz)
        refine ⟨hGz.c0, ?_⟩
        refine mv_rung 11 3 (vz) rfl (by rfl) (by kernel_rfl) (by kernel_rfl) (by kernel_rfl) (fun _ _ _ h => h) (fun w' hw' => by first | rfl | go_simp) hGz.c0 ?_
        simp only [List.setIfInBounds_toArray, List.set_cons_succ, List.set_cons_zero]
        refine wpAnyH_done (by kernel_rfl) ?_ _
        have r1 : wz.cell? ⟨ek, 1, none⟩ = some (.bool x.folder) := (cell_of_row _ _ _ _ _ _ hGz.row).trans x.cell1
        have hl8 : (M ++ ((x.name.size : Int) :: bytesOf x.name)).length ≤ 2100 := by rw [List.length_append, List.length_cons, bytesOf_len]; omega
        have hbt : M ++ entBytes x = ((M ++ ((x.name.size : Int) :: bytesOf x.name)) ++ [if x.folder then 1 else 0]) ++ idBytes x.id := by simp [entBytes]
        generalize M ++ ((x.name.size : Int) :: bytesOf x.name) = M8 at hGz hl8 hbt
        have HBT : Hid _ := hbt
        have HGz : Hid _ := hGz
        clear hb hOz hkz hBz hGz hbt
        cases hfo : x.folder with
        | true =>
          rw [hfo] at r1 HBT
          go_wp2_with (at_builtin; refine own_append (by rfl) (.tmp 59) (.tmp 60) (by rfl) vz M8 (by rfl) (Own.below HGz.out.g.own ((Below.refl _ _).alloc (Nat.le_refl _) _)) (some ⟨wz.heap.size, 0, none⟩) 1 1 _ (by rfl) (by simp) srcAt_one (by omega) ?_; intro v9 w9 hO9 hS9; have hG9 : GE o x w w9 ek v9 (M8 ++ [1]) := HGz.out.step (Step.trans (Step.alloc _) hS9) hO9; have hl9 : (M8 ++ [(1 : Int)]).length ≤ 2200 := (by rw [List.length_append]; simp; omega); obtain ⟨M9, hM9⟩ : ∃ M9, M9 = M8 ++ [(1 : Int)] := ⟨_, rfl⟩; rw [← hM9] at hG9 hl9; have HM9 : Hid _ := hM9; have r2 : w9.cell? ⟨ek, 2, none⟩ = some (.int .u8 (x.id 0)) := (cell_of_row _ _ _ _ _ _ hG9.row).trans (x.cellId 0 (by omega)); obtain ⟨sq, cq, rfl, hsq⟩ := Own.src hG9.g.own; have HG9 : Hid _ := hG9; have HSQ : Hid (SrcAt w9 .u8 sq M9.length fun i => M9.getD i 0) := hsq; clear hO9 hS9 hG9 hsq r1 hM9)
          have hsi : SrcAt w9 .u8 (some ⟨ek, 2, none⟩) 32 x.id := fun _ => ⟨ek, 2, rfl, fun j hj => (cell_of_row _ _ _ _ _ _ HG9.out.row).trans (x.cellId j hj)⟩
          have hb := both_own sq (some ⟨ek, 2, none⟩) cq 32 M9 (idBytes x.id) w9 HSQ.out (src_list hsi) (by omega) (by rw [id_len]; omega)
          rw [id_len] at hb
          refine Calls.mono hb ?_
          rintro e wy ⟨vy, rfl, hOy, hky, hBy⟩
          have HGy : Hid (G o w wy vy (M9 ++ idBytes x.id)) := HG9.out.g.fresh hBy hOy hky
          have hfin : M ++ entBytes x = M9 ++ idBytes x.id := by rw [HBT.out, HM9.out]; rfl
          have HFIN : Hid _ := hfin
          clear hb hsi hOy hky hBy hfin r2 hek
          go_wp2
          go_roundw
          case rel => exact ⟨t + 1, by omega, by go_num, by rw [HTK.out, HFIN.out]; exact HGy.out⟩
          case measure => simp [intOf]; omega
        | false =>
          rw [hfo] at r1 HBT
          go_wp2_with (at_builtin; refine own_append (by rfl) (.tmp 62) (.tmp 63) (by rfl) vz M8 (by rfl) (Own.below HGz.out.g.own ((Below.refl _ _).alloc (Nat.le_refl _) _)) (some ⟨wz.heap.size, 0, none⟩) 1 1 _ (by rfl) (by simp) srcAt_one (by omega) ?_; intro v9 w9 hO9 hS9; have hG9 : GE o x w w9 ek v9 (M8 ++ [0]) := HGz.out.step (Step.trans (Step.alloc _) hS9) hO9; have hl9 : (M8 ++ [(0 : Int)]).length ≤ 2200 := (by rw [List.length_append]; simp; omega); obtain ⟨M9, hM9⟩ : ∃ M9, M9 = M8 ++ [(0 : Int)] := ⟨_, rfl⟩; rw [← hM9] at hG9 hl9; have HM9 : Hid _ := hM9; have r2 : w9.cell? ⟨ek, 2, none⟩ = some (.int .u8 (x.id 0)) := (cell_of_row _ _ _ _ _ _ hG9.row).trans (x.cellId 0 (by omega)); obtain ⟨sq, cq, rfl, hsq⟩ := Own.src hG9.g.own; have HG9 : Hid _ := hG9; have HSQ : Hid (SrcAt w9 .u8 sq M9.length fun i => M9.getD i 0) := hsq; clear hO9 hS9 hG9 hsq r1 hM9)
          have hsi : SrcAt w9 .u8 (some ⟨ek, 2, none⟩) 32 x.id := fun _ => ⟨ek, 2, rfl, fun j hj => (cell_of_row _ _ _ _ _ _ HG9.out.row).trans (x.cellId j hj)⟩
          have hb := both_own sq (some ⟨ek, 2, none⟩) cq 32 M9 (idBytes x.id) w9 HSQ.out (src_list hsi) (by omega) (by rw [id_len]; omega)
          rw [id_len] at hb
          refine Calls.mono hb ?_
          rintro e wy ⟨vy, rfl, hOy, hky, hBy⟩
          have HGy : Hid (G o w wy vy (M9 ++ idBytes x.id)) := HG9.out.g.fresh hBy hOy hky
          have hfin : M ++ entBytes x = M9 ++ idBytes x.id := by rw [HBT.out, HM9.out]; rfl
          have HFIN : Hid _ := hfin
          clear hb hsi hOy hky hBy hfin r2 hek
          go_wp2
          go_roundw
          case rel => exact ⟨t + 1, by omega, by go_num, by rw [HTK.out, HFIN.out]; exact HGy.out⟩
          case measure => simp [intOf]; omega
      · refine wpOp_plain rfl rfl ?_
        obtain ⟨cc, Wc, hrc, hBc, hszc, hsc⟩ := text_bytes x.name Wb
        refine op_convert 9 22 (.tmp 54) rfl rfl hrc ?_
        have hGc := hGb.keep hBc
        have hsb2 := hsb.below hBc
        refine ⟨hGc.c0, ?_⟩
        simp only [Act.put]
        refine mv_next 6 rfl (by kernel_rfl) ?_
        obtain ⟨v7, Wa, hra, hOa, hSa⟩ := own_run (c := 1) 22 hGc.g.own hsb2 (by omega)
        refine op_append (.tmp 46) (.tmp 51) 22 rfl rfl rfl hra ?_
        have hGa : GE o x w Wa ek v7 (M ++ [(x.name.size : Int)]) := hGc.step hSa hOa
        refine ⟨hGa.c0, ?_⟩
        simp only [Act.put]
        have hne : u3.ownBlock ≠ some Wb.heap.size := fun e => Nat.lt_irrefl _ (Own.lt hGb.g.own e)
        have hsc2 := hsc.blk (hSa.keep hszc hne)
        have hlM : (M ++ [(x.name.size : Int)]).length ≤ 3000 := by rw [List.length_append]; simp; omega
        generalize hM7 : M ++ [(x.name.size : Int)] = M7 at hGa hlM HK
        obtain ⟨s7, c7, hv7, hs7⟩ := Own.src hGa.g.own
        subst hv7
        have hb := both_own s7 (some ⟨Wb.heap.size, 0, none⟩) c7 cc M7 (bytesOf x.name) Wa hs7 hsc2 (by omega) (by rw [bytesOf_len]; omega)
        rw [bytesOf_len] at hb
        refine mv_nextg 10 rfl (by rfl) (by kernel_rfl) ?_
        go_simp
        refine hb.mono ?_
        rintro e wz ⟨vz, rfl, hOz, hkz, hBz⟩
        have hGz := HK.out wz vz (hGa.fresh hBz hOz hkz)
        refine ⟨hGz.c0, ?_⟩
        refine mv_rung 11 3 (vz) rfl (by rfl) (by kernel_rfl) (by kernel_rfl) (by kernel_rfl) (fun _ _ _ h => h) (fun w' hw' => by first | rfl | go_simp) hGz.c0 ?_
        simp only [List.setIfInBounds_toArray, List.set_cons_succ, List.set_cons_zero]
        refine wpAnyH_done (by kernel_rfl) ?_ _
        have r1 : wz.cell? ⟨ek, 1, none⟩ = some (.bool x.folder) := (cell_of_row _ _ _ _ _ _ hGz.row).trans x.cell1
        have hl8 : (M ++ ((x.name.size : Int) :: bytesOf x.name)).length ≤ 2100 := by rw [List.length_append, List.length_cons, bytesOf_len]; omega
        have hbt : M ++ entBytes x = ((M ++ ((x.name.size : Int) :: bytesOf x.name)) ++ [if x.folder then 1 else 0]) ++ idBytes x.id := by simp [entBytes]
        generalize M ++ ((x.name.size : Int) :: bytesOf x.name) = M8 at hGz hl8 hbt
        have HBT : Hid _ := hbt
        have HGz : Hid _ := hGz
        clear hb hOz hkz hBz hGz hbt
        cases hfo : x.folder with
        | true =>
          rw [hfo] at r1 HBT
          go_wp2_with (at_builtin; refine own_append (by rfl) (.tmp 59) (.tmp 60) (by rfl) vz M8 (by rfl) (Own.below HGz.out.g.own ((Below.refl _ _).alloc (Nat.le_refl _) _)) (some ⟨wz.heap.size, 0, none⟩) 1 1 _ (by rfl) (by simp) srcAt_one (by omega) ?_; intro v9 w9 hO9 hS9; have hG9 : GE o x w w9 ek v9 (M8 ++ [1]) := HGz.out.step (Step.trans (Step.alloc _) hS9) hO9; have hl9 : (M8 ++ [(1 : Int)]).length ≤ 2200 := (by rw [List.length_append]; simp; omega); obtain ⟨M9, hM9⟩ : ∃ M9, M9 = M8 ++ [(1 : Int)] := ⟨_, rfl⟩; rw [← hM9] at hG9 hl9; have HM9 : Hid _ := hM9; have r2 : w9.cell? ⟨ek, 2, none⟩ = some (.int .u8 (x.id 0)) := (cell_of_row _ _ _ _ _ _ hG9.row).trans (x.cellId 0 (by omega)); obtain ⟨sq, cq, rfl, hsq⟩ := Own.src hG9.g.own; have HG9 : Hid _ := hG9; have HSQ : Hid (SrcAt w9 .u8 sq M9.length fun i => M9.getD i 0) := hsq; clear hO9 hS9 hG9 hsq r1 hM9)
          have hsi : SrcAt w9 .u8 (some ⟨ek, 2, none⟩) 32 x.id := fun _ => ⟨ek, 2, rfl, fun j hj => (cell_of_row _ _ _ _ _ _ HG9.out.row).trans (x.cellId j hj)⟩
          have hb := both_own sq (some ⟨ek, 2, none⟩) cq 32 M9 (idBytes x.id) w9 HSQ.out (src_list hsi) (by omega) (by rw [id_len]; omega)
          rw [id_len] at hb
          refine Calls.mono hb ?_
          rintro e wy ⟨vy, rfl, hOy, hky, hBy⟩
          have HGy : Hid (G o w wy vy (M9 ++ idBytes x.id)) := HG9.out.g.fresh hBy hOy hky
          have hfin : M ++ entBytes x = M9 ++ idBytes x.id := by rw [HBT.out, HM9.out]; rfl
          have HFIN : Hid _ := hfin
          clear hb hsi hOy hky hBy hfin r2 hek
          go_wp2
          go_roundw
          case rel => exact ⟨t + 1, by omega, by go_num, by rw [HTK.out, HFIN.out]; exact HGy.out⟩
          case measure => simp [intOf]; omega
        | false =>
          rw [hfo] at r1 HBT
          go_wp2_with (at_builtin; refine own_append (by rfl) (.tmp 62) (.tmp 63) (by rfl) vz M8 (by rfl) (Own.below HGz.out.g.own ((Below.refl _ _).alloc (Nat.le_refl _) _)) (some ⟨wz.heap.size, 0, none⟩) 1 1 _ (by rfl) (by simp) srcAt_one (by omega) ?_; intro v9 w9 hO9 hS9; have hG9 : GE o x w w9 ek v9 (M8 ++ [0]) := HGz.out.step (Step.trans (Step.alloc _) hS9) hO9; have hl9 : (M8 ++ [(0 : Int)]).length ≤ 2200 := (by rw [List.length_append]; simp; omega); obtain ⟨M9, hM9⟩ : ∃ M9, M9 = M8 ++ [(0 : Int)] := ⟨_, rfl⟩; rw [← hM9] at hG9 hl9; have HM9 : Hid _ := hM9; have r2 : w9.cell? ⟨ek, 2, none⟩ = some (.int .u8 (x.id 0)) := (cell_of_row _ _ _ _ _ _ hG9.row).trans (x.cellId 0 (by omega)); obtain ⟨sq, cq, rfl, hsq⟩ := Own.src hG9.g.own; have HG9 : Hid _ := hG9; have HSQ : Hid (SrcAt w9 .u8 sq M9.length fun i => M9.getD i 0) := hsq; clear hO9 hS9 hG9 hsq r1 hM9)
          have hsi : SrcAt w9 .u8 (some ⟨ek, 2, none⟩) 32 x.id := fun _ => ⟨ek, 2, rfl, fun j hj => (cell_of_row _ _ _ _ _ _ HG9.out.row).trans (x.cellId j hj)⟩
          have hb := both_own sq (some ⟨ek, 2, none⟩) cq 32 M9 (idBytes x.id) w9 HSQ.out (src_list hsi) (by omega) (by rw [id_len]; omega)
          rw [id_len] at hb
          refine Calls.mono hb ?_
          rintro e wy ⟨vy, rfl, hOy, hky, hBy⟩
          have HGy : Hid (G o w wy vy (M9 ++ idBytes x.id)) := HG9.out.g.fresh hBy hOy hky
          have hfin : M ++ entBytes x = M9 ++ idBytes x.id := by rw [HBT.out, HM9.out]; rfl
          have HFIN : Hid _ := hfin
          clear hb hsi hOy hky hBy hfin r2 hek
          go_wp2
          go_roundw
          case rel => exact ⟨t + 1, by omega, by go_num, by rw [HTK.out, HFIN.out]; exact HGy.out⟩
          case measure => simp [intOf]; omega
    · refine wpOp_plain rfl rfl ?_
      obtain ⟨cc, Wc, hrc, hBc, hszc, hsc⟩ := text_bytes x.name W4.drew
      refine op_convert 9 22 (.tmp 54) rfl rfl hrc ?_
      have hGc := hE0.keep hBc
      refine ⟨hGc.c0, ?_⟩
      simp only [Act.put]
      refine mv_next 5 rfl (by kernel_rfl) ?_
      refine op_buildS 22 (.tmp 50) rfl (.int .u8 x.name.size) rfl (bldOne _ Wc) ?_
      have hBb : Below Wc.heap.size Wc (Wc.alloc (.cells #[.int .u8 (x.name.size : Int)] 5)) := (Below.refl _ _).alloc (Nat.le_refl _) _
      have hGb := hGc.keep hBb
      have hsb : SrcAt (Wc.alloc (.cells #[.int .u8 (x.name.size : Int)] 5)) .u8 (some ⟨Wc.heap.size, 0, none⟩) 1 (fun _ => (x.name.size : Int)) := srcAt_one
      have hscb := hsc.below hBb
      refine ⟨hGb.c0, ?_⟩
      simp only [Act.put]
      generalize hbk : Wc.heap.size = kb at hsb
      generalize Wc.alloc (.cells #[.int .u8 (x.name.size : Int)] 5) = Wb at hBb hGb hsb hscb
      refine mv_next 6 rfl (by kernel_rfl) ?_
      obtain ⟨v7, Wa, hra, hOa, hSa⟩ := own_run (c := 1) 22 hGb.g.own hsb (by omega)
      refine op_append (.tmp 46) (.tmp 51) 22 rfl rfl rfl hra ?_
      have hGa : GE o x w Wa ek v7 (M ++ [(x.name.size : Int)]) := hGb.step hSa hOa
      refine ⟨hGa.c0, ?_⟩
      simp only [Act.put]
      have hne : u3.ownBlock ≠ some W4.drew.heap.size := fun e => Nat.lt_irrefl _ (Own.lt hE0.g.own e)
      have hsc2 := hscb.blk (hSa.keep (Nat.lt_of_lt_of_le hszc hBb.size) hne)
      have hlM : (M ++ [(x.name.size : Int)]).length ≤ 3000 := by rw [List.length_append]; simp; omega
      generalize hM7 : M ++ [(x.name.size : Int)] = M7 at hGa hlM HK
      obtain ⟨s7, c7, hv7, hs7⟩ := Own.src hGa.g.own
      subst hv7
      have hb := both_own s7 (some ⟨W4.drew.heap.size, 0, none⟩) c7 cc M7 (bytesOf x.name) Wa hs7 hsc2 (by omega) (by rw [bytesOf_len]; omega)
      rw [bytesOf_len] at hb
      refine mv_nextg 10 rfl (by rfl) (by kernel_rfl) ?_
      go_simp
      refine hb.mono ?_
      rintro e wz ⟨vz, rfl, hOz, hkz, hBz⟩
      have hGz := HK.out wz vz (hGa.fresh hBz hOz hkz)
      refine ⟨hGz.c0, ?_⟩
      refine mv_rung 11 3 (vz) rfl (by rfl) (by kernel_rfl) (by kernel_rfl) (by kernel_rfl) (fun _ _ _ h => h) (fun w' hw' => by first | rfl | go_simp) hGz.c0 ?_
      simp only [List.setIfInBounds_toArray, List.set_cons_succ, List.set_cons_zero]
      refine wpAnyH_done (by kernel_rfl) ?_ _
      have r1 : wz.cell? ⟨ek, 1, none⟩ = some (.bool x.folder) := (cell_of_row _ _ _ _ _ _ hGz.row).trans x.cell1
      have hl8 : (M ++ ((x.name.size : Int) :: bytesOf x.name)).length ≤ 2100 := by rw [List.length_append, List.length_cons, bytesOf_len]; omega
      have hbt : M ++ entBytes x = ((M ++ ((x.name.size : Int) :: bytesOf x.name)) ++ [if x.folder then 1 else 0]) ++ idBytes x.id := by simp [entBytes]
      generalize M ++ ((x.name.size : Int) :: bytesOf x.name) = M8 at hGz hl8 hbt
      have HBT : Hid _ := hbt
      have HGz : Hid _ := hGz
      clear hb hOz hkz hBz hGz hbt
      cases hfo : x.folder with
      | true =>
        rw [hfo] at r1 HBT
        go_wp2_with (at_builtin; refine own_append (by rfl) (.tmp 59) (.tmp 60) (by rfl) vz M8 (by rfl) (Own.below HGz.out.g.own ((Below.refl _ _).alloc (Nat.le_refl _) _)) (some ⟨wz.heap.size, 0, none⟩) 1 1 _ (by rfl) (by simp) srcAt_one (by omega) ?_; intro v9 w9 hO9 hS9; have hG9 : GE o x w w9 ek v9 (M8 ++ [1]) := HGz.out.step (Step.trans (Step.alloc _) hS9) hO9; have hl9 : (M8 ++ [(1 : Int)]).length ≤ 2200 := (by rw [List.length_append]; simp; omega); obtain ⟨M9, hM9⟩ : ∃ M9, M9 = M8 ++ [(1 : Int)] := ⟨_, rfl⟩; rw [← hM9] at hG9 hl9; have HM9 : Hid _ := hM9; have r2 : w9.cell? ⟨ek, 2, none⟩ = some (.int .u8 (x.id 0)) := (cell_of_row _ _ _ _ _ _ hG9.row).trans (x.cellId 0 (by omega)); obtain ⟨sq, cq, rfl, hsq⟩ := Own.src hG9.g.own; have HG9 : Hid _ := hG9; have HSQ : Hid (SrcAt w9 .u8 sq M9.length fun i => M9.getD i 0) := hsq; clear hO9 hS9 hG9 hsq r1 hM9)
        have hsi : SrcAt w9 .u8 (some ⟨ek, 2, none⟩) 32 x.id := fun _ => ⟨ek, 2, rfl, fun j hj => (cell_of_row _ _ _ _ _ _ HG9.out.row).trans (x.cellId j hj)⟩
        have hb := both_own sq (some ⟨ek, 2, none⟩) cq 32 M9 (idBytes x.id) w9 HSQ.out (src_list hsi) (by omega) (by rw [id_len]; omega)
        rw [id_len] at hb
        refine Calls.mono hb ?_
        rintro e wy ⟨vy, rfl, hOy, hky, hBy⟩
        have HGy : Hid (G o w wy vy (M9 ++ idBytes x.id)) := HG9.out.g.fresh hBy hOy hky
        have hfin : M ++ entBytes x = M9 ++ idBytes x.id := by rw [HBT.out, HM9.out]; rfl
        have HFIN : Hid _ := hfin
        clear hb hsi hOy hky hBy hfin r2 hek
        go_wp2
        go_roundw
        case rel => exact ⟨t + 1, by omega, by go_num, by rw [HTK.out, HFIN.out]; exact HGy.out⟩
        case measure => simp [intOf]; omega
      | false =>
        rw [hfo] at r1 HBT
        go_wp2_with (at_builtin; refine own_append (by rfl) (.tmp 62) (.tmp 63) (by rfl) vz M8 (by rfl) (Own.below HGz.out.g.own ((Below.refl _ _).alloc (Nat.le_refl _) _)) (some ⟨wz.heap.size, 0, none⟩) 1 1 _ (by rfl) (by simp) srcAt_one (by omega) ?_; intro v9 w9 hO9 hS9; have hG9 : GE o x w w9 ek v9 (M8 ++ [0]) := HGz.out.step (Step.trans (Step.alloc _) hS9) hO9; have hl9 : (M8 ++ [(0 : Int)]).length ≤ 2200 := (by rw [List.length_append]; simp; omega); obtain ⟨M9, hM9⟩ : ∃ M9, M9 = M8 ++ [(0 : Int)] := ⟨_, rfl⟩; rw [← hM9] at hG9 hl9; have HM9 : Hid _ := hM9; have r2 : w9.cell? ⟨ek, 2, none⟩ = some (.int .u8 (x.id 0)) := (cell_of_row _ _ _ _ _ _ hG9.row).trans (x.cellId 0 (by omega)); obtain ⟨sq, cq, rfl, hsq⟩ := Own.src hG9.g.own; have HG9 : Hid _ := hG9; have HSQ : Hid (SrcAt w9 .u8 sq M9.length fun i => M9.getD i 0) := hsq; clear hO9 hS9 hG9 hsq r1 hM9)
        have hsi : SrcAt w9 .u8 (some ⟨ek, 2, none⟩) 32 x.id := fun _ => ⟨ek, 2, rfl, fun j hj => (cell_of_row _ _ _ _ _ _ HG9.out.row).trans (x.cellId j hj)⟩
        have hb := both_own sq (some ⟨ek, 2, none⟩) cq 32 M9 (idBytes x.id) w9 HSQ.out (src_list hsi) (by omega) (by rw [id_len]; omega)
        rw [id_len] at hb
        refine Calls.mono hb ?_
        rintro e wy ⟨vy, rfl, hOy, hky, hBy⟩
        have HGy : Hid (G o w wy vy (M9 ++ idBytes x.id)) := HG9.out.g.fresh hBy hOy hky
        have hfin : M ++ entBytes x = M9 ++ idBytes x.id := by rw [HBT.out, HM9.out]; rfl
        have HFIN : Hid _ := hfin
        clear hb hsi hOy hky hBy hfin r2 hek
        go_wp2
        go_roundw
        case rel => exact ⟨t + 1, by omega, by go_num, by rw [HTK.out, HFIN.out]; exact HGy.out⟩
        case measure => simp [intOf]; omega
end Go.Proofs.YtnaoaeapffgojaaDoor
