/- The contract of the document's Bytes at a commit. -/
import Derived.Test.YtnaoaeapffgojaaDoorRByO
import Derived.Test.YtnaoaeapffgojaaDoorBkM
namespace Go.Proofs.YtnaoaeapffgojaaDoor
open Go.RowKit

/-- Bytes that Bytes gathers, beside the object's own row. -/
structure G (o : Ob) (w W : World) (v : Value) (L : List Int) : Prop where
  b : Below w.heap.size w W
  r : ObRow W w.heap.size 0 o
  own : Own W v L
  blk : ∀ k, v.ownBlock = some k → w.heap.size + 1 ≤ k
theorem G.lt {o : Ob} {w W : World} {v : Value} {L : List Int} (h : G o w W v L) : w.heap.size < W.heap.size := block_lt_of_cell h.r.c0
theorem G.fresh {o : Ob} {w W W' : World} {v v' : Value} {L L' : List Int} (h : G o w W v L) (hb : Below W.heap.size W W') (hO : Own W' v' L') (hk : ∀ k, v'.ownBlock = some k → W.heap.size ≤ k) : G o w W' v' L' :=
  ⟨h.b.trans (hb.mono (Nat.le_of_lt h.lt)), h.r.below hb, hO, fun k hv => by have := hk k hv; have := h.lt; omega⟩
theorem G.step {o : Ob} {w W W' : World} {v v' : Value} {L L' : List Int} (h : G o w W v L) (hs : Step W v W' v') (hO : Own W' v' L') : G o w W' v' L' := by
  have hne : v.ownBlock ≠ some w.heap.size := fun e => by have := h.blk _ e; omega
  have hkeep := hs.keep h.lt hne
  refine ⟨h.b.trans (hs.below (fun k hk => by have := h.blk k hk; omega) (Nat.le_of_lt h.lt)), ?_, hO, fun k hk => ?_⟩
  · have hc : ∀ j, W'.cell? ⟨w.heap.size, j, none⟩ = W.cell? ⟨w.heap.size, j, none⟩ := fun j => World.cell?_of_block hkeep
    exact ⟨(hc _).trans h.r.c0, (hc _).trans h.r.c1, (hc _).trans h.r.c2, (hc _).trans h.r.c35, (hc _).trans h.r.c36, (hc _).trans h.r.c37, fun i hi => (hc _).trans (h.r.tree i hi)⟩
  · have := h.lt
    rcases hs.block with e | ⟨q, e, hq⟩
    · rw [e] at hk; exact h.blk k hk
    · rw [e] at hk; injection hk with hk; omega

set_option maxRecDepth 100000 in
set_option maxHeartbeats 1000000 in
theorem rbytes_3 (o : Ob) (c : Co) (w : World) (ho : In w o c) (hk : o.kind = 3) (hr : rightB o c = true) :
    Calls Tryd.prog 13 #[.agg o.cells] w fun e w' => ∃ v, e = .returned v ∧ Own w' v (encB o c) ∧ Below w.heap.size w w' := by
  obtain ⟨s3, k3, hop, hprows, -⟩ := ho.p
  obtain ⟨⟨hps, hno⟩, -, -⟩ := right_commit hr hk
  have HENC : Hid (encB o c = (([3] ++ idBytes o.tree) ++ [(c.ps.length : Int)]) ++ c.ps.flatMap idBytes ++ beBytes 4 o.num ++ [(o.note.size : Int)] ++ bytesOf o.note) := show encB o c = (([3] ++ idBytes o.tree) ++ [(c.ps.length : Int)]) ++ c.ps.flatMap idBytes ++ beBytes 4 o.num ++ [(o.note.size : Int)] ++ bytesOf o.note by simp [encB, hk]
  have hnum := ho.fit.n
  have a0 := o.cell0
  rw [hk] at a0
  have HPROWS : Hid _ := hprows
  have HOP : Hid _ := hop
  clear ho hk hprows hop hr
  go_enter Tryd.func13, Tryd.ntmps13
  go_wp2_with fail
  refine calls_gen (fun W1 => Below w.heap.size w W1 ∧ ObRow W1 w.heap.size 0 o ∧ SrcAt W1 .u8 (some ⟨w.heap.size + 1, 0, none⟩) 1 (fun _ => 3)) ⟨((Below.refl _ _).alloc (Nat.le_refl _) _).alloc (by simp) _, obRow (heap_alloc2_old _ _ _), srcAt_row (n := 1) (f := fun _ => 3) (heap_alloc2_new _ _ _) (Nat.le_refl _)⟩ ?_
  intro W1 ⟨f1, hrow, hs1⟩
  have hlt1 : w.heap.size < W1.heap.size := block_lt_of_cell hrow.c0
  have htr : SrcAt W1 .u8 (some ⟨w.heap.size, 3, none⟩) 32 o.tree := fun _ => ⟨w.heap.size, 3, rfl, fun j hj => by have := hrow.tree j hj; simpa using this⟩
  have htr' := src_list htr
  have hb := both_own (some ⟨w.heap.size + 1, 0, none⟩) (some ⟨w.heap.size, 3, none⟩) 1 32 [3] (idBytes o.tree) W1 (hs1.congr (fun i hi => one_src i hi)) htr' (by simp) (by rw [id_len]; omega)
  rw [id_len] at hb
  refine hb.mono ?_
  rintro e w2 ⟨v2, rfl, hO2, hk2, hB2⟩
  have hG2 : G o w w2 v2 ([3] ++ idBytes o.tree) := ⟨f1.trans (hB2.mono f1.size), hrow.below hB2, hO2, fun k hk => by have := hk2 k hk; omega⟩
  have r35 : w2.cell? ⟨w.heap.size, 35, none⟩ = some (.slice s3 c.ps.length k3) := hG2.r.c35.trans (by rw [HOP.out])
  have hl2 : ([3] ++ idBytes o.tree).length ≤ 1000 := by simp [id_len]
  have hwp : IntKind.u8.wrap (c.ps.length : Int) = c.ps.length := by rw [IntKind.wrap_u8]; omega
  generalize hL2 : [3] ++ idBytes o.tree = L2 at hG2 hl2 HENC
  have HG2 : Hid _ := hG2
  clear hb hB2 hO2 hk2 hG2 htr htr' hs1 hrow f1 a0 hL2
  go_wp2_with (at_builtin; refine own_append (by rfl) (.tmp 74) (.tmp 79) (by rfl) v2 L2 (by rfl) (Own.below HG2.out.own ((Below.refl _ _).alloc (Nat.le_refl _) _)) (some ⟨w2.heap.size, 0, none⟩) 1 1 _ (by rfl) (by simp) srcAt_one (by omega) ?_; intro v3 w3 hO3 hS3; have hG3 : G o w w3 v3 (L2 ++ [(c.ps.length : Int)]) := HG2.out.step (Step.trans (Step.alloc _) hS3) hO3; have HG3 : Hid _ := hG3; clear hO3 hS3 hG3 r35)
  have hl3 : (L2 ++ [(c.ps.length : Int)]).length ≤ 1001 := by simp; omega
  generalize hL3 : L2 ++ [(c.ps.length : Int)] = L3 at HG3 HENC hl3
  clear hL3 HG2 hl2
  go_loopw [3, 6] (fun v i wr => ∃ t : Nat, t ≤ c.ps.length ∧ i = .int .i64 t ∧ G o w wr v (L3 ++ (c.ps.take t).flatMap idBytes)) (fun _ i _ => c.ps.length - (intOf i).toNat)
  case atStart => exact ⟨0, Nat.zero_le _, rfl, by simpa using HG3.out⟩
  case round =>
    obtain ⟨t, ht, rfl, hG⟩ := hrel
    have r35 : wr.cell? ⟨w.heap.size, 35, none⟩ = some (.slice s3 c.ps.length k3) := hG.r.c35.trans (by rw [HOP.out])
    have hml : (L3 ++ (c.ps.take t).flatMap idBytes).length ≤ 2000 := by
      have hf := flat_len idBytes 32 (c.ps.take t) fun f _ => by rw [id_len]; omega
      rw [List.length_append]
      rw [List.length_take] at hf
      have : min t c.ps.length * 32 ≤ 2 * 32 := Nat.mul_le_mul_right _ (by omega)
      omega
    clear HG3
    by_cases hlt : t < c.ps.length
    · obtain ⟨b1, o1, rfl, hc1⟩ := HPROWS.out (by omega)
      have hx : c.ps[t]? = some (c.ps[t]'hlt) := List.getElem?_eq_getElem hlt
      generalize hX : c.ps[t]'hlt = x at hx
      have hcx : ∀ j, j < 32 → wr.cell? ⟨b1, o1 + t * 32 + j, none⟩ = some (.int .u8 (x j)) := fun j hj => (hG.b.cell (p := ⟨b1, _, none⟩) (block_lt_of_cell (hc1 t x hx j _ (arr_get hj)))).trans (hc1 t x hx j _ (arr_get hj))
      have hc0 : wr.cell? ⟨b1, o1 + t * 32, none⟩ = some (.int .u8 (x 0)) := hcx 0 (by omega)
      have htk : L3 ++ (c.ps.take (t + 1)).flatMap idBytes = (L3 ++ (c.ps.take t).flatMap idBytes) ++ idBytes x := by rw [List.take_add_one, hx]; simp
      have hsx : SrcAt wr .u8 (some ⟨b1, o1 + t * 32, none⟩) 32 x := fun _ => ⟨b1, o1 + t * 32, rfl, hcx⟩
      have HTK : Hid _ := htk
      have hsx' := src_list hsx
      generalize hM : L3 ++ (c.ps.take t).flatMap idBytes = M at hG hml HTK
      obtain ⟨sp, cp, rfl, hsp⟩ := Own.src hG.own
      have hb := both_own sp (some ⟨b1, o1 + t * 32, none⟩) cp 32 M (idBytes x) wr hsp hsx' (by omega) (by rw [id_len]; omega)
      rw [id_len] at hb
      have HBO : Hid _ := hb
      have HG : Hid _ := hG
      clear hc1 hX hx hcx htk hsx hsx' hM hsp hb hG
      go_wp2_with fail
      refine Calls.mono HBO.out ?_
      rintro e w4 ⟨v4, rfl, hO4, hk4, hB4⟩
      have HG4 : Hid (G o w w4 v4 (M ++ idBytes x)) := HG.out.fresh hB4 hO4 hk4
      clear hO4 hk4 hB4 HG HBO r35 hc0
      go_wp2
      go_roundw
      case rel => exact ⟨t + 1, by omega, by go_num, by rw [HTK.out]; exact HG4.out⟩
      case measure => simp [intOf]; omega
    · have htl : c.ps.take t = c.ps := List.take_of_length_le (by omega)
      rw [htl] at hG hml
      generalize hM : L3 ++ c.ps.flatMap idBytes = M at hG hml HENC
      have r36 : wr.cell? ⟨w.heap.size, 36, none⟩ = some (.int .u32 o.num) := hG.r.c36
      have hwn : IntKind.u64.wrap o.num = o.num := by rw [IntKind.wrap_u64]; omega
      obtain ⟨sp, cp, rfl, hsp⟩ := Own.src hG.own
      have HG : Hid _ := hG
      have HSP : Hid (SrcAt wr .u8 sp M.length fun i => M.getD i 0) := hsp
      clear htl hM hG hsp
      go_wp2_with fail
      refine (high_own o.num 4 wr (by omega) hnum.1 (by omega)).mono ?_
      rintro e w5 ⟨rfl, hH5, hB5⟩
      have hb := both_own sp (some ⟨wr.heap.size, 0, none⟩) cp 4 M (beBytes 4 o.num) w5 (SrcAt.below HSP.out hB5) hH5 (by omega) (by rw [be_len]; omega)
      rw [be_len] at hb
      have HBO : Hid _ := hb
      have HB5 : Hid _ := hB5
      clear hb hH5 hB5
      go_wp2_with fail
      refine Calls.mono HBO.out ?_
      rintro e w6 ⟨v6, rfl, hO6, hk6, hB6⟩
      have hB56 : Below wr.heap.size wr w6 := HB5.out.trans (hB6.mono HB5.out.size)
      have hG6 : G o w w6 v6 (M ++ beBytes 4 o.num) := HG.out.fresh hB56 hO6 (fun k hk => Nat.le_trans HB5.out.size (hk6 k hk))
      have hml6 : (M ++ beBytes 4 o.num).length ≤ 2004 := by rw [List.length_append, be_len]; omega
      generalize hM6 : M ++ beBytes 4 o.num = M6 at hG6 HENC hml6
      have r37 : w6.cell? ⟨w.heap.size, 37, none⟩ = some (.string o.note) := hG6.r.c37
      have hlt6 := hG6.lt
      have hwz : IntKind.u8.wrap (o.note.size : Int) = o.note.size := by rw [IntKind.wrap_u8]; omega
      have HG6 : Hid _ := hG6
      clear hM6 hG6 hO6 hk6 hB6 hB56 HB5 HBO HG HSP r36 r35
      go_wp2
      refine mv_begin (S := fun w' => w'.cell? ⟨w.heap.size, 37, none⟩ = some (.string o.note)) 12 rfl (by kernel_rfl) ?_
      refine mv_rung 0 101 (v6) rfl (by rfl) (by kernel_rfl) (by kernel_rfl) (by kernel_rfl) (fun _ _ _ h => h) (fun w' hw' => by first | rfl | go_simp) r37 ?_
      simp only [List.setIfInBounds_toArray, List.set_cons_succ, List.set_cons_zero]
      refine mv_rung 1 102 (.pointer (some ⟨w.heap.size, 37, none⟩)) rfl (by rfl) (by kernel_rfl) (by kernel_rfl) (by kernel_rfl) (fun _ _ _ h => h) (fun w' hw' => by first | rfl | go_simp) r37 ?_
      simp only [List.setIfInBounds_toArray, List.set_cons_succ, List.set_cons_zero]
      refine mv_rung 2 103 (.string o.note) rfl (by rfl) (by kernel_rfl) (by kernel_rfl) (by kernel_rfl) (fun _ _ _ h => h) (fun w' hw' => by first | rfl | go_simp) r37 ?_
      simp only [List.setIfInBounds_toArray, List.set_cons_succ, List.set_cons_zero]
      refine mv_rung 3 104 (.int .i64 o.note.size) rfl (by rfl) (by kernel_rfl) (by kernel_rfl) (by kernel_rfl) (fun _ _ _ h => h) (fun w' hw' => by first | rfl | go_simp) r37 ?_
      simp only [List.setIfInBounds_toArray, List.set_cons_succ, List.set_cons_zero]
      refine mv_rung 4 105 (.int .u8 o.note.size) rfl (by rfl) (by kernel_rfl) (by kernel_rfl) (by kernel_rfl) (fun _ _ _ h => h) (fun w' hw' => by first | rfl | go_simp) r37 ?_
      simp only [List.setIfInBounds_toArray, List.set_cons_succ, List.set_cons_zero]
      refine mv_rung 7 108 (.pointer (some ⟨w.heap.size, 37, none⟩)) rfl (by rfl) (by kernel_rfl) (by kernel_rfl) (by kernel_rfl) (fun _ _ _ h => h) (fun w' hw' => by first | rfl | go_simp) r37 ?_
      simp only [List.setIfInBounds_toArray, List.set_cons_succ, List.set_cons_zero]
      refine mv_rung 8 109 (.string o.note) rfl (by rfl) (by kernel_rfl) (by kernel_rfl) (by kernel_rfl) (fun _ _ _ h => h) (fun w' hw' => by first | rfl | go_simp) r37 ?_
      simp only [List.setIfInBounds_toArray, List.set_cons_succ, List.set_cons_zero]
      have hG0 : G o w w6.drew v6 M6 := ⟨HG6.out.b.drew, HG6.out.r.below (Below.refl _ _).drew, HG6.out.own, HG6.out.blk⟩
      refine wpAnyH_all (rs := [5, 9]) (by kernel_rfl) (by simp) fun i hi => ?_
      simp only [List.mem_cons, List.not_mem_nil, or_false] at hi
      rcases hi with rfl | rfl
      · refine wpOp_plain rfl rfl ?_
        refine op_buildS 22 (.tmp 105) rfl (.int .u8 o.note.size) rfl (bldOne _ w6.drew) ?_
        have hBb : Below w6.drew.heap.size w6.drew (w6.drew.alloc (.cells #[.int .u8 (o.note.size : Int)] 5)) := (Below.refl _ _).alloc (Nat.le_refl _) _
        have hGb : G o w (w6.drew.alloc (.cells #[.int .u8 (o.note.size : Int)] 5)) v6 M6 := hG0.step (Step.alloc _) (Own.below hG0.own hBb)
        have hsb : SrcAt (w6.drew.alloc (.cells #[.int .u8 (o.note.size : Int)] 5)) .u8 (some ⟨w6.drew.heap.size, 0, none⟩) 1 (fun _ => (o.note.size : Int)) := srcAt_one
        refine ⟨hGb.r.c37, ?_⟩
        simp only [Act.put]
        generalize hbk : w6.drew.heap.size = kb at hsb
        generalize w6.drew.alloc (.cells #[.int .u8 (o.note.size : Int)] 5) = Wb at hBb hGb hsb
        refine wpAnyH_all (rs := [6, 9]) (by kernel_rfl) (by simp) fun i hi => ?_
        simp only [List.mem_cons, List.not_mem_nil, or_false] at hi
        rcases hi with rfl | rfl
        · refine wpOp_plain rfl rfl ?_
          obtain ⟨v7, Wa, hra, hOa, hSa⟩ := own_run (c := 1) 22 hGb.own hsb (by omega)
          refine op_append (.tmp 101) (.tmp 106) 22 rfl rfl rfl hra ?_
          have hGa : G o w Wa v7 (M6 ++ [(o.note.size : Int)]) := hGb.step hSa hOa
          refine ⟨hGa.r.c37, ?_⟩
          simp only [Act.put]
          refine mv_next 9 rfl (by kernel_rfl) ?_
          obtain ⟨cc, Wc, hrc, hBc, hszc, hsc⟩ := text_bytes o.note Wa
          refine op_convert 9 22 (.tmp 109) rfl rfl hrc ?_
          have hGc : G o w Wc v7 (M6 ++ [(o.note.size : Int)]) := ⟨hGa.b.trans (hBc.mono (Nat.le_of_lt hGa.lt)), hGa.r.below hBc, Own.below hGa.own hBc, hGa.blk⟩
          refine ⟨hGc.r.c37, ?_⟩
          simp only [Act.put]
          have hlM : (M6 ++ [(o.note.size : Int)]).length ≤ 3000 := by rw [List.length_append]; simp; omega
          generalize hM7 : M6 ++ [(o.note.size : Int)] = M7 at hGc hlM
          have HM7 : Hid _ := hM7
          clear hM7
          obtain ⟨s7, c7, hv7, hs7⟩ := Own.src hGc.own
          subst hv7
          have hb := both_own s7 (some ⟨Wa.heap.size, 0, none⟩) c7 cc M7 (bytesOf o.note) Wc hs7 hsc (by omega) (by rw [bytesOf_len]; omega)
          rw [bytesOf_len] at hb
          refine mv_nextg 10 rfl (by rfl) (by kernel_rfl) ?_
          go_simp
          refine hb.mono ?_
          rintro e wz ⟨vz, rfl, hOz, -, hBz⟩
          have hrz := hGc.r.below hBz
          refine ⟨hrz.c37, ?_⟩
          refine mv_rung 11 2 (vz) rfl (by rfl) (by kernel_rfl) (by kernel_rfl) (by kernel_rfl) (fun _ _ _ h => h) (fun w' hw' => by first | rfl | go_simp) hrz.c37 ?_
          simp only [List.setIfInBounds_toArray, List.set_cons_succ, List.set_cons_zero]
          refine wpAnyH_done (by kernel_rfl) ?_ _
          have HOz : Hid (Own wz vz (encB o c)) := by rw [HENC.out, HM7.out]; exact hOz
          have fz : Below w.heap.size w wz := hGc.b.trans (hBz.mono (Nat.le_of_lt hGc.lt))
          clear hb hOz hBz hrz
          go_wp2
          go_ret
          exact ⟨_, rfl, HOz.out, fz⟩
        · refine wpOp_plain rfl rfl ?_
          obtain ⟨cc, Wc, hrc, hBc, hszc, hsc⟩ := text_bytes o.note Wb
          refine op_convert 9 22 (.tmp 109) rfl rfl hrc ?_
          have hGc : G o w Wc v6 M6 := ⟨hGb.b.trans (hBc.mono (Nat.le_of_lt hGb.lt)), hGb.r.below hBc, Own.below hGb.own hBc, hGb.blk⟩
          have hsb2 := hsb.below hBc
          refine ⟨hGc.r.c37, ?_⟩
          simp only [Act.put]
          refine mv_next 6 rfl (by kernel_rfl) ?_
          obtain ⟨v7, Wa, hra, hOa, hSa⟩ := own_run (c := 1) 22 hGc.own hsb2 (by omega)
          refine op_append (.tmp 101) (.tmp 106) 22 rfl rfl rfl hra ?_
          have hGa : G o w Wa v7 (M6 ++ [(o.note.size : Int)]) := hGc.step hSa hOa
          refine ⟨hGa.r.c37, ?_⟩
          simp only [Act.put]
          have hne : v6.ownBlock ≠ some Wb.heap.size := fun e => Nat.lt_irrefl _ (Own.lt hGb.own e)
          have hltc : Wb.heap.size < Wc.heap.size := hszc
          have hsc2 := hsc.blk (hSa.keep hltc hne)
          have hlM : (M6 ++ [(o.note.size : Int)]).length ≤ 3000 := by rw [List.length_append]; simp; omega
          generalize hM7 : M6 ++ [(o.note.size : Int)] = M7 at hGa hlM
          have HM7 : Hid _ := hM7
          clear hM7
          obtain ⟨s7, c7, hv7, hs7⟩ := Own.src hGa.own
          subst hv7
          have hb := both_own s7 (some ⟨Wb.heap.size, 0, none⟩) c7 cc M7 (bytesOf o.note) Wa hs7 hsc2 (by omega) (by rw [bytesOf_len]; omega)
          rw [bytesOf_len] at hb
          refine mv_nextg 10 rfl (by rfl) (by kernel_rfl) ?_
          go_simp
          refine hb.mono ?_
          rintro e wz ⟨vz, rfl, hOz, -, hBz⟩
          have hrz := hGa.r.below hBz
          refine ⟨hrz.c37, ?_⟩
          refine mv_rung 11 2 (vz) rfl (by rfl) (by kernel_rfl) (by kernel_rfl) (by kernel_rfl) (fun _ _ _ h => h) (fun w' hw' => by first | rfl | go_simp) hrz.c37 ?_
          simp only [List.setIfInBounds_toArray, List.set_cons_succ, List.set_cons_zero]
          refine wpAnyH_done (by kernel_rfl) ?_ _
          have HOz : Hid (Own wz vz (encB o c)) := by rw [HENC.out, HM7.out]; exact hOz
          have fz : Below w.heap.size w wz := hGa.b.trans (hBz.mono (Nat.le_of_lt hGa.lt))
          clear hb hOz hBz hrz
          go_wp2
          go_ret
          exact ⟨_, rfl, HOz.out, fz⟩
      · refine wpOp_plain rfl rfl ?_
        obtain ⟨cc, Wc, hrc, hBc, hszc, hsc⟩ := text_bytes o.note w6.drew
        refine op_convert 9 22 (.tmp 109) rfl rfl hrc ?_
        have hGc : G o w Wc v6 M6 := ⟨hG0.b.trans (hBc.mono (Nat.le_of_lt hG0.lt)), hG0.r.below hBc, Own.below hG0.own hBc, hG0.blk⟩
        refine ⟨hGc.r.c37, ?_⟩
        simp only [Act.put]
        refine mv_next 5 rfl (by kernel_rfl) ?_
        refine op_buildS 22 (.tmp 105) rfl (.int .u8 o.note.size) rfl (bldOne _ Wc) ?_
        have hBb : Below Wc.heap.size Wc (Wc.alloc (.cells #[.int .u8 (o.note.size : Int)] 5)) := (Below.refl _ _).alloc (Nat.le_refl _) _
        have hGb : G o w (Wc.alloc (.cells #[.int .u8 (o.note.size : Int)] 5)) v6 M6 := hGc.step (Step.alloc _) (Own.below hGc.own hBb)
        have hsb : SrcAt (Wc.alloc (.cells #[.int .u8 (o.note.size : Int)] 5)) .u8 (some ⟨Wc.heap.size, 0, none⟩) 1 (fun _ => (o.note.size : Int)) := srcAt_one
        have hscb := hsc.below hBb
        refine ⟨hGb.r.c37, ?_⟩
        simp only [Act.put]
        generalize hbk : Wc.heap.size = kb at hsb
        generalize Wc.alloc (.cells #[.int .u8 (o.note.size : Int)] 5) = Wb at hBb hGb hsb hscb
        refine mv_next 6 rfl (by kernel_rfl) ?_
        obtain ⟨v7, Wa, hra, hOa, hSa⟩ := own_run (c := 1) 22 hGb.own hsb (by omega)
        refine op_append (.tmp 101) (.tmp 106) 22 rfl rfl rfl hra ?_
        have hGa : G o w Wa v7 (M6 ++ [(o.note.size : Int)]) := hGb.step hSa hOa
        refine ⟨hGa.r.c37, ?_⟩
        simp only [Act.put]
        have hne : v6.ownBlock ≠ some w6.drew.heap.size := fun e => Nat.lt_irrefl _ (Own.lt hG0.own e)
        have hsc2 := hscb.blk (hSa.keep (Nat.lt_of_lt_of_le hszc hBb.size) hne)
        have hlM : (M6 ++ [(o.note.size : Int)]).length ≤ 3000 := by rw [List.length_append]; simp; omega
        generalize hM7 : M6 ++ [(o.note.size : Int)] = M7 at hGa hlM
        have HM7 : Hid _ := hM7
        clear hM7
        obtain ⟨s7, c7, hv7, hs7⟩ := Own.src hGa.own
        subst hv7
        have hb := both_own s7 (some ⟨w6.drew.heap.size, 0, none⟩) c7 cc M7 (bytesOf o.note) Wa hs7 hsc2 (by omega) (by rw [bytesOf_len]; omega)
        rw [bytesOf_len] at hb
        refine mv_nextg 10 rfl (by rfl) (by kernel_rfl) ?_
        go_simp
        refine hb.mono ?_
        rintro e wz ⟨vz, rfl, hOz, -, hBz⟩
        have hrz := hGa.r.below hBz
        refine ⟨hrz.c37, ?_⟩
        refine mv_rung 11 2 (vz) rfl (by rfl) (by kernel_rfl) (by kernel_rfl) (by kernel_rfl) (fun _ _ _ h => h) (fun w' hw' => by first | rfl | go_simp) hrz.c37 ?_
        simp only [List.setIfInBounds_toArray, List.set_cons_succ, List.set_cons_zero]
        refine wpAnyH_done (by kernel_rfl) ?_ _
        have HOz : Hid (Own wz vz (encB o c)) := by rw [HENC.out, HM7.out]; exact hOz
        have fz : Below w.heap.size w wz := hGa.b.trans (hBz.mono (Nat.le_of_lt hGa.lt))
        clear hb hOz hBz hrz
        go_wp2
        go_ret
        exact ⟨_, rfl, HOz.out, fz⟩
end Go.Proofs.YtnaoaeapffgojaaDoor
