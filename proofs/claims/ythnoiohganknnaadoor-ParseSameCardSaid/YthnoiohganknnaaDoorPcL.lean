/- The law ParseSame answers true. -/
import Derived.Test.YthnoiohganknnaaDoorPcN
import Derived.Test.YthnoiohganknnaaDoorPcR
import Derived.Test.YthnoiohganknnaaDoorPcW
import Derived.Test.YthnoiohganknnaaDoorMovesg
namespace Go.Proofs.YthnoiohganknnaaDoor
open Go.RowKit

/-- What lasts while the law runs: a tree's cell, and its nodes. -/
structure SmF (w : World) (g : Nat) (v : Value) (L : List Nd) (W : World) : Prop where
  b : Below w.heap.size w W
  r : W.heap[g]? = some (.cells #[v] 25 (0, 0))
  t : ∃ B, TrAt B W v L
theorem SmF.below {w W W' : World} {g : Nat} {v : Value} {L : List Nd} (h : SmF w g v L W) (hb : Below W.heap.size W W') : SmF w g v L W' := by
  obtain ⟨B, ht⟩ := h.t
  exact ⟨h.b.trans (hb.mono h.b.size), (hb.block _ (lt_of_row h.r)).trans h.r, B, ht.below hb⟩
theorem SmF.parts {w W : World} {g n c : Nat} {s : Option Addr} {L : List Nd} (h : SmF w g (.slice s n c) L W) : ∃ N S, RowsAt W 7 NdM.cells s N ∧ Rep W S N L := by
  obtain ⟨B, N, S, h1, h2, -⟩ := h.t
  obtain ⟨sp, cap, e, hr, -⟩ := OwnG.rows elN h1
  injection e with e1 _ _
  subst e1
  exact ⟨N, S, hr, h2⟩
set_option maxRecDepth 100000 in
set_option maxHeartbeats 4000000 in
theorem parseSame_all (a b : ByteArray) (w : World) (hT : Tabl w) : Calls Tryd.prog 3 #[.string a, .string b] w fun e w' => e = .returned (.bool true) ∧ Below w.heap.size w w' := by
  have HT : Hid (∀ W, Below w.heap.size w W → Tabl W) := fun W hb => tabl_agree hb.block hT
  clear hT
  go_enter Tryd.func3, Tryd.ntmps3
  go_wp2_with fail
  refine (wakes11_any w (HT.out w (Below.refl _ _))).mono ?_
  rintro e W1 ⟨rfl, b1⟩
  have HB1 : Hid (Below w.heap.size w W1) := b1
  clear b1
  cases z1 : decide ((6000 : Int) < a.size)
  rotate_left
  focus (
    go_wp2
    go_ret
    exact ⟨rfl, HB1.out⟩)
  cases z2 : decide ((6000 : Int) < b.size)
  rotate_left
  focus (
    go_wp2
    go_ret
    exact ⟨rfl, HB1.out⟩)
  go_wp2_with fail
  refine (text_all W1 a (HT.out W1 HB1.out)).mono ?_
  rintro e W2 h2
  obtain ⟨b2, v2, rfl, t2⟩ := prp_tr h2
  obtain ⟨s2, c2, rfl⟩ := t2.shape
  have HB2 : Hid (Below w.heap.size w W2) := HB1.out.trans (b2.mono HB1.out.size)
  have T2 : Hid (TrAt W1.heap.size W2 (.slice s2 (trO (txtO a.data.toList)).length c2) (trO (txtO a.data.toList))) := t2
  clear h2 b2 t2
  have hb2 := txt_bnd a.data.toList
  generalize trO (txtO a.data.toList) = L at T2 hb2 ⊢
  generalize spO (txtO a.data.toList) = sp2
  obtain ⟨er2, pe2⟩ := sp2
  have HL : Hid (∀ d ∈ L, d.kids.length ≤ 1000000) := fun d hd => by have := (hb2.2 d hd).2; omega
  have hL : L.length ≤ 1000000 := by omega
  clear hb2
  go_wp2_with fail
  refine calls_gen (fun W => SmF w W2.heap.size (.slice s2 L.length c2) L W) ?_ ?_
  · have n0 := heap_alloc_new W2 (.cells #[.slice s2 L.length c2] 25)
    have hb := ((Below.refl W2.heap.size W2).alloc (Nat.le_refl _) (.cells #[.slice s2 L.length c2] 25)).alloc (by simp) (.cells #[.int .i64 er2, .int .i64 pe2] 28)
    exact ⟨HB2.out.trans (hb.mono HB2.out.size), (Below.heap_alloc _ _ _ (by simp)).trans n0, _, T2.out.below hb⟩
  intro W3 f3
  refine (text_all W3 b (HT.out W3 f3.b)).mono ?_
  rintro e W4 h4
  obtain ⟨b4, v4, rfl, t4⟩ := prp_tr h4
  obtain ⟨s4, c4, rfl⟩ := t4.shape
  have F4 : Hid (SmF w W2.heap.size (.slice s2 L.length c2) L W4) := f3.below b4
  have T4 : Hid (TrAt W3.heap.size W4 (.slice s4 (trO (txtO b.data.toList)).length c4) (trO (txtO b.data.toList))) := t4
  have hb4 := txt_bnd b.data.toList
  have lt4 : W2.heap.size < W4.heap.size := lt_of_row F4.out.r
  clear h4 b4 t4 f3 T2 HB2 HB1 HT
  generalize trO (txtO b.data.toList) = K at T4 hb4 ⊢
  generalize spO (txtO b.data.toList) = sp4
  obtain ⟨er4, pe4⟩ := sp4
  have HK : Hid (∀ d ∈ K, d.kids.length ≤ 1000000) := fun d hd => by have := (hb4.2 d hd).2; omega
  have hK : K.length ≤ 1000000 := by omega
  clear hb4
  go_wp2_with fail
  refine wp_gen (fun W => SmF w W2.heap.size (.slice s2 L.length c2) L W ∧ SmF w W4.heap.size (.slice s4 K.length c4) K W) ?_ ?_
  · have n0 := heap_alloc_new W4 (.cells #[.slice s4 K.length c4] 25)
    have hb := ((Below.refl W4.heap.size W4).alloc (Nat.le_refl _) (.cells #[.slice s4 K.length c4] 25)).alloc (by simp) (.cells #[.int .i64 er4, .int .i64 pe4] 28)
    exact ⟨F4.out.below hb, F4.out.b.trans (hb.mono F4.out.b.size), (Below.heap_alloc _ _ _ (by simp)).trans n0, _, T4.out.below hb⟩
  rintro W5 ⟨f5, g5⟩
  have hS0 : SmF w W2.heap.size (.slice s2 L.length c2) L W5.drew ∧ SmF w W4.heap.size (.slice s4 K.length c4) K W5.drew := ⟨f5.below (Below.refl _ _).drew, g5.below (Below.refl _ _).drew⟩
  clear f5 g5 F4 T4 lt4
  refine mv_begin (S := fun w' => SmF w W2.heap.size (.slice s2 L.length c2) L w' ∧ SmF w W4.heap.size (.slice s4 K.length c4) K w') 13 rfl (by kernel_rfl) ?_
  refine mv_rowg 0 29 25 (.tmp 5) rfl (by rfl) W2.heap.size 25 #[.slice s2 L.length c2] (0, 0) rfl (by kernel_rfl) (by kernel_rfl) (by kernel_rfl) (fun _ _ _ h => h) _ (fun w' hw' => hw'.1.r) Tryd.underlying25 rfl (by kernel_rfl) hS0 ?_
  simp only [List.setIfInBounds_toArray, List.set_cons_succ, List.set_cons_zero]
  refine mv_rowg 1 30 25 (.tmp 7) rfl (by rfl) W4.heap.size 25 #[.slice s4 K.length c4] (0, 0) rfl (by kernel_rfl) (by kernel_rfl) (by kernel_rfl) (fun _ _ _ h => h) _ (fun w' hw' => hw'.2.r) Tryd.underlying25 rfl (by kernel_rfl) hS0 ?_
  simp only [List.setIfInBounds_toArray, List.set_cons_succ, List.set_cons_zero]
  refine mv_rowg 3 32 25 (.tmp 5) rfl (by rfl) W2.heap.size 25 #[.slice s2 L.length c2] (0, 0) rfl (by kernel_rfl) (by kernel_rfl) (by kernel_rfl) (fun _ _ _ h => h) _ (fun w' hw' => hw'.1.r) Tryd.underlying25 rfl (by kernel_rfl) hS0 ?_
  simp only [List.setIfInBounds_toArray, List.set_cons_succ, List.set_cons_zero]
  refine mv_rowg 4 33 25 (.tmp 7) rfl (by rfl) W4.heap.size 25 #[.slice s4 K.length c4] (0, 0) rfl (by kernel_rfl) (by kernel_rfl) (by kernel_rfl) (fun _ _ _ h => h) _ (fun w' hw' => hw'.2.r) Tryd.underlying25 rfl (by kernel_rfl) hS0 ?_
  simp only [List.setIfInBounds_toArray, List.set_cons_succ, List.set_cons_zero]
  refine mv_nextg 2 rfl (by rfl) (by kernel_rfl) ?_
  go_simp
  obtain ⟨N, S, n1, n2⟩ := hS0.1.parts
  obtain ⟨M, T, m1, m2⟩ := hS0.2.parts
  refine (tsame_any s2 s4 c2 c4 N M S T L K _ n1 n2 m1 m2 hL hK HL.out HK.out).mono ?_
  rintro e W6 ⟨rfl, b6⟩
  have hS1 : SmF w W2.heap.size (.slice s2 L.length c2) L W6 ∧ SmF w W4.heap.size (.slice s4 K.length c4) K W6 := ⟨hS0.1.below b6, hS0.2.below b6⟩
  refine ⟨hS1, ?_⟩
  clear n1 n2 m1 m2 b6 hS0
  refine mv_nextg 5 rfl (by rfl) (by kernel_rfl) ?_
  go_simp
  obtain ⟨N6, S6, n1, n2⟩ := hS1.1.parts
  obtain ⟨M6, T6, m1, m2⟩ := hS1.2.parts
  refine (rsame11_any false s2 s4 c2 c4 N6 M6 S6 T6 L K W6 n1 n2 m1 m2 hL hK HL.out HK.out).mono ?_
  rintro e W7 ⟨rfl, b7⟩
  rw [eqAll_noP]
  have hS2 : SmF w W2.heap.size (.slice s2 L.length c2) L W7 ∧ SmF w W4.heap.size (.slice s4 K.length c4) K W7 := ⟨hS1.1.below b7, hS1.2.below b7⟩
  refine ⟨hS2, ?_⟩
  clear n1 n2 m1 m2 b7 hS1
  have hbb : (eqAll ndEq L K == eqAll ndEq L K) = true := by simp
  generalize eqAll ndEq L K = bb at hbb ⊢
  refine mv_rung 6 35 (.bool true) rfl (by rfl) (by kernel_rfl) (by kernel_rfl) (by kernel_rfl) (fun _ _ _ h => h) (fun w' _ => ?_) hS2 ?_
  · first | rfl | go_simp
  simp only [List.setIfInBounds_toArray, List.set_cons_succ, List.set_cons_zero]
  refine mv_rung 7 36 (.bool true) rfl (by rfl) (by kernel_rfl) (by kernel_rfl) (by kernel_rfl) (fun _ _ _ h => h) (fun w' _ => ?_) hS2 ?_
  · first | rfl | go_simp
  simp only [List.setIfInBounds_toArray, List.set_cons_succ, List.set_cons_zero]
  refine mv_rowg 8 37 25 (.tmp 5) rfl (by rfl) W2.heap.size 25 #[.slice s2 L.length c2] (0, 0) rfl (by kernel_rfl) (by kernel_rfl) (by kernel_rfl) (fun _ _ _ h => h) _ (fun w' hw' => hw'.1.r) Tryd.underlying25 rfl (by kernel_rfl) hS2 ?_
  simp only [List.setIfInBounds_toArray, List.set_cons_succ, List.set_cons_zero]
  refine mv_rowg 9 38 25 (.tmp 5) rfl (by rfl) W2.heap.size 25 #[.slice s2 L.length c2] (0, 0) rfl (by kernel_rfl) (by kernel_rfl) (by kernel_rfl) (fun _ _ _ h => h) _ (fun w' hw' => hw'.1.r) Tryd.underlying25 rfl (by kernel_rfl) hS2 ?_
  simp only [List.setIfInBounds_toArray, List.set_cons_succ, List.set_cons_zero]
  refine mv_nextg 10 rfl (by rfl) (by kernel_rfl) ?_
  go_simp
  obtain ⟨N7, S7, n1, n2⟩ := hS2.1.parts
  refine (tsame_any s2 s2 c2 c2 N7 N7 S7 S7 L L W7 n1 n2 n1 n2 hL hL HL.out HL.out).mono ?_
  rintro e W8 ⟨rfl, b8⟩
  rw [eqAll_refl ndEq_refl]
  have hS3 : SmF w W2.heap.size (.slice s2 L.length c2) L W8 ∧ SmF w W4.heap.size (.slice s4 K.length c4) K W8 := ⟨hS2.1.below b8, hS2.2.below b8⟩
  refine ⟨hS3, ?_⟩
  clear n1 n2 b8 hS2
  refine mv_rung 11 40 (.bool true) rfl (by rfl) (by kernel_rfl) (by kernel_rfl) (by kernel_rfl) (fun _ _ _ h => h) (fun w' _ => ?_) hS3 ?_
  · first | rfl | go_simp
  simp only [List.setIfInBounds_toArray, List.set_cons_succ, List.set_cons_zero]
  refine mv_rung 12 4 (.bool true) rfl (by rfl) (by kernel_rfl) (by kernel_rfl) (by kernel_rfl) (fun _ _ _ h => h) (fun w' _ => ?_) hS3 ?_
  · first | rfl | go_simp
  simp only [List.setIfInBounds_toArray, List.set_cons_succ, List.set_cons_zero]
  refine wpAnyH_done (by kernel_rfl) ?_ _
  have F8 : Hid (Below w.heap.size w W8) := hS3.1.b
  clear hS3
  go_wp2
  go_ret
  exact ⟨rfl, F8.out⟩
end Go.Proofs.YthnoiohganknnaaDoor
