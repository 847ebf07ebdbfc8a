/- The document's Decode, whole; the walk through the law ObjectDecodes: it answers true, whatever the bytes. -/
import Derived.Test.YtnaoaeapffgojaaRDcB
import Derived.Test.YtnaoaeapffgojaaRDcT
import Derived.Test.YtnaoaeapffgojaaRDcK
import Derived.Test.YtnaoaeapffgojaaRSmO
import Derived.Test.YtnaoaeapffgojaaWakC
namespace Go.Proofs.Ytnaoaeapffgojaa
open Go.RowKit

theorem rdecode_any (sp : Option Addr) (n cap : Nat) (src : Nat → Int) (w : World) (hs : SrcAt w .u8 sp n src) (hcap : n ≤ cap) (hmx : n ≤ 100000) (hok : ∀ i, i < n → 0 ≤ src i ∧ src i ≤ 255) :
    Calls Try.prog 8 #[.slice sp n cap] w (RPost ((List.range n).map src) w) := by
  by_cases h0 : n = 0
  · subst h0
    exact rdec_none sp cap src w
  have hn : 0 < n := by omega
  obtain ⟨b, off, rfl, -⟩ := hs hn
  have hx := hok 0 hn
  by_cases hlo : src 0 < 1
  · exact rdec_lo b off n cap src w hs hn hok (src 0) rfl hlo
  by_cases hhi : 3 < src 0
  · exact rdec_hi b off n cap src w hs hn hok (src 0) rfl hhi
  by_cases h1 : src 0 = 1
  · by_cases h3 : n < 3
    · exact rdec_blob_a b off n cap src w hs hn hok h1 h3
    · exact rdec_blob_b b off n cap src w hs hn hok hcap hmx h1 h3
  by_cases h2 : src 0 = 2
  · by_cases h3 : n < 2
    · exact rdec_tree_a b off n cap src w hs hn hok h2 h3
    · exact rdec_tree_b b off n cap src w hs hn hok hcap hmx h2 h3
  have h3 : src 0 = 3 := by omega
  by_cases h34 : n < 34
  · exact rdec_com_a b off n cap src w hs hn hok h3 h34
  obtain ⟨x, hx1, hx2⟩ : ∃ x : Nat, src 33 = (x : Int) ∧ x ≤ 255 := ⟨(src 33).toNat, by have := hok 33 (by omega); omega, by have := hok 33 (by omega); omega⟩
  by_cases hB : n - 34 < 32 * x + 5
  · exact rdec_com_b b off n cap src w hs hn hok h3 (by omega) x hx1 hx2 hB hmx
  · exact rdec_com_c b off n cap src w hs hn hok hcap hmx h3 x hx1 hx2 (by omega)

/-- What both Decodes tell. -/
def resX (L : List Int) : Int := if (decP L).2 = 7 then 7 else if fullB L then 0 else 150
def resC (L : List Int) : Co := if resX L = 0 then decC L else ⟨0, fun _ => 0, [], []⟩
def Alike (L : List Int) (o : Ob) : Prop := (resX L = 0 ∧ ∃ sq cq, o = decO L sq cq) ∨ (resX L ≠ 0 ∧ o = zeroOb)
theorem has_none (w : World) : Has w zeroOb ⟨0, fun _ => 0, [], []⟩ :=
  ⟨⟨none, 0, rfl, fun h => absurd h (Nat.lt_irrefl 0)⟩, ⟨none, 0, rfl, RowsAt.none⟩, ⟨none, 0, rfl, RowsAt.none⟩, fun i hi => by simp at hi, fun n cap h => by injection h with _ _ h; exact h.symm, by simp, by simp, by simp⟩
theorem sameB_dec (L : List Int) (c : Co) (s1 s2 : Option Addr) (c1 c2 : Nat) : sameB (decO L s1 c1) c (decO L s2 c2) c = true := by
  have e3 : ∀ l : List (Nat → Int), eqAll idEq l l = true := eqAll_self fun f => eqTo_self f 32
  unfold decO
  split
  · simp [sameB, blobOb, eqTo_self, eqAll_self entEq_self, e3]
  split
  · simp [sameB, eqTo_self, eqAll_self entEq_self, e3]
  split
  · simp [sameB, commitOb, eqTo_self, eqAll_self entEq_self, e3]
  · simp [sameB, eqTo_self, eqAll_self entEq_self, e3]
theorem alike_same {L : List Int} {o p : Ob} (ho : Alike L o) (hp : Alike L p) : sameB o (resC L) p (resC L) = true := by
  rcases ho with ⟨h1, s1, c1, rfl⟩ | ⟨h1, rfl⟩
  · rcases hp with ⟨-, s2, c2, rfl⟩ | ⟨h2, -⟩
    · exact sameB_dec L _ s1 s2 c1 c2
    · exact absurd h1 h2
  · rcases hp with ⟨h2, -⟩ | ⟨-, rfl⟩
    · exact absurd h2 h1
    · have e3 : ∀ l : List (Nat → Int), eqAll idEq l l = true := eqAll_self fun f => eqTo_self f 32
      simp [sameB, eqTo_self, eqAll_self entEq_self, e3]
theorem alike_zero {L : List Int} {w : World} (h : resX L ≠ 0) : Alike L zeroOb ∧ Has w zeroOb (resC L) := by
  refine ⟨.inr ⟨h, rfl⟩, ?_⟩
  unfold resC
  rw [if_neg h]
  exact has_none w
theorem dec_res {L : List Int} (hL : ∀ x ∈ L, 0 ≤ x ∧ x ≤ 255) {sq : Option Addr} {cq : Nat} {w w' : World} {e : Ending} (h : DecPost L (decO L sq cq) (decC L) (decP L) w e w') :
    Below w.heap.size w w' ∧ ∃ o, e = .returned (.tuple #[.agg o.cells, .int .i64 (resX L)]) ∧ Alike L o ∧ Has w' o (resC L) := by
  refine ⟨h.1, ?_⟩
  rcases h.2 with ⟨h1, h2⟩ | ⟨h1, h2, h3⟩ | ⟨h1, h2, h3, h4, h5⟩
  · have h7 : (decP L).2 = 7 := by rcases decP_either L with q | q; exact absurd q h1; exact q
    have hr : resX L = 7 := by unfold resX; rw [if_pos h7]
    have := alike_zero (w := w') (L := L) (by rw [hr]; omega)
    exact ⟨zeroOb, by rw [h2, hr, h7], this.1, this.2⟩
  · have hf : fullB L = false := by
      cases hq : fullB L with
      | false => rfl
      | true =>
        obtain ⟨q1, q2⟩ := enc_of_full hL h1 hq sq cq
        rcases h2 with h2 | h2
        · rw [q1] at h2; cases h2
        · exact absurd q2 h2
    have hr : resX L = 150 := by unfold resX; rw [if_neg (by rw [h1]; omega), hf]; rfl
    have := alike_zero (w := w') (L := L) (by rw [hr]; omega)
    exact ⟨zeroOb, by rw [h3, hr], this.1, this.2⟩
  · have hf := full_of_enc hL h2 h3
    have hr : resX L = 0 := by unfold resX; rw [if_neg (by rw [h1]; omega), if_pos hf]
    refine ⟨decO L sq cq, by rw [h4, hr], .inl ⟨hr, sq, cq, rfl⟩, ?_⟩
    unfold resC
    rw [if_pos hr]
    exact h5
theorem ref_res {L : List Int} {w w' : World} {e : Ending} (h : RPost L w e w') : Below w.heap.size w w' ∧ ∃ o, e = .returned (.tuple #[.agg o.cells, .int .i64 (resX L)]) ∧ Alike L o ∧ Has w' o (resC L) := by
  refine ⟨h.1, ?_⟩
  rcases h.2 with ⟨h1, h2⟩ | ⟨h1, h2, h3⟩ | ⟨h1, h2, sq, cq, h4, h5⟩
  · have hr : resX L = 7 := by unfold resX; rw [if_pos h1]
    have := alike_zero (w := w') (L := L) (by rw [hr]; omega)
    exact ⟨zeroOb, by rw [h2, hr], this.1, this.2⟩
  · have hr : resX L = 150 := by unfold resX; rw [if_neg (by rw [h1]; omega), h2]; rfl
    have := alike_zero (w := w') (L := L) (by rw [hr]; omega)
    exact ⟨zeroOb, by rw [h3, hr], this.1, this.2⟩
  · have hr : resX L = 0 := by unfold resX; rw [if_neg (by rw [h1]; omega), if_pos h2]
    refine ⟨decO L sq cq, by rw [h4, hr], .inl ⟨hr, sq, cq, rfl⟩, ?_⟩
    unfold resC
    rw [if_pos hr]
    exact h5
theorem has_one {w : World} {o : Ob} {c : Co} (h : Has w o c) : o.cells.all (·.oneCell') = true := by
  obtain ⟨_, _, h1, _⟩ := h.b
  obtain ⟨_, _, h2, _⟩ := h.e
  obtain ⟨_, _, h3, _⟩ := h.p
  exact ob_one _ (by rw [h1]; rfl) (by rw [h2]; rfl) (by rw [h3]; rfl)
theorem app_bytes {sp : Option Addr} {n cap g : Nat} {src : Nat → Int} {W : World} (ty : TypeId) (hs : SrcAt W .u8 sp n src) (hn : sp = none → n = 0 ∧ cap = 0) (hl : n ≤ 100000) :
    ∃ v' W', (Builtin.append_ #[22, 22] ty #[.slice (some ⟨g, 0, none⟩) 0 0, .slice sp n cap]).run Try.prog W = .ok v' W' ∧ Below W.heap.size W W' ∧ ∃ sp' cap', v' = .slice sp' n cap' ∧ SrcAt W' .u8 sp' n src ∧ sp' ≠ none := by
  obtain ⟨i, hi, hz0, hz1, hz2⟩ := info_parts info5
  have hb : bl ⟨n, src, [], []⟩ = (List.range n).map src := rfl
  have hlen : (bl ⟨n, src, [], []⟩).length = n := bl_len _
  obtain ⟨v', W', h1, h2, sp', cap', h3, h4, -, h6⟩ := app_fresh (t := 22) (ty := ty) bcell Try.underlying22 hi hz0 hz1 (by rw [hz2]; omega) (by omega) (fun _ => rfl) g sp cap (bl ⟨n, src, [], []⟩) W (src_rows (c := ⟨n, src, [], []⟩) hs) (fun h => by rw [hlen]; exact hn h) (by rw [hlen]; exact hl)
  rw [hlen] at h1 h3
  exact ⟨v', W', h1, h2, sp', cap', h3, rows_src (c := ⟨n, src, [], []⟩) h4, h6⟩
theorem wpList_app {P : Program} {ops : Array Oper} {Q : Exit → Act → World → Prop} {a : Act} {w w' : World} {rest : List Oper} {o : Oper} (hgd : o.guard = none) (s x : Operand) (t : TypeId) (ho : o.op = .call { callee := .builtin .append, args := #[s, x], argTypes := #[t, t] }) (vs vx v' : Value) (hs : a.eval s = vs) (hx : a.eval x = vx)
    (hr : (Builtin.append_ #[t, t] o.type #[vs, vx]).run P w = .ok v' w') (h : wpList P ops Q rest (a.put o.dst v') w') : wpList P ops Q (o :: rest) a w :=
  wpList_plain hgd fun _ hK => op_append s x t ho hs hx hr (hK _ _ h)
theorem wpList_buildN {P : Program} {ops : Array Oper} {Q : Exit → Act → World → Prop} {a : Act} {w w' : World} {rest : List Oper} {o : Oper} (hgd : o.guard = none) (t : TypeId) (ho : o.op = .buildSlice t 0 #[]) (v' : Value)
    (hr : (Instr.buildSlice t 0 #[]).run P w = .ok v' w') (h : wpList P ops Q rest (a.put o.dst v') w') : wpList P ops Q (o :: rest) a w :=
  wpList_plain hgd fun _ hK => op_build t ho hr (hK _ _ h)

set_option maxRecDepth 100000 in
set_option maxHeartbeats 4000000 in
theorem decodes_all (sp : Option Addr) (n cap : Nat) (src : Nat → Int) (w : World) (hsrc : SrcAt w .u8 sp n src) (hcap : sp = none → cap = 0 ∧ n = 0) (hnc : n ≤ cap) (hok : ∀ i, 0 ≤ src i ∧ src i ≤ 255) (_hml : n ≤ maxLen) :
    Calls Try.prog 3 #[.slice sp n cap] w fun e w' => e = .returned (.bool true) ∧ Below w.heap.size w w' := by
  go_enter Try.func3, Try.ntmps3
  go_wp2_with fail
  refine (wakes_any w).mono ?_
  rintro e w1 ⟨rfl, hB1⟩
  have HS1 : Hid (SrcAt w1 .u8 sp n src) := hsrc.below hB1
  clear hsrc
  by_cases hn : 20000 < n
  · have hd : decide (20000 < (n : Int)) = true := by simp; omega
    go_wp2_with fail
    go_ret
    exact ⟨rfl, hB1⟩
  have hd : decide (20000 < (n : Int)) = false := by simp; omega
  have HCP : Hid _ := hcap
  have HOK : Hid _ := hok
  obtain ⟨L, hL⟩ : ∃ L, L = (List.range n).map src := ⟨_, rfl⟩
  have hLok : ∀ x ∈ L, 0 ≤ x ∧ x ≤ 255 := by rw [hL]; exact ok_src fun i _ => hok i
  have HL : Hid _ := hL
  have HLK : Hid _ := hLok
  clear hcap hok hL hLok
  go_wp2_with (first
    | (refine wpList_buildN (by rfl) 22 (by rfl) _ (bldB _) ?_; refine wpList_gen (fun W => Below w1.heap.size w1 W) ((Below.refl _ _).alloc (Nat.le_refl _) _) ?_; intro W2 hB2; have HB2 : Hid _ := hB2; clear hB2)
    | (at_builtin; obtain ⟨v3, w3, hr3, hB3, s3, c3, hv3, hS3, hn3⟩ := app_bytes (g := w1.heap.size) (cap := cap) 22 (SrcAt.below HS1.out HB2.out) (fun h => ⟨(HCP.out h).2, (HCP.out h).1⟩) (show n ≤ 100000 by omega); subst hv3; refine wpList_app (by rfl) (.tmp 13) (.tmp 14) 22 (by rfl) _ _ _ (by rfl) (by rfl) hr3 ?_; have HB3 : Hid (Below w1.heap.size w1 w3) := HB2.out.trans (hB3.mono HB2.out.size); have HS3 : Hid (SrcAt w3 .u8 s3 n src) := hS3; have HN3 : Hid (s3 ≠ none) := hn3; clear hr3 hB3 hS3 hn3 HB2))
  refine (decode_any s3 n c3 src w3 HS3.out (fun h => absurd h HN3.out) (by omega) (fun i _ => HOK.out i)).mono ?_
  rintro e w4 ⟨sq, cq, hpost⟩
  rw [← HL.out] at hpost
  obtain ⟨hB4, oA, rfl, hA1, hA2⟩ := dec_res HLK.out hpost
  have f4 : Below w1.heap.size w1 w4 := HB3.out.trans (hB4.mono HB3.out.size)
  have HA1 : Hid (Alike L oA) := hA1
  have HA2 : Hid (Has w4 oA (resC L)) := hA2
  have HO1 : Hid _ := has_one hA2
  clear hpost hB4 hA1 hA2 HB3 HS3 HN3
  generalize hX : resX L = xr
  go_wp2_with (refine wpList_store_row (by rfl) 30 (.tmp 3) (.tmp 17) (by rfl) w4.heap.size oA.cells (by rfl) (by rfl) 30 _ (heap_alloc_new _ _) (by rw [Ob.size]; kernel_rfl) (by rw [Ob.size]; rfl) HO1.out ?_; refine wpList_gen (fun W => Below w4.heap.size w4 W ∧ W.heap[w4.heap.size]? = some (.cells oA.cells 30 (0, 0))) ⟨below_setRow' ((Below.refl _ _).alloc (Nat.le_refl _) _) (Nat.le_refl _) _, heap_setRow_same (heap_alloc_new _ _)⟩ ?_; intro W5 hW5; have HW5 : Hid _ := hW5; clear hW5 HO1)
  have f5 : Below w1.heap.size w1 W5 := f4.trans (HW5.out.1.mono f4.size)
  refine (rdecode_any sp n cap src W5 (SrcAt.below HS1.out f5) hnc (by omega) (fun i _ => HOK.out i)).mono ?_
  rintro e w6 hpost
  rw [← HL.out] at hpost
  obtain ⟨hB6, oB, he6, hA1, hA2⟩ := ref_res hpost
  rw [hX] at he6
  subst he6
  have f6 : Below w1.heap.size w1 w6 := f5.trans (hB6.mono f5.size)
  have HA6 : Hid (w6.heap[w4.heap.size]? = some (.cells oA.cells 30 (0, 0))) := (hB6.block _ (lt_of_row HW5.out.2)).trans HW5.out.2
  have HHA : Hid (Has w6 oA (resC L)) := (HA2.out.below HW5.out.1).below hB6
  have HHB : Hid (Has w6 oB (resC L)) := hA2
  have HAB : Hid _ := alike_same HA1.out hA1
  have HO2 : Hid _ := has_one hA2
  have HB1 : Hid _ := hB1
  clear hpost hB6 hA1 hA2 HW5 HA1 HA2 f4 f5 hX hB1
  go_wp2_with (first
    | (refine wpList_store_row (by rfl) 30 (.tmp 5) (.tmp 22) (by rfl) w6.heap.size oB.cells (by rfl) (by rfl) 30 _ (heap_alloc_new _ _) (by rw [Ob.size]; kernel_rfl) (by rw [Ob.size]; rfl) HO2.out ?_; refine wpList_gen (fun W => Below w6.heap.size w6 W ∧ W.heap[w6.heap.size]? = some (.cells oB.cells 30 (0, 0))) ⟨below_setRow' ((Below.refl _ _).alloc (Nat.le_refl _) _) (Nat.le_refl _) _, heap_setRow_same (heap_alloc_new _ _)⟩ ?_; intro W7 hW7; have HB7 : Hid (Below w6.heap.size w6 W7) := hW7.1; have HRB : Hid (W7.heap[w6.heap.size]? = some (.cells oB.cells 30 (0, 0))) := hW7.2; have HRA : Hid (W7.heap[w4.heap.size]? = some (.cells oA.cells 30 (0, 0))) := (hW7.1.block _ (lt_of_row HA6.out)).trans HA6.out; clear hW7 HO2 HA6)
    | (refine load_rowg2 30 (.tmp 3) (by rfl) (by rfl) w4.heap.size (by rfl) 30 oA.cells (0, 0) _ HRA.out Try.underlying30 rfl (by rw [Ob.size]; kernel_rfl) ?_)
    | (refine load_rowg2 30 (.tmp 5) (by rfl) (by rfl) w6.heap.size (by rfl) 30 oB.cells (0, 0) _ HRB.out Try.underlying30 rfl (by rw [Ob.size]; kernel_rfl) ?_))
  refine (rsame_any oA oB (resC L) (resC L) W7 (HHA.out.below HB7.out) (HHB.out.below HB7.out)).mono ?_
  rintro e w8 ⟨he8, hB8⟩
  rw [HAB.out] at he8
  subst he8
  have f8 : Below w1.heap.size w1 w8 := (f6.trans (HB7.out.mono f6.size)).trans (hB8.mono (Nat.le_trans f6.size HB7.out.size))
  go_wp2
  go_ret
  exact ⟨rfl, HB1.out.trans (f8.mono HB1.out.size)⟩
end Go.Proofs.Ytnaoaeapffgojaa
