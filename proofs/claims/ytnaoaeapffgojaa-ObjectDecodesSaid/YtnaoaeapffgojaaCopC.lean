/- The contract of the laws' copied: the same object, its lists in new memory. -/
import Derived.Test.YtnaoaeapffgojaaCopS
namespace Go.Proofs.Ytnaoaeapffgojaa
open Go.RowKit

theorem set_bs (o : Ob) (v : Value) : o.cells.setIfInBounds 1 v = Ob.cells { o with bs := v } := by
  simp [Ob.cells, Array.setIfInBounds_append_left]
theorem set_es (o : Ob) (v : Value) : o.cells.setIfInBounds 2 v = Ob.cells { o with es := v } := by
  simp [Ob.cells, Array.setIfInBounds_append_left]
theorem set_ps (o : Ob) (v : Value) : o.cells.setIfInBounds 35 v = Ob.cells { o with ps := v } := by
  simp [Ob.cells, Array.setIfInBounds_append_right, arr_size]
theorem rows_in {o : Ob} {c : Co} {W : World} {B : Nat} {v1 v2 v3 : Value} (ho : In W o c) (f1 : Fr 1 bcell B (bl c) v1 W) (f2 : Fr 34 Ent.cells B c.es v2 W) (f3 : Fr 32 (arr .u8 32) B c.ps v3 W) : In W { o with bs := v1, es := v2, ps := v3 } c := by
  obtain ⟨a1, b1, q1, r1, -, n1⟩ := f1
  obtain ⟨a2, b2, q2, r2, -, n2⟩ := f2
  obtain ⟨a3, b3, q3, r3, -, n3⟩ := f3
  exact ⟨⟨a1, b1, by rw [q1, bl_len], rows_src r1, fun h => absurd h n1⟩, ⟨a2, b2, q2, r2, fun h => absurd h n2⟩, ⟨a3, b3, q3, r3, fun h => absurd h n3⟩, ho.bok, ⟨ho.fit.e, ho.fit.t, ho.fit.p, ho.fit.n⟩, ho.lb, ho.le, ho.lp, ho.ln, ho.names⟩

theorem In.but {w w' : World} {o : Ob} {c : Co} {g : Nat} (h : In w o c) (hA : Apart o g) (hb : ∀ b, b ≠ g → w'.heap[b]? = w.heap[b]?) : In w' o c := by
  obtain ⟨sp, cp, a1, a2, a3⟩ := h.b
  obtain ⟨sq, cq, b1, b2, b3⟩ := h.e
  obtain ⟨sr, cr, c1, c2, c3⟩ := h.p
  exact ⟨⟨sp, cp, a1, a2.but (fun a ha => hA a _ _ (.inl (ha ▸ a1))) hb, a3⟩, ⟨sq, cq, b1, b2.but (fun a ha => hA a _ _ (.inr (.inl (ha ▸ b1)))) hb, b3⟩, ⟨sr, cr, c1, c2.but (fun a ha => hA a _ _ (.inr (.inr (ha ▸ c1)))) hb, c3⟩, h.bok, h.fit, h.lb, h.le, h.lp, h.ln, h.names⟩
set_option maxRecDepth 100000 in
set_option maxHeartbeats 1000000 in
theorem copied_any (o : Ob) (c : Co) (w : World) (ho : In w o c) (hsm : Small o c) :
    Calls Try.prog 14 #[.agg o.cells] w fun e w' => ∃ v1 v2 v3, e = .returned (.agg (Ob.cells { o with bs := v1, es := v2, ps := v3 })) ∧ In w' { o with bs := v1, es := v2, ps := v3 } c ∧ Below w.heap.size w w' := by
  obtain ⟨s1, k1, hob, hr1, hn1⟩ := ho.b
  obtain ⟨s2, k2, hoe, hr2, hn2⟩ := ho.e
  obtain ⟨s3, k3, hop, hr3, hn3⟩ := ho.p
  have HIN : Hid _ := ho
  have HOB : Hid _ := hob
  have HOE : Hid _ := hoe
  have HOP : Hid _ := hop
  clear ho hob hoe hop
  go_enter Try.func14, Try.ntmps14
  go_wp2
  refine wp_gen (fun W1 => Below w.heap.size w W1 ∧ W1.heap[w.heap.size]? = some (.cells o.cells 30 (0, 0)) ∧ W1.heap[w.heap.size + 1]? = some (.cells zeroOb.cells 30 (0, 0))) ⟨((Below.refl _ _).alloc (Nat.le_refl _) _).alloc (by simp) _, heap_alloc2_old _ _ _, (heap_alloc2_new _ _ _).trans rfl⟩ ?_
  intro W1 ⟨f0, hrow, hres⟩
  have hrr := obRow hrow
  have X : Cop c w W1 w.heap.size s1 s2 s3 k1 k2 k3 := ⟨f0, lt_of_row hrow, hrr.c1.trans (by rw [HOB.out]), hrr.c2.trans (by rw [HOE.out]), hrr.c35.trans (by rw [HOP.out]),
    src_rows (hr1.below f0), fun h => by rw [bl_len]; exact ⟨(hn1 h).2, (hn1 h).1⟩, by rw [bl_len]; have := hsm.nb; omega, hr2.below f0, hn2, by have := hsm.es; omega, hr3.below f0, hn3, by have := hsm.ps; omega⟩
  have HROW : Hid _ := hrow
  have HRES : Hid _ := hres
  clear hrow hres hrr hr1 hr2 hr3
  refine mv_begin (S := fun w' => Below w.heap.size w w') 18 rfl (by kernel_rfl) ?_
  have hS0 : Below w.heap.size w W1.drew := f0.drew
  refine mv_run 1 4 (.pointer (some ⟨w.heap.size, 1, none⟩)) rfl (by kernel_rfl) (by kernel_rfl) (by kernel_rfl) (fun _ _ _ h => h) (fun w' _ => by go_simp) hS0 ?_
  simp only [List.setIfInBounds_toArray, List.set_cons_succ, List.set_cons_zero]
  refine mv_run 5 8 (.pointer (some ⟨w.heap.size, 2, none⟩)) rfl (by kernel_rfl) (by kernel_rfl) (by kernel_rfl) (fun _ _ _ h => h) (fun w' _ => by go_simp) hS0 ?_
  simp only [List.setIfInBounds_toArray, List.set_cons_succ, List.set_cons_zero]
  refine mv_run 9 12 (.pointer (some ⟨w.heap.size, 35, none⟩)) rfl (by kernel_rfl) (by kernel_rfl) (by kernel_rfl) (fun _ _ _ h => h) (fun w' _ => by go_simp) hS0 ?_
  simp only [List.setIfInBounds_toArray, List.set_cons_succ, List.set_cons_zero]
  refine cop_000_000_0 (fun _ _ _ _ _ h => h) X ?_ W1.drew (Below.refl _ _).drew
  intro u3 u7 u11 v1 v2 v3 W hT f1 f2 f3
  have HF : Hid (Fr 1 bcell W1.heap.size (bl c) v1 W ∧ Fr 34 Ent.cells W1.heap.size c.es v2 W ∧ Fr 32 (arr .u8 32) W1.heap.size c.ps v3 W) := ⟨f1, f2, f3⟩
  have fW : Below w.heap.size w W := X.s.trans (hT.mono (Nat.le_of_lt X.lt))
  have HROW2 : Hid (W.heap[w.heap.size]? = some (.cells o.cells 30 (0, 0))) := (hT.block _ X.lt).trans HROW.out
  have HRES2 : Hid (W.heap[w.heap.size + 1]? = some (.cells zeroOb.cells 30 (0, 0))) := (hT.block _ (lt_of_row HRES.out)).trans HRES.out
  have q1 : W.cell? ⟨w.heap.size, 1, none⟩ = some (.slice s1 c.nb k1) := (hT.cell (p := ⟨w.heap.size, 1, none⟩) X.lt).trans X.c1
  have q2 : W.cell? ⟨w.heap.size, 2, none⟩ = some (.slice s2 c.es.length k2) := (hT.cell (p := ⟨w.heap.size, 2, none⟩) X.lt).trans X.c2
  have q3 : W.cell? ⟨w.heap.size, 35, none⟩ = some (.slice s3 c.ps.length k3) := (hT.cell (p := ⟨w.heap.size, 35, none⟩) X.lt).trans X.c3
  have hz : ∀ j, W.frozen? ⟨w.heap.size, j, none⟩ = false := fun j => frozen_of_row _ _ j _ _ HROW2.out
  have hlt := X.lt
  obtain ⟨a1, b1, rfl, -, g1, -⟩ := f1
  obtain ⟨a2, b2, rfl, -, g2, -⟩ := f2
  obtain ⟨a3, b3, rfl, -, g3, -⟩ := f3
  have ha1 : ∀ a, a1 = some a → a.block ≠ w.heap.size := fun a ha => by have := g1 a ha; omega
  have ha2 : ∀ a, a2 = some a → a.block ≠ w.heap.size := fun a ha => by have := g2 a ha; omega
  have ha3 : ∀ a, a3 = some a → a.block ≠ w.heap.size := fun a ha => by have := g3 a ha; omega
  have hr1 : w.heap.size + 1 < W1.heap.size := lt_of_row HRES.out
  have hb1 : ∀ a, a1 = some a → a.block ≠ w.heap.size + 1 := fun a ha => by have := g1 a ha; omega
  have hb2 : ∀ a, a2 = some a → a.block ≠ w.heap.size + 1 := fun a ha => by have := g2 a ha; omega
  have hb3 : ∀ a, a3 = some a → a.block ≠ w.heap.size + 1 := fun a ha => by have := g3 a ha; omega
  clear g1 g2 g3 hr1 hlt HROW HRES hS0 hn1 hn2 hn3
  have hin : In W o c := HIN.out.under fW
  refine mv_next 13 rfl (by kernel_rfl) ?_
  go_simp
  have fA := fW.setCell (p := ⟨w.heap.size, 1, none⟩) (Nat.le_refl _) (.slice a1 (bl c).length b1)
  refine ⟨fA, ?_⟩
  refine mv_run 14 16 (.pointer (some ⟨w.heap.size, 2, none⟩)) rfl (by kernel_rfl) (by kernel_rfl) (by kernel_rfl) (fun _ _ _ h => h) (fun w' _ => by go_simp) fA ?_
  simp only [List.setIfInBounds_toArray, List.set_cons_succ, List.set_cons_zero]
  refine mv_next 15 rfl (by kernel_rfl) ?_
  go_simp
  have fB := fA.setCell (p := ⟨w.heap.size, 2, none⟩) (Nat.le_refl _) (.slice a2 c.es.length b2)
  refine ⟨fB, ?_⟩
  refine mv_run 16 17 (.pointer (some ⟨w.heap.size, 35, none⟩)) rfl (by kernel_rfl) (by kernel_rfl) (by kernel_rfl) (fun _ _ _ h => h) (fun w' _ => by go_simp) fB ?_
  simp only [List.setIfInBounds_toArray, List.set_cons_succ, List.set_cons_zero]
  refine mv_next 17 rfl (by kernel_rfl) ?_
  go_simp
  have fC := fB.setCell (p := ⟨w.heap.size, 35, none⟩) (Nat.le_refl _) (.slice a3 c.ps.length b3)
  refine ⟨fC, ?_⟩
  refine wpAnyH_done (by kernel_rfl) ?_ _
  have hrowC : (((W.setCell ⟨w.heap.size, 1, none⟩ (.slice a1 (bl c).length b1)).setCell ⟨w.heap.size, 2, none⟩ (.slice a2 c.es.length b2)).setCell ⟨w.heap.size, 35, none⟩ (.slice a3 c.ps.length b3)).heap[w.heap.size]? = some (.cells (Ob.cells { o with bs := .slice a1 (bl c).length b1, es := .slice a2 c.es.length b2, ps := .slice a3 c.ps.length b3 }) 30 (0, 0)) := by
    rw [heap_setCell_same _ _ _ _ _ _ (heap_setCell_same _ _ _ _ _ _ (heap_setCell_same _ _ _ _ _ _ HROW2.out)), set_bs, set_es, set_ps]
  have hresC : (((W.setCell ⟨w.heap.size, 1, none⟩ (.slice a1 (bl c).length b1)).setCell ⟨w.heap.size, 2, none⟩ (.slice a2 c.es.length b2)).setCell ⟨w.heap.size, 35, none⟩ (.slice a3 c.ps.length b3)).heap[w.heap.size + 1]? = some (.cells zeroOb.cells 30 (0, 0)) := by
    rw [heap_setCell_other _ _ _ _ (by simp), heap_setCell_other _ _ _ _ (by simp), heap_setCell_other _ _ _ _ (by simp)]
    exact HRES2.out
  have hbut : ∀ b, b ≠ w.heap.size → (((W.setCell ⟨w.heap.size, 1, none⟩ (.slice a1 (bl c).length b1)).setCell ⟨w.heap.size, 2, none⟩ (.slice a2 c.es.length b2)).setCell ⟨w.heap.size, 35, none⟩ (.slice a3 c.ps.length b3)).heap[b]? = W.heap[b]? := fun b hb => by
    rw [setCell_but _ _ _ _ b hb, setCell_but _ _ _ _ b hb, setCell_but _ _ _ _ b hb]
  generalize ((W.setCell ⟨w.heap.size, 1, none⟩ (.slice a1 (bl c).length b1)).setCell ⟨w.heap.size, 2, none⟩ (.slice a2 c.es.length b2)).setCell ⟨w.heap.size, 35, none⟩ (.slice a3 c.ps.length b3) = V at *
  have HRC : Hid _ := hrowC
  have HSC : Hid _ := hresC
  have HBUT : Hid _ := hbut
  have hone : ({ o with bs := .slice a1 (bl c).length b1, es := .slice a2 c.es.length b2, ps := .slice a3 c.ps.length b3 } : Ob).cells.all (·.oneCell') = true := ob_one _ rfl rfl rfl
  have HONE : Hid _ := hone
  have hinV := rows_in hin HF.out.1 HF.out.2.1 HF.out.2.2
  have HINV : Hid _ := hinV
  clear hrowC hresC hbut hone hinV fA fB q1 q2 q3 hz HROW2 HRES2
  generalize hO : ({ o with bs := .slice a1 (bl c).length b1, es := .slice a2 c.es.length b2, ps := .slice a3 c.ps.length b3 } : Ob) = o' at *
  have HO : Hid _ := hO
  clear hO
  go_wp2_with (first
    | (refine wpList_load_row (by rfl) 30 (.tmp 1) (by rfl) w.heap.size (by rfl) 30 o'.cells (0, 0) _ HRC.out Try.underlying30 rfl (by rw [Ob.size]; kernel_rfl) ?_)
    | (refine wpList_store_row (by rfl) 30 (.tmp 2) (.tmp 18) (by rfl) (w.heap.size + 1) o'.cells (by rfl) (by rfl) 30 _ HSC.out (by rw [Ob.size]; kernel_rfl) (by rw [Ob.size, Ob.size]) HONE.out ?_))
  refine bodyPost_ret (v := .agg o'.cells) ?_ rfl ⟨_, _, _, by rw [← HO.out], ?_, below_setRow' fC (by omega) _⟩
  · exact results_cell_row Try.results14 _ _ (w.heap.size + 1) 30 _ (0, 0) _ rfl (heap_setRow_same HSC.out) Try.underlying30 rfl (by rw [Ob.size]; kernel_rfl)
  · rw [HO.out]
    have hk : ∀ a n k, (Value.slice a1 (bl c).length b1 = .slice (some a) n k ∨ Value.slice a2 c.es.length b2 = .slice (some a) n k ∨ Value.slice a3 c.ps.length b3 = .slice (some a) n k) → a.block ≠ w.heap.size ∧ a.block ≠ w.heap.size + 1 := by
      rintro a n k (h | h | h)
      · injection h with h; exact ⟨ha1 a h, hb1 a h⟩
      · injection h with h; exact ⟨ha2 a h, hb2 a h⟩
      · injection h with h; exact ⟨ha3 a h, hb3 a h⟩
    have hA : ∀ a n k, (o'.bs = .slice (some a) n k ∨ o'.es = .slice (some a) n k ∨ o'.ps = .slice (some a) n k) → a.block ≠ w.heap.size ∧ a.block ≠ w.heap.size + 1 := by
      rw [← HO.out]; exact hk
    exact (HINV.out.but (fun a n k h => (hA a n k h).1) HBUT.out).but (fun a n k h => (hA a n k h).2) (setRow_but _ _ _)
end Go.Proofs.Ytnaoaeapffgojaa
