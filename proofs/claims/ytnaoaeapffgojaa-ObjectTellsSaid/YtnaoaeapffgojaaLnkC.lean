/- The contract of object.Links. -/
import Derived.Test.YtnaoaeapffgojaaIdsA
import Derived.Test.YtnaoaeapffgojaaBkM
namespace Go.Proofs.Ytnaoaeapffgojaa
open Go.RowKit

/-- What an object names. -/
def linksL (o : Ob) (c : Co) : List (Nat → Int) := if rightB o c then (if o.kind = 3 then o.tree :: c.ps else []) ++ c.es.map (·.id) else []

set_option maxRecDepth 100000 in
set_option maxHeartbeats 2000000 in
theorem links_any (o : Ob) (c : Co) (w : World) (ho : In w o c) (hsm : Small o c) :
    Calls Try.prog 16 #[.agg o.cells] w fun e w' => ∃ v, e = .returned v ∧ OwnI w.heap.size w' v (linksL o c) ∧ Below w.heap.size w w' := by
  have HHAS : Hid (Has w o c) := ho.has (by have := hsm.nb; omega) (by have := hsm.es; omega) (by have := hsm.ps; omega)
  obtain ⟨s2, k2, hoe, hrows, -⟩ := ho.e
  obtain ⟨s3, k3, hop, hprows, hpn⟩ := ho.p
  have HOE : Hid _ := hoe
  have HOP : Hid _ := hop
  have HROWS : Hid _ := hrows
  have HPROWS : Hid _ := hprows
  have HPN : Hid _ := hpn
  have hb2 := hsm.es
  have hb3 := hsm.ps
  clear ho hsm hoe hop hrows hprows hpn
  go_enter Try.func16, Try.ntmps16
  go_wp2_with (refine wpList_load_row (by rfl) 30 (.tmp 1) (by rfl) w.heap.size (by rfl) 30 o.cells (0, 0) _ (heap_alloc_new _ _) Try.underlying30 rfl (by rw [Ob.size]; kernel_rfl) ?_)
  refine calls_gen (fun W1 => Below w.heap.size w W1 ∧ W1.heap[w.heap.size]? = some (.cells o.cells 30 (0, 0))) ⟨(Below.refl _ _).alloc (Nat.le_refl _) _, heap_alloc_new _ _⟩ ?_
  intro W1 ⟨f1, hrow1⟩
  refine (check_any o c W1 (HHAS.out.below f1)).mono ?_
  rintro e w2 ⟨rfl, hB2⟩
  have f2 : Below w.heap.size w w2 := f1.trans (hB2.mono f1.size)
  have hrow2 : w2.heap[w.heap.size]? = some (.cells o.cells 30 (0, 0)) := (hB2.block _ (lt_of_row hrow1)).trans hrow1
  clear hrow1 hB2 f1 HHAS
  cases hr : rightB o c with
  | false =>
    have hc : checkN o c = 150 := by simp [checkN, hr]
    rw [hc]
    go_wp2
    go_ret
    refine ⟨_, rfl, ?_, f2⟩
    unfold linksL
    rw [hr]
    exact ownI_nil _ _
  | true =>
    have hc : checkN o c = 0 := by simp [checkN, hr]
    rw [hc]
    have hrr := obRow hrow2
    have r0 : w2.cell? ⟨w.heap.size, 0, none⟩ = some (.int .i64 o.kind) := hrr.c0
    have r2 : w2.cell? ⟨w.heap.size, 2, none⟩ = some (.slice s2 c.es.length k2) := hrr.c2.trans (by rw [HOE.out])
    have hlt2 := lt_of_row hrow2
    have HTREE : Hid _ := hrr.tree
    have HROW2 : Hid _ := hrow2
    clear hc hrow2
    by_cases hk : o.kind = 3
    · obtain ⟨-, -, hes⟩ := right_commit hr hk
      have hLL : linksL o c = o.tree :: c.ps := by unfold linksL; rw [hr, hes, hk]; simp
      have HLL : Hid _ := hLL
      have hel : c.es.length = 0 := by rw [hes]; rfl
      rw [hel] at r2
      rw [hk] at r0
      clear hrr hLL hes
      go_wp2_with (first
        | (refine load_at (by rfl) 26 (.tmp 13) (by rfl) w.heap.size 3 (by rfl) .u8 32 o.tree _ HTREE.out Try.underlying26 rfl (by kernel_rfl) ?_)
        | (refine wpList_buildS (by rfl) 27 (.tmp 14) (by rfl) (.agg (arr .u8 32 o.tree)) (by rfl) _ (bld1 o.tree _) ?_; refine wpList_gen (fun W => Below w2.heap.size w2 W ∧ W.heap[w2.heap.size]? = some (.cells (arr .u8 32 o.tree) 26 (0, 0))) ⟨(Below.refl _ _).alloc (Nat.le_refl _) _, heap_alloc_new _ _⟩ ?_; intro W3 hW3; have HW3 : Hid _ := hW3; clear hW3)
        | (at_builtin; refine ids_append (by rfl) (.tmp 12) (.tmp 15) (by rfl) (w.heap.size + 1) (.slice none 0 0) [] (by rfl) (ownI_nil _ _) (some ⟨w2.heap.size, 0, none⟩) 1 [o.tree] (by rfl) (fun h => by cases h) (one_rows HW3.out.2) (fun _ => ⟨_, _, rfl⟩) (by simp) (Nat.le_trans hlt2 HW3.out.1.size) ?_; intro v4 w4 hO4 hG4 hb4; have f4' : Below w2.heap.size w2 w4 := HW3.out.1.trans ⟨hG4.os, hG4.tape, hG4.output, hG4.size, fun k hk => hG4.block k (Nat.lt_of_lt_of_le hk HW3.out.1.size) (fun e => by cases e)⟩; have r35 : w4.cell? ⟨w.heap.size, 35, none⟩ = some (.slice s3 c.ps.length k3) := (f4'.cell (p := ⟨w.heap.size, 35, none⟩) hlt2).trans ((obRow HROW2.out).c35.trans (by rw [HOP.out])); have r2' : w4.cell? ⟨w.heap.size, 2, none⟩ = some (.slice s2 0 k2) := (f4'.cell (p := ⟨w.heap.size, 2, none⟩) hlt2).trans r2; have HO4 : Hid (OwnI (w.heap.size + 1) w4 v4 [o.tree]) := hO4; have HF4 : Hid (Below w.heap.size w w4) := f2.trans (f4'.mono f2.size); have hlt4 : w.heap.size < w4.heap.size := Nat.lt_of_lt_of_le hlt2 f4'.size; clear hO4 hG4 hb4 f4' r0 r2)
        | (at_builtin; refine ids_append (by rfl) (.tmp 17) (.tmp 19) (by rfl) (w.heap.size + 1) v4 [o.tree] (by rfl) HO4.out s3 k3 c.ps (by rfl) HPN.out (RowsAt.below HPROWS.out HF4.out) (fun hp => by obtain ⟨b, off, q, -⟩ := HPROWS.out hp; exact ⟨b, off, q⟩) (by simp; omega) hlt4 ?_; intro v5 w5 hO5 hG5 hb5; have r2'' : w5.cell? ⟨w.heap.size, 2, none⟩ = some (.slice s2 0 k2) := (World.cell?_of_block (hG5.block w.heap.size hlt4 (fun e => by have := (HO4.out.lt e.symm).1; omega))).trans r2'; have HO5 : Hid (OwnI (w.heap.size + 1) w5 v5 (o.tree :: c.ps)) := hO5; have HF5 : Hid (Below w.heap.size w w5) := HO4.out.grown (Nat.le_succ _) (Nat.le_of_lt hlt4) HF4.out hG5; clear hO5 hG5 hb5 r35 r2'))
      clear r2''
      go_loopw [3, 24] (fun v i wr => i = .int .i64 0 ∧ v = v5 ∧ wr = w5) (fun _ _ _ => 0)
      case atStart => exact ⟨rfl, rfl, rfl⟩
      case round =>
        obtain ⟨rfl, rfl, rfl⟩ := hrel
        go_wp2
        go_ret
        exact ⟨_, rfl, by rw [HLL.out]; exact HO5.out.mono (Nat.le_succ _), HF5.out⟩
    · have hLL : linksL o c = c.es.map (·.id) := by unfold linksL; rw [hr, if_pos rfl, if_neg hk, List.nil_append]
      have HLL : Hid _ := hLL
      have hkb : (o.kind == 3) = false := by simpa using hk
      have HRR : Hid _ := hrr
      clear hrr hLL
      go_wp2
      clear r0 r2 hkb
      go_loopw [3, 24] (fun v i wr => ∃ t : Nat, t ≤ c.es.length ∧ i = .int .i64 t ∧ Below w.heap.size w wr ∧ w.heap.size < wr.heap.size ∧ OwnI (w.heap.size + 1) wr v ((c.es.take t).map (·.id))) (fun _ i _ => c.es.length - (intOf i).toNat)
      case atStart => exact ⟨0, Nat.zero_le _, rfl, f2, hlt2, ownI_nil _ _⟩
      case round =>
        obtain ⟨t, ht, rfl, hB, hltr, hO⟩ := hrel
        have HO : Hid (OwnI (w.heap.size + 1) wr u3 ((c.es.take t).map (·.id))) := hO
        clear hO
        by_cases hlt : t < c.es.length
        · obtain ⟨b1, o1, rfl, hc1⟩ := HROWS.out (by omega)
          have hx : c.es[t]? = some (c.es[t]'hlt) := List.getElem?_eq_getElem hlt
          generalize hX : c.es[t]'hlt = x at hx
          have e1 : ∀ j u, x.cells[j]? = some u → wr.cell? ⟨b1, o1 + t * 34 + j, none⟩ = some u := fun j u hu => (hB.cell (p := ⟨b1, _, none⟩) (block_lt_of_cell (hc1 t x hx j u hu))).trans (hc1 t x hx j u hu)
          have htk : (c.es.take (t + 1)).map (·.id) = (c.es.take t).map (·.id) ++ [x.id] := by rw [List.take_add_one, hx]; simp
          have HE : Hid _ := e1
          have HTK : Hid _ := htk
          clear hc1 hX hx e1 htk
          go_wp2_with (first
            | (refine load_mid (by rfl) 40 (.tmp 26) (by rfl) b1 (o1 + t * 34) (by rfl) x.cells _ HE.out Try.underlying40 rfl (by rw [x.size]; kernel_rfl) ?_)
            | (refine wpList_store_row (by rfl) 40 (.tmp 5) (.tmp 27) (by rfl) wr.heap.size x.cells (by rfl) (by rfl) 40 _ (heap_alloc_new _ _) (by rw [x.size]; kernel_rfl) (by rw [x.size]; rfl) (ent_one x) ?_; refine wpList_gen (fun W => Below wr.heap.size wr W ∧ ∀ i, i < 32 → W.cell? ⟨wr.heap.size, 2 + i, none⟩ = some (.int .u8 (x.id i))) ⟨below_setRow' ((Below.refl _ _).alloc (Nat.le_refl _) _) (Nat.le_refl _) _, fun i hi => (cell_of_row _ _ _ _ _ _ (heap_setRow_same (heap_alloc_new _ _))).trans (x.cellId i hi)⟩ ?_; intro W3 hW3; have HW3 : Hid _ := hW3; clear hW3)
            | (refine load_at (by rfl) 26 (.tmp 29) (by rfl) wr.heap.size 2 (by rfl) .u8 32 x.id _ HW3.out.2 Try.underlying26 rfl (by kernel_rfl) ?_)
            | (refine wpList_buildS (by rfl) 27 (.tmp 30) (by rfl) (.agg (arr .u8 32 x.id)) (by rfl) _ (bld1 x.id _) ?_; refine wpList_gen (fun W => Below W3.heap.size W3 W ∧ W.heap[W3.heap.size]? = some (.cells (arr .u8 32 x.id) 26 (0, 0))) ⟨(Below.refl _ _).alloc (Nat.le_refl _) _, heap_alloc_new _ _⟩ ?_; intro W4 hW4; have HW4 : Hid _ := hW4; have fr4 : Below wr.heap.size wr W4 := HW3.out.1.trans (hW4.1.mono HW3.out.1.size); clear hW4)
            | (at_builtin; refine ids_append (by rfl) (.tmp 28) (.tmp 31) (by rfl) (w.heap.size + 1) u3 ((c.es.take t).map (·.id)) (by rfl) (HO.out.below fr4) (some ⟨W3.heap.size, 0, none⟩) 1 [x.id] (by rfl) (fun h => by cases h) (one_rows HW4.out.2) (fun _ => ⟨_, _, rfl⟩) (by simp; omega) (Nat.le_trans hltr fr4.size) ?_; intro v5 w5 hO5 hG5 hb5; have HO5 : Hid (OwnI (w.heap.size + 1) w5 v5 ((c.es.take t).map (·.id) ++ [x.id])) := hO5; have f4 : Below w.heap.size w W4 := hB.trans (fr4.mono (Nat.le_of_lt hltr)); have HF5 : Hid (Below w.heap.size w w5) := (HO.out.below fr4).grown (Nat.le_succ _) (Nat.le_trans (Nat.le_of_lt hltr) fr4.size) f4 hG5; have hlt5 : w.heap.size < w5.heap.size := Nat.lt_of_lt_of_le hltr (Nat.le_trans fr4.size hG5.size); clear hO5 hG5 hb5))
          go_roundw
          case rel => exact ⟨t + 1, by omega, by go_num, HF5.out, hlt5, by rw [HTK.out]; exact HO5.out⟩
          case measure => simp [intOf]; omega
        · have htl : c.es.take t = c.es := List.take_of_length_le (by omega)
          have HT : Hid _ := htl
          clear htl
          go_wp2
          go_ret
          exact ⟨_, rfl, by rw [HLL.out]; have h := HO.out.mono (Nat.le_succ _); rw [HT.out] at h; exact h, hB⟩
end Go.Proofs.Ytnaoaeapffgojaa
