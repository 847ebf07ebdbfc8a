/- The contract of the laws' large: what is known where it answers false. -/
import Derived.Test.YtnaoaeapffgojaaOpn
namespace Go.Proofs.Ytnaoaeapffgojaa
open Go.RowKit

/-- An object that is gone through. -/
structure Small (o : Ob) (c : Co) : Prop where
  nb : c.nb ≤ 10000
  es : c.es.length ≤ 200
  ps : c.ps.length ≤ 200
  note : o.note.size ≤ 5000
  names : ∀ e ∈ c.es, e.name.size ≤ 1000

set_option maxRecDepth 100000 in
set_option maxHeartbeats 1000000 in
theorem large_any (o : Ob) (c : Co) (w : World) (ho : In w o c) :
    Calls Try.prog 10 #[.agg o.cells] w fun e w' => (e = .returned (.bool true) ∨ (e = .returned (.bool false) ∧ Small o c)) ∧ Below w.heap.size w w' := by
  obtain ⟨s1, k1, hob, -⟩ := ho.b
  obtain ⟨s2, k2, hoe, hrows, -⟩ := ho.e
  obtain ⟨s3, k3, hop, -⟩ := ho.p
  have hnames := ho.names
  have hln := ho.ln
  unfold maxLen at hln
  clear ho
  have a1 := o.cell1
  have a2 := o.cell2
  have a35 := o.cell35
  have a37 := o.cell37
  rw [hob] at a1
  rw [hoe] at a2
  rw [hop] at a35
  clear hob hoe hop
  have HR : Hid _ := hrows
  have HN : Hid _ := hnames
  clear hrows hnames
  by_cases h1 : 10000 < c.nb
  · have d1 : decide (10000 < (c.nb : Int)) = true := by simp; omega
    go_enter Try.func10, Try.ntmps10
    go_wp2
    go_ret
    exact ⟨.inl rfl, (Below.refl _ _).alloc (Nat.le_refl _) _⟩
  have d1 : decide (10000 < (c.nb : Int)) = false := by simp; omega
  by_cases h2 : 200 < c.es.length
  · have d2 : decide (200 < (c.es.length : Int)) = true := by simp; omega
    go_enter Try.func10, Try.ntmps10
    go_wp2
    go_ret
    exact ⟨.inl rfl, (Below.refl _ _).alloc (Nat.le_refl _) _⟩
  have d2 : decide (200 < (c.es.length : Int)) = false := by simp; omega
  by_cases h3 : 200 < c.ps.length
  · have d3 : decide (200 < (c.ps.length : Int)) = true := by simp; omega
    go_enter Try.func10, Try.ntmps10
    go_wp2
    go_ret
    exact ⟨.inl rfl, (Below.refl _ _).alloc (Nat.le_refl _) _⟩
  have d3 : decide (200 < (c.ps.length : Int)) = false := by simp; omega
  by_cases h4 : 5000 < o.note.size
  · have d4 : decide (5000 < (o.note.size : Int)) = true := by simp; omega
    go_enter Try.func10, Try.ntmps10
    go_wp2
    go_ret
    exact ⟨.inl rfl, (Below.refl _ _).alloc (Nat.le_refl _) _⟩
  have d4 : decide (5000 < (o.note.size : Int)) = false := by simp; omega
  go_enter Try.func10, Try.ntmps10
  go_wp2
  clear d1 d2 d3 d4 a1 a2 a35 a37
  go_loopw [30] (fun i wr => ∃ t : Nat, t ≤ c.es.length ∧ i = .int .i64 t ∧ Below w.heap.size w wr ∧ ∀ e ∈ c.es.take t, e.name.size ≤ 1000) (fun i _ => c.es.length - (intOf i).toNat)
  case atStart => exact ⟨0, Nat.zero_le _, rfl, (Below.refl _ _).alloc (Nat.le_refl _) _, fun e he => by simp at he⟩
  case round =>
    obtain ⟨t, ht, rfl, hB, hz⟩ := hrel
    have HZ : Hid _ := hz
    clear hz
    by_cases hlt : t < c.es.length
    · obtain ⟨b1, o1, rfl, hc1⟩ := HR.out (by omega)
      have hx : c.es[t]? = some (c.es[t]'hlt) := List.getElem?_eq_getElem hlt
      have hxn := HN.out _ (List.getElem_mem hlt)
      unfold maxLen at hxn
      generalize hX : c.es[t]'hlt = x at hx hxn
      have e1 : ∀ j u, x.cells[j]? = some u → wr.cell? ⟨b1, o1 + t * 34 + j, none⟩ = some u := fun j u hu => (hB.cell (p := ⟨b1, _, none⟩) (block_lt_of_cell (hc1 t x hx j u hu))).trans (hc1 t x hx j u hu)
      have htk : c.es.take (t + 1) = c.es.take t ++ [x] := by rw [List.take_add_one, hx]; rfl
      have HE : Hid _ := e1
      have HD : Hid _ := htk
      clear hc1 hX hx e1 htk HR HN
      go_wp2_with (first
        | (refine load_mid (by rfl) 40 (.tmp 32) (by rfl) b1 (o1 + t * 34) (by rfl) x.cells _ HE.out Try.underlying40 rfl (by rw [x.size]; kernel_rfl) ?_)
        | (refine wpList_store_row (by rfl) 40 (.tmp 4) (.tmp 33) (by rfl) wr.heap.size x.cells (by rfl) (by rfl) 40 _ (heap_alloc_new _ _) (by rw [x.size]; kernel_rfl) (by rw [x.size]; rfl) (ent_one x) ?_; refine wpList_gen (fun W => Below w.heap.size w W ∧ W.cell? ⟨wr.heap.size, 0, none⟩ = some (.string x.name)) ⟨below_setRow' (hB.alloc hB.size _) hB.size _, (cell_of_row _ _ _ _ _ _ (heap_setRow_same (heap_alloc_new _ _))).trans x.cell0⟩ ?_; intro W1 hW1; have hB1 := hW1.1; have hc0 := hW1.2; clear hW1))
      · go_ret
        exact ⟨.inl rfl, hB1⟩
      · rename_i hh
        go_roundw
        case rel =>
          refine ⟨t + 1, by omega, by go_num, hB1, fun e he => ?_⟩
          rw [HD.out, List.mem_append, List.mem_singleton] at he
          rcases he with he | rfl
          · exact HZ.out e he
          · omega
        case measure => simp [intOf]; omega
    · go_wp2
      go_ret
      refine ⟨.inr ⟨rfl, by omega, by omega, by omega, by omega, fun e he => HZ.out e ?_⟩, hB⟩
      rw [List.take_of_length_le (by omega)]
      exact he
end Go.Proofs.Ytnaoaeapffgojaa
