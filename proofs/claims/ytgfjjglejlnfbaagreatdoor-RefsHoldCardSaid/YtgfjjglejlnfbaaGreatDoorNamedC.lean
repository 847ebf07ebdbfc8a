/- The contract of object.named. -/
import Derived.Test.YtgfjjglejlnfbaaGreatDoorCountC
namespace Go.Proofs.YtgfjjglejlnfbaaGreatDoor
open Go.RowKit

/-- A world is given a name in the midst of a region. -/
theorem wpList_gen {P : Program} {ops : Array Oper} {Q : Exit → Act → World → Prop} {l : List Oper} {a : Act} {w0 : World} (F : World → Prop) (h0 : F w0) (h : ∀ W1, F W1 → wpList P ops Q l a W1) : wpList P ops Q l a w0 := h _ h0
theorem ent_one (e : Ent) : e.cells.all (·.oneCell') = true := by
  have h : e.cells.all (·.oneCell') = (#[Value.string e.name, .bool e.folder].all (·.oneCell') && (arr .u8 32 e.id).all (·.oneCell')) := by
    simp only [Ent.cells, Array.all_append]
  rw [h, arr_one]
  simp [Value.oneCell']

/-- May these be the names behind that one, and rise? -/
def leB (a b : ByteArray) : Bool := Op.bytesLess a.toList b.toList || (a.toList == b.toList)
def namedFrom (last : ByteArray) : List Ent → Bool
  | [] => true
  | e :: r => nameB e.name && !(leB e.name last) && namedFrom e.name r

set_option maxRecDepth 100000 in
set_option maxHeartbeats 1000000 in
theorem named_any (sp : Option Addr) (cap : Nat) (es : List Ent) (w : World) (h1 : RowsAt w 34 Ent.cells sp es) (hlen : es.length ≤ 100000000) :
    Calls Tryz.prog 107 #[.slice sp es.length cap] w fun e w' => e = .returned (.bool (namedFrom ⟨#[]⟩ es)) ∧ Below w.heap.size w w' := by
  go_enter Tryz.func107, Tryz.ntmps107
  go_wp2
  go_loopw [3, 8] (fun l i wr => ∃ (t : Nat) (last : ByteArray), t ≤ es.length ∧ i = .int .i64 t ∧ l = .string last ∧ Below w.heap.size w wr ∧ namedFrom ⟨#[]⟩ es = namedFrom last (es.drop t)) (fun _ i _ => es.length - (intOf i).toNat)
  case atStart => exact ⟨0, ⟨#[]⟩, Nat.zero_le _, rfl, rfl, Below.refl _ _, rfl⟩
  case round =>
    obtain ⟨t, last, ht, rfl, rfl, hB, hz⟩ := hrel
    have HZ : Hid _ := hz
    clear hz
    by_cases hlt : t < es.length
    · obtain ⟨b1, o1, rfl, hc1⟩ := h1 (by omega)
      have hx : es[t]? = some (es[t]'hlt) := List.getElem?_eq_getElem hlt
      generalize hX : es[t]'hlt = x at hx
      have e1 : ∀ j u, x.cells[j]? = some u → wr.cell? ⟨b1, o1 + t * 34 + j, none⟩ = some u := fun j u hu => (hB.cell (p := ⟨b1, _, none⟩) (block_lt_of_cell (hc1 t x hx j u hu))).trans (hc1 t x hx j u hu)
      have hd : es.drop t = x :: es.drop (t + 1) := by rw [List.drop_eq_getElem_cons hlt, hX]
      have HE : Hid _ := e1
      have HD : Hid _ := hd
      have HH : Hid _ := h1
      clear hc1 hX hx e1 hd h1
      go_wp2_with (first
        | (refine load_mid (by rfl) 133 (.tmp 10) (by rfl) b1 (o1 + t * 34) (by rfl) x.cells _ HE.out Tryz.underlying133 rfl (by rw [x.size]; kernel_rfl) ?_)
        | (refine wpList_store_row (by rfl) 133 (.tmp 5) (.tmp 11) (by rfl) wr.heap.size x.cells (by rfl) (by rfl) 133 _ (heap_alloc_new _ _) (by rw [x.size]; kernel_rfl) (by rw [x.size]; rfl) (ent_one x) ?_; refine wpList_gen (fun W => Below w.heap.size w W ∧ W.cell? ⟨wr.heap.size, 0, none⟩ = some (.string x.name)) ⟨below_setRow' (hB.alloc hB.size _) hB.size _, (cell_of_row _ _ _ _ _ _ (heap_setRow_same (heap_alloc_new _ _))).trans x.cell0⟩ ?_; intro W1 hW1; have hB1 := hW1.1; have hc0 := hW1.2; clear hW1))
      refine (name_any x.name W1).mono ?_
      rintro e w2 ⟨rfl, hB2⟩
      have hc2 : w2.cell? ⟨wr.heap.size, 0, none⟩ = some (.string x.name) := (hB2.cell (p := ⟨wr.heap.size, 0, none⟩) (block_lt_of_cell hc0)).trans hc0
      have hBw : Below w.heap.size w w2 := hB1.trans (hB2.mono hB1.size)
      clear hB1 hB2 hc0 hB
      cases hn : nameB x.name with
      | false =>
        go_wp2
        go_ret
        refine ⟨ret_bool ?_, hBw⟩
        rw [HZ.out, HD.out, namedFrom, hn]
        rfl
      | true =>
        cases hl : leB x.name last with
        | true =>
          have hl' : Op.bytesLess x.name.toList last.toList = true ∨ (x.name.toList == last.toList) = true := by simpa [leB] using hl
          have HL : Hid _ := hl
          clear hl
          go_wp2
          · go_ret
            refine ⟨ret_bool ?_, hBw⟩
            rw [HZ.out, HD.out, namedFrom, hn, HL.out]
            rfl
          · exfalso
            rename_i hh
            rcases hl' with q | q
            · rw [hh.1] at q; cases q
            · rw [hh.2] at q; cases q
        | false =>
          have h1 : Op.bytesLess x.name.toList last.toList = false := by
            unfold leB at hl
            exact (Bool.or_eq_false_iff.1 hl).1
          have h2 : (x.name.toList == last.toList) = false := by
            unfold leB at hl
            exact (Bool.or_eq_false_iff.1 hl).2
          have HL : Hid _ := hl
          clear hl
          go_wp2
          go_roundw
          case rel =>
            refine ⟨t + 1, x.name, by omega, by go_num, rfl, hBw, ?_⟩
            rw [HZ.out, HD.out, namedFrom, hn, HL.out]
            rfl
          case measure => simp [intOf]; omega
    · have htl : es.drop t = [] := List.drop_eq_nil_of_le (by omega)
      have HT : Hid _ := htl
      clear h1 htl
      go_wp2
      go_ret
      refine ⟨ret_bool ?_, hB⟩
      rw [HZ.out, HT.out]
      rfl
end Go.Proofs.YtgfjjglejlnfbaaGreatDoor
