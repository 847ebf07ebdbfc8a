/- The contract of refs' Check. -/
import Derived.Test.YtgfjjglejlnfbaaGreatDoorFsD
import Derived.Test.YtgfjjglejlnfbaaGreatDoorMrgA
namespace Go.Proofs.YtgfjjglejlnfbaaGreatDoor
open Go.RowKit

theorem re_one (e : Re) : e.cells.all (·.oneCell') = true := by
  rw [Array.all_eq_true]
  intro i hi
  have h := Array.getElem?_eq_getElem hi
  rcases Re.cut h with ⟨-, h⟩ | ⟨k, -, -, h⟩ <;> rw [h] <;> rfl
/-- May these be branches behind that name, and rise? -/
def risesR (last : ByteArray) : List Re → Bool
  | [] => true
  | e :: r => nameB e.name && !(leB e.name last) && risesR e.name r
def refsB (rs : List Re) : Bool := decide (rs.length ≤ 8) && risesR ⟨#[]⟩ rs
def checkX (rs : List Re) : Int := if refsB rs then 0 else 190
set_option maxRecDepth 100000 in
set_option maxHeartbeats 1000000 in
theorem xcheck_any (sp : Option Addr) (cap : Nat) (rs : List Re) (w : World) (hr : RowsAt w 33 Re.cells sp rs) (hlen : rs.length ≤ 100000000) :
    Calls Tryz.prog 17 #[.agg #[.slice sp rs.length cap]] w fun e w' => e = .returned (.int .i64 (checkX rs)) ∧ Below w.heap.size w w' := by
  by_cases h8 : rs.length ≤ 8
  case neg =>
    have hd : decide ((8 : Int) < (rs.length : Int)) = true := by simp; omega
    have HE : Hid (checkX rs = 190) := by
      show _ = _
      unfold checkX refsB
      rw [decide_eq_false h8]
      rfl
    clear hr
    go_enter Tryz.func17, Tryz.ntmps17
    go_wp2
    go_ret
    exact ⟨by rw [HE.out]; rfl, (Below.refl _ _).alloc (Nat.le_refl _) _⟩
  case pos =>
    have hd : decide ((8 : Int) < (rs.length : Int)) = false := by simp; omega
    have HEV : Hid (∀ b, risesR ⟨#[]⟩ rs = b → checkX rs = if b then 0 else 190) := fun b hb => by
      unfold checkX refsB
      rw [decide_eq_true h8, hb]
      rfl
    have HR : Hid (RowsAt w 33 Re.cells sp rs) := hr
    have g0 := heap_alloc_new w (.cells #[.slice sp rs.length cap] 24)
    have b0 : Below w.heap.size w (w.alloc (.cells #[.slice sp rs.length cap] 24)) := (Below.refl _ _).alloc (Nat.le_refl _) _
    clear hr
    go_enter Tryz.func17, Tryz.ntmps17
    go_wp2
    generalize w.alloc (.cells #[.slice sp rs.length cap] 24) = W0 at g0 b0 ⊢
    clear g0
    go_loopw [3, 13] (fun l i wr => ∃ (t : Nat) (last : ByteArray), t ≤ rs.length ∧ i = .int .i64 t ∧ l = .string last ∧ Below w.heap.size w wr ∧ risesR ⟨#[]⟩ rs = risesR last (rs.drop t)) (fun _ i _ => rs.length - (intOf i).toNat)
    case atStart => exact ⟨0, ⟨#[]⟩, Nat.zero_le _, rfl, rfl, b0, rfl⟩
    case round =>
      obtain ⟨t, last, ht, rfl, rfl, hB, hz⟩ := hrel
      have HZ : Hid (risesR ⟨#[]⟩ rs = risesR last (rs.drop t)) := hz
      clear hz
      by_cases hlt : t < rs.length
      · obtain ⟨b1, o1, rfl, -⟩ := HR.out (by omega)
        have hx : rs[t]? = some (rs[t]'hlt) := List.getElem?_eq_getElem hlt
        generalize hX : rs[t]'hlt = x at hx
        have e1 := re_cells (HR.out.below hB) hx
        have hd2 : rs.drop t = x :: rs.drop (t + 1) := by rw [List.drop_eq_getElem_cons hlt, hX]
        have HE : Hid _ := e1
        have HD : Hid _ := hd2
        clear hX hx e1 hd2
        go_wp2_with (first
          | (refine load_mid (by rfl) 92 (.tmp 15) (by rfl) b1 (o1 + t * 33) (by rfl) x.cells _ HE.out Tryz.underlying92 rfl (by rw [x.size]; kernel_rfl) ?_)
          | (refine wpList_store_row (by rfl) 92 (.tmp 5) (.tmp 16) (by rfl) wr.heap.size x.cells (by rfl) (by rfl) 92 _ (heap_alloc_new _ _) (by rw [x.size]; kernel_rfl) (by rw [x.size]; rfl) (re_one x) ?_; refine wpList_gen (fun W => Below w.heap.size w W ∧ W.cell? ⟨wr.heap.size, 0, none⟩ = some (.string x.name)) ⟨below_setRow' (hB.alloc hB.size _) hB.size _, (cell_of_row _ _ _ _ _ _ (heap_setRow_same (heap_alloc_new _ _))).trans x.cell0⟩ ?_; intro W1 hW1; have hB1 := hW1.1; have hc0 := hW1.2; clear hW1))
        refine (name_any x.name W1).mono ?_
        rintro e w2 ⟨rfl, hB2⟩
        have hc2 : w2.cell? ⟨wr.heap.size, 0, none⟩ = some (.string x.name) := (hB2.cell (p := ⟨wr.heap.size, 0, none⟩) (block_lt_of_cell hc0)).trans hc0
        have hBw : Below w.heap.size w w2 := hB1.trans (hB2.mono hB1.size)
        clear hB1 hB2 hc0 hB
        cases hn : nameB x.name with
        | false =>
          have HF : Hid (checkX rs = 190) := HEV.out false (by rw [HZ.out, HD.out, risesR, hn]; rfl)
          clear hn
          go_wp2
          go_ret
          exact ⟨by rw [HF.out]; rfl, hBw⟩
        | true =>
          cases hl : leB x.name last with
          | true =>
            have HF : Hid (checkX rs = 190) := HEV.out false (by rw [HZ.out, HD.out, risesR, hn, hl]; rfl)
            have hl' : Op.bytesLess x.name.toList last.toList = true ∨ (x.name.toList == last.toList) = true := by simpa [leB] using hl
            clear hl
            go_wp2
            · go_ret
              exact ⟨by rw [HF.out]; rfl, hBw⟩
            · exfalso
              rename_i hh
              rcases hl' with q | q
              · rw [hh.1] at q; cases q
              · rw [hh.2] at q; cases q
          | false =>
            have h1 : Op.bytesLess x.name.toList last.toList = false := by
              unfold leB at hl
              exact (Bool.or_eq_false_iff.1 hl).1
            have h2 : (x.name.toList == last.toList) = false := by
              unfold leB at hl
              exact (Bool.or_eq_false_iff.1 hl).2
            have HL : Hid (risesR ⟨#[]⟩ rs = risesR x.name (rs.drop (t + 1))) := by
              show _ = _
              rw [HZ.out, HD.out, risesR, hn, hl]
              rfl
            clear hl
            go_wp2
            go_roundw
            case rel => exact ⟨t + 1, x.name, by omega, by go_num, rfl, hBw, HL.out⟩
            case measure => simp [intOf]; omega
      · have hd3 : decide ((t : Int) < rs.length) = false := by simp; omega
        have HF : Hid (checkX rs = 0) := HEV.out true (by rw [HZ.out, List.drop_eq_nil_of_le (by omega)]; rfl)
        go_wp2
        go_ret
        exact ⟨by rw [HF.out]; rfl, hB⟩
end Go.Proofs.YtgfjjglejlnfbaaGreatDoor
