/- wakes: the layer does something. -/
import Derived.Test.YthnoiohganknnabDoorPcS
namespace Go.Proofs.YthnoiohganknnabDoor
open Go.RowKit

/-- The text of wakes. -/
def wkB : List UInt8 := [112, 97, 99, 107, 97, 103, 101, 32, 97, 10, 102, 117, 110, 99, 32, 102, 40, 120, 32, 105, 110, 116, 41, 32, 105, 110, 116, 32, 123, 32, 114, 101, 116, 117, 114, 110, 32, 120, 32, 43, 32, 49, 32, 125, 10]
def wkK : Bool := match txtO wkB with | .inr t => (layP 0 t).length == 10 && ((layP 0 t)[7]?.map (·.kind)) == some 27 | .inl _ => false
theorem wk_true : wkK = true := by kernel_rfl
theorem wk_tree : ∃ t d, txtO wkB = .inr t ∧ (layP 0 t).length = 10 ∧ (layP 0 t)[7]? = some d ∧ d.kind = 27 := by
  have h := wk_true
  unfold wkK at h
  cases hx : txtO wkB with
  | inl p => rw [hx] at h; cases h
  | inr t =>
    rw [hx] at h
    simp only [Bool.and_eq_true, beq_iff_eq] at h
    cases hd : (layP 0 t)[7]? with
    | none => rw [hd] at h; simp at h
    | some d =>
      rw [hd] at h
      exact ⟨t, d, rfl, h.1, hd, by simpa using h.2⟩
set_option maxRecDepth 100000 in
set_option maxHeartbeats 2000000 in
theorem wakes11_any (w : World) (hT : Tabl w) : Calls Tryd.prog 4 #[] w fun e w' => e = .returned (.bool true) ∧ Below w.heap.size w w' := by
  have HT : Hid (∀ W, Below w.heap.size w W → Tabl W) := fun W hb => tabl_agree hb.block hT
  clear hT
  go_enter Tryd.func4, Tryd.ntmps4
  go_wp2_with fail
  refine (text_all w ⟨wkB.toArray⟩ (HT.out w (Below.refl _ _))).mono ?_
  rintro e W ⟨hB, hm⟩
  obtain ⟨t, d, ht, hl, hd, hk⟩ := wk_tree
  rw [show txtO (ByteArray.data ⟨wkB.toArray⟩).toList = .inr t from ht] at hm
  obtain ⟨v, rfl, N, S, hO, hR, -⟩ := hm
  obtain ⟨sp, cap, rfl, hrows, -⟩ := OwnG.rows elN hO
  have hN : N.length = 10 := by rw [hR.1, hl]
  obtain ⟨b, o, rfl, -⟩ := hrows (by omega)
  obtain ⟨m, hm⟩ : ∃ m, N[7]? = some m := ⟨_, List.getElem?_eq_getElem (by omega)⟩
  have k0 := (node_cells hrows hm).1
  rw [(hR.at hm hd).1.1, hk] at k0
  have lb : b < W.heap.size := block_lt_of_cell k0
  rw [hN]
  have HB : Hid (Below w.heap.size w W) := hB
  clear hO hR hrows hN hm hB ht hl hd hk HT
  have hkk : kepB ⟨#[105, 102]⟩ = true := by kernel_rfl
  go_wp2_with (go_at_call 9; refine (kept_any _ _).mono ?_; rintro e W10 ⟨rfl, b10⟩; rw [hkk])
  have hA : Below w.heap.size w ((W.alloc (Obj.cells #[.slice (some ⟨b, o, none⟩) 10 cap] 31)).alloc (Obj.cells #[.int .i64 0, .int .i64 0] 26)) := (HB.out.alloc HB.out.size _).alloc (by simp; exact Nat.le_succ_of_le HB.out.size) _
  go_ret
  exact ⟨rfl, hA.trans (b10.mono hA.size)⟩
end Go.Proofs.YthnoiohganknnabDoor
