/- The contracts of the document's Get and At. -/
import Derived.Test.YtmbnbehlfbdpnaaTFnd
namespace Go.Proofs.Ytmbnbehlfbdpnaa
open Go.RowKit

set_option maxRecDepth 100000 in
set_option maxHeartbeats 2000000 in
theorem r7get_any (sp : Option Addr) (cap : Nat) (fs : List Fi) (path : ByteArray) (w : World) (hr : RowsAt w 2 Fi.cells sp fs) (hl : fs.length ≤ 1000000) :
    Calls Try.prog 41 #[.agg #[.slice sp fs.length cap], .string path] w fun e w' => e = .returned (.tuple #[.string (findB fs path).1, .bool (findB fs path).2]) ∧ Below w.heap.size w w' := by
  have HR : Hid (RowsAt w 2 Fi.cells sp fs) := hr
  have g0 := heap_alloc_new w (.cells #[.slice sp fs.length cap] 24)
  have b0 : Below w.heap.size w (w.alloc (.cells #[.slice sp fs.length cap] 24)) := (Below.refl _ _).alloc (Nat.le_refl _) _
  clear hr
  go_enter Try.func41, Try.ntmps41
  go_wp2
  generalize w.alloc (.cells #[.slice sp fs.length cap] 24) = W0 at g0 b0 ⊢
  have HW : Hid (∀ W, Below W0.heap.size W0 W → W.cell? ⟨w.heap.size, 0, none⟩ = some (.slice sp fs.length cap) ∧ RowsAt W 2 Fi.cells sp fs ∧ Below w.heap.size w W) := fun W h =>
    have hb := b0.trans (h.mono b0.size)
    ⟨(cell_of_row _ _ _ _ _ _ ((h.block _ (lt_of_row g0)).trans g0)).trans rfl, RowsAt.below HR.out hb, hb⟩
  clear g0 b0
  go_loopw [6] (fun i wr => ∃ t : Nat, t ≤ fs.length ∧ i = .int .i64 t ∧ Below W0.heap.size W0 wr ∧ ∀ j f, j < t → fs[j]? = some f → fiB path f = false) (fun i _ => fs.length - (intOf i).toNat)
  case atStart => exact ⟨0, Nat.zero_le _, rfl, Below.refl _ _, fun j f hj => by omega⟩
  case round =>
    obtain ⟨t, ht, rfl, hB, hz⟩ := hrel
    have HZ : Hid _ := hz
    clear hz
    obtain ⟨k0, hrw, hbw⟩ := HW.out wr hB
    by_cases hlt : t < fs.length
    · have hd : decide ((t : Int) < fs.length) = true := by simp; omega
      obtain ⟨b, off, rfl, -⟩ := hrw (by omega)
      obtain ⟨f, hf⟩ : ∃ f, fs[t]? = some f := ⟨_, List.getElem?_eq_getElem hlt⟩
      obtain ⟨c0, c1⟩ := fi_cell hrw hf
      have HF : Hid _ := hf
      have HFB : Hid (fiB path f = (f.path.toList == path.toList)) := rfl
      clear hf hrw
      cases hb : (f.path.toList == path.toList) with
      | false =>
        rw [hb] at HFB
        go_wp2
        go_roundw
        case rel =>
          refine ⟨t + 1, by omega, by go_num, hB, fun j f' hj hf' => ?_⟩
          by_cases hjt : j < t
          · exact HZ.out j f' hjt hf'
          · obtain rfl : j = t := by omega
            rw [HF.out] at hf'
            injection hf' with hf'
            rw [← hf']
            exact HFB.out
        case measure => simp [intOf]; omega
      | true =>
        rw [hb] at HFB
        have HIX : Hid (findB fs path = (f.text, true)) := by
          show findB fs path = _
          unfold findB
          rw [fi_found HZ.out HF.out HFB.out]
          show ((fs.getD t _).text, true) = _
          rw [List.getD_eq_getElem?_getD, HF.out]
          exact rfl
        go_wp2
        refine bodyPost_ret (v := .tuple #[.string f.text, .bool true]) (results_two Try.results41 _ _ _ _ rfl rfl) rfl ⟨by rw [HIX.out], hbw⟩
    · have hd : decide ((t : Int) < fs.length) = false := by simp; omega
      have htl : t = fs.length := by omega
      have HIX : Hid (findB fs path = (⟨#[]⟩, false)) := by
        have : fs.findIdx? (fiB path) = none := by
          rw [List.findIdx?_eq_none_iff]
          intro f hf
          obtain ⟨j, hj⟩ := List.getElem?_of_mem hf
          exact HZ.out j f (by rw [htl]; exact (List.getElem?_eq_some_iff.1 hj).1) hj
        show findB fs path = _
        unfold findB
        rw [this]
      clear htl
      go_wp2
      refine bodyPost_ret (v := .tuple #[.string ⟨#[]⟩, .bool false]) (results_two Try.results41 _ _ _ _ rfl rfl) rfl ⟨by rw [HIX.out], hbw⟩
set_option maxRecDepth 100000 in
set_option maxHeartbeats 2000000 in
theorem r8at_any (sp : Option Addr) (cap : Nat) (fs : List Fi) (path : ByteArray) (w : World) (hr : RowsAt w 2 Fi.cells sp fs) (hl : fs.length ≤ 1000000) :
    Calls Try.prog 24 #[.agg #[.slice sp fs.length cap], .string path] w fun e w' => e = .returned (.tuple #[.string (findB fs path).1, .bool (findB fs path).2]) ∧ Below w.heap.size w w' := by
  have HR : Hid (RowsAt w 2 Fi.cells sp fs) := hr
  clear hr
  go_enter Try.func24, Try.ntmps24
  go_wp2_with fail
  refine calls_gen (fun W0 => Below w.heap.size w W0) (by first | exact Below.refl _ _ | exact (Below.refl _ _).alloc (Nat.le_refl _) _) ?_
  intro W0 hb0
  refine (r7get_any sp cap fs path W0 (RowsAt.below HR.out hb0) hl).mono ?_
  rintro e W1 ⟨rfl, hb1⟩
  have hb : Below w.heap.size w W1 := hb0.trans (hb1.mono hb0.size)
  go_wp2
  refine bodyPost_ret (v := .tuple #[.string (findB fs path).1, .bool (findB fs path).2]) (results_two Try.results24 _ _ _ _ rfl rfl) rfl ⟨rfl, hb⟩
end Go.Proofs.Ytmbnbehlfbdpnaa
