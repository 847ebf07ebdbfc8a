/- The law MergeSame answers true. -/
import Derived.Test.YtmbnbehlfbdpnaaMAppF
namespace Go.Proofs.Ytmbnbehlfbdpnaa
open Go.RowKit

instance : Inhabited Cl := ⟨⟨⟨#[]⟩, ⟨no, no, no⟩⟩⟩
theorem rows_take {α : Type} {w : World} {m : Nat} {cs : α → Array Value} {sp : Option Addr} {xs : List α} (h : RowsAt w m cs sp xs) (k : Nat) : RowsAt w m cs sp (xs.take k) := fun hl => by
  obtain ⟨b, off, e, hc⟩ := h (by simp at hl; omega)
  exact ⟨b, off, e, fun i x hx => hc i x (by
    rw [List.getElem?_take] at hx
    split at hx
    · exact hx
    · cases hx)⟩

set_option maxRecDepth 100000 in
set_option maxHeartbeats 1000000 in
theorem mergeSame_all (sp tp : Option Addr) (c1 c2 : Nat) (xs ys : List Cl) (w : World) (h1 : RowsAt w 7 Cl.cells sp xs) (h2 : RowsAt w 7 Cl.cells tp ys) (k1 : xs.length ≤ c1) (k2 : ys.length ≤ c2) (m1 : c1 ≤ maxLen) (m2 : c2 ≤ maxLen) (n1 : sp = none → c1 = 0) :
    Calls Try.prog 6 #[.slice sp xs.length c1, .slice tp ys.length c2] w fun e w' => e = .returned (.bool true) ∧ Below w.heap.size w w' := by
  have HR1 : Hid (RowsAt w 7 Cl.cells sp xs) := h1
  have HR2 : Hid (RowsAt w 7 Cl.cells tp ys) := h2
  clear h1 h2
  go_enter Try.func6, Try.ntmps6
  go_wp2_with fail
  refine (wakes8_any w).mono ?_
  rintro e W1 ⟨rfl, b1⟩
  go_wp2
  have hmx : c1 ≤ 9223372036854775807 := by unfold maxLen at m1; omega
  have hmy : c2 ≤ 9223372036854775807 := by unfold maxLen at m2; omega
  go_region
  have e1 : (min (xs.length : Int) 40).toNat = (xs.take 40).length := by rw [List.length_take]; omega
  have e2 : (min (ys.length : Int) 40).toNat = (ys.take 40).length := by rw [List.length_take]; omega
  rw [e1, e2]
  have l1 : (xs.take 40).length ≤ 40 := by rw [List.length_take]; omega
  have b2 : Below w.heap.size w W1.drew := b1.trans (below_drawn' _ 1)
  have R1 : Hid (RowsAt W1.drew 7 Cl.cells sp (xs.take 40)) := (rows_take HR1.out 40).below b2
  have R2 : Hid (RowsAt W1.drew 7 Cl.cells tp (ys.take 40)) := (rows_take HR2.out 40).below b2
  have N1 : Hid (sp = none → (xs.take 40).length = 0 ∧ c1 = 0) := fun h => by
    have := n1 h
    have h' : xs.length = 0 := by omega
    exact ⟨by rw [List.length_take]; omega, this⟩
  clear HR1 HR2 e1 e2 b1
  generalize xs.take 40 = us at l1 R1 N1 ⊢
  generalize ys.take 40 = vs at R2 ⊢
  generalize W1.drew = W2 at b2 R1 R2 ⊢
  clear n1 k1 k2 m1 m2 hmx hmy
  go_wp2_with fail
  refine (msame_any sp tp c1 c2 us vs W2 R1.out R2.out (by omega)).mono ?_
  rintro e W3 ⟨rfl, n3, rfl⟩
  go_wp2_with fail
  refine (r8same_any sp tp c1 c2 us vs (W2.drewN n3) R1.out R2.out (by omega)).mono ?_
  rintro e W4 ⟨rfl, n4, rfl⟩
  have b4 : Below w.heap.size w ((W2.drewN n3).drewN n4) := (b2.trans (below_drawn' _ n3)).trans (below_drawn' _ n4)
  have R4 : Hid (RowsAt ((W2.drewN n3).drewN n4) 7 Cl.cells sp us) := R1.out
  clear R1 R2 b2
  generalize (W2.drewN n3).drewN n4 = W5 at b4 R4 ⊢
  have hqq : ∀ q : Bool, (q == q) = true := fun q => by cases q <;> rfl
  have hq := hqq (eqAll clEq us vs)
  clear hqq
  have ba : Below w.heap.size w (W5.alloc (.cells #[] 40)) := b4.alloc b4.size _
  have b5a : Below W5.heap.size W5 (W5.alloc (.cells #[] 40)) := (Below.refl _ _).alloc (Nat.le_refl _) _
  obtain ⟨i, hi, hz0, hz1, hz2⟩ := info_parts infoC
  obtain ⟨v6, W6, hr6, b6, s6, k6, rfl, R6, -, -⟩ := app_fresh (t := 29) (e := 40) (ty := 29) (m := 7) Cl.cells Try.underlying29 hi hz0 hz1 (by rw [hz2]; omega) (by omega) (fun _ => rfl) W5.heap.size sp c1 us (W5.alloc (.cells #[] 40)) (R4.out.below b5a) N1.out (by omega)
  have R6' : Hid (RowsAt W6 7 Cl.cells s6 us) := R6
  have R7 : Hid (RowsAt W6 7 Cl.cells sp us) := (R4.out.below b5a).below b6
  have bw6 : Below w.heap.size w W6 := ba.trans (b6.mono ba.size)
  clear R6 b5a ba b6 hi hz0 hz1 hz2
  go_wp2_with (refine list_appendg (.tmp 26) (.tmp 27) 29 (by rfl) (by rfl) (by rfl) (by rfl) hr6 ?_)
  refine (msame_any sp s6 c1 k6 us us W6 R7.out R6'.out (by omega)).mono ?_
  rintro e W8 ⟨rfl, n8, rfl⟩
  rw [eqAll_refl clEq_refl us]
  go_wp2
  go_ret
  exact ⟨rfl, bw6.trans (below_drawn' _ n8)⟩
end Go.Proofs.Ytmbnbehlfbdpnaa
