/- The contract of the laws' short. -/
import Derived.Test.YtmbnbehlfbdpnabMOpn
namespace Go.Proofs.Ytmbnbehlfbdpnab
open Go.RowKit

/-- A text's beginning. -/
def cutS (n : Nat) (s : ByteArray) : ByteArray := s.extract 0 (min s.size n)
def shortF (f : Fi) : Fi := ⟨cutS 100 f.path, cutS 4097 f.text⟩
def shortL (fs : List Fi) : List Fi := (fs.take 18).map shortF
theorem shortL_len (fs : List Fi) : (shortL fs).length ≤ 18 := by simp [shortL]; omega
theorem shortL_step {fs : List Fi} {t : Nat} {f : Fi} (h : fs[t]? = some f) : (fs.take (t + 1)).map shortF = (fs.take t).map shortF ++ [shortF f] := by
  rw [List.take_add_one, h]
  simp

set_option maxRecDepth 100000 in
set_option maxHeartbeats 2000000 in
theorem short_any (s : Sl) (w : World) (h : InF w s) :
    Calls Try.prog 11 #[.agg #[.slice s.sp s.fs.length s.cap]] w fun e w' => (∃ v, e = .returned (.agg #[v]) ∧ OwnF w.heap.size w' v (shortL s.fs)) ∧ Below w.heap.size w w' := by
  obtain ⟨sp, cap, fs⟩ := s
  have HR : Hid (RowsAt w 2 Fi.cells sp fs) := h.1
  have HS : Hid (∀ f ∈ fs, f.path.size ≤ maxLen ∧ f.text.size ≤ maxLen) := h.2.1
  have hml : fs.length ≤ 9223372036854775807 := by have h1 := h.2.2.1.1; have h2 := h.2.2.1.2; unfold maxLen at h2; dsimp only at h1 h2; omega
  clear h
  dsimp only
  go_enter Try.func11, Try.ntmps11
  go_wp2
  refine wp_gen (fun W => Below w.heap.size w W ∧ W.heap[w.heap.size + 1]? = some (.cells #[.slice none 0 0] 24 (0, 0))) ⟨((Below.refl _ _).alloc (Nat.le_refl _) _).alloc (by simp) _, ?_⟩ ?_
  · have := heap_alloc_new (w.alloc (.cells #[.slice sp fs.length cap] 24)) (.cells #[.slice none 0 0] 24)
    rw [World.size_alloc] at this
    exact this
  rintro W0 ⟨hB0, r0⟩
  go_loopw [3, 9] (fun l i wr => ∃ t : Nat, t ≤ fs.length ∧ t ≤ 18 ∧ i = .int .i64 t ∧ Below w.heap.size w wr ∧ wr.heap[w.heap.size + 1]? = some (.cells #[.slice none 0 0] 24 (0, 0)) ∧ OwnF w.heap.size wr l ((fs.take t).map shortF)) (fun _ i _ => fs.length - (intOf i).toNat)
  case atStart => exact ⟨0, Nat.zero_le _, Nat.zero_le _, rfl, hB0, r0, ownF_nil _ _⟩
  case round =>
    obtain ⟨t, ht, ht18, rfl, hB, hr, hof⟩ := hrel
    have HOF : Hid (OwnF w.heap.size wr _ ((fs.take t).map shortF)) := hof
    clear hof
    by_cases hlt : t < fs.length
    · by_cases h18 : t = 18
      · have HE : Hid ((fs.take t).map shortF = shortL fs) := by show _ = shortL fs; rw [h18]; rfl
        have hd : ((t : Int) == 18) = true := by rw [h18]; rfl
        have hd1 : decide ((t : Int) < fs.length) = true := by simp; omega
        obtain ⟨b, off, rfl, -⟩ := HR.out (by omega)
        obtain ⟨f, hf⟩ : ∃ f, fs[t]? = some f := ⟨_, List.getElem?_eq_getElem hlt⟩
        have hc := fi_cell (RowsAt.below HR.out hB) hf
        have c0 := hc.1
        have c1 := hc.2
        clear hc h18
        obtain ⟨so, co, hu, -⟩ := HOF.out.rows
        obtain ⟨kk, hkk⟩ : ∃ kk, ((fs.take t).map shortF).length = kk := ⟨_, rfl⟩
        rw [hkk] at hu
        subst hu
        have cr : wr.cell? ⟨w.heap.size + 1, 0, none⟩ = some (.slice none 0 0) := (cell_of_row _ _ _ _ _ _ hr).trans rfl
        have zr : wr.frozen? ⟨w.heap.size + 1, 0, none⟩ = false := frozen_of_row _ _ _ _ _ hr
        have HO7 : Hid (∀ W, Below wr.heap.size wr W → OwnF w.heap.size (W.setCell ⟨w.heap.size + 1, 0, none⟩ (.slice so kk co)) (.slice so kk co) (shortL fs)) := fun W hW => by
          rw [← HE.out]
          have h7 := HOF.out.below hW
          refine h7.keep fun k hk => heap_setCell_other _ _ _ _ fun e => ?_
          obtain ⟨cs, hcs⟩ := h7.row hk
          rw [e, (hW.block _ (lt_of_row hr)).trans hr] at hcs
          injection hcs with hcs
          injection hcs with _ hcs
          exact absurd hcs (by decide)
        have hl7 := lt_of_row hr
        clear HOF hkk
        go_wp2
        refine bodyPost_ret (v := .agg #[.slice so kk co]) (results_cell Try.results11 _ _ (w.heap.size + 1) 24 #[.slice so kk co] (0, 0) _ rfl ?_ Try.underlying24 rfl (by kernel_rfl)) rfl ⟨⟨_, rfl, ?_⟩, ?_⟩
        · exact (Below.heap_alloc _ _ _ (by simp [World.setCell]; exact hl7)).trans (heap_setCell_same _ _ 0 _ _ _ hr)
        · exact (HO7.out wr (Below.refl _ _)).below ((Below.refl _ _).alloc (Nat.le_refl _) _)
        · exact (hB.setCell (p := ⟨w.heap.size + 1, 0, none⟩) (by show w.heap.size ≤ w.heap.size + 1; omega) _).alloc (by simp [World.setCell]; exact hB.size) _
      · obtain ⟨b, off, rfl, -⟩ := HR.out (by omega)
        obtain ⟨f, hf⟩ : ∃ f, fs[t]? = some f := ⟨_, List.getElem?_eq_getElem hlt⟩
        have hsz := HS.out f (List.mem_of_getElem? hf)
        have hps : f.path.size ≤ 9223372036854775807 := by have := hsz.1; unfold maxLen at this; omega
        have hts : f.text.size ≤ 9223372036854775807 := by have := hsz.2; unfold maxLen at this; omega
        have hc := fi_cell (RowsAt.below HR.out hB) hf
        have c0 := hc.1
        have c1 := hc.2
        have HST : Hid _ := shortL_step hf
        have hd : ((t : Int) == 18) = false := by simp; omega
        have hd1 : decide ((t : Int) < fs.length) = true := by simp; omega
        clear hc hsz
        go_wp2
        refine wp_gen (fun W => Below wr.heap.size wr W ∧ W.heap[wr.heap.size]? = some (.cells (Fi.cells f) 46 (0, 0))) ⟨(Below.refl _ _).alloc (Nat.le_refl _) _, heap_alloc_new _ _⟩ ?_
        rintro W2 ⟨hB2, hr2⟩
        have d0 : W2.cell? ⟨wr.heap.size, 0, none⟩ = some (.string f.path) := (cell_of_row _ _ _ _ _ _ hr2).trans rfl
        have d1 : W2.cell? ⟨wr.heap.size, 1, none⟩ = some (.string f.text) := (cell_of_row _ _ _ _ _ _ hr2).trans rfl
        have z0 : W2.frozen? ⟨wr.heap.size, 0, none⟩ = false := frozen_of_row _ _ _ _ _ hr2
        have z1 : W2.frozen? ⟨wr.heap.size, 1, none⟩ = false := frozen_of_row _ _ _ _ _ hr2
        clear c0 c1
        go_region
        have ep : f.path.extract 0 (min (f.path.size : Int) 100).toNat = cutS 100 f.path := by unfold cutS; congr 1; omega
        have et : f.text.extract 0 (min (f.text.size : Int) 4097).toNat = cutS 4097 f.text := by unfold cutS; congr 1; omega
        rw [ep, et]
        have fx : ((W2.setCell ⟨wr.heap.size, 0, none⟩ (.string (cutS 100 f.path))).setCell ⟨wr.heap.size, 1, none⟩ (.string (cutS 4097 f.text))).drew.heap[wr.heap.size]? = some (.cells (shortF f).cells 46 (0, 0)) ∧ Below wr.heap.size wr ((W2.setCell ⟨wr.heap.size, 0, none⟩ (.string (cutS 100 f.path))).setCell ⟨wr.heap.size, 1, none⟩ (.string (cutS 4097 f.text))).drew :=
          ⟨heap_setCell_same _ _ 1 _ _ _ (heap_setCell_same _ _ 0 _ _ _ hr2), ((hB2.setCell (p := ⟨wr.heap.size, 0, none⟩) (Nat.le_refl _) _).setCell (p := ⟨wr.heap.size, 1, none⟩) (Nat.le_refl _) _).drew⟩
        clear d0 d1 z0 z1 hr2 hB2 ep et
        generalize ((W2.setCell ⟨wr.heap.size, 0, none⟩ (.string (cutS 100 f.path))).setCell ⟨wr.heap.size, 1, none⟩ (.string (cutS 4097 f.text))).drew = W3 at fx ⊢
        obtain ⟨hr3, hB3⟩ := fx
        have d0 : W3.cell? ⟨wr.heap.size, 0, none⟩ = some (.string (cutS 100 f.path)) := (cell_of_row _ _ _ _ _ _ hr3).trans rfl
        have d1 : W3.cell? ⟨wr.heap.size, 1, none⟩ = some (.string (cutS 4097 f.text)) := (cell_of_row _ _ _ _ _ _ hr3).trans rfl
        have hB4 : Below wr.heap.size wr (W3.alloc (.cells (shortF f).cells 46)) := hB3.alloc hB3.size _
        have hbw : Below w.heap.size w (W3.alloc (.cells (shortF f).cells 46)) := hB.trans (hB4.mono hB.size)
        have HOF4 : Hid (OwnF w.heap.size (W3.alloc (.cells (shortF f).cells 46)) _ ((fs.take t).map shortF)) := HOF.out.below hB4
        have HR4 : Hid (RowsAt (W3.alloc (.cells (shortF f).cells 46)) 2 Fi.cells (some ⟨W3.heap.size, 0, none⟩) [shortF f]) := oneF_rows (heap_alloc_new W3 (.cells (shortF f).cells 46))
        have hr5 : (W3.alloc (.cells (shortF f).cells 46)).heap[w.heap.size + 1]? = some (.cells #[.slice none 0 0] 24 (0, 0)) := (hB4.block _ (lt_of_row hr)).trans hr
        have HL : Hid (((fs.take t).map shortF).length + [shortF f].length ≤ 100000) := by
          show ((fs.take t).map shortF).length + 1 ≤ 100000
          rw [List.length_map, List.length_take]
          omega
        clear hr3 hB3 hB4 HOF
        go_wp2_with (refine files_append (by rfl) (.tmp 32) (.tmp 34) (by rfl) w.heap.size _ ((fs.take t).map shortF) (by rfl) HOF4.out (some ⟨W3.heap.size, 0, none⟩) 1 [shortF f] (by rfl) (fun e => by cases e) HR4.out (fun _ => ⟨_, _, rfl⟩) HL.out hbw.size ?_; intro v' w5 hO5 hg5 _; have HO5 : Hid _ := hO5; clear hO5)
        have hB5 := OwnF.grown (xs := (fs.take t).map shortF) HOF4.out (Nat.le_refl _) hbw.size hbw hg5
        have hr6 : w5.heap[w.heap.size + 1]? = some (.cells #[.slice none 0 0] 24 (0, 0)) := (hg5.block _ (lt_of_row hr5) (fun e => by
          obtain ⟨cs, hcs⟩ := OwnF.row HOF4.out e.symm
          rw [hr5] at hcs
          injection hcs with hcs
          injection hcs with _ hcs
          exact absurd hcs (by decide))).trans hr5
        go_roundw
        case rel => exact ⟨t + 1, by omega, by omega, by go_num, hB5, hr6, by rw [HST.out]; exact HO5.out⟩
        case measure => simp [intOf]; omega
    · have htl : t = fs.length := by omega
      have HE : Hid ((fs.take t).map shortF = shortL fs) := by
        show (fs.take t).map shortF = (fs.take 18).map shortF
        rw [List.take_of_length_le (by omega), List.take_of_length_le (by omega)]
      have hd1 : decide ((t : Int) < fs.length) = false := by simp; omega
      obtain ⟨so, co, hu, -⟩ := HOF.out.rows
      obtain ⟨kk, hkk⟩ : ∃ kk, ((fs.take t).map shortF).length = kk := ⟨_, rfl⟩
      rw [hkk] at hu
      subst hu
      have cr : wr.cell? ⟨w.heap.size + 1, 0, none⟩ = some (.slice none 0 0) := (cell_of_row _ _ _ _ _ _ hr).trans rfl
      have zr : wr.frozen? ⟨w.heap.size + 1, 0, none⟩ = false := frozen_of_row _ _ _ _ _ hr
      have HO7 : Hid (∀ W, Below wr.heap.size wr W → OwnF w.heap.size (W.setCell ⟨w.heap.size + 1, 0, none⟩ (.slice so kk co)) (.slice so kk co) (shortL fs)) := fun W hW => by
        rw [← HE.out]
        have h7 := HOF.out.below hW
        refine h7.keep fun k hk => heap_setCell_other _ _ _ _ fun e => ?_
        obtain ⟨cs, hcs⟩ := h7.row hk
        rw [e, (hW.block _ (lt_of_row hr)).trans hr] at hcs
        injection hcs with hcs
        injection hcs with _ hcs
        exact absurd hcs (by decide)
      have hl7 := lt_of_row hr
      clear HOF hkk
      go_wp2
      refine bodyPost_ret (v := .agg #[.slice so kk co]) (results_cell Try.results11 _ _ (w.heap.size + 1) 24 #[.slice so kk co] (0, 0) _ rfl ?_ Try.underlying24 rfl (by kernel_rfl)) rfl ⟨⟨_, rfl, ?_⟩, ?_⟩
      · exact heap_setCell_same _ _ 0 _ _ _ hr
      · exact HO7.out wr (Below.refl _ _)
      · exact hB.setCell (p := ⟨w.heap.size + 1, 0, none⟩) (by show w.heap.size ≤ w.heap.size + 1; omega) _
end Go.Proofs.Ytmbnbehlfbdpnab
