/- The contract of merge's take. -/
import Derived.Test.YtmbnbehlfbdpnabMLea
namespace Go.Proofs.Ytmbnbehlfbdpnab
open Go.RowKit

/-- Files lie there. -/
def SlAt (w : World) (s : Sl) : Prop := RowsAt w 2 Fi.cells s.sp s.fs ∧ s.fs.length ≤ s.cap ∧ s.cap ≤ maxLen
def takeM (p : ByteArray) : List Fi → May
  | [] => no
  | f :: _ => if f.path.toList == p.toList then ⟨f.text, true⟩ else no
def takeL (p : ByteArray) : List Fi → List Fi
  | [] => []
  | f :: r => if f.path.toList == p.toList then r else f :: r
theorem rowsTail {w : World} {b off : Nat} {f : Fi} {r : List Fi} (h : RowsAt w 2 Fi.cells (some ⟨b, off, none⟩) (f :: r)) : RowsAt w 2 Fi.cells (some ⟨b, off + 2, none⟩) r := fun _ => by
  obtain ⟨b', off', e, hc⟩ := h (by simp)
  injection e with e
  injection e with e1 e2
  subst e1 e2
  refine ⟨b, off + 2, rfl, fun i x hx j u hu => ?_⟩
  have := hc (i + 1) x (by simpa using hx) j u hu
  rw [← this]
  congr 2
  omega

set_option maxRecDepth 100000 in
set_option maxHeartbeats 1000000 in
theorem take_any (w0 : World) (g i : Nat) (cs : Array Value) (s : Sl) (p : ByteArray) (w : World) (hB : Below w0.heap.size w0 w) (hg0 : w0.heap.size ≤ g) (hs : SlAt w0 s) (hrow : w.heap[g]? = some (.cells cs 50 (0, 0))) (hi : cs[i]? = some s.v) :
    Calls Try.prog 32 #[.pointer (some ⟨g, i, none⟩), .string p] w fun e w' => e = .returned (.agg (takeM p s.fs).cells) ∧
      ∃ s' : Sl, s'.fs = takeL p s.fs ∧ SlAt w0 s' ∧ w'.heap[g]? = some (.cells (cs.setIfInBounds i s'.v) 50 (0, 0)) ∧ w.grownBy w' (some g) := by
  obtain ⟨sp, cap, fs⟩ := s
  obtain ⟨hr, hcap, hmx⟩ := hs
  have HI : Hid _ := hi
  have HR : Hid (RowsAt w0 2 Fi.cells sp fs) := hr
  have hgl := lt_of_row hrow
  have hc : w.cell? ⟨g, i, none⟩ = some (.slice sp fs.length cap) := (cell_of_row _ _ _ _ _ _ hrow).trans hi
  have hfz : w.frozen? ⟨g, i, none⟩ = false := frozen_of_row _ _ _ _ _ hrow
  have hset : cs.setIfInBounds i (.slice sp fs.length cap) = cs := by
    have hlt : i < cs.size := (Array.getElem?_eq_some_iff.1 hi).1
    have := (Array.getElem?_eq_some_iff.1 hi).2
    apply Array.ext
    · simp
    · intro k h1 h2
      rw [Array.getElem_setIfInBounds (by simpa using h2)]
      by_cases hk : i = k
      · subst hk; rw [if_pos rfl, this]
      · rw [if_neg hk]
  have HSET : Hid _ := hset
  clear hi hr hset
  dsimp only at hcap hmx ⊢
  cases fs with
  | nil =>
    dsimp only [List.length_nil] at hc
    go_enter Try.func32, Try.ntmps32
    go_wp2
    refine bodyPost_ret (v := .agg no.cells) (results_cell Try.results32 _ _ w.heap.size 67 no.cells (0, 0) _ rfl (heap_alloc_new _ _) Try.underlying67 rfl (by kernel_rfl)) rfl ⟨rfl, ⟨sp, cap, []⟩, rfl, ⟨HR.out, hcap, hmx⟩, ?_, World.grownBy_alloc _ _ _⟩
    rw [Below.heap_alloc _ _ _ hgl, hrow]
    exact congrArg some (congrArg (fun c => Obj.cells c 50 (0, 0)) HSET.out.symm)
  | cons f r =>
    obtain ⟨b, off, rfl, hfc⟩ := HR.out (by simp)
    have cf0 : w.cell? ⟨b, off, none⟩ = some (.string f.path) := (hB.cell (p := ⟨b, off, none⟩) (block_lt_of_cell (hfc 0 f rfl 0 _ rfl))).trans (hfc 0 f rfl 0 _ rfl)
    have cf1 : w.cell? ⟨b, off + 1, none⟩ = some (.string f.text) := (hB.cell (p := ⟨b, off + 1, none⟩) (block_lt_of_cell (hfc 0 f rfl 1 _ rfl))).trans (hfc 0 f rfl 1 _ rfl)
    have hbl := block_lt_of_cell (hfc 0 f rfl 0 _ rfl)
    have hbw := block_lt_of_cell cf0
    have hgb : ¬ g = b := by have : b < w0.heap.size := hbl; omega
    have hbg : ¬ b = g := by have : b < w0.heap.size := hbl; omega
    clear hfc
    have hln : 0 < (f :: r).length := by simp
    have hne : (((f :: r).length : Int) == 0) = false := by simp; omega
    have HT : Hid (takeM p (f :: r) = if f.path.toList == p.toList then ⟨f.text, true⟩ else no) := rfl
    have HTL : Hid (takeL p (f :: r) = if f.path.toList == p.toList then r else f :: r) := rfl
    have HLN : Hid ((f :: r).length = r.length + 1) := rfl
    generalize hLN : (f :: r).length = ln at hc hln hne HLN hcap
    have HL2 : Hid _ := hLN
    clear hLN
    cases hpe : f.path.toList == p.toList with
    | false =>
      rw [hpe] at HT HTL
      have hpe' : (f.path.toList != p.toList) = true := by simp [bne, hpe]
      go_enter Try.func32, Try.ntmps32
      go_wp2
      refine bodyPost_ret (v := .agg no.cells) (results_cell Try.results32 _ _ w.heap.size 67 no.cells (0, 0) _ rfl (heap_alloc_new _ _) Try.underlying67 rfl (by kernel_rfl)) rfl ⟨by rw [HT.out]; rfl, ⟨some ⟨b, off, none⟩, cap, f :: r⟩, by rw [HTL.out]; rfl, ⟨HR.out, by rw [HL2.out]; exact hcap, hmx⟩, ?_, World.grownBy_alloc _ _ _⟩
      rw [Below.heap_alloc _ _ _ hgl, hrow]
      exact congrArg some (congrArg (fun c => Obj.cells c 50 (0, 0)) HSET.out.symm)
    | true =>
      rw [hpe] at HT HTL
      have hpe' : (f.path.toList != p.toList) = false := by simp [bne, hpe]
      have fin : Hid (∀ v : Value, ((w.setCell ⟨g, i, none⟩ v).alloc (.cells (May.cells ⟨f.text, true⟩) 67)).heap[g]? = some (.cells (cs.setIfInBounds i v) 50 (0, 0)) ∧ w.grownBy ((w.setCell ⟨g, i, none⟩ v).alloc (.cells (May.cells ⟨f.text, true⟩) 67)) (some g) ∧ ((w.setCell ⟨g, i, none⟩ v).alloc (.cells (May.cells ⟨f.text, true⟩) 67)).heap[w.heap.size]? = some (.cells (May.cells ⟨f.text, true⟩) 67 (0, 0))) := fun v => by
        have hz : (w.setCell ⟨g, i, none⟩ v).heap.size = w.heap.size := by simp [World.setCell]
        refine ⟨?_, ?_, ?_⟩
        · rw [Below.heap_alloc _ _ _ (by rw [hz]; exact hgl)]
          exact heap_setCell_same _ _ _ _ _ _ hrow
        · refine ⟨rfl, rfl, rfl, by rw [World.size_alloc, hz]; omega, fun k hk hne => ?_⟩
          rw [Below.heap_alloc _ _ _ (by rw [hz]; exact hk)]
          exact heap_setCell_other _ _ _ _ (fun e => hne (by rw [e]))
        · have := heap_alloc_new (w.setCell ⟨g, i, none⟩ v) (.cells (May.cells ⟨f.text, true⟩) 67)
          rw [hz] at this
          exact this
      have HN : Hid (ln - 1 = r.length) := by show ln - 1 = r.length; rw [HLN.out]; rfl
      by_cases h : cap = 1
      · have h0 : Hid (r = []) := List.eq_nil_of_length_eq_zero (by rw [← HN.out]; omega)
        go_enter Try.func32, Try.ntmps32
        go_wp2
        refine bodyPost_ret (v := .agg (May.cells ⟨f.text, true⟩)) (results_cell Try.results32 _ _ w.heap.size 67 _ (0, 0) _ rfl (fin.out _).2.2 Try.underlying67 rfl (by kernel_rfl)) rfl ⟨by rw [HT.out]; rfl, ⟨some ⟨b, off, none⟩, 0, r⟩, by rw [HTL.out]; rfl, ⟨by rw [h0.out]; exact RowsAt.none, by rw [h0.out]; exact Nat.le_refl _, Nat.zero_le _⟩, ?_, (fin.out _).2.1⟩
        refine (fin.out _).1.trans ?_
        rw [HN.out]
      · go_enter Try.func32, Try.ntmps32
        go_wp2
        refine bodyPost_ret (v := .agg (May.cells ⟨f.text, true⟩)) (results_cell Try.results32 _ _ w.heap.size 67 _ (0, 0) _ rfl (fin.out _).2.2 Try.underlying67 rfl (by kernel_rfl)) rfl ⟨by rw [HT.out]; rfl, ⟨some ⟨b, off + 2, none⟩, cap - 1, r⟩, by rw [HTL.out]; rfl, ⟨rowsTail HR.out, by show r.length ≤ cap - 1; rw [← HN.out]; omega, by show cap - 1 ≤ maxLen; omega⟩, ?_, (fin.out _).2.1⟩
        refine (fin.out _).1.trans ?_
        rw [HN.out]
end Go.Proofs.Ytmbnbehlfbdpnab
