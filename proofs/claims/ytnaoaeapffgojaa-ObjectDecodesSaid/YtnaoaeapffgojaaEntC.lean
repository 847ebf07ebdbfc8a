/- Stores in the midst of a row; the contract of the reader's entry. -/
import Derived.Test.YtnaoaeapffgojaaOrdC
import Derived.Deep.Upon
namespace Go.Proofs.Ytnaoaeapffgojaa
open Go.RowKit

def setMany (cs : Array Value) : Nat → List Value → Array Value
  | _, [] => cs
  | o, v :: r => setMany (cs.setIfInBounds o v) (o + 1) r
theorem setMany_size : ∀ (vs : List Value) (o : Nat) (cs : Array Value), (setMany cs o vs).size = cs.size
  | [], _, _ => rfl
  | v :: r, o, cs => by rw [setMany, setMany_size r]; simp
theorem setMany_get : ∀ (vs : List Value) (o : Nat) (cs : Array Value) (j : Nat), o + vs.length ≤ cs.size → (setMany cs o vs)[j]? = if o ≤ j ∧ j < o + vs.length then vs[j - o]? else cs[j]?
  | [], o, cs, j, _ => by
    rw [if_neg (fun h => by have h1 := h.1; have h2 := h.2; simp at h2; omega)]
    rfl
  | v :: r, o, cs, j, h => by
    rw [setMany, setMany_get r (o + 1) _ j (by simp at h ⊢; omega)]
    simp only [List.length_cons] at h ⊢
    by_cases h1 : o + 1 ≤ j ∧ j < o + 1 + r.length
    · rw [if_pos h1, if_pos (by omega), show j - o = (j - (o + 1)) + 1 by omega, List.getElem?_cons_succ]
    · rw [if_neg h1]
      by_cases h2 : j = o
      · subst h2
        rw [if_pos (by omega), Nat.sub_self, List.getElem?_cons_zero, Array.getElem?_setIfInBounds_self_of_lt (by omega)]
      · rw [if_neg (by omega), Array.getElem?_setIfInBounds_ne (fun e => h2 e.symm)]
theorem heap_setCells_row {g : Nat} {t : TypeId} : ∀ (vs : List Value) (o : Nat) (w : World) (cs : Array Value), w.heap[g]? = some (.cells cs t (0, 0)) → (w.setCells g o vs).heap[g]? = some (.cells (setMany cs o vs) t (0, 0))
  | [], _, _, _, h => h
  | _ :: r, o, _, _, h => heap_setCells_row r (o + 1) _ _ (heap_setCell_same _ _ _ _ _ _ h)
theorem there_row {w : World} {g : Nat} {cs : Array Value} {t : TypeId} (h : w.heap[g]? = some (.cells cs t (0, 0))) {o n : Nat} (hn : o + n ≤ cs.size) : w.there g o n := fun j hj =>
  ⟨by rw [cell_of_row _ _ _ _ _ _ h, Array.getElem?_eq_getElem (by omega)]; rfl, frozen_of_row _ _ _ _ _ h⟩
theorem setCells_size (k : Nat) : ∀ (vs : List Value) (o : Nat) (W : World), (W.setCells k o vs).heap.size = W.heap.size
  | [], _, _ => rfl
  | _ :: r, o, W => by rw [World.setCells, setCells_size k r]; simp [World.setCell]
theorem grown_setCells {w w1 : World} {g : Option Nat} {k o : Nat} {vs : List Value} (h : w.grownBy w1 g) (hk : w.heap.size ≤ k) : w.grownBy (w1.setCells k o vs) g := by
  have hsz : ∀ (vs : List Value) (o : Nat) (W : World), (W.setCells k o vs).heap.size = W.heap.size := by
    intro vs
    induction vs with
    | nil => intro o W; rfl
    | cons v r ih => intro o W; rw [World.setCells, ih]; simp [World.setCell]
  have hrest : ∀ (vs : List Value) (o : Nat) (W : World), (W.setCells k o vs).os = W.os ∧ (W.setCells k o vs).tape = W.tape ∧ (W.setCells k o vs).output = W.output := by
    intro vs
    induction vs with
    | nil => intro o W; exact ⟨rfl, rfl, rfl⟩
    | cons v r ih => intro o W; exact ih (o + 1) _
  obtain ⟨e1, e2, e3⟩ := hrest vs o w1
  exact ⟨e1.trans h.os, e2.trans h.tape, e3.trans h.output, by rw [hsz]; exact h.size, fun j hj hne => (World.heap_setCells_other w1 k o vs (Nat.lt_of_lt_of_le hj h.size) (by omega)).trans (h.block j hj hne)⟩
theorem ent_id (e : Ent) (f : Nat → Int) : setMany e.cells 2 (arr .u8 32 f).toList = Ent.cells ⟨e.name, e.folder, f⟩ := by
  apply Array.ext_getElem?
  intro j
  rw [setMany_get _ _ _ _ (by simp [arr_size, Ent.size])]
  by_cases h : 2 ≤ j ∧ j < 2 + (arr .u8 32 f).toList.length
  · have hj : j - 2 < 32 := by simp [arr_size] at h; omega
    rw [if_pos h, Array.getElem?_toList, arr_get hj]
    have := Ent.cellId ⟨e.name, e.folder, f⟩ (j - 2) hj
    rw [show 2 + (j - 2) = j by omega] at this
    exact this.symm
  · rw [if_neg h]
    simp [arr_size] at h
    by_cases h0 : j = 0
    · subst h0; rw [Ent.cell0, Ent.cell0]
    by_cases h1 : j = 1
    · subst h1; rw [Ent.cell1, Ent.cell1]
    rw [Array.getElem?_eq_none (by rw [Ent.size]; omega), Array.getElem?_eq_none (by rw [Ent.size]; omega)]
theorem ent_name (e : Ent) (s : ByteArray) : e.cells.setIfInBounds 0 (.string s) = Ent.cells ⟨s, e.folder, e.id⟩ := by
  simp [Ent.cells, Array.setIfInBounds_append_left]
theorem ent_folder (e : Ent) (b : Bool) : e.cells.setIfInBounds 1 (.bool b) = Ent.cells ⟨e.name, b, e.id⟩ := by
  simp [Ent.cells, Array.setIfInBounds_append_left]
theorem ent_zero : (Try.prog.info? 40).bind (·.zero) = some (.agg (Ent.cells ⟨⟨#[]⟩, false, fun _ => 0⟩)) := by kernel_rfl

/-- An entry that a Reader steps over. -/
def tkEnt (L : List Int) (p : Nat × Int) : (Nat × Int) × Ent :=
  ((tkId L (tk L (tkText L p).1 1).1).1, ⟨(tkText L p).2, numOf (tk L (tkText L p).1 1).2 == 1, (tkId L (tk L (tkText L p).1 1).1).2⟩)
theorem grown_setCell_new {w w1 : World} {g : Option Nat} {k j : Nat} {v : Value} (h : w.grownBy w1 g) (hk : w.heap.size ≤ k) : w.grownBy (w1.setCell ⟨k, j, none⟩ v) g :=
  ⟨h.os, h.tape, h.output, by simpa [World.setCell] using h.size, fun i hi hne => by rw [heap_setCell_other _ _ _ _ (by show i ≠ k; omega)]; exact h.block i hi hne⟩
theorem rd_grown {w w1 : World} {B g : Nat} {L : List Int} {p : Nat × Int} (h : Rd w B g L p) (hB : Below B w w1) : Rd w1 B g L p := h.keepB hB
theorem below_of_grown {w w1 : World} {B : Nat} (h : w.grownBy w1 none) (hB : B ≤ w.heap.size) : Below B w w1 := ⟨h.os, h.tape, h.output, h.size, fun k hk => h.block k (by omega) (fun e => by cases e)⟩

set_option maxRecDepth 100000 in
set_option maxHeartbeats 2000000 in
theorem entry_any {B : Nat} (h g : Nat) (L : List Int) (p : Nat × Int) (w : World) (hr : Rd w B g L p) (hh : w.cell? ⟨h, 0, none⟩ = some (.pointer (some ⟨g, 0, none⟩))) (hne : h ≠ g) :
    Calls Try.prog 24 #[.pointer (some ⟨h, 0, none⟩)] w fun e w' => e = .returned (.agg (tkEnt L p).2.cells) ∧ Rd w' B g L (tkEnt L p).1 ∧ w.grownBy w' (some g) := by
  have hlt : h < w.heap.size := block_lt_of_cell hh
  have hBw : B ≤ w.heap.size := hr.big
  have hgB : g < B := hr.own
  go_enter Try.func24, Try.ntmps24
  go_wp2_with fail
  refine calls_gen (fun W1 => Below w.heap.size w W1 ∧ W1.heap[w.heap.size]? = some (.cells (Ent.cells ⟨⟨#[]⟩, false, fun _ => 0⟩) 40 (0, 0)) ∧ W1.heap[w.heap.size + 1]? = some (.cells (Ent.cells ⟨⟨#[]⟩, false, fun _ => 0⟩) 40 (0, 0))) ⟨?_, ?_, ?_⟩ ?_
  · exact ((Below.refl _ _).alloc (Nat.le_refl _) _).alloc (by simp) _
  · exact (heap_alloc2_old _ _ _).trans rfl
  · exact (heap_alloc2_new _ _ _).trans rfl
  intro W1 ⟨hB1, hr0, hr1⟩
  have hh1 : W1.cell? ⟨h, 0, none⟩ = some (.pointer (some ⟨g, 0, none⟩)) := (hB1.cell (p := ⟨h, 0, none⟩) hlt).trans hh
  refine (text_any h g L p W1 (hr.keep hB1) hh1 hne).mono ?_
  rintro e w2 ⟨rfl, hR2, hG2⟩
  have hw0 := lt_of_row hr0
  have hw1 := lt_of_row hr1
  have q0 : w2.heap[w.heap.size]? = some (.cells (Ent.cells ⟨⟨#[]⟩, false, fun _ => 0⟩) 40 (0, 0)) := (hG2.block _ hw0 (fun e => by injection e with e; omega)).trans hr0
  have q1 : w2.heap[w.heap.size + 1]? = some (.cells (Ent.cells ⟨⟨#[]⟩, false, fun _ => 0⟩) 40 (0, 0)) := (hG2.block _ hw1 (fun e => by injection e with e; omega)).trans hr1
  have hh2 := grown_cell hG2 hh1 hne
  have hG : w.grownBy w2 (some g) := ⟨hG2.os.trans hB1.os, hG2.tape.trans hB1.tape, hG2.output.trans hB1.output, Nat.le_trans hB1.size hG2.size, fun k hk hkg => (hG2.block k (Nat.lt_of_lt_of_le hk hB1.size) hkg).trans (hB1.block k hk)⟩
  have c1 : w2.cell? ⟨w.heap.size + 1, 0, none⟩ = some (.string ⟨#[]⟩) := (cell_of_row _ _ _ _ _ _ q1).trans (Ent.cell0 _)
  have hz : ∀ j, w2.frozen? ⟨w.heap.size + 1, j, none⟩ = false := fun j => frozen_of_row _ _ j _ _ q1
  have Q0 : Hid _ := q0
  have Q1 : Hid _ := q1
  have HG : Hid _ := hG
  have HR2 : Hid _ := hR2
  clear hB1 hr0 hr1 hh1 hG2 hR2 q0 q1 hG hr hh hw0 hw1
  generalize hs : (tkText L p).2 = s
  have HS : Hid _ := hs
  clear hs
  have hh2' : (w2.setCell ⟨w.heap.size + 1, 0, none⟩ (.string s)).cell? ⟨h, 0, none⟩ = some (.pointer (some ⟨g, 0, none⟩)) := by
    rw [World.cell?_of_block (heap_setCell_other _ _ _ _ (by simp only; omega))]; exact hh2
  go_wp2_with fail
  refine calls_gen (fun W3 => Rd W3 B g L (tkText L p).1 ∧ w.grownBy W3 (some g) ∧ W3.cell? ⟨h, 0, none⟩ = some (.pointer (some ⟨g, 0, none⟩)) ∧ W3.heap[w.heap.size]? = some (.cells (Ent.cells ⟨⟨#[]⟩, false, fun _ => 0⟩) 40 (0, 0)) ∧ W3.heap[w.heap.size + 1]? = some (.cells (Ent.cells ⟨s, false, fun _ => 0⟩) 40 (0, 0))) ⟨?_, ?_, hh2', ?_, ?_⟩ ?_
  · exact Rd.keepB HR2.out ⟨rfl, rfl, rfl, by simp [World.setCell], fun k hk => heap_setCell_other _ _ _ _ (by show k ≠ w.heap.size + 1; omega)⟩
  · exact grown_setCell_new HG.out (by omega)
  · exact (heap_setCell_other _ _ _ _ (by show w.heap.size ≠ w.heap.size + 1; omega)).trans Q0.out
  · rw [heap_setCell_same _ _ _ _ _ _ Q1.out, ent_name]
  intro W3 ⟨hR3, hG3, hh3, q0, q1⟩
  clear hh2 hh2' c1 hz Q0 Q1 HG HR2
  refine (u8_any g L (tkText L p).1 W3 hR3).mono ?_
  rintro e w4 ⟨rfl, hR4, hG4⟩
  have hw0 := lt_of_row q0
  have hw1 := lt_of_row q1
  have r0 : w4.heap[w.heap.size]? = some (.cells (Ent.cells ⟨⟨#[]⟩, false, fun _ => 0⟩) 40 (0, 0)) := (hG4.block _ hw0 (fun e => by injection e with e; omega)).trans q0
  have r1 : w4.heap[w.heap.size + 1]? = some (.cells (Ent.cells ⟨s, false, fun _ => 0⟩) 40 (0, 0)) := (hG4.block _ hw1 (fun e => by injection e with e; omega)).trans q1
  have hh4 := grown_cell hG4 hh3 hne
  have hG := grown_trans hG3 hG4
  have c1 : w4.cell? ⟨w.heap.size + 1, 1, none⟩ = some (.bool false) := (cell_of_row _ _ _ _ _ _ r1).trans (Ent.cell1 _)
  have hz : ∀ j, w4.frozen? ⟨w.heap.size + 1, j, none⟩ = false := fun j => frozen_of_row _ _ j _ _ r1
  have Q0 : Hid _ := r0
  have Q1 : Hid _ := r1
  have HG : Hid _ := hG
  have HR4 : Hid _ := hR4
  clear hR3 hG3 hh3 q0 q1 hG4 hR4 r0 r1 hG hw0 hw1
  generalize hb : (numOf (tk L (tkText L p).1 1).2 == 1) = b
  have HB : Hid _ := hb
  generalize numOf (tk L (tkText L p).1 1).2 = x at hb
  go_wp2_with fail
  refine calls_gen (fun W5 => Rd W5 B g L (tk L (tkText L p).1 1).1 ∧ w.grownBy W5 (some g) ∧ W5.cell? ⟨h, 0, none⟩ = some (.pointer (some ⟨g, 0, none⟩)) ∧ W5.heap[w.heap.size]? = some (.cells (Ent.cells ⟨⟨#[]⟩, false, fun _ => 0⟩) 40 (0, 0)) ∧ W5.heap[w.heap.size + 1]? = some (.cells (Ent.cells ⟨s, b, fun _ => 0⟩) 40 (0, 0))) ⟨?_, ?_, ?_, ?_, ?_⟩ ?_
  · exact Rd.keepB HR4.out ⟨rfl, rfl, rfl, by simp [World.setCell], fun k hk => heap_setCell_other _ _ _ _ (by show k ≠ w.heap.size + 1; omega)⟩
  · exact grown_setCell_new HG.out (by omega)
  · rw [World.cell?_of_block (heap_setCell_other _ _ _ _ (by simp only; omega))]; exact hh4
  · exact (heap_setCell_other _ _ _ _ (by show w.heap.size ≠ w.heap.size + 1; omega)).trans Q0.out
  · rw [heap_setCell_same _ _ _ _ _ _ Q1.out, ent_folder]
  intro W5 ⟨hR5, hG5, hh5, q0, q1⟩
  clear hh4 c1 hz Q0 Q1 HG HR4 hb
  refine (id_any h g L (tk L (tkText L p).1 1).1 W5 hR5 hh5 hne).mono ?_
  rintro e w6 ⟨rfl, hR6, hG6⟩
  have hw0 := lt_of_row q0
  have hw1 := lt_of_row q1
  have r0 : w6.heap[w.heap.size]? = some (.cells (Ent.cells ⟨⟨#[]⟩, false, fun _ => 0⟩) 40 (0, 0)) := (hG6.block _ hw0 (fun e => by injection e with e; omega)).trans q0
  have r1 : w6.heap[w.heap.size + 1]? = some (.cells (Ent.cells ⟨s, b, fun _ => 0⟩) 40 (0, 0)) := (hG6.block _ hw1 (fun e => by injection e with e; omega)).trans q1
  have hG := grown_trans hG5 hG6
  have hT : tkEnt L p = ((tkId L (tk L (tkText L p).1 1).1).1, ⟨s, b, (tkId L (tk L (tkText L p).1 1).1).2⟩) := by unfold tkEnt; rw [HS.out, HB.out]
  have HT : Hid _ := hT
  have Q0 : Hid _ := r0
  have Q1 : Hid _ := r1
  have HG : Hid _ := hG
  have HR6 : Hid _ := hR6
  clear hR5 hG5 hh5 q0 q1 hG6 hR6 r0 r1 hG hw0 hw1 HS HB hT
  generalize (tkId L (tk L (tkText L p).1 1).1).2 = f at HT
  generalize (tkId L (tk L (tkText L p).1 1).1).1 = p' at HT HR6
  have hx := grown_setCells (w := w) (k := w.heap.size + 1) (o := 2) (vs := (arr .u8 32 f).toList) HG.out (by omega)
  have hfin : (w6.setCells (w.heap.size + 1) 2 (arr .u8 32 f).toList).heap[w.heap.size + 1]? = some (.cells (Ent.cells ⟨s, b, f⟩) 40 (0, 0)) ∧ (w6.setCells (w.heap.size + 1) 2 (arr .u8 32 f).toList).heap[w.heap.size]? = some (.cells (Ent.cells ⟨⟨#[]⟩, false, fun _ => 0⟩) 40 (0, 0)) ∧ w.grownBy (w6.setCells (w.heap.size + 1) 2 (arr .u8 32 f).toList) (some g) ∧ Rd (w6.setCells (w.heap.size + 1) 2 (arr .u8 32 f).toList) B g L p' := by
    refine ⟨?_, (World.heap_setCells_other _ _ _ _ (lt_of_row Q0.out) (by omega)).trans Q0.out, hx, ?_⟩
    · rw [heap_setCells_row _ _ _ _ Q1.out, ent_id]
    · exact Rd.keepB HR6.out ⟨World.os_setCells _ _ _ _, hx.tape.trans HG.out.tape.symm, World.output_setCells _ _ _ _, by rw [setCells_size]; exact Nat.le_refl _, fun k hk => World.heap_setCells_other _ _ _ _ (by have := HR6.out.big; omega) (by omega)⟩
  have HF : Hid _ := hfin
  clear hfin hx HG HR6 Q0
  go_wp2_with (first
    | (refine wpList_load_row (by rfl) 40 (.tmp 3) (by rfl) (w.heap.size + 1) (by rfl) 40 (Ent.cells ⟨s, b, f⟩) (0, 0) _ HW7.out.1 Try.underlying40 rfl (by rw [Ent.size]; kernel_rfl) ?_)
    | (refine wpList_store_row (by rfl) 40 (.tmp 2) (.tmp 17) (by rfl) w.heap.size (Ent.cells ⟨s, b, f⟩) (by rfl) (by rfl) 40 _ HW7.out.2.1 (by rw [Ent.size]; kernel_rfl) (by rw [Ent.size, Ent.size]) (ent_one _) ?_)
    | (refine wpList_store_mid (by rfl) 26 (.tmp 16) (.tmp 15) (by rfl) (w.heap.size + 1) 2 (arr .u8 32 f) (by rfl) (by rfl) (there_row Q1.out (by rw [Ent.size, arr_size]; omega)) (by rw [arr_size]; kernel_rfl) (arr_one _ _ _) ?_; refine wpList_gen (fun W => W.heap[w.heap.size + 1]? = some (.cells (Ent.cells ⟨s, b, f⟩) 40 (0, 0)) ∧ W.heap[w.heap.size]? = some (.cells (Ent.cells ⟨⟨#[]⟩, false, fun _ => 0⟩) 40 (0, 0)) ∧ w.grownBy W (some g) ∧ Rd W B g L p') HF.out ?_; intro W7 hW7; have HW7 : Hid _ := hW7; clear hW7 HF Q1))
  obtain ⟨f1, f0, fG, fR⟩ := HW7.out
  refine bodyPost_ret (v := .agg (Ent.cells ⟨s, b, f⟩)) ?_ rfl ⟨by rw [HT.out], ?_, ?_⟩
  · exact results_cell_row Try.results24 _ _ w.heap.size 40 _ (0, 0) _ rfl (heap_setRow_same f0) Try.underlying40 rfl (by rw [Ent.size]; kernel_rfl)
  · rw [HT.out]
    exact Rd.keepB fR ⟨rfl, rfl, rfl, by simp, fun k hk => setRow_other _ _ _ _ (by omega)⟩
  · exact ⟨fG.os, fG.tape, fG.output, by simpa using fG.size, fun k hk hne' => by rw [setRow_other _ _ _ _ (by omega)]; exact fG.block k hk hne'⟩
end Go.Proofs.Ytnaoaeapffgojaa
