/- The contract of tree's finder: a file's text by its path. -/
import Derived.Test.YtgfjjglejlnfbaaGreatDoorTPth
import Derived.Test.YtgfjjglejlnfbaaGreatDoorFiD
namespace Go.Proofs.YtgfjjglejlnfbaaGreatDoor
open Go.RowKit

/-- The first file of a path. -/
def fiB (path : ByteArray) (f : Fi) : Bool := f.path.toList == path.toList
def fiIx (fs : List Fi) (path : ByteArray) : Int := match fs.findIdx? (fiB path) with
  | some i => i
  | none => -1
theorem fi_found {fs : List Fi} {path : ByteArray} {t : Nat} {f : Fi} (hz : ∀ j f, j < t → fs[j]? = some f → fiB path f = false) (hf : fs[t]? = some f) (hb : fiB path f = true) : fs.findIdx? (fiB path) = some t := by
  rw [List.findIdx?_eq_some_iff_getElem]
  obtain ⟨hl, he⟩ := List.getElem?_eq_some_iff.1 hf
  refine ⟨hl, by rw [he]; exact hb, fun j hj => ?_⟩
  have := hz j _ hj (List.getElem?_eq_getElem (by omega))
  rw [this]
  simp

set_option maxRecDepth 100000 in
set_option maxHeartbeats 1000000 in
theorem finder11_any (f : Fi) (path : ByteArray) (g : Nat) (w : World) (hg : w.cell? ⟨g, 0, none⟩ = some (.string path)) :
    Calls Tryz.prog 96 #[.agg f.cells, .pointer (some ⟨g, 0, none⟩)] w fun e w' => e = .returned (.bool (fiB path f)) ∧ Below w.heap.size w w' := by
  have hgl := block_lt_of_cell hg
  have hg1 : ∀ X, (w.alloc X).cell? ⟨g, 0, none⟩ = some (.string path) := fun X => cell_alloc_l X hg
  unfold Fi.cells
  go_enter Tryz.func96, Tryz.ntmps96
  go_wp2
  go_ret
  exact ⟨rfl, (Below.refl _ _).alloc (Nat.le_refl _) _⟩

set_option maxRecDepth 100000 in
set_option maxHeartbeats 1000000 in
theorem idxF_any (sp : Option Addr) (cap : Nat) (fs : List Fi) (path : ByteArray) (g : Nat) (w : World) (hr : RowsAt w 2 Fi.cells sp fs) (hl : fs.length ≤ 1000000) (hg : w.cell? ⟨g, 0, none⟩ = some (.string path)) :
    Calls Tryz.prog 95 #[.slice sp fs.length cap, .func (.func 96) #[] #[.pointer (some ⟨g, 0, none⟩)]] w fun e w' => e = .returned (.int .i64 (fiIx fs path)) ∧ Below w.heap.size w w' := by
  have hgl := block_lt_of_cell hg
  have HR : Hid _ := hr
  clear hr
  go_enter Tryz.func95, Tryz.ntmps95
  go_wp2
  go_loopw [8] (fun i wr => ∃ t : Nat, t ≤ fs.length ∧ i = .int .i64 t ∧ Below w.heap.size w wr ∧ ∀ j f, j < t → fs[j]? = some f → fiB path f = false) (fun i _ => fs.length - (intOf i).toNat)
  case atStart => exact ⟨0, Nat.zero_le _, rfl, Below.refl _ _, fun j f hj => by omega⟩
  case round =>
    obtain ⟨t, ht, rfl, hB, hz⟩ := hrel
    have HZ : Hid _ := hz
    clear hz
    by_cases hlt : t < fs.length
    · obtain ⟨b, off, rfl, -⟩ := HR.out (by omega)
      obtain ⟨f, hf⟩ : ∃ f, fs[t]? = some f := ⟨_, List.getElem?_eq_getElem hlt⟩
      have hc := fi_cell (RowsAt.below HR.out hB) hf
      have hcc : ∀ j u, f.cells[j]? = some u → wr.cell? ⟨b, off + t * 2 + j, none⟩ = some u := fun j u hu => by
        match j with
        | 0 => rw [show u = .string f.path by simpa [Fi.cells] using hu.symm]; exact hc.1
        | 1 => rw [show u = .string f.text by simpa [Fi.cells] using hu.symm]; exact hc.2
        | j + 2 => simp [Fi.cells] at hu
      have HCC : Hid _ := hcc
      have HF : Hid _ := hf
      have hc0 := hc.1
      clear hc hcc hf
      go_wp2_with (refine load_mid (by rfl) 81 (.tmp 14) (by rfl) b (off + t * 2) (by rfl) f.cells _ HCC.out Tryz.underlying81 rfl (by rw [f.size]; kernel_rfl) ?_)
      refine (finder11_any f path g wr ((hB.cell (p := ⟨g, 0, none⟩) hgl).trans hg)).mono ?_
      rintro e w2 ⟨rfl, hB2⟩
      have f2 : Below w.heap.size w w2 := hB.trans (hB2.mono hB.size)
      clear hc0 hB2
      cases hb : fiB path f with
      | false =>
        go_wp2
        go_roundw
        case rel =>
          refine ⟨t + 1, by omega, by go_num, f2, fun j f' hj hf' => ?_⟩
          by_cases hjt : j < t
          · exact HZ.out j f' hjt hf'
          · obtain rfl : j = t := by omega
            rw [HF.out] at hf'
            injection hf' with hf'
            rw [← hf']
            exact hb
        case measure => simp [intOf]; omega
      | true =>
        have HIX : Hid _ := fi_found HZ.out HF.out hb
        go_wp2
        go_ret
        refine ⟨ret_int ?_, f2⟩
        unfold fiIx
        rw [HIX.out]
    · have htl : t = fs.length := by omega
      have HT : Hid _ := htl
      clear htl
      go_wp2
      go_ret
      refine ⟨ret_int ?_, hB⟩
      have : fs.findIdx? (fiB path) = none := by
        rw [List.findIdx?_eq_none_iff]
        intro f hf
        obtain ⟨j, hj⟩ := List.getElem?_of_mem hf
        exact HZ.out j f (by rw [HT.out]; exact (List.getElem?_eq_some_iff.1 hj).1) hj
      unfold fiIx
      rw [this]
/-- What finder's closure tells. -/
def findB (fs : List Fi) (path : ByteArray) : ByteArray × Bool := match fs.findIdx? (fiB path) with
  | some i => ((fs.getD i ⟨⟨#[]⟩, ⟨#[]⟩⟩).text, true)
  | none => (⟨#[]⟩, false)
theorem results_two {P : Program} {fn : Func} {p q : Tmp} (h : fn.results = #[.tmp p, .tmp q]) (tmps : Array Value) (w : World) (u v : Value) (hp : tmps.getD p undef = u) (hq : tmps.getD q undef = v) :
    (results fn tmps).run P w = .ok (.tuple #[u, v]) w := by
  have hp' : tmps[p]?.getD undef = u := by simpa using hp
  have hq' : tmps[q]?.getD undef = v := by simpa using hq
  simp [results, h, hp', hq']

set_option maxRecDepth 100000 in
set_option maxHeartbeats 1000000 in
theorem finder1_any (sp : Option Addr) (cap : Nat) (fs : List Fi) (path : ByteArray) (g : Nat) (w : World) (hr : RowsAt w 2 Fi.cells sp fs) (hl : fs.length ≤ 1000000) (hg : w.cell? ⟨g, 0, none⟩ = some (.slice sp fs.length cap)) :
    Calls Tryz.prog 94 #[.string path, .pointer (some ⟨g, 0, none⟩)] w fun e w' => e = .returned (.tuple #[.string (findB fs path).1, .bool (findB fs path).2]) ∧ Below w.heap.size w w' := by
  have hgl := block_lt_of_cell hg
  have HR : Hid (RowsAt w 2 Fi.cells sp fs) := hr
  have hg1 : ∀ X, (w.alloc X).cell? ⟨g, 0, none⟩ = some (.slice sp fs.length cap) := fun X => cell_alloc_l X hg
  clear hr
  go_enter Tryz.func94, Tryz.ntmps94
  go_wp2_with fail
  refine calls_gen (fun W1 => Below w.heap.size w W1 ∧ W1.cell? ⟨w.heap.size, 0, none⟩ = some (.string path) ∧ W1.cell? ⟨g, 0, none⟩ = some (.slice sp fs.length cap)) ⟨(Below.refl _ _).alloc (Nat.le_refl _) _, (cell_new_l w _ _).1, hg1 _⟩ ?_
  intro W1 ⟨f1, c1, cg1⟩
  refine (idxF_any sp cap fs path w.heap.size W1 (RowsAt.below HR.out f1) hl c1).mono ?_
  rintro e w2 ⟨rfl, hB2⟩
  have f2 : Below w.heap.size w w2 := f1.trans (hB2.mono f1.size)
  have cg2 : w2.cell? ⟨g, 0, none⟩ = some (.slice sp fs.length cap) := (hB2.cell (p := ⟨g, 0, none⟩) (block_lt_of_cell cg1)).trans cg1
  clear hg hg1 c1 cg1 hB2 f1
  cases hi : fs.findIdx? (fiB path) with
  | none =>
    have hx : fiIx fs path = -1 := by unfold fiIx; rw [hi]
    have HB : Hid (findB fs path = (⟨#[]⟩, false)) := by unfold findB; rw [hi]; exact rfl
    rw [hx]
    clear hi hx
    go_wp2
    refine bodyPost_ret (v := .tuple #[.string ⟨#[]⟩, .bool false]) (results_two Tryz.results94 _ _ _ _ rfl rfl) rfl ⟨by rw [HB.out], f2⟩
  | some i =>
    have hx : fiIx fs path = (i : Int) := by unfold fiIx; rw [hi]
    obtain ⟨hil, -, -⟩ := List.findIdx?_eq_some_iff_getElem.1 hi
    obtain ⟨f, hf⟩ : ∃ f, fs[i]? = some f := ⟨_, List.getElem?_eq_getElem hil⟩
    have HB : Hid (findB fs path = (f.text, true)) := by unfold findB; rw [hi]; show ((fs.getD i _).text, true) = _; rw [List.getD_eq_getElem?_getD, hf]; exact rfl
    rw [hx]
    obtain ⟨b, off, rfl, -⟩ := HR.out (by omega)
    have hc := (fi_cell (RowsAt.below HR.out f2) hf).2
    have hd : decide ((i : Int) < 0) = false := by simp
    clear hi hx hf
    go_wp2
    refine bodyPost_ret (v := .tuple #[.string f.text, .bool true]) (results_two Tryz.results94 _ _ _ _ rfl rfl) rfl ⟨by rw [HB.out], f2⟩
end Go.Proofs.YtgfjjglejlnfbaaGreatDoor
