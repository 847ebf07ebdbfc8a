/- The contract of tree's Check: is it a repository? -/
import Derived.Test.YtgfjjglejlnfbaaGreatDoorMrgD
import Derived.Test.YtgfjjglejlnfbaaGreatDoorMrgA
namespace Go.Proofs.YtgfjjglejlnfbaaGreatDoor
open Go.RowKit

/-- The files from one on, behind a path and so many bytes. -/
def chkFrom (all : List Fi) : ByteArray → Nat → List Fi → Bool
  | _, _, [] => true
  | last, sz, f :: r => pathB f.path && (!(leB f.path last) && (!(belowB all f.path) && (decide (f.text.size ≤ 4096) && (decide (sz + f.text.size ≤ 16384) && chkFrom all f.path (sz + f.text.size) r))))
def repoB (fs : List Fi) : Bool := decide (fs.length ≤ 16) && chkFrom fs ⟨#[]⟩ 0 fs
def checkR (fs : List Fi) : Int := if repoB fs then 0 else 170
/-- Files that are gone through. -/
def FiS (fs : List Fi) : Prop := ∀ f ∈ fs, f.path.size ≤ 1000000 ∧ f.text.size ≤ 1000000

theorem fi_one (f : Fi) : f.cells.all (·.oneCell') = true := by simp [Fi.cells, Value.oneCell']

set_option maxHeartbeats 1000000 in
theorem finder_any (v : Value) (w : World) :
    Calls Tryz.prog 65 #[.agg #[v]] w fun e w' => e = .returned (.func (.func 94) #[] #[.pointer (some ⟨w.heap.size, 0, none⟩)]) ∧ w' = w.alloc (.cells #[v] 58) := by
  go_enter Tryz.func65, Tryz.ntmps65
  go_wp2
  go_ret
  exact ⟨rfl, rfl⟩

set_option maxRecDepth 100000 in
set_option maxHeartbeats 4000000 in
theorem tcheck_any (sp : Option Addr) (cap : Nat) (fs : List Fi) (w : World) (hr : RowsAt w 2 Fi.cells sp fs) (hl : fs.length ≤ 1000000) (hsm : FiS fs) :
    Calls Tryz.prog 33 #[.agg #[.slice sp fs.length cap]] w fun e w' => e = .returned (.int .i64 (checkR fs)) ∧ Below w.heap.size w w' := by
  have HR : Hid (RowsAt w 2 Fi.cells sp fs) := hr
  have HSM : Hid _ := hsm
  clear hr hsm
  by_cases h16 : 16 < fs.length
  · have hd : decide ((16 : Int) < fs.length) = true := by simp; omega
    have hc : checkR fs = 170 := by unfold checkR repoB; rw [show decide (fs.length ≤ 16) = false by simp; omega]; rfl
    rw [hc]
    have c0 := (cell_new_l w (.slice sp fs.length cap) 58).1
    go_enter Tryz.func33, Tryz.ntmps33
    go_wp2
    go_ret
    exact ⟨rfl, (Below.refl _ _).alloc (Nat.le_refl _) _⟩
  have hd : decide ((16 : Int) < fs.length) = false := by simp; omega
  have HCR : Hid (checkR fs = if chkFrom fs ⟨#[]⟩ 0 fs then 0 else 170) := by unfold checkR repoB; rw [show decide (fs.length ≤ 16) = true by simp; omega, Bool.true_and]; exact rfl
  have c0 := (cell_new_l w (.slice sp fs.length cap) 58).1
  go_enter Tryz.func33, Tryz.ntmps33
  go_wp2_with fail
  refine (finder_any (.slice sp fs.length cap) _).mono ?_
  rintro e w' ⟨rfl, rfl⟩
  have c1 := (cell_new_l (w.alloc (.cells #[.slice sp fs.length cap] 58)) (.slice sp fs.length cap) 58).1
  rw [World.size_alloc] at c1 ⊢
  have c01 := cell_alloc_l (.cells #[.slice sp fs.length cap] 58) c0
  have HB1 : Below w.heap.size w ((w.alloc (.cells #[.slice sp fs.length cap] 58)).alloc (.cells #[.slice sp fs.length cap] 58)) := ((Below.refl _ _).alloc (Nat.le_refl _) _).alloc (by simp) _
  generalize (w.alloc (.cells #[.slice sp fs.length cap] 58)).alloc (.cells #[.slice sp fs.length cap] 58) = W1 at c1 c01 HB1 ⊢
  clear c0
  go_wp2
  go_loopw [4, 5, 17] (fun last sz i wr => ∃ (t : Nat) (la : ByteArray) (sm : Nat), t ≤ fs.length ∧ sm ≤ 16384 ∧ i = .int .i64 t ∧ last = .string la ∧ sz = .int .i64 sm ∧ Below W1.heap.size W1 wr ∧ chkFrom fs ⟨#[]⟩ 0 fs = chkFrom fs la sm (fs.drop t)) (fun _ _ i _ => fs.length - (intOf i).toNat)
  case atStart => exact ⟨0, ⟨#[]⟩, 0, Nat.zero_le _, Nat.zero_le _, rfl, rfl, rfl, Below.refl _ _, rfl⟩
  case round =>
    obtain ⟨t, la, sm, ht, hsm, rfl, rfl, rfl, hB, hq⟩ := hrel
    have HQ : Hid _ := hq
    clear hq
    have fW : Below w.heap.size w wr := HB1.trans (hB.mono HB1.size)
    have hg : wr.cell? ⟨w.heap.size + 1, 0, none⟩ = some (.slice sp fs.length cap) := (hB.cell (p := ⟨w.heap.size + 1, 0, none⟩) (block_lt_of_cell c1)).trans c1
    by_cases hlt : t < fs.length
    · obtain ⟨b, off, rfl, -⟩ := HR.out (by omega)
      obtain ⟨f, hf⟩ : ∃ f, fs[t]? = some f := ⟨_, List.getElem?_eq_getElem hlt⟩
      have hsz := HSM.out f (List.mem_of_getElem? hf)
      have hdr : fs.drop t = f :: fs.drop (t + 1) := by rw [List.drop_eq_getElem_cons hlt]; congr 1; exact (List.getElem?_eq_some_iff.1 hf).2
      have HQ2 : Hid (chkFrom fs ⟨#[]⟩ 0 fs = (pathB f.path && (!(leB f.path la) && (!(belowB fs f.path) && (decide (f.text.size ≤ 4096) && (decide (sm + f.text.size ≤ 16384) && chkFrom fs f.path (sm + f.text.size) (fs.drop (t + 1)))))))) := by rw [HQ.out, hdr]; exact rfl
      have hc := fi_cell (RowsAt.below HR.out fW) hf
      have hcc : ∀ j u, f.cells[j]? = some u → wr.cell? ⟨b, off + t * 2 + j, none⟩ = some u := fun j u hu => by
        match j with
        | 0 => rw [show u = .string f.path by simpa [Fi.cells] using hu.symm]; exact hc.1
        | 1 => rw [show u = .string f.text by simpa [Fi.cells] using hu.symm]; exact hc.2
        | j + 2 => simp [Fi.cells] at hu
      have HCC : Hid _ := hcc
      have hc0 := hc.1
      have HO : Hid (f.cells.all (·.oneCell') = true) := fi_one f
      clear hc hcc hf hdr HQ
      go_wp2_with (first
        | (refine load_mid (by rfl) 81 (.tmp 19) (by rfl) b (off + t * 2) (by rfl) f.cells _ HCC.out Tryz.underlying81 rfl (by rw [f.size]; kernel_rfl) ?_)
        | (refine wpList_store_row (by rfl) 81 (.tmp 7) (.tmp 20) (by rfl) wr.heap.size f.cells (by rfl) (by rfl) 81 _ (heap_alloc_new _ _) (by rw [f.size]; kernel_rfl) (by rw [f.size]; rfl) HO.out ?_; refine wpList_gen (fun W => Below wr.heap.size wr W ∧ W.heap[wr.heap.size]? = some (.cells f.cells 81 (0, 0))) ⟨below_setRow' ((Below.refl _ _).alloc (Nat.le_refl _) _) (Nat.le_refl _) _, heap_setRow_same (heap_alloc_new _ _)⟩ ?_; intro W2 hW2; have f2 := hW2.1; have cp : W2.cell? ⟨wr.heap.size, 0, none⟩ = some (.string f.path) := (cell_of_row _ _ _ _ _ _ hW2.2).trans rfl; have ct : W2.cell? ⟨wr.heap.size, 1, none⟩ = some (.string f.text) := (cell_of_row _ _ _ _ _ _ hW2.2).trans rfl; clear hW2 hc0 HCC HO))
      refine (path_any f.path W2).mono ?_
      rintro e w3 ⟨rfl, hB3⟩
      have f3 : Below wr.heap.size wr w3 := f2.trans (hB3.mono f2.size)
      have cp3 : w3.cell? ⟨wr.heap.size, 0, none⟩ = some (.string f.path) := (hB3.cell (p := ⟨wr.heap.size, 0, none⟩) (block_lt_of_cell cp)).trans cp
      have ct3 : w3.cell? ⟨wr.heap.size, 1, none⟩ = some (.string f.text) := (hB3.cell (p := ⟨wr.heap.size, 1, none⟩) (block_lt_of_cell ct)).trans ct
      have fw3 : Below w.heap.size w w3 := fW.trans (f3.mono fW.size)
      clear cp ct hB3 f2
      cases hpb : pathB f.path with
      | false =>
        go_wp2
        go_ret
        exact ⟨ret_int (by rw [HCR.out, HQ2.out, hpb]; rfl), fw3⟩
      | true =>
        have hle : (Op.bytesLess f.path.toList la.toList || (f.path.toList == la.toList)) = leB f.path la := rfl
        cases hlb : leB f.path la with
        | true =>
          rw [hlb] at hle
          go_wp2
          go_ret
          exact ⟨ret_int (by rw [HCR.out, HQ2.out, hpb, hlb]; rfl), fw3⟩
        | false =>
          have hle1 : Op.bytesLess f.path.toList la.toList = false := by
            unfold leB at hlb
            exact (Bool.or_eq_false_iff.1 hlb).1
          have hle2 : (f.path.toList == la.toList) = false := by
            unfold leB at hlb
            exact (Bool.or_eq_false_iff.1 hlb).2
          clear hle
          go_wp2_with fail
          refine (below_any f.path (some ⟨b, off, none⟩) cap fs (w.heap.size + 1) w3 hsz.1 (RowsAt.below HR.out fw3) hl ((f3.cell (p := ⟨w.heap.size + 1, 0, none⟩) (block_lt_of_cell hg)).trans hg)).mono ?_
          rintro e w4 ⟨rfl, hB4⟩
          have f4 : Below wr.heap.size wr w4 := f3.trans (hB4.mono f3.size)
          have fw4 : Below w.heap.size w w4 := fW.trans (f4.mono fW.size)
          have cp4 : w4.cell? ⟨wr.heap.size, 0, none⟩ = some (.string f.path) := (hB4.cell (p := ⟨wr.heap.size, 0, none⟩) (block_lt_of_cell cp3)).trans cp3
          have ct4 : w4.cell? ⟨wr.heap.size, 1, none⟩ = some (.string f.text) := (hB4.cell (p := ⟨wr.heap.size, 1, none⟩) (block_lt_of_cell ct3)).trans ct3
          clear cp3 ct3 hB4 f3 fw3
          cases hbb : belowB fs f.path with
          | true =>
            go_wp2
            go_ret
            exact ⟨ret_int (by rw [HCR.out, HQ2.out, hpb, hlb, hbb]; rfl), fw4⟩
          | false =>
            by_cases ht4 : 4096 < f.text.size
            · have d4 : decide ((4096 : Int) < f.text.size) = true := by simp; omega
              go_wp2
              go_ret
              exact ⟨ret_int (by rw [HCR.out, HQ2.out, hpb, hlb, hbb, show decide (f.text.size ≤ 4096) = false by simp; omega]; rfl), fw4⟩
            · have d4 : decide ((4096 : Int) < f.text.size) = false := by simp; omega
              by_cases hs4 : 16384 < sm + f.text.size
              · have d5 : decide ((16384 : Int) < sm + f.text.size) = true := by simp; omega
                go_wp2
                go_ret
                exact ⟨ret_int (by rw [HCR.out, HQ2.out, hpb, hlb, hbb, show decide (f.text.size ≤ 4096) = true by simp; omega, show decide (sm + f.text.size ≤ 16384) = false by simp; omega]; rfl), fw4⟩
              · have d5 : decide ((16384 : Int) < sm + f.text.size) = false := by simp; omega
                go_wp2
                go_roundw
                case rel =>
                  refine ⟨t + 1, f.path, sm + f.text.size, by omega, by omega, by go_num, rfl, by go_num, hB.trans (f4.mono hB.size), ?_⟩
                  rw [HQ2.out, hpb, hlb, hbb, show decide (f.text.size ≤ 4096) = true by simp; omega, show decide (sm + f.text.size ≤ 16384) = true by simp; omega]
                  rfl
                case measure => simp [intOf]; omega
    · obtain rfl : t = fs.length := by omega
      have hq0 : chkFrom fs ⟨#[]⟩ 0 fs = true := by rw [HQ.out, List.drop_length]; rfl
      have HQ0 : Hid _ := hq0
      clear hq0
      go_wp2
      go_ret
      exact ⟨ret_int (by rw [HCR.out, HQ0.out]; rfl), fW⟩
end Go.Proofs.YtgfjjglejlnfbaaGreatDoor
