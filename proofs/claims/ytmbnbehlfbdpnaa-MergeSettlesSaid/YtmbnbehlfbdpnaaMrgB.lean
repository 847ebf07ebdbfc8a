/- slices.SortFunc at files by their paths: a permutation that rises. -/
/- slices.SortFunc at no files. -/
/- The contracts of merge's rising and settles, and of slices.EqualFunc at them. -/
/- The contract of Changed. -/
/- The contract of merge's Clashes. -/
/- The contract of merge's Settle. -/
import Derived.Test.YtmbnbehlfbdpnaaSrtF
import Derived.Test.YtmbnbehlfbdpnaaMrgA
import Derived.Test.YtmbnbehlfbdpnaaMOpn
import Derived.Test.YtmbnbehlfbdpnaaMMer
import Derived.Test.YtmbnbehlfbdpnaaMSam
import Derived.Test.YtmbnbehlfbdpnaaMDif
import Derived.Test.YtmbnbehlfbdpnaaMrgE
namespace Go.Proofs.Ytmbnbehlfbdpnaa
open Go.RowKit Go.Shelf Go.Sort

/-- How two files stand to one another. -/
def cfF (x y : Fi) : Int := Lib.compareBytes x.path.data.toList y.path.data.toList
theorem cmp_less : ∀ (a b : List UInt8), Lib.compareBytes a b < 0 ↔ Op.bytesLess a b = true
  | [], [] => by simp [Lib.compareBytes, Op.bytesLess]
  | [], _ :: _ => by simp [Lib.compareBytes, Op.bytesLess]
  | _ :: _, [] => by simp [Lib.compareBytes, Op.bytesLess]
  | a :: x, b :: y => by
    have ih := cmp_less x y
    unfold Lib.compareBytes Op.bytesLess
    by_cases h1 : a < b
    · simp [h1]
    · by_cases h2 : b < a
      · have : ¬ a = b := fun e => by subst e; exact h1 h2
        simp [h1, h2, this]
      · have : a = b := UInt8.toNat_inj.1 (by rw [UInt8.lt_iff_toNat_lt] at h1 h2; omega)
        simp [this, ih]
theorem lt_cfF (x y : Fi) : ltOf cfF x y = Op.bytesLess x.path.data.toList y.path.data.toList := by
  unfold ltOf cfF
  cases h : Op.bytesLess x.path.data.toList y.path.data.toList with
  | true => exact decide_eq_true ((cmp_less _ _).2 h)
  | false => exact decide_eq_false fun h2 => by rw [(cmp_less _ _).1 h2] at h; cases h
theorem swoF : SWO (ltOf cfF) where
  irrefl x := by rw [lt_cfF]; exact less_irrefl _
  trans x y z h1 h2 := by rw [lt_cfF] at *; exact less_trans _ _ _ h1 h2
  ntrans x y z h1 h2 := by rw [lt_cfF] at *; exact ge_trans h1 h2
set_option maxRecDepth 100000 in
set_option maxHeartbeats 1000000 in
theorem settle1_any (x y : Fi) (W : World) : Calls Try.prog 37 #[.agg x.cells, .agg y.cells] W fun e w' => e = .returned (.int .i64 (cfF x y)) ∧ ∃ q os', w' = grow (W.drewN q) os' := by
  have hcon := fun W' => Try.strings_Compare x.path y.path W'
  have HR : Hid (Lib.compareBytes x.path.data.toList y.path.data.toList = cfF x y) := rfl
  rw [HR.out] at hcon
  generalize cfF x y = r at hcon ⊢
  clear HR
  unfold Fi.cells
  go_enter Try.func37, Try.ntmps37
  go_wp2_with (go_at_call 38; refine (hcon _).mono ?_; rintro e w' ⟨rfl, rfl⟩)
  go_ret
  exact ⟨rfl, 0, _, by rw [alloc_eq_grow, alloc_eq_grow, grow_grow]; rfl⟩
theorem flat_get (xs : List Fi) (t : Nat) (h : t < xs.length * 2) : (xs.flatMap fiC)[t]? = some ((fiC xs.toArray[t / 2]!)[t % 2]!) := by
  have hi : t / 2 < xs.length := by omega
  obtain ⟨f, hf⟩ : ∃ f, xs[t / 2]? = some f := ⟨_, List.getElem?_eq_getElem hi⟩
  have h1 := flatF_at xs (t / 2) (t % 2) f hf (by omega)
  have e : t / 2 * 2 + t % 2 = t := by omega
  rw [e] at h1
  rw [h1]
  have h2 : xs.toArray[t / 2]! = f := by
    simp [hi]
    rw [List.getElem?_eq_getElem hi] at hf
    exact Option.some.inj hf
  rw [h2]
  have h3 : t % 2 < (fiC f).length := by rw [fiC_len]; omega
  rw [List.getElem?_eq_getElem h3, List.getElem!_eq_getElem?_getD, List.getElem?_eq_getElem h3]
  rfl
theorem holdsF {w : World} {g : Nat} {cur : Array Value} {e : TypeId} {xs : List Fi} (hb : w.heap[g]? = some (.cells cur e (0, 0))) (ht : cur.toList.take (xs.length * 2) = xs.flatMap fiC) : HoldsK fiC 2 w g 0 xs.toArray := by
  intro j hj
  have hj' : j < xs.length * 2 := by simpa using hj
  refine ⟨?_, by simp [World.frozen?, hb]⟩
  have h1 : (cur.toList.take (xs.length * 2))[j]? = (xs.flatMap fiC)[j]? := by rw [ht]
  rw [List.getElem?_take_of_lt hj', flat_get xs j hj'] at h1
  rw [Nat.zero_add, cell_of_row _ _ _ _ _ _ hb, ← Array.getElem?_toList, h1, get_flatK _ _ _ _ (by simpa using hj')]
  rfl
theorem heap_sortedF {w : World} {g n : Nat} {os : Array Obj} {cur : Array Value} {e : TypeId} {fr : Nat × Nat} (d : Array Fi) (hb : w.heap[g]? = some (.cells cur e fr)) :
    (sortWorldK fiC 2 w g 0 n d os).heap[g]? = some (.cells (putCells id 0 (flatK fiC 2 d) cur) e fr) := by
  have hg : g < w.heap.size := (Array.getElem?_eq_some_iff.1 hb).1
  unfold sortWorldK
  rw [heap_grow_old _ _ (by simpa [putRowK, putRow, mapBlock, Sort.ahead] using hg)]
  simp [putRowK, putRow, mapBlock, Sort.ahead, Array.getElem?_modify, hb, onCells]
theorem grownBy_sortedF {w : World} {g n : Nat} {os : Array Obj} (d : Array Fi) : w.grownBy (sortWorldK fiC 2 w g 0 n d os) (some g) := by
  refine ⟨rfl, rfl, rfl, by simp [sortWorldK, putRowK, putRow, mapBlock, Sort.ahead, grow], fun k hk hne => ?_⟩
  unfold sortWorldK
  rw [heap_grow_old _ _ (by simpa [putRowK, putRow, mapBlock, Sort.ahead] using hk)]
  have : g ≠ k := fun e => hne (by rw [e])
  simp [putRowK, putRow, mapBlock, Sort.ahead, Array.getElem?_modify, this]
theorem take_putF (cur : Array Value) (ys : List Fi) (h : ys.length * 2 ≤ cur.size) : (putCells id 0 (flatK fiC 2 ys.toArray) cur).toList.take (ys.length * 2) = ys.flatMap fiC := by
  apply List.ext_getElem?
  intro j
  by_cases hj : j < ys.length * 2
  · rw [List.getElem?_take_of_lt hj, Array.getElem?_toList, flat_get ys j hj]
    have h1 := get_flatK fiC 2 ys.toArray j (by simpa using hj)
    simp only [putCells, Array.getElem?_mapIdx, Nat.zero_le, true_and, Nat.zero_add, size_flatK, Nat.sub_zero, id]
    rw [Array.getElem?_eq_getElem (show j < cur.size by omega)]
    simp only [Option.map_some]
    rw [if_pos (by simpa using hj), h1]
  · rw [List.getElem?_take_eq_none (by omega), List.getElem?_eq_none (by rw [flatF_length]; omega)]
/-- Files whose paths do not fall. -/
def NoFall (ys : List Fi) : Prop := ∀ (i j : Nat) (f g : Fi), i < j → ys[i]? = some f → ys[j]? = some g → Op.bytesLess g.path.data.toList f.path.data.toList = false
theorem sortF_own {B : Nat} {w : World} {v : Value} {xs : List Fi} (h : OwnF B w v xs) (hl : xs.length ≤ 100000) (hne : xs ≠ []) :
    Calls Try.prog 36 #[v, .func (.func 37) #[] #[]] w fun e w' => e = .returned (.tuple #[]) ∧ (∃ ys, ys.Perm xs ∧ NoFall ys ∧ OwnF B w' v ys) ∧ w.grownBy w' v.ownBlock := by
  rcases h.2 with ⟨rfl, h0⟩ | ⟨g, cap, cur, rfl, h1, h2, h3, h4, h5, h6⟩
  · exact absurd (List.eq_nil_of_length_eq_zero h0) hne
  · have eg : ∀ args w, (callFunc 37 args).run Try.prog w = .ok (.enter 37 args) w := enters_of Try.func37 (by kernel_rfl) rfl
    have hcmp : CmpLays Try.prog 37 #[] fiC 2 cfF g 0 xs.toArray.size w := fun m os dk _ x y => settle1_any x y _
    have hcon := AnyQ.slices_SortFunc Try.sortFi 2 Try.isAgg46 Try.sizeOf46 fiC (fun x => fiC_len x) (fun x v hv => Array.all_eq_true_iff_forall_mem.1 (fi_one x) v (Array.mem_toList_iff.1 hv)) cfF swoF 37 #[] g 0 cap xs.toArray w eg hcmp (holdsF h2 h6) (lt_of_row h2) (by simp; omega)
    have hcon2 : Calls Try.prog 36 #[.slice (some ⟨g, 0, none⟩) xs.length cap, .func (.func 37) #[] #[]] w _ := hcon
    refine hcon2.mono ?_
    rintro e w' ⟨rfl, d', n, os, hp, hs, rfl⟩
    obtain ⟨hz, -, hpm⟩ := hp
    have hzl : d'.toList.length = xs.length := by simpa using hz
    refine ⟨rfl, ⟨d'.toList, ?_, fun i j f g' hij hf hg => ?_, ?_⟩, grownBy_sortedF _⟩
    · have e1 : (d'.extract 0 xs.toArray.size).toList = d'.toList := by rw [← hz]; simp
      have e2 : (xs.toArray.extract 0 xs.toArray.size).toList = xs := by simp
      rw [e1, e2] at hpm
      exact hpm
    · have hjl := (List.getElem?_eq_some_iff.1 hg).1
      have h7 := hs i j (Nat.zero_le _) hij (by rw [← hz]; simpa using hjl)
      rw [lt_cfF] at h7
      have ei : d'[i]! = f := by
        rw [Array.getElem?_toList] at hf
        rw [getElem!_def, hf]
      have ej : d'[j]! = g' := by
        rw [Array.getElem?_toList] at hg
        rw [getElem!_def, hg]
      rw [ei, ej] at h7
      exact h7
    · refine ⟨by rw [flatF_length], .inr ⟨g, cap, _, by rw [hzl], h1, heap_sortedF d' h2, by rw [hzl]; exact h3, h4, by simp [putCells, h5], ?_⟩⟩
      have := take_putF cur d'.toList (by rw [hzl, h5]; exact Nat.mul_le_mul_right 2 h3)
      simpa using this
end Go.Proofs.Ytmbnbehlfbdpnaa

namespace Go.Proofs.Ytmbnbehlfbdpnaa
open Go.RowKit Go.Shelf Go.Sort

set_option maxRecDepth 100000 in
set_option maxHeartbeats 1000000 in
theorem insF_none (p : Option Addr) (cap : Nat) (fv : Value) (w : World) :
    Calls Try.prog 67 #[.slice p 0 cap, .int .i64 0, .int .i64 0, fv] w fun e w' => e = .returned (.tuple #[]) ∧ w' = w := by
  go_enter Try.func67, Try.ntmps67
  go_wp2
  refine wp_loop_rounds 1 ?_
  rw [rounds_succ]
  go_wp2
  go_end0
  exact ⟨rfl, rfl⟩
set_option maxRecDepth 100000 in
set_option maxHeartbeats 1000000 in
theorem pdqF_none (p : Option Addr) (cap : Nat) (lim : Int) (fv : Value) (w : World) :
    Calls Try.prog 52 #[.slice p 0 cap, .int .i64 0, .int .i64 0, .int .i64 lim, fv] w fun e w' => e = .returned (.tuple #[]) ∧ w' = w := by
  have hp := fun W => insF_none p cap fv W
  go_enter Try.func52, Try.ntmps52
  go_wp2
  refine wp_loop_rounds 1 ?_
  rw [rounds_succ]
  go_wp2_with (go_at_call 67; refine (hp _).mono ?_; rintro e w' ⟨rfl, rfl⟩)
  (try simp only [Exit.inBlock, Exit.then]); refine bodyPost_ret (results_none rfl _ _ _) rfl ?_
  exact ⟨rfl, rfl⟩
set_option maxRecDepth 100000 in
set_option maxHeartbeats 1000000 in
theorem sortF_none (p : Option Addr) (cap : Nat) (fv : Value) (w : World) :
    Calls Try.prog 36 #[.slice p 0 cap, fv] w fun e w' => e = .returned (.tuple #[]) ∧ w' = w := by
  have hp := fun lim W => pdqF_none p cap lim fv W
  have hl : ∀ W, Calls Try.prog 53 #[.int .u64 0] W fun e w' => e = .returned (.int .i64 (Lib.bitLen 0 : Nat)) ∧ w' = W := fun W => Try.bits_Len 0 W (by omega) (by omega)
  go_enter Try.func36, Try.ntmps36
  go_wp2_with (first | (go_at_call 53; refine (hl _).mono ?_; rintro e w' ⟨rfl, rfl⟩) | (go_at_call 52; refine (hp _ _).mono ?_; rintro e w' ⟨rfl, rfl⟩))
  go_end0
  exact ⟨rfl, rfl⟩
end Go.Proofs.Ytmbnbehlfbdpnaa


namespace Go.Proofs.Ytmbnbehlfbdpnaa
open Go.RowKit

theorem drewN_two (w : World) (n m : Nat) : (w.drewN n).drewN m = w.drewN (n + m) := by simp [World.drewN, Nat.add_assoc]
/-- The paths of files rise. -/
def RisesP (fs : List Fi) : Prop := ∀ j f g, fs[j]? = some f → fs[j + 1]? = some g → Op.bytesLess f.path.toList g.path.toList = true
set_option maxRecDepth 100000 in
set_option maxHeartbeats 1000000 in
theorem rising_any (sp : Option Addr) (cap : Nat) (fs : List Fi) (w : World) (hr : RowsAt w 2 Fi.cells sp fs) (hl : fs.length ≤ 1000000) :
    Calls Try.prog 33 #[.slice sp fs.length cap] w fun e w' => (∃ b, e = .returned (.bool b) ∧ (b = true ↔ RisesP fs)) ∧ ∃ n, w' = w.drewN n := by
  have HR : Hid (RowsAt w 2 Fi.cells sp fs) := hr
  clear hr
  go_enter Try.func33, Try.ntmps33
  go_wp2
  go_loopw [3] (fun i wr => ∃ t n : Nat, 1 ≤ t ∧ t ≤ fs.length + 1 ∧ i = .int .i64 t ∧ wr = w.drewN n ∧ ∀ j f g, j + 1 < t → fs[j]? = some f → fs[j + 1]? = some g → Op.bytesLess f.path.toList g.path.toList = true) (fun i _ => fs.length + 1 - (intOf i).toNat)
  case atStart => exact ⟨1, 0, Nat.le_refl _, by omega, rfl, rfl, fun j f g hj => by omega⟩
  case round =>
    obtain ⟨t, n, ht1, ht, rfl, rfl, hz⟩ := hrel
    have HZ : Hid (∀ j f g, j + 1 < t → fs[j]? = some f → fs[j + 1]? = some g → Op.bytesLess f.path.toList g.path.toList = true) := hz
    clear hz
    by_cases hlt : t < fs.length
    · have hd : decide ((t : Int) < fs.length) = true := by simp; omega
      obtain ⟨b, off, rfl, -⟩ := HR.out (by omega)
      obtain ⟨f, hf⟩ : ∃ f, fs[t]? = some f := ⟨_, List.getElem?_eq_getElem hlt⟩
      obtain ⟨pv, hpf⟩ : ∃ pv, fs[t - 1]? = some pv := ⟨_, List.getElem?_eq_getElem (by omega)⟩
      obtain ⟨c0, -⟩ := fi_cell HR.out hf
      obtain ⟨e0, -⟩ := fi_cell HR.out hpf
      have HF : Hid (fs[t]? = some f) := hf
      have HPF : Hid (fs[t - 1]? = some pv) := hpf
      clear hf hpf
      have HNOT : Hid (leB f.path pv.path = true → ¬ RisesP fs) := fun hle h => by
        have := h (t - 1) pv f HPF.out (by rw [show t - 1 + 1 = t by omega]; exact HF.out)
        rw [leB_false.2 this] at hle
        cases hle
      cases h1 : Op.bytesLess f.path.toList pv.path.toList
      · cases h2 : (f.path.toList == pv.path.toList)
        · have hls : Op.bytesLess pv.path.toList f.path.toList = true := leB_false.1 (by unfold leB; rw [h1, h2]; rfl)
          have HNX : Hid (∀ j f g, j + 1 < t + 1 → fs[j]? = some f → fs[j + 1]? = some g → Op.bytesLess f.path.toList g.path.toList = true) := fun j f' g' hj hf' hg' => by
            by_cases hjt : j + 1 < t
            · exact HZ.out j f' g' hjt hf' hg'
            · obtain rfl : j = t - 1 := by omega
              rw [HPF.out] at hf'
              rw [show t - 1 + 1 = t by omega, HF.out] at hg'
              injection hf' with hf'
              injection hg' with hg'
              rw [← hf', ← hg']
              exact hls
          clear hls
          go_wp2
          go_quiet (fail)
          go_wp2
          go_roundw
          case rel => exact ⟨t + 1, n + nq, by omega, by omega, by go_num, rfl, HNX.out⟩
          case measure => simp [intOf]; omega
        · have HNO : Hid (¬ RisesP fs) := HNOT.out (by unfold leB; rw [h1, h2]; rfl)
          go_wp2
          go_quiet (fail)
          go_wp2
          go_ret
          exact ⟨⟨false, rfl, ⟨fun h => by (cases h), fun h => absurd h HNO.out⟩⟩, n + nq, drewN_two _ _ _⟩
      · cases h2 : (f.path.toList == pv.path.toList)
        · have HNO : Hid (¬ RisesP fs) := HNOT.out (by unfold leB; rw [h1, h2]; rfl)
          go_wp2
          go_quiet (fail)
          go_wp2
          go_ret
          exact ⟨⟨false, rfl, ⟨fun h => by (cases h), fun h => absurd h HNO.out⟩⟩, n + nq, drewN_two _ _ _⟩
        · have HNO : Hid (¬ RisesP fs) := HNOT.out (by unfold leB; rw [h1, h2]; rfl)
          go_wp2
          go_quiet (fail)
          go_wp2
          go_ret
          exact ⟨⟨false, rfl, ⟨fun h => by (cases h), fun h => absurd h HNO.out⟩⟩, n + nq, drewN_two _ _ _⟩
    · have hd : decide ((t : Int) < fs.length) = false := by simp; omega
      have HYES : Hid (RisesP fs) := fun j f g hf hg => HZ.out j f g (by have := (List.getElem?_eq_some_iff.1 hg).1; omega) hf hg
      go_wp2
      go_ret
      exact ⟨⟨true, rfl, ⟨fun _ => HYES.out, fun _ => rfl⟩⟩, n, rfl⟩
set_option maxRecDepth 100000 in
set_option maxHeartbeats 1000000 in
theorem settles_any (f : Fi) (c : Cl) (w : World) : Calls Try.prog 35 #[.agg f.cells, .agg c.cells] w fun e w' => e = .returned (.bool (f.path.toList == c.path.toList)) ∧ Below w.heap.size w w' := by
  unfold Fi.cells Cl.cells
  go_enter Try.func35, Try.ntmps35
  go_wp2
  go_ret
  exact ⟨rfl, ((Below.refl _ _).alloc (Nat.le_refl _) _).alloc (by simp) _⟩
theorem cl_cell' {w : World} {b off i : Nat} {fs : List Cl} (h : RowsAt w 7 Cl.cells (some ⟨b, off, none⟩) fs) {d : Cl} (hf : fs[i]? = some d) : ∀ j u, d.cells[j]? = some u → w.cell? ⟨b, off + i * 7 + j, none⟩ = some u := by
  obtain ⟨b', off', e, hc⟩ := h (by have := (List.getElem?_eq_some_iff.1 hf).1; omega)
  injection e with e
  injection e with e1 e2
  subst e1 e2
  exact hc i d hf
/-- A choice settles clashes: the same paths. -/
def SetP (fs : List Fi) (cs : List Cl) : Prop := fs.map (fun f => f.path.toList) = cs.map fun c => c.path.toList
theorem setP_iff (fs : List Fi) (cs : List Cl) (h : fs.length = cs.length) : SetP fs cs ↔ ∀ (j : Nat) (f : Fi) (c : Cl), fs[j]? = some f → cs[j]? = some c → (f.path.toList == c.path.toList) = true := by
  unfold SetP
  constructor
  · intro e j f c hf hc
    have h1 : (fs.map fun f => f.path.toList)[j]? = (cs.map fun c => c.path.toList)[j]? := by rw [e]
    rw [List.getElem?_map, List.getElem?_map, hf, hc] at h1
    simpa using h1
  · intro hz
    apply List.ext_getElem?
    intro j
    rw [List.getElem?_map, List.getElem?_map]
    by_cases hj : j < fs.length
    · have e1 := List.getElem?_eq_getElem hj
      have e2 := List.getElem?_eq_getElem (l := cs) (i := j) (by omega)
      have := hz j _ _ e1 e2
      rw [e1, e2]
      simpa using this
    · rw [List.getElem?_eq_none (by omega), List.getElem?_eq_none (by omega)]
      rfl
set_option maxRecDepth 100000 in
set_option maxHeartbeats 2000000 in
theorem eqFC_any (sp tp : Option Addr) (c1 c2 : Nat) (fs : List Fi) (cs : List Cl) (w : World) (h1 : RowsAt w 2 Fi.cells sp fs) (h2 : RowsAt w 7 Cl.cells tp cs) (hl : fs.length ≤ 1000000) (hlc : cs.length ≤ 1000000) :
    Calls Try.prog 34 #[.slice sp fs.length c1, .slice tp cs.length c2, .func (.func 35) #[] #[]] w fun e w' => (∃ b, e = .returned (.bool b) ∧ (b = true ↔ SetP fs cs)) ∧ Below w.heap.size w w' := by
  have H1 : Hid (RowsAt w 2 Fi.cells sp fs) := h1
  have H2 : Hid (RowsAt w 7 Cl.cells tp cs) := h2
  clear h1 h2
  by_cases hlen : fs.length = cs.length
  · have HIF : Hid _ := setP_iff fs cs hlen
    have hln : ((fs.length : Int) != (cs.length : Int)) = false := by simp; omega
    have HLEN : Hid (fs.length = cs.length) := hlen
    clear hlen
    go_enter Try.func34, Try.ntmps34
    go_wp2
    go_loopw [17] (fun i wr => ∃ t : Nat, t ≤ fs.length ∧ i = .int .i64 t ∧ Below w.heap.size w wr ∧ ∀ (j : Nat) (f : Fi) (c : Cl), j < t → fs[j]? = some f → cs[j]? = some c → (f.path.toList == c.path.toList) = true) (fun i _ => fs.length - (intOf i).toNat)
    case atStart => exact ⟨0, Nat.zero_le _, rfl, Below.refl _ _, fun j f c hj => by omega⟩
    case round =>
      obtain ⟨t, ht, rfl, hB, hz⟩ := hrel
      have HZ : Hid (∀ (j : Nat) (f : Fi) (c : Cl), j < t → fs[j]? = some f → cs[j]? = some c → (f.path.toList == c.path.toList) = true) := hz
      clear hz
      by_cases hlt : t < fs.length
      · have hlt2 : t < cs.length := by have := HLEN.out; omega
        have hd : decide ((t : Int) < fs.length) = true := by simp; omega
        have hd2 : decide ((t : Int) < cs.length) = true := by simp; omega
        obtain ⟨b1, f1, rfl, -⟩ := H1.out (by omega)
        obtain ⟨b2, f2, rfl, -⟩ := H2.out (by omega)
        obtain ⟨f, hf⟩ : ∃ f, fs[t]? = some f := ⟨_, List.getElem?_eq_getElem hlt⟩
        obtain ⟨c, hc⟩ : ∃ c, cs[t]? = some c := ⟨_, List.getElem?_eq_getElem hlt2⟩
        obtain ⟨k0, k1⟩ := fi_cell (H1.out.below hB) hf
        have hcc := cl_cell' (RowsAt.below H2.out hB) hc
        have c0 : wr.cell? ⟨b2, f2 + t * 7, none⟩ = some (.string c.path) := hcc 0 _ rfl
        have c1 : wr.cell? ⟨b2, f2 + t * 7 + 1, none⟩ = some (.string c.s.b.value) := hcc 1 _ rfl
        have c2 : wr.cell? ⟨b2, f2 + t * 7 + 2, none⟩ = some (.string c.s.o.value) := hcc 2 _ rfl
        have c3 : wr.cell? ⟨b2, f2 + t * 7 + 3, none⟩ = some (.string c.s.t.value) := hcc 3 _ rfl
        have c4 : wr.cell? ⟨b2, f2 + t * 7 + 4, none⟩ = some (.bool c.s.b.there) := hcc 4 _ rfl
        have c5 : wr.cell? ⟨b2, f2 + t * 7 + 5, none⟩ = some (.bool c.s.o.there) := hcc 5 _ rfl
        have c6 : wr.cell? ⟨b2, f2 + t * 7 + 6, none⟩ = some (.bool c.s.t.there) := hcc 6 _ rfl
        have l2 : b2 < wr.heap.size := block_lt_of_cell c0
        have HF : Hid (fs[t]? = some f) := hf
        have HC : Hid (cs[t]? = some c) := hc
        clear hf hc hcc
        have HBB : Hid (Below w.heap.size w ((wr.alloc (.cells #[.string f.path, .string f.text] 46)).alloc (.cells #[.string c.path, .string c.s.b.value, .string c.s.o.value, .string c.s.t.value, .bool c.s.b.there, .bool c.s.o.there, .bool c.s.t.there] 40))) := (hB.alloc hB.size _).alloc (by simp; exact Nat.le_succ_of_le hB.size) _
        cases hq : (f.path.toList == c.path.toList)
        · have HNO : Hid (¬ SetP fs cs) := fun h => by
            have := HIF.out.1 h t f c HF.out HC.out
            rw [hq] at this
            cases this
          go_wp2_with (go_at_call 35; refine (settles_any f c _).mono ?_; rintro e W10 ⟨rfl, b10⟩)
          go_ret
          exact ⟨⟨false, rfl, ⟨fun h => by (cases h), fun h => absurd h HNO.out⟩⟩, HBB.out.trans (b10.mono HBB.out.size)⟩
        · have HNX : Hid (∀ (j : Nat) (f : Fi) (c : Cl), j < t + 1 → fs[j]? = some f → cs[j]? = some c → (f.path.toList == c.path.toList) = true) := fun j f' c' hj hf' hc' => by
            by_cases hjt : j < t
            · exact HZ.out j f' c' hjt hf' hc'
            · obtain rfl : j = t := by omega
              rw [HF.out] at hf'
              rw [HC.out] at hc'
              injection hf' with hf'
              injection hc' with hc'
              rw [← hf', ← hc']
              exact hq
          go_wp2_with (go_at_call 35; refine (settles_any f c _).mono ?_; rintro e W10 ⟨rfl, b10⟩)
          go_roundw
          case rel => exact ⟨t + 1, by omega, by go_num, HBB.out.trans (b10.mono HBB.out.size), HNX.out⟩
          case measure => simp [intOf]; omega
      · have hd : decide ((t : Int) < fs.length) = false := by simp; omega
        have HYES : Hid (SetP fs cs) := HIF.out.2 fun j f c hf hc => HZ.out j f c (by have := (List.getElem?_eq_some_iff.1 hf).1; omega) hf hc
        go_wp2
        go_ret
        exact ⟨⟨true, rfl, ⟨fun _ => HYES.out, fun _ => rfl⟩⟩, hB⟩
  · have hln : ((fs.length : Int) != (cs.length : Int)) = true := by simp; omega
    have HNO : Hid (¬ SetP fs cs) := fun h => hlen (by have := congrArg List.length h; simpa using this)
    go_enter Try.func34, Try.ntmps34
    go_wp2
    go_ret
    exact ⟨⟨false, rfl, ⟨fun h => by (cases h), fun h => absurd h HNO.out⟩⟩, Below.refl _ _⟩
end Go.Proofs.Ytmbnbehlfbdpnaa

namespace Go.Proofs.Ytmbnbehlfbdpnaa
open Go.RowKit

def changedL (a b : List Fi) : List (List UInt8) := (diffL a b).map fun d => d.path.data.toList
/-- What Changed tells. -/
def ChangedP (w : World) (x y : Sl) (e : Ending) (w' : World) : Prop :=
  (if repoB x.fs && repoB y.fs then ∃ v, e = .returned (.tuple #[v, .int .i64 0]) ∧ OwnS w.heap.size w' v (changedL x.fs y.fs) else e = .returned (.tuple #[.slice none 0 0, .int .i64 170])) ∧ Below w.heap.size w w'
theorem diffL_len (a b : List Fi) : (diffL a b).length ≤ a.length + b.length := by
  unfold diffL
  exact Nat.le_trans (List.length_filter_le _ _) (by rw [List.length_map]; exact diffPs_len a b)
theorem de_cell {w : World} {b off i : Nat} {fs : List De} (h : RowsAt w 5 De.cells (some ⟨b, off, none⟩) fs) {d : De} (hf : fs[i]? = some d) : w.cell? ⟨b, off + i * 5, none⟩ = some (.string d.path) ∧ w.cell? ⟨b, off + i * 5 + 1, none⟩ = some (.bool d.was) ∧ w.cell? ⟨b, off + i * 5 + 2, none⟩ = some (.bool d.is) ∧ w.cell? ⟨b, off + i * 5 + 3, none⟩ = some (.string d.old) ∧ w.cell? ⟨b, off + i * 5 + 4, none⟩ = some (.string d.new) := by
  obtain ⟨b', off', e, hc⟩ := h (by have := (List.getElem?_eq_some_iff.1 hf).1; omega)
  injection e with e
  injection e with e1 e2
  subst e1 e2
  exact ⟨hc i d hf 0 _ rfl, hc i d hf 1 _ rfl, hc i d hf 2 _ rfl, hc i d hf 3 _ rfl, hc i d hf 4 _ rfl⟩
set_option maxRecDepth 100000 in
set_option maxHeartbeats 4000000 in
theorem changed_any (x y : Sl) (w : World) (hx : SlS w x) (hy : SlS w y) (nx : x.sp = none → x.fs.length = 0 ∧ x.cap = 0) (ny : y.sp = none → y.fs.length = 0 ∧ y.cap = 0) :
    Calls Try.prog 22 #[.agg #[.slice x.sp x.fs.length x.cap], .agg #[.slice y.sp y.fs.length y.cap]] w (ChangedP w x y) := by
  go_enter Try.func22, Try.ntmps22
  go_wp2_with fail
  refine calls_gen (fun W0 => Below w.heap.size w W0) (((Below.refl _ _).alloc (Nat.le_refl _) _).alloc (by simp) _) ?_
  intro W0 hb0
  refine (diff_any x y W0 ⟨hx.1.below hb0, hx.2⟩ ⟨hy.1.below hb0, hy.2⟩ nx ny).mono ?_
  rintro e W1 ⟨hd, hb1⟩
  have hb : Below w.heap.size w W1 := hb0.trans (hb1.mono hb0.size)
  clear hx hy nx ny hb1
  cases hr : (repoB x.fs && repoB y.fs) with
  | false =>
    rw [hr] at hd
    obtain rfl : e = _ := hd
    have HP : Hid (ChangedP w x y (.returned (.tuple #[.slice none 0 0, .int .i64 170])) W1) := ⟨by rw [hr]; rfl, hb⟩
    clear hr
    go_wp2
    refine bodyPost_ret (v := .tuple #[.slice none 0 0, .int .i64 170]) (results_two Try.results22 _ _ _ _ rfl rfl) rfl HP.out
  | true =>
    rw [hr] at hd
    obtain ⟨v, rfl, ho⟩ := hd
    have HGOOD : Hid (∀ v W, OwnS w.heap.size W v (changedL x.fs y.fs) → Below w.heap.size w W → ChangedP w x y (.returned (.tuple #[v, .int .i64 0])) W) := fun v W ho hW => ⟨by rw [hr]; exact ⟨v, rfl, ho⟩, hW⟩
    have hll : (diffL x.fs y.fs).length ≤ 32 := by
      have h1 := diffL_len x.fs y.fs
      have h2 : x.fs.length ≤ 16 ∧ y.fs.length ≤ 16 := by
        rw [Bool.and_eq_true] at hr
        obtain ⟨ha, hb⟩ := hr
        unfold repoB at ha hb
        simp only [Bool.and_eq_true, decide_eq_true_eq] at ha hb
        exact ⟨ha.1, hb.1⟩
      omega
    have HCH : Hid (changedL x.fs y.fs = (diffL x.fs y.fs).map fun d => d.path.data.toList) := rfl
    obtain ⟨sv, cv, hv5, hr5, -⟩ := ho.rows
    subst hv5
    have HR5 : Hid (RowsAt W1 5 De.cells sv (diffL x.fs y.fs)) := hr5
    generalize diffL x.fs y.fs = zs at hll HCH HR5 ⊢
    clear ho hr5 hr
    go_wp2
    go_loopw [8, 22] (fun l i wr => ∃ t : Nat, t ≤ zs.length ∧ i = .int .i64 t ∧ OwnS W1.heap.size wr l ((zs.take t).map fun d => d.path.data.toList) ∧ Below W1.heap.size W1 wr) (fun _ i _ => zs.length - (intOf i).toNat)
    case atStart => exact ⟨0, Nat.zero_le _, rfl, ownS_nil _ _, Below.refl _ _⟩
    case round =>
      obtain ⟨t, ht, rfl, hos, hB⟩ := hrel
      have HOS : Hid (OwnS W1.heap.size wr _ ((zs.take t).map fun d => d.path.data.toList)) := hos
      clear hos
      by_cases hlt : t < zs.length
      · have hd : decide ((t : Int) < zs.length) = true := by simp; omega
        obtain ⟨b, off, rfl, -⟩ := HR5.out (by omega)
        obtain ⟨f, hf⟩ : ∃ f, zs[t]? = some f := ⟨_, List.getElem?_eq_getElem hlt⟩
        obtain ⟨c0, c1, c2, c3, c4⟩ := de_cell (RowsAt.below HR5.out hB) hf
        have HST : Hid (((zs.take (t + 1)).map fun d => d.path.data.toList) = ((zs.take t).map fun d => d.path.data.toList) ++ [f.path.data.toList]) := by
          show _ = _
          rw [List.take_add_one, hf]
          simp
        have HLN : Hid (((zs.take t).map fun d => d.path.data.toList).length + 1 ≤ 100000) := by
          show ((zs.take t).map fun d => d.path.data.toList).length + 1 ≤ 100000
          rw [List.length_map, List.length_take]
          omega
        have B2 : Below wr.heap.size wr ((wr.alloc (.cells #[.string f.path, .bool f.was, .bool f.is, .string f.old, .string f.new] 74)).alloc (.cells #[.string f.path] 9)) := ((Below.refl _ _).alloc (Nat.le_refl _) _).alloc (by simp) _
        have g2 := heap_alloc_new (wr.alloc (.cells #[.string f.path, .bool f.was, .bool f.is, .string f.old, .string f.new] 74)) (.cells #[.string f.path] 9)
        rw [World.size_alloc] at g2
        obtain ⟨v9, W9, hr9, ho9, hg9⟩ := text_run 33 (HOS.out.below B2) g2 HLN.out (Nat.le_trans hB.size B2.size)
        have HB9 : Hid (Below W1.heap.size W1 W9) := OwnS.grown (HOS.out.below B2) (Nat.le_refl _) (Nat.le_trans hB.size B2.size) (hB.trans (B2.mono hB.size)) hg9
        have HO9 : Hid (OwnS W1.heap.size W9 v9 _) := ho9
        clear hf g2 B2 ho9 hg9
        go_wp2_with (refine list_append (by rfl) (.tmp 26) (.tmp 29) 33 (by rfl) (by rfl) (by rfl) hr9 ?_)
        go_roundw
        case rel => exact ⟨t + 1, by omega, by go_num, by rw [HST.out]; exact HO9.out, HB9.out⟩
        case measure => simp [intOf]; omega
      · have hd : decide ((t : Int) < zs.length) = false := by simp; omega
        obtain rfl : t = zs.length := by omega
        rw [List.take_length, ← HCH.out] at HOS
        have HFIN : Hid (ChangedP w x y (.returned (.tuple #[_, .int .i64 0])) wr) := HGOOD.out _ wr (by
          refine ⟨HOS.out.1, ?_⟩
          rcases HOS.out.2 with h | ⟨g, cap, cur, h1, h2, h3⟩
          · exact .inl h
          · exact .inr ⟨g, cap, cur, h1, Nat.le_trans hb.size h2, h3⟩) (hb.trans (hB.mono hb.size))
        go_wp2
        refine bodyPost_ret (results_two Try.results22 _ _ _ _ rfl rfl) rfl HFIN.out
end Go.Proofs.Ytmbnbehlfbdpnaa

namespace Go.Proofs.Ytmbnbehlfbdpnaa
open Go.RowKit

def clashPs (a b c : List Fi) : List (List UInt8) := (joinC (pathsA a b c)).map fun d => d.path.data.toList
/-- What Clashes tells. -/
def ClashesP (w : World) (x y z : Sl) (e : Ending) (w' : World) : Prop :=
  (if right3 x.fs y.fs z.fs then ∃ v, e = .returned (.tuple #[v, .int .i64 0]) ∧ OwnS w.heap.size w' v (clashPs x.fs y.fs z.fs) else e = .returned (.tuple #[.slice none 0 0, .int .i64 170])) ∧ Below w.heap.size w w'
theorem cl_cell {w : World} {b off i : Nat} {fs : List Cl} (h : RowsAt w 7 Cl.cells (some ⟨b, off, none⟩) fs) {d : Cl} (hf : fs[i]? = some d) : ∀ j u, d.cells[j]? = some u → w.cell? ⟨b, off + i * 7 + j, none⟩ = some u := by
  obtain ⟨b', off', e, hc⟩ := h (by have := (List.getElem?_eq_some_iff.1 hf).1; omega)
  injection e with e
  injection e with e1 e2
  subst e1 e2
  exact hc i d hf
set_option maxRecDepth 100000 in
set_option maxHeartbeats 4000000 in
theorem clashes_any (x y z : Sl) (w : World) (hx : SlS w x) (hy : SlS w y) (hz : SlS w z) :
    Calls Try.prog 12 #[.agg #[.slice x.sp x.fs.length x.cap], .agg #[.slice y.sp y.fs.length y.cap], .agg #[.slice z.sp z.fs.length z.cap]] w (ClashesP w x y z) := by
  go_enter Try.func12, Try.ntmps12
  go_wp2_with fail
  refine calls_gen (fun W0 => Below w.heap.size w W0) ((((Below.refl _ _).alloc (Nat.le_refl _) _).alloc (by simp) _).alloc (by simp; omega) _) ?_
  intro W0 hb0
  refine (join_any x y z W0 ⟨hx.1.below hb0, hx.2⟩ ⟨hy.1.below hb0, hy.2⟩ ⟨hz.1.below hb0, hz.2⟩).mono ?_
  rintro e W1 ⟨hd, hb1⟩
  have hb : Below w.heap.size w W1 := hb0.trans (hb1.mono hb0.size)
  clear hx hy hz hb1
  cases hr : right3 x.fs y.fs z.fs with
  | false =>
    rw [hr] at hd
    obtain rfl : e = _ := hd
    have HP : Hid (ClashesP w x y z (.returned (.tuple #[.slice none 0 0, .int .i64 170])) W1) := ⟨by rw [hr]; rfl, hb⟩
    clear hr
    go_wp2
    refine bodyPost_ret (v := .tuple #[.slice none 0 0, .int .i64 170]) (results_two Try.results12 _ _ _ _ rfl rfl) rfl HP.out
  | true =>
    rw [hr] at hd
    obtain ⟨vf, vc, rfl, hof, ho⟩ := hd
    have HGOOD : Hid (∀ v W, OwnS w.heap.size W v (clashPs x.fs y.fs z.fs) → Below w.heap.size w W → ClashesP w x y z (.returned (.tuple #[v, .int .i64 0])) W) := fun v W ho hW => ⟨by rw [hr]; exact ⟨v, rfl, ho⟩, hW⟩
    have hll : (joinC (pathsA x.fs y.fs z.fs)).length ≤ 48 := by
      have h1 := joinC_len (pathsA x.fs y.fs z.fs)
      have h2 := pathsA_len x.fs y.fs z.fs
      have h3 := right3_len hr
      omega
    have HCH : Hid (clashPs x.fs y.fs z.fs = (joinC (pathsA x.fs y.fs z.fs)).map fun d => d.path.data.toList) := rfl
    obtain ⟨sf, cf, rfl, -, -⟩ := hof.rows
    obtain ⟨sv, cv, rfl, hr5, -⟩ := ho.rows
    have HR5 : Hid (RowsAt W1 7 Cl.cells sv (joinC (pathsA x.fs y.fs z.fs))) := hr5
    generalize joinC (pathsA x.fs y.fs z.fs) = zs at hll HCH HR5 ⊢
    generalize (joinF (pathsA x.fs y.fs z.fs)).length = nf
    clear ho hr5 hr hof
    go_wp2
    go_loopw [11, 28] (fun l i wr => ∃ t : Nat, t ≤ zs.length ∧ i = .int .i64 t ∧ OwnS W1.heap.size wr l ((zs.take t).map fun d => d.path.data.toList) ∧ Below W1.heap.size W1 wr) (fun _ i _ => zs.length - (intOf i).toNat)
    case atStart => exact ⟨0, Nat.zero_le _, rfl, ownS_nil _ _, Below.refl _ _⟩
    case round =>
      obtain ⟨t, ht, rfl, hos, hB⟩ := hrel
      have HOS : Hid (OwnS W1.heap.size wr _ ((zs.take t).map fun d => d.path.data.toList)) := hos
      clear hos
      by_cases hlt : t < zs.length
      · have hd : decide ((t : Int) < zs.length) = true := by simp; omega
        obtain ⟨b, off, rfl, -⟩ := HR5.out (by omega)
        obtain ⟨f, hf⟩ : ∃ f, zs[t]? = some f := ⟨_, List.getElem?_eq_getElem hlt⟩
        have hc := cl_cell (RowsAt.below HR5.out hB) hf
        have c0 : wr.cell? ⟨b, off + t * 7, none⟩ = some (.string f.path) := hc 0 _ rfl
        have c1 : wr.cell? ⟨b, off + t * 7 + 1, none⟩ = some (.string f.s.b.value) := hc 1 _ rfl
        have c2 : wr.cell? ⟨b, off + t * 7 + 2, none⟩ = some (.string f.s.o.value) := hc 2 _ rfl
        have c3 : wr.cell? ⟨b, off + t * 7 + 3, none⟩ = some (.string f.s.t.value) := hc 3 _ rfl
        have c4 : wr.cell? ⟨b, off + t * 7 + 4, none⟩ = some (.bool f.s.b.there) := hc 4 _ rfl
        have c5 : wr.cell? ⟨b, off + t * 7 + 5, none⟩ = some (.bool f.s.o.there) := hc 5 _ rfl
        have c6 : wr.cell? ⟨b, off + t * 7 + 6, none⟩ = some (.bool f.s.t.there) := hc 6 _ rfl
        have HST : Hid (((zs.take (t + 1)).map fun d => d.path.data.toList) = ((zs.take t).map fun d => d.path.data.toList) ++ [f.path.data.toList]) := by
          show _ = _
          rw [List.take_add_one, hf]
          simp
        have HLN : Hid (((zs.take t).map fun d => d.path.data.toList).length + 1 ≤ 100000) := by
          show ((zs.take t).map fun d => d.path.data.toList).length + 1 ≤ 100000
          rw [List.length_map, List.length_take]
          omega
        have B2 : Below wr.heap.size wr ((wr.alloc (.cells #[.string f.path, .string f.s.b.value, .string f.s.o.value, .string f.s.t.value, .bool f.s.b.there, .bool f.s.o.there, .bool f.s.t.there] 40)).alloc (.cells #[.string f.path] 9)) := ((Below.refl _ _).alloc (Nat.le_refl _) _).alloc (by simp) _
        have g2 := heap_alloc_new (wr.alloc (.cells #[.string f.path, .string f.s.b.value, .string f.s.o.value, .string f.s.t.value, .bool f.s.b.there, .bool f.s.o.there, .bool f.s.t.there] 40)) (.cells #[.string f.path] 9)
        rw [World.size_alloc] at g2
        obtain ⟨v9, W9, hr9, ho9, hg9⟩ := text_run 33 (HOS.out.below B2) g2 HLN.out (Nat.le_trans hB.size B2.size)
        have HB9 : Hid (Below W1.heap.size W1 W9) := OwnS.grown (HOS.out.below B2) (Nat.le_refl _) (Nat.le_trans hB.size B2.size) (hB.trans (B2.mono hB.size)) hg9
        have HO9 : Hid (OwnS W1.heap.size W9 v9 _) := ho9
        clear hf hc g2 B2 ho9 hg9
        go_wp2_with (refine list_append (by rfl) (.tmp 32) (.tmp 35) 33 (by rfl) (by rfl) (by rfl) hr9 ?_)
        go_roundw
        case rel => exact ⟨t + 1, by omega, by go_num, by rw [HST.out]; exact HO9.out, HB9.out⟩
        case measure => simp [intOf]; omega
      · have hd : decide ((t : Int) < zs.length) = false := by simp; omega
        obtain rfl : t = zs.length := by omega
        rw [List.take_length, ← HCH.out] at HOS
        have HFIN : Hid (ClashesP w x y z (.returned (.tuple #[_, .int .i64 0])) wr) := HGOOD.out _ wr (by
          refine ⟨HOS.out.1, ?_⟩
          rcases HOS.out.2 with h | ⟨g, cap, cur, h1, h2, h3⟩
          · exact .inl h
          · exact .inr ⟨g, cap, cur, h1, Nat.le_trans hb.size h2, h3⟩) (hb.trans (hB.mono hb.size))
        go_wp2
        refine bodyPost_ret (results_two Try.results12 _ _ _ _ rfl rfl) rfl HFIN.out
end Go.Proofs.Ytmbnbehlfbdpnaa

namespace Go.Proofs.Ytmbnbehlfbdpnaa
open Go.RowKit

/-- What Settle tells. -/
def SettleP (x y z ch : Sl) (e : Ending) (w' : World) : Prop :=
  (right3 x.fs y.fs z.fs = false → e = .returned (.tuple #[.agg #[.slice none 0 0], .int .i64 170])) ∧
  (right3 x.fs y.fs z.fs = true → ¬ RisesP ch.fs → e = .returned (.tuple #[.agg #[.slice none 0 0], .int .i64 2])) ∧
  (right3 x.fs y.fs z.fs = true → RisesP ch.fs → ¬ SetP ch.fs (joinC (pathsA x.fs y.fs z.fs)) → e = .returned (.tuple #[.agg #[.slice none 0 0], .int .i64 4])) ∧
  (right3 x.fs y.fs z.fs = true → RisesP ch.fs → SetP ch.fs (joinC (pathsA x.fs y.fs z.fs)) → ∃ ys, ys.Perm (joinF (pathsA x.fs y.fs z.fs) ++ ch.fs) ∧ NoFall ys ∧ (repoB ys = true → ∃ sp cap, e = .returned (.tuple #[.agg #[.slice sp ys.length cap], .int .i64 0]) ∧ RowsAt w' 2 Fi.cells sp ys) ∧ (repoB ys = false → e = .returned (.tuple #[.agg #[.slice none 0 0], .int .i64 6])))
theorem nofall_nil : NoFall [] := fun i j f g _ h => by simp at h
theorem sortF_any {B : Nat} {w : World} {v : Value} {xs : List Fi} (h : OwnF B w v xs) (hl : xs.length ≤ 100000) :
    Calls Try.prog 36 #[v, .func (.func 37) #[] #[]] w fun e w' => e = .returned (.tuple #[]) ∧ (∃ ys, ys.Perm xs ∧ NoFall ys ∧ OwnF B w' v ys) ∧ w.grownBy w' v.ownBlock := by
  by_cases hne : xs = []
  · subst hne
    obtain ⟨sp, cap, rfl, -, -⟩ := h.rows
    refine (sortF_none sp cap _ w).mono ?_
    rintro e w' ⟨rfl, rfl⟩
    exact ⟨rfl, ⟨[], List.Perm.refl _, nofall_nil, h⟩, ⟨rfl, rfl, rfl, Nat.le_refl _, fun _ _ _ => rfl⟩⟩
  · exact sortF_own h hl hne
set_option maxRecDepth 100000 in
set_option maxHeartbeats 4000000 in
theorem settle_any (x y z ch : Sl) (w : World) (hx : SlS w x) (hy : SlS w y) (hz : SlS w z) (hc : SlS w ch) (hcl : ch.fs.length ≤ 1000) (nc : ch.sp = none → ch.fs.length = 0 ∧ ch.cap = 0) :
    Calls Try.prog 21 #[.agg #[.slice x.sp x.fs.length x.cap], .agg #[.slice y.sp y.fs.length y.cap], .agg #[.slice z.sp z.fs.length z.cap], .slice ch.sp ch.fs.length ch.cap] w fun e w' => SettleP x y z ch e w' ∧ Below w.heap.size w w' := by
  have HX : Hid (SlS w x) := hx
  have HY : Hid (SlS w y) := hy
  have HZ : Hid (SlS w z) := hz
  have HC : Hid (SlS w ch) := hc
  have HN : Hid _ := nc
  clear hx hy hz hc nc
  go_enter Try.func21, Try.ntmps21
  go_wp2_with fail
  refine calls_gen (fun W1 => Below w.heap.size w W1 ∧ W1.heap[w.heap.size + 1 + 1 + 1]? = some (.cells #[.slice none 0 0] 24 (0, 0))) ⟨((((Below.refl _ _).alloc (Nat.le_refl _) _).alloc (by simp) _).alloc (by simp; omega) _).alloc (by simp; omega) _, ?_⟩ ?_
  · have := heap_alloc_new (((w.alloc (.cells #[.slice x.sp x.fs.length x.cap] 24)).alloc (.cells #[.slice y.sp y.fs.length y.cap] 24)).alloc (.cells #[.slice z.sp z.fs.length z.cap] 24)) (.cells #[.slice none 0 0] 24)
    simp only [World.size_alloc] at this
    exact this
  rintro W1 ⟨hB1, r1⟩
  have sl : ∀ s : Sl, SlS w s → SlS W1 s := fun s h => ⟨h.1.below hB1, h.2⟩
  refine (join_any x y z W1 (sl x HX.out) (sl y HY.out) (sl z HZ.out)).mono ?_
  rintro e W2 ⟨hj, hB2⟩
  have hb : Below w.heap.size w W2 := hB1.trans (hB2.mono hB1.size)
  have r2 : W2.heap[w.heap.size + 1 + 1 + 1]? = some (.cells #[.slice none 0 0] 24 (0, 0)) := (hB2.block _ (lt_of_row r1)).trans r1
  have hle : w.heap.size ≤ W1.heap.size := hB1.size
  have l1 := lt_of_row r1
  have HFS : Hid (FiS (joinF (pathsA x.fs y.fs z.fs))) := joinF_small HX.out.2.2 HY.out.2.2 HZ.out.2.2
  have HEND : Hid (∀ W u, Below w.heap.size w W → W.heap[w.heap.size + 1 + 1 + 1]? = some (.cells #[.slice none 0 0] 24 (0, 0)) → (W.setCell ⟨w.heap.size + 1 + 1 + 1, 0, none⟩ u).heap[w.heap.size + 1 + 1 + 1]? = some (.cells #[u] 24 (0, 0)) ∧ Below w.heap.size w (W.setCell ⟨w.heap.size + 1 + 1 + 1, 0, none⟩ u)) := fun W u h1 h2 => ⟨heap_setCell_same _ _ 0 _ _ _ h2, h1.setCell (p := ⟨w.heap.size + 1 + 1 + 1, 0, none⟩) (by show w.heap.size ≤ w.heap.size + 1 + 1 + 1; omega) _⟩
  clear sl r1
  cases h3 : right3 x.fs y.fs z.fs with
  | false =>
    rw [h3] at hj
    obtain rfl := hj
    have HP : Hid (SettleP x y z ch (.returned (.tuple #[.agg #[.slice none 0 0], .int .i64 170])) (W2.setCell ⟨w.heap.size + 1 + 1 + 1, 0, none⟩ (.slice none 0 0))) := ⟨fun _ => rfl, (fun h => by rw [h3] at h; cases h), (fun h => by rw [h3] at h; cases h), fun h => by rw [h3] at h; cases h⟩
    have hE := HEND.out W2 (.slice none 0 0) hb r2
    have c2 : W2.cell? ⟨w.heap.size + 1 + 1 + 1, 0, none⟩ = some (.slice none 0 0) := (cell_of_row _ _ _ _ _ _ r2).trans rfl
    have f2 : W2.frozen? ⟨w.heap.size + 1 + 1 + 1, 0, none⟩ = false := frozen_of_row _ _ _ _ _ r2
    have HE : Hid _ := hE
    clear h3 hE
    go_wp2
    refine bodyPost_ret (v := .tuple #[.agg #[.slice none 0 0], .int .i64 170]) (results_cell_tmp Try.results21 _ _ (w.heap.size + 1 + 1 + 1) 24 #[.slice none 0 0] (0, 0) _ _ rfl rfl HE.out.1 Try.underlying24 rfl (by kernel_rfl)) rfl ⟨HP.out, HE.out.2⟩
  | true =>
    rw [h3] at hj
    obtain ⟨vf, vc, rfl, hof, hoc⟩ := hj
    obtain ⟨sc, cc, rfl, hrc, -⟩ := hoc.rows
    obtain ⟨sf, df, rfl, -, -⟩ := hof.rows
    have hfl : (joinF (pathsA x.fs y.fs z.fs)).length ≤ 48 ∧ (joinC (pathsA x.fs y.fs z.fs)).length ≤ 48 := by
      have h1 := joinF_len (pathsA x.fs y.fs z.fs)
      have h1' := joinC_len (pathsA x.fs y.fs z.fs)
      have h2 := pathsA_len x.fs y.fs z.fs
      have h4 := right3_len h3
      omega
    have H3 : Hid (right3 x.fs y.fs z.fs = true) := h3
    have HOF : Hid (OwnF W1.heap.size W2 (.slice sf (joinF (pathsA x.fs y.fs z.fs)).length df) (joinF (pathsA x.fs y.fs z.fs))) := hof
    have HRC : Hid (RowsAt W2 7 Cl.cells sc (joinC (pathsA x.fs y.fs z.fs))) := hrc
    have HPS : Hid (∀ e w', (¬ RisesP ch.fs → e = .returned (.tuple #[.agg #[.slice none 0 0], .int .i64 2])) → (RisesP ch.fs → ¬ SetP ch.fs (joinC (pathsA x.fs y.fs z.fs)) → e = .returned (.tuple #[.agg #[.slice none 0 0], .int .i64 4])) → (RisesP ch.fs → SetP ch.fs (joinC (pathsA x.fs y.fs z.fs)) → ∃ ys, ys.Perm (joinF (pathsA x.fs y.fs z.fs) ++ ch.fs) ∧ NoFall ys ∧ (repoB ys = true → ∃ sp cap, e = .returned (.tuple #[.agg #[.slice sp ys.length cap], .int .i64 0]) ∧ RowsAt w' 2 Fi.cells sp ys) ∧ (repoB ys = false → e = .returned (.tuple #[.agg #[.slice none 0 0], .int .i64 6]))) → SettleP x y z ch e w') := fun e w' p1 p2 p3 => ⟨(fun h => by rw [H3.out] at h; cases h), fun _ => p1, fun _ => p2, fun _ => p3⟩
    have HCW : Hid (∀ W, Below w.heap.size w W → RowsAt W 2 Fi.cells ch.sp ch.fs) := fun W h => HC.out.1.1.below h
    clear h3 hof hoc hrc hB1
    generalize joinF (pathsA x.fs y.fs z.fs) = js at *
    generalize joinC (pathsA x.fs y.fs z.fs) = cls at *
    go_wp2_with fail
    refine (rising_any ch.sp ch.cap ch.fs W2 (HCW.out W2 hb) (by omega)).mono ?_
    rintro e W3 ⟨⟨b, rfl, hbr⟩, n3, rfl⟩
    have HBR : Hid (b = true ↔ RisesP ch.fs) := hbr
    have b3 : Below W2.heap.size W2 (W2.drewN n3) := below_drawn' _ _
    generalize W2.drewN n3 = W3 at b3 ⊢
    have hb3 := hb.trans (b3.mono hb.size)
    have r3 := (b3.block _ (lt_of_row r2)).trans r2
    have HOF3 : Hid (OwnF W1.heap.size W3 (.slice sf js.length df) js) := HOF.out.below b3
    have HRC3 : Hid (RowsAt W3 7 Cl.cells sc cls) := HRC.out.below b3
    have hs3 : W1.heap.size ≤ W3.heap.size := Nat.le_trans hB2.size b3.size
    clear hbr b3 hb r2 HOF HRC
    cases b
    · have hE := HEND.out W3 (.slice none 0 0) hb3 r3
      have c2 : W3.cell? ⟨w.heap.size + 1 + 1 + 1, 0, none⟩ = some (.slice none 0 0) := (cell_of_row _ _ _ _ _ _ r3).trans rfl
      have f2 : W3.frozen? ⟨w.heap.size + 1 + 1 + 1, 0, none⟩ = false := frozen_of_row _ _ _ _ _ r3
      have HNR : Hid (¬ RisesP ch.fs) := fun h => by have := HBR.out.2 h; cases this
      have HP : Hid (SettleP x y z ch (.returned (.tuple #[.agg #[.slice none 0 0], .int .i64 2])) (W3.setCell ⟨w.heap.size + 1 + 1 + 1, 0, none⟩ (.slice none 0 0))) := HPS.out _ _ (fun _ => rfl) (fun h => absurd h HNR.out) (fun h => absurd h HNR.out)
      have HE : Hid _ := hE
      clear hE HBR
      go_wp2
      refine bodyPost_ret (v := .tuple #[.agg #[.slice none 0 0], .int .i64 2]) (results_cell_tmp Try.results21 _ _ (w.heap.size + 1 + 1 + 1) 24 #[.slice none 0 0] (0, 0) _ _ rfl rfl HE.out.1 Try.underlying24 rfl (by kernel_rfl)) rfl ⟨HP.out, HE.out.2⟩
    · have HRI : Hid (RisesP ch.fs) := HBR.out.1 rfl
      clear HBR
      go_wp2_with fail
      refine (eqFC_any ch.sp sc ch.cap cc ch.fs cls W3 (HCW.out W3 hb3) HRC3.out (by omega) (by omega)).mono ?_
      rintro e W4 ⟨⟨b, rfl, hbr⟩, b4⟩
      have HBR : Hid (b = true ↔ SetP ch.fs cls) := hbr
      have hb4 := hb3.trans (b4.mono hb3.size)
      have r4 := (b4.block _ (lt_of_row r3)).trans r3
      have HOF4 : Hid (OwnF W1.heap.size W4 (.slice sf js.length df) js) := HOF3.out.below b4
      have hs4 : W1.heap.size ≤ W4.heap.size := Nat.le_trans hs3 b4.size
      clear hbr b4 hb3 r3 HOF3 HRC3
      cases b
      · have hE := HEND.out W4 (.slice none 0 0) hb4 r4
        have c2 : W4.cell? ⟨w.heap.size + 1 + 1 + 1, 0, none⟩ = some (.slice none 0 0) := (cell_of_row _ _ _ _ _ _ r4).trans rfl
        have f2 : W4.frozen? ⟨w.heap.size + 1 + 1 + 1, 0, none⟩ = false := frozen_of_row _ _ _ _ _ r4
        have HNR : Hid (¬ SetP ch.fs cls) := fun h => by have := HBR.out.2 h; cases this
        have HP : Hid (SettleP x y z ch (.returned (.tuple #[.agg #[.slice none 0 0], .int .i64 4])) (W4.setCell ⟨w.heap.size + 1 + 1 + 1, 0, none⟩ (.slice none 0 0))) := HPS.out _ _ (fun h => absurd HRI.out h) (fun _ _ => rfl) (fun _ h => absurd h HNR.out)
        have HE : Hid _ := hE
        clear hE HBR
        go_wp2
        refine bodyPost_ret (v := .tuple #[.agg #[.slice none 0 0], .int .i64 4]) (results_cell_tmp Try.results21 _ _ (w.heap.size + 1 + 1 + 1) 24 #[.slice none 0 0] (0, 0) _ _ rfl rfl HE.out.1 Try.underlying24 rfl (by kernel_rfl)) rfl ⟨HP.out, HE.out.2⟩
      · have HSE : Hid (SetP ch.fs cls) := HBR.out.1 rfl
        clear HBR
        obtain ⟨v5, W5, hr5, ho5, hg5, -⟩ := files_run (cap := ch.cap) 22 HOF4.out HN.out (HCW.out W4 hb4) (fun h => by
          obtain ⟨b, off, e, -⟩ := HCW.out W4 hb4 h
          exact ⟨b, off, e⟩) (by omega) hs4
        obtain ⟨zs, hzs⟩ : ∃ zs, js ++ ch.fs = zs := ⟨_, rfl⟩
        rw [hzs] at ho5
        have HZS : Hid (js ++ ch.fs = zs) := hzs
        have hzl : zs.length ≤ 2000 := by rw [← hzs, List.length_append]; omega
        have HFZ : Hid (FiS zs) := fun f hf => by
          rw [← HZS.out, List.mem_append] at hf
          rcases hf with hf | hf
          · exact HFS.out f hf
          · exact HC.out.2.2 f hf
        clear hzs
        obtain ⟨s5, d5, rfl, -, -⟩ := ho5.rows
        have HO5 : Hid (OwnF W1.heap.size W5 (.slice s5 zs.length d5) zs) := ho5
        have hb5 : Below w.heap.size w W5 := OwnF.grown (xs := js) HOF4.out hle hb4.size hb4 hg5
        have r5 : W5.heap[w.heap.size + 1 + 1 + 1]? = some (.cells #[.slice none 0 0] 24 (0, 0)) := (hg5.block _ (lt_of_row r4) (fun e => by
          have := (HOF4.out.lt e.symm).1
          omega)).trans r4
        have hs5 : W1.heap.size ≤ W5.heap.size := Nat.le_trans hs4 hg5.size
        clear ho5 hg5 HOF4 r4 hs3 hs4 hb4 hB2
        go_wp2_with (refine list_append (by rfl) (.tmp 35) (.tmp 36) 22 (by rfl) (by rfl) (by rfl) hr5 ?_)
        refine (sortF_any HO5.out (by omega)).mono ?_
        rintro e W6 ⟨rfl, ⟨ys, hp, hnf, ho6⟩, hg6⟩
        have hyl : ys.length = zs.length := hp.length_eq
        have hb6 : Below w.heap.size w W6 := OwnF.grown (xs := zs) HO5.out hle hb5.size hb5 hg6
        have r6 : W6.heap[w.heap.size + 1 + 1 + 1]? = some (.cells #[.slice none 0 0] 24 (0, 0)) := (hg6.block _ (lt_of_row r5) (fun e => by
          have := (HO5.out.lt e.symm).1
          omega)).trans r5
        have HO6 : Hid (OwnF W1.heap.size W6 (.slice s5 zs.length d5) ys) := ho6
        have hw := whole_any s5 d5 ys W6 (by
          obtain ⟨sp, cap, e, hr, -⟩ := ho6.rows
          injection e with e1 e2 e3
          subst e1
          exact hr) (by omega) (fun f hf => HFZ.out f (hp.mem_iff.1 hf))
        rw [hyl] at hw
        have HW : Hid _ := hw
        have HYS : Hid (ys.Perm (js ++ ch.fs) ∧ NoFall ys) := ⟨by rw [HZS.out]; exact hp, hnf⟩
        have HYL : Hid (ys.length = zs.length) := hyl
        clear hp hnf ho6 hg6 hyl hw r5 hb5 HO5 hs5 hr5
        go_wp2_with fail
        refine Calls.mono HW.out ?_
        rintro e W7 ⟨rfl, b7⟩
        have hb7 := hb6.trans (b7.mono hb6.size)
        have r7 := (b7.block _ (lt_of_row r6)).trans r6
        have HO7 : Hid (OwnF W1.heap.size W7 (.slice s5 zs.length d5) ys) := HO6.out.below b7
        have c2 : W7.cell? ⟨w.heap.size + 1 + 1 + 1, 0, none⟩ = some (.slice none 0 0) := (cell_of_row _ _ _ _ _ _ r7).trans rfl
        have f2 : W7.frozen? ⟨w.heap.size + 1 + 1 + 1, 0, none⟩ = false := frozen_of_row _ _ _ _ _ r7
        clear b7 hb6 r6 HO6 HW
        unfold wholeV
        cases hrb : repoB ys with
        | false =>
          have HE : Hid _ := HEND.out W7 (.slice none 0 0) hb7 r7
          have HP : Hid (SettleP x y z ch (.returned (.tuple #[.agg #[.slice none 0 0], .int .i64 6])) (W7.setCell ⟨w.heap.size + 1 + 1 + 1, 0, none⟩ (.slice none 0 0))) := HPS.out _ _ (fun h => absurd HRI.out h) (fun _ h => absurd HSE.out h) (fun _ _ => ⟨ys, HYS.out.1, HYS.out.2, (fun h => by rw [hrb] at h; cases h), fun _ => rfl⟩)
          clear hrb
          go_wp2
          refine bodyPost_ret (v := .tuple #[.agg #[.slice none 0 0], .int .i64 6]) (results_cell_tmp Try.results21 _ _ (w.heap.size + 1 + 1 + 1) 24 #[.slice none 0 0] (0, 0) _ _ rfl rfl HE.out.1 Try.underlying24 rfl (by kernel_rfl)) rfl ⟨HP.out, HE.out.2⟩
        | true =>
          have HE : Hid _ := HEND.out W7 (.slice s5 zs.length d5) hb7 r7
          have ho8 : OwnF W1.heap.size (W7.setCell ⟨w.heap.size + 1 + 1 + 1, 0, none⟩ (.slice s5 zs.length d5)) (.slice s5 zs.length d5) ys := HO7.out.keep fun k hk => heap_setCell_other _ _ _ _ fun e => by
            have := (HO7.out.lt hk).1
            rw [e] at this
            have h5 : (⟨w.heap.size + 1 + 1 + 1, 0, none⟩ : Addr).block = w.heap.size + 1 + 1 + 1 := rfl
            omega
          have HP : Hid (SettleP x y z ch (.returned (.tuple #[.agg #[.slice s5 zs.length d5], .int .i64 0])) (W7.setCell ⟨w.heap.size + 1 + 1 + 1, 0, none⟩ (.slice s5 zs.length d5))) := HPS.out _ _ (fun h => absurd HRI.out h) (fun _ h => absurd HSE.out h) (fun _ _ => ⟨ys, HYS.out.1, HYS.out.2, (fun _ => ⟨s5, d5, by rw [HYL.out], by
            obtain ⟨sp, cap, e, hr, -⟩ := ho8.rows
            injection e with e1 e2 e3
            subst e1
            exact hr⟩), fun h => by rw [hrb] at h; cases h⟩)
          clear hrb ho8
          go_wp2
          refine bodyPost_ret (v := .tuple #[.agg #[.slice s5 zs.length d5], .int .i64 0]) (results_cell_tmp Try.results21 _ _ (w.heap.size + 1 + 1 + 1) 24 #[.slice s5 zs.length d5] (0, 0) _ _ rfl rfl HE.out.1 Try.underlying24 rfl (by kernel_rfl)) rfl ⟨HP.out, HE.out.2⟩
end Go.Proofs.Ytmbnbehlfbdpnaa
