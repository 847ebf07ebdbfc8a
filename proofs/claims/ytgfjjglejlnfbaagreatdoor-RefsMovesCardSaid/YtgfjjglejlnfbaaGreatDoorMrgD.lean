/- The contract of tree's names: a path's names, each with what stands ahead of it. -/
/- The contract of tree's Path: one to four names, at most 64 bytes. -/
/- Files as cells. No function of the program is walked here. -/
/- The contract of tree's finder: a file's text by its path. -/
/- The contract of tree's below: does a file stand where a path has a folder? -/
import Derived.RangeFuncNested
import Derived.RangeFuncBound
import Derived.RangeFuncCalls
import Derived.RangeFuncLeaves
import Derived.Shelf.Abstract
import Derived.Shelf.RegionOpen
import Derived.WalkKit
import Derived.OwnWalkIn
import Derived.TacticsInMore
import Derived.LoopNIn
import Derived.LoopIn
import Derived.Test.YtgfjjglejlnfbaaGreatDoorTCut
import Derived.Test.YtgfjjglejlnfbaaGreatDoorObs
namespace Go.Proofs.YtgfjjglejlnfbaaGreatDoor
open Go.RowKit Go.Shelf
attribute [local go_sem] Oper.semAt_some

/-- The name that begins at k; where the t-th one begins; it, with what stands ahead. -/
def nm (p : ByteArray) (k : Nat) : ByteArray := ⟨(nameL (p.extract k p.size).data.toList).toArray⟩
def nst (p : ByteArray) : Nat → Nat
  | 0 => 0
  | t + 1 => nst p t + ((nm p (nst p t)).size + 1)
def npr (p : ByteArray) (t : Nat) : ByteArray × ByteArray := (p.extract 0 (nst p t), nm p (nst p t))
def nTo (p : ByteArray) (t : Nat) : List (ByteArray × ByteArray) := (List.range t).map (npr p)
def nUp (p : ByteArray) : Nat → Nat → Nat
  | 0, t => t
  | f + 1, t => if nst p t ≤ p.size then nUp p f (t + 1) else t
/-- How many names. -/
def nN (p : ByteArray) : Nat := nUp p (p.size + 1) 0
theorem nTo_succ (p : ByteArray) (t : Nat) : nTo p (t + 1) = nTo p t ++ [npr p t] := by simp [nTo, List.range_succ]
theorem nTo_len (p : ByteArray) (t : Nat) : (nTo p t).length = t := by simp [nTo]
theorem nst_ge (p : ByteArray) : ∀ t, t ≤ nst p t
  | 0 => Nat.le_refl _
  | t + 1 => by have := nst_ge p t; simp only [nst]; omega
theorem nst_mono (p : ByteArray) {i j : Nat} (h : i ≤ j) : nst p i ≤ nst p j := by
  induction h with
  | refl => exact Nat.le_refl _
  | step _ ih => simp only [nst]; omega
theorem nUp_spec (p : ByteArray) : ∀ f t, p.size < f + t → (∀ j, j < t → nst p j ≤ p.size) → p.size < nst p (nUp p f t) ∧ ∀ j, j < nUp p f t → nst p j ≤ p.size
  | 0, t, h, hj => ⟨by have := nst_ge p t; simp only [nUp]; omega, hj⟩
  | f + 1, t, h, hj => by
    simp only [nUp]
    by_cases ht : nst p t ≤ p.size
    · rw [if_pos ht]
      refine nUp_spec p f (t + 1) (by omega) fun j hj' => ?_
      by_cases hjt : j < t
      · exact hj j hjt
      · obtain rfl : j = t := by omega
        exact ht
    · rw [if_neg ht]
      exact ⟨by omega, hj⟩
theorem nN_end (p : ByteArray) : p.size < nst p (nN p) := (nUp_spec p (p.size + 1) 0 (by omega) (fun j hj => by omega)).1
theorem nN_in {p : ByteArray} {j : Nat} (h : j < nN p) : nst p j ≤ p.size := (nUp_spec p (p.size + 1) 0 (by omega) (fun j hj => by omega)).2 j h
theorem nTo_pre (p : ByteArray) {t : Nat} (h : t ≤ nN p) : nTo p t <+: nTo p (nN p) := by
  obtain ⟨d, hd⟩ : ∃ d, nN p = t + d := ⟨nN p - t, by omega⟩
  rw [hd]
  clear hd h
  induction d with
  | zero => exact List.prefix_rfl
  | succ d ih => rw [← Nat.add_assoc, nTo_succ]; exact ih.trans (List.prefix_append _ _)
/-- A name with what stands ahead, neither too long. -/
abbrev Nmp : Type := { x : ByteArray × ByteArray // x.1.size ≤ 1000000 ∧ x.2.size ≤ 1000000 }
theorem nm_size (p : ByteArray) (k : Nat) : (nm p k).size ≤ p.size := by
  have h1 : (nm p k).size = (nameL (p.extract k p.size).data.toList).length := by
    show (nameL (p.extract k p.size).data.toList).toArray.size = _
    simp
  have h2 : (nameL (p.extract k p.size).data.toList).length ≤ (p.extract k p.size).data.toList.length := (List.takeWhile_sublist _).length_le
  have h3 : (p.extract k p.size).data.toList.length = (p.extract k p.size).size := by simp
  rw [h1]
  rw [ByteArray.size_extract] at h3
  omega
def nprS (p : ByteArray) (hp : p.size ≤ 1000000) (t : Nat) : Nmp := ⟨npr p t, by show (p.extract 0 (nst p t)).size ≤ 1000000; rw [ByteArray.size_extract]; omega, Nat.le_trans (nm_size p _) hp⟩
def nToS (p : ByteArray) (hp : p.size ≤ 1000000) (t : Nat) : List Nmp := (List.range t).map (nprS p hp)
theorem nToS_succ (p : ByteArray) (hp : p.size ≤ 1000000) (t : Nat) : nToS p hp (t + 1) = nToS p hp t ++ [nprS p hp t] := by simp [nToS, List.range_succ]
theorem nToS_len (p : ByteArray) (hp : p.size ≤ 1000000) (t : Nat) : (nToS p hp t).length = t := by simp [nToS]
theorem nToS_val (p : ByteArray) (hp : p.size ≤ 1000000) (t : Nat) : (nToS p hp t).map (·.1) = nTo p t := by simp only [nToS, nTo, List.map_map]; exact List.map_congr_left fun _ _ => rfl
theorem nToS_pre (p : ByteArray) (hp : p.size ≤ 1000000) {t : Nat} (h : t ≤ nN p) : nToS p hp t <+: nToS p hp (nN p) := by
  obtain ⟨d, hd⟩ : ∃ d, nN p = t + d := ⟨nN p - t, by omega⟩
  rw [hd]
  clear hd h
  induction d with
  | zero => exact List.prefix_rfl
  | succ d ih => rw [← Nat.add_assoc, nToS_succ]; exact ih.trans (List.prefix_append _ _)
/-- A block lies as it lay. -/
def KeepB (B : Nat) (W W' : World) : Prop := W'.heap[B]? = W.heap[B]?
theorem keepB_t {B : Nat} {W W' W'' : World} (h : KeepB B W W') (k : KeepB B W' W'') : KeepB B W W'' := Eq.trans k h
theorem keepB_b {B : Nat} {w : World} (hB : B < w.heap.size) (W : World) (l : Nat) (o o' : Obj) (hl : w.heap.size ≤ l) (_ : W.heap[l]? = some o) (_ : o.isCells = false) (_ : o.isWalk = false) : KeepB B W (W.putObj l o') := World.putObj_heap_other (by omega)
theorem below_drawn' {B : Nat} (w : World) (m : Nat) : Below B w (w.drewN m) := ⟨rfl, rfl, rfl, Nat.le_refl _, fun _ _ => rfl⟩
theorem drew_grown (w : World) (n : Nat) : w.grownBy (w.drewN n) none := ⟨rfl, rfl, rfl, Nat.le_refl _, fun _ _ _ => rfl⟩

set_option maxRecDepth 100000 in
set_option maxHeartbeats 2000000 in
theorem names1_in (n : Nat) (hn : 1 ≤ n) (l Bs : Nat) (p : ByteArray) (hp : p.size ≤ 1000000) (J Jx : List Nmp → World → Prop)
    (hD : ∀ pre W m, J pre W → J pre (W.drewN m))
    (hY : ∀ pre x W, J pre W → pre.length < nN p → YieldAt Fence.wide (n - 1) Tryz.prog l #[.string x.1.1, .string x.1.2] W fun e W' =>
      (e = .returned (.bool true) ∧ J (pre ++ [x]) W' ∧ KeepB Bs W W') ∨ (e = .returned (.bool false) ∧ Jx (pre ++ [x]) W'))
    (W : World) (hBs : W.cell? ⟨Bs, 0, none⟩ = some (.string p)) (h0 : J [] W) :
    CallsIn Fence.wide n Tryz.prog 125 #[.func (.yield l) #[] #[], .pointer (some ⟨Bs, 0, none⟩)] W fun e W' => (∃ v, e = .returned v) ∧
      ((∃ ys, ys = nToS p hp (nN p) ∧ J ys W') ∨ (∃ pre, (∃ k, k ≤ nN p ∧ pre = nToS p hp k) ∧ Jx pre W')) := by
  refine callsIn_of_wp Tryz.func125 rfl trivial ?_ rfl
  simp only [Tryz.ntmps125, List.size_toArray, List.length_cons, List.length_nil, Nat.reduceAdd, Nat.reduceSub, Array.replicate_succ, Array.replicate_zero, List.push_toArray, List.append_toArray, List.nil_append, List.cons_append]
  gi_wp2
  gi_loopw [3] (fun i wr => ∃ t : Nat, t ≤ nN p ∧ i = .int .i64 (nst p t) ∧ J (nToS p hp t) wr ∧ KeepB Bs W wr) (fun i _ => p.size + 1 - (intOf i).toNat)
  case atStart => exact ⟨0, Nat.zero_le _, rfl, h0, rfl⟩
  case round =>
    obtain ⟨t, ht, rfl, hJs, hnx⟩ := hrel
    have hcb : wr.cell? ⟨Bs, 0, none⟩ = some (.string p) := (World.cell?_of_block (a := ⟨Bs, 0, none⟩) hnx).trans hBs
    by_cases hlt : t < nN p
    · have hk := nN_in hlt
      have HK2 : Hid _ := show nst p (t + 1) = nst p t + ((nm p (nst p t)).size + 1) from rfl
      have HPR : Hid ((nprS p hp t).1 = (p.extract 0 (nst p t), nm p (nst p t))) := rfl
      generalize hkk : nst p t = k at hk
      have hd : decide ((k : Int) ≤ p.size) = true := by simp; omega
      have hkz : (p.extract k p.size).size ≤ 9223372036854775807 := by rw [ByteArray.size_extract]; omega
      have hnz : (nm p k).size ≤ 1000000 := Nat.le_trans (nm_size p k) hp
      gi_wp2_with (refine ⟨trivial, ?_⟩; gi_at_call 126; refine (callsIn_wide.2 (cut_any (p.extract k p.size) wr hkz)).mono ?_; rintro e w3 ⟨⟨a, b2, f2, rfl, ha⟩, m, rfl⟩; obtain rfl : a = nm p k := (by cases a with | mk d => unfold nm; rw [← ha]); have hJ3 := hD _ _ m hJs; have hcb3 : (wr.drewN m).cell? ⟨Bs, 0, none⟩ = some (.string p) := hcb; obtain ⟨fn, tmps, assign, body, hy, hR⟩ := hY _ (nprS p hp t) (wr.drewN m) hJ3 (by rw [nToS_len]; exact hlt); rw [HPR.out, hkk] at hy; dsimp only at hy)
      refine hR.mono ?_
      rintro e W3 (⟨rfl, hJ4, hk4⟩ | ⟨rfl, hJx4⟩)
      · gi_wp2
        go_roundw
        case rel => exact ⟨t + 1, by omega, by rw [HK2.out, hkk]; go_num, by rw [nToS_succ]; exact hJ4, keepB_t hnx hk4⟩
        case measure => simp [intOf]; omega
      · gi_wp2
        refine bodyPost_ret (results_none rfl _ _ _) rfl ?_
        exact ⟨⟨_, rfl⟩, .inr ⟨_, ⟨t + 1, by omega, (nToS_succ _ _ _).symm⟩, hJx4⟩⟩
    · obtain rfl : t = nN p := by omega
      have hk := nN_end p
      have HTT : Hid (nToS p hp (nN p) = nToS p hp (nN p)) := rfl
      generalize nst p (nN p) = k at hk
      have hd : decide ((k : Int) ≤ p.size) = false := by simp; omega
      gi_wp2
      go_end0
      exact ⟨⟨_, rfl⟩, .inl hJs⟩

set_option maxHeartbeats 1000000 in
theorem names_any (n : Nat) (p : ByteArray) (w : World) :
    CallsIn Fence.wide n Tryz.prog 97 #[.string p] w fun e w' => e = .returned (.func (.func 125) #[] #[.pointer (some ⟨w.heap.size, 0, none⟩)]) ∧ w' = w.alloc (.cells #[.string p] 9) := by
  refine callsIn_of_wp Tryz.func97 rfl trivial ?_ rfl
  simp only [Tryz.ntmps97, List.size_toArray, List.length_cons, List.length_nil, Nat.reduceAdd, Nat.reduceSub, Array.replicate_succ, Array.replicate_zero, List.push_toArray, List.append_toArray, List.nil_append, List.cons_append]
  gi_wp2
  go_ret
  exact ⟨rfl, rfl⟩
/-- What names hands back goes through a path's names. -/
theorem names_stops (n : Nat) (hn : 1 ≤ n) (Bs : Nat) (p : ByteArray) (hp : p.size ≤ 1000000) (w : World) (hBs : Bs < w.heap.size) (hc : w.cell? ⟨Bs, 0, none⟩ = some (.string p)) :
    SeqStopsK Fence.wide n Tryz.prog 125 #[.pointer (some ⟨Bs, 0, none⟩)] (fun x : Nmp => #[.string x.1.1, .string x.1.2]) (KeepB Bs) (fun ys => ys = nToS p hp (nN p)) (fun pre => pre <+: nToS p hp (nN p)) (nN p) w := fun l J Jx W hW hJ _ hY h0 => by
  have hc' := (hW.cell (p := ⟨Bs, 0, none⟩) hBs).trans hc
  refine (names1_in n hn l Bs p hp J Jx (fun pre W' m h => hJ pre W' (W'.drewN m) none h (drew_grown _ _) (fun r e => by cases e)) hY W hc' h0).mono ?_
  rintro e W' ⟨he, ⟨ys, rfl, hj⟩ | ⟨pre, ⟨k, hk, rfl⟩, hj⟩⟩
  · exact ⟨he, .inl ⟨_, rfl, hj⟩⟩
  · exact ⟨he, .inr ⟨_, nToS_pre p hp hk, hj⟩⟩
end Go.Proofs.YtgfjjglejlnfbaaGreatDoor

namespace Go.Proofs.YtgfjjglejlnfbaaGreatDoor
open Go.RowKit Go.Shelf
attribute [local go_sem] Oper.semAt_some

theorem nN_le (p : ByteArray) : nN p ≤ p.size + 1 := by
  by_cases h : p.size + 1 < nN p
  · have h1 := nN_in h
    have h2 := nst_ge p (p.size + 1)
    omega
  · omega
/-- Is a text a path? -/
def pathB (p : ByteArray) : Bool := decide (p.size ≤ 64) && ((nTo p (nN p)).all (fun x => nameB x.2) && decide (nN p ≤ 4))
theorem cell_new_l (W : World) (v : Value) (t : TypeId) : (W.alloc (.cells #[v] t)).cell? ⟨W.heap.size, 0, none⟩ = some v ∧ (W.alloc (.cells #[v] t)).frozen? ⟨W.heap.size, 0, none⟩ = false :=
  ⟨(cell_of_row _ _ _ _ _ _ (heap_alloc_new W (.cells #[v] t))).trans rfl, frozen_of_row _ _ 0 _ _ (heap_alloc_new W (.cells #[v] t))⟩
theorem cell_alloc_l {W : World} {a : Addr} {v : Value} (o : Obj) (h : W.cell? a = some v) : (W.alloc o).cell? a = some v := cell_kept h (World.grownBy_alloc W o none) (fun r e => by cases e)
theorem frozen_alloc_l {W : World} {a : Addr} {v : Value} (o : Obj) (h : W.cell? a = some v) (hf : W.frozen? a = false) : (W.alloc o).frozen? a = false := (frozen_kept h (World.grownBy_alloc W o none) (fun r e => by cases e)).trans hf
theorem all_nTo (p : ByteArray) (hp : p.size ≤ 1000000) : (nTo p (nN p)).all (fun x => nameB x.2) = (nToS p hp (nN p)).all (fun x => nameB x.1.2) := by rw [← nToS_val p hp, List.all_map]; rfl
theorem grown_of {w w' : World} (h : Below w.heap.size w w') : w.grownBy w' none := ⟨h.os, h.tape, h.output, h.size, fun k hk _ => h.block k hk⟩

set_option maxRecDepth 100000 in
set_option maxHeartbeats 2000000 in
theorem path_long (p : ByteArray) (w : World) (h : 64 < p.size) : Calls Tryz.prog 66 #[.string p] w fun e w' => e = .returned (.bool (pathB p)) ∧ Below w.heap.size w w' := by
  have hd : decide ((64 : Int) < p.size) = true := by simp; omega
  have hpb : pathB p = false := by unfold pathB; rw [show decide (p.size ≤ 64) = false by simp; omega]; rfl
  rw [hpb]
  go_enter Tryz.func66, Tryz.ntmps66
  go_wp2
  refine bodyPost_ret (v := .bool false) ?_ rfl ⟨rfl, (Below.refl _ _).alloc (Nat.le_refl _) _⟩
  have hc := (cell_new_l w (.bool false) 4).1
  simp [results, Tryz.f66, go_sem, hc]

set_option maxRecDepth 100000 in
set_option maxHeartbeats 2000000 in
theorem path_in (n : Nat) (hn : 3 ≤ n) (p : ByteArray) (w : World) (h : p.size ≤ 64) : CallsIn Fence.wide n Tryz.prog 66 #[.string p] w fun e w' => e = .returned (.bool (pathB p)) ∧ Below w.heap.size w w' := by
  have h1 : 1 ≤ n := by omega
  have hd : decide ((64 : Int) < p.size) = false := by simp; omega
  refine callsIn_of_wp_marks Tryz.func66 rfl trivial ?_ rfl
  simp only [Tryz.ntmps66, List.size_toArray, List.length_cons, List.length_nil, Nat.reduceAdd, Nat.reduceSub, Array.replicate_succ, Array.replicate_zero, List.push_toArray, List.append_toArray, List.nil_append, List.cons_append]
  gi_wp2_with (refine ⟨trivial, ?_⟩; gi_at_call 97; refine (names_any (n - 1) p _).mono ?_; rintro e w' ⟨rfl, rfl⟩)
  have c0 := cell_new_l w (.bool false) 4
  have c1 := cell_new_l (w.alloc (.cells #[.bool false] 4)) (.int .i64 0) 3
  have c2 := cell_new_l ((w.alloc (.cells #[.bool false] 4)).alloc (.cells #[.int .i64 0] 3)) (.string p) 9
  simp only [World.size_alloc] at c1 c2
  have hB0 : Below w.heap.size w (((w.alloc (.cells #[.bool false] 4)).alloc (.cells #[.int .i64 0] 3)).alloc (.cells #[.string p] 9)) := (((Below.refl _ w).alloc (Nat.le_refl _) _).alloc (by simp) _).alloc (by simp; omega) _
  have hN := nN_le p
  have hp6 : p.size ≤ 1000000 := by omega
  refine wpIn_rangeFunc_ownF rfl h1 (gf := 125) (lb := #[.pointer (some ⟨w.heap.size + 1 + 1, 0, none⟩)]) rfl trivial (enters_of Tryz.func125 (by kernel_rfl) rfl)
    (names_stops (n - 1) (by omega) (w.heap.size + 1 + 1) p hp6 _ (by simp) c2.1) keepB_t (keepB_b (by simp)) (Below.refl _ _) (fun _ => rfl)
    (fun pre W => (pre.all (fun x => nameB x.1.2) = true ∧ W.cell? ⟨w.heap.size + 1, 0, none⟩ = some (.int .i64 pre.length) ∧ W.frozen? ⟨w.heap.size + 1, 0, none⟩ = false ∧ W.cell? ⟨w.heap.size, 0, none⟩ = some (.bool false) ∧ W.frozen? ⟨w.heap.size, 0, none⟩ = false ∧ w.heap.size + 1 + 1 < W.heap.size) ∧ Below w.heap.size w W)
    (fun c pre W => (c = .ret ∧ pre.all (fun x => nameB x.1.2) = false ∧ W.cell? ⟨w.heap.size, 0, none⟩ = some (.bool false)) ∧ Below w.heap.size w W)
    (OwnFrom.and (Own.from (fun s A B row hs hg hr => ⟨hs.1, cell_kept hs.2.1 hg hr, (frozen_kept hs.2.1 hg hr).trans hs.2.2.1, cell_kept hs.2.2.2.1 hg hr, (frozen_kept hs.2.2.2.1 hg hr).trans hs.2.2.2.2.1, Nat.lt_of_lt_of_le hs.2.2.2.2.2 hg.size⟩) _) (ownFrom_below (Nat.le_refl _) (by simp; omega)))
    (fun c => OwnFrom.and (Own.from (fun s A B row hs hg hr => ⟨hs.1, hs.2.1, cell_kept hs.2.2 hg hr⟩) _) (ownFrom_below (Nat.le_refl _) (by simp; omega)))
    ⟨⟨rfl, cell_alloc_l _ c1.1, frozen_alloc_l _ c1.1 c1.2, cell_alloc_l _ (cell_alloc_l _ c0.1), frozen_alloc_l _ (cell_alloc_l _ c0.1) (frozen_alloc_l _ c0.1 c0.2), by simp⟩, hB0⟩
    (fun x => { tmps := #[.string p, undef, .pointer (some ⟨w.heap.size, 0, none⟩), .pointer (some ⟨w.heap.size + 1, 0, none⟩), undef, .string x.1.2, .string p, .int .i64 p.size, .bool false, .string p, .func (.func 125) #[] #[.pointer (some ⟨w.heap.size + 1 + 1, 0, none⟩)], .string x.1.1, .string x.1.2, undef, undef, undef, undef, undef, undef, undef], defers := [] }) ?assign ?body ?done ?stop
  case assign =>
    intro l x W K hK
    gi_wp2
    exact hK
  case body =>
    rintro l pre x W ⟨⟨hall, hc, hf, hr, hrf, hs2⟩, hB⟩ hlt
    have hle := hB.size
    have hr0 := block_lt_of_cell hr
    have hc0 := block_lt_of_cell hc
    cases hnb : nameB x.1.2 with
    | false =>
      gi_wp2_with (refine ⟨trivial, fun h => (by cases h), ?_⟩; gi_at_call 36; refine (CallsIn.inRound l (callsIn_wide.2 (name_any x.1.2 W))).mono ?_; rintro e W1 ⟨rfl, hB1⟩; rw [hnb]; have hr1 := (hB1.cell (p := ⟨w.heap.size, 0, none⟩) hr0).trans hr; have hrf1 : W1.frozen? ⟨w.heap.size, 0, none⟩ = false := (hB1.frozen (p := ⟨w.heap.size, 0, none⟩) hr0).trans hrf)
      have hk1 : KeepsOthers W W1 := KeepsOthers.of_grownBy (grown_of hB1) (fun j o e => by cases e)
      exact ⟨hk1.trans (KeepsOthers.setCell _ _ _), ⟨rfl, by rw [List.all_append]; simp [hnb], World.cell?_setCell_same' _ _ _ (by rw [hr1]; rfl)⟩, (hB.trans (hB1.mono hle)).setCell (p := ⟨w.heap.size, 0, none⟩) (Nat.le_refl _) _⟩
    | true =>
      have hpl : pre.length ≤ 100 := by omega
      gi_wp2_with (refine ⟨trivial, fun h => (by cases h), ?_⟩; gi_at_call 36; refine (CallsIn.inRound l (callsIn_wide.2 (name_any x.1.2 W))).mono ?_; rintro e W1 ⟨rfl, hB1⟩; rw [hnb]; have hc1 := (hB1.cell (p := ⟨w.heap.size + 1, 0, none⟩) hc0).trans hc; have hf1 : W1.frozen? ⟨w.heap.size + 1, 0, none⟩ = false := (hB1.frozen (p := ⟨w.heap.size + 1, 0, none⟩) hc0).trans hf)
      have hk1 : KeepsOthers W W1 := KeepsOthers.of_grownBy (grown_of hB1) (fun j o e => by cases e)
      have hr1 := (hB1.cell (p := ⟨w.heap.size, 0, none⟩) hr0).trans hr
      have hrf1 : W1.frozen? ⟨w.heap.size, 0, none⟩ = false := (hB1.frozen (p := ⟨w.heap.size, 0, none⟩) hr0).trans hrf
      refine ⟨hk1.trans (KeepsOthers.setCell _ _ _), ?_, ⟨?_, ?_, ?_, ?_, ?_, ?_⟩, (hB.trans (hB1.mono hle)).setCell (p := ⟨w.heap.size + 1, 0, none⟩) (by simp) _⟩
      · exact (heap_setCell_other _ _ _ _ (by show w.heap.size + 1 + 1 ≠ w.heap.size + 1; omega)).trans (hB1.block _ hs2)
      · rw [List.all_append, hall]; simp [hnb]
      · rw [List.length_append]; exact (World.cell?_setCell_same' _ _ _ (by rw [hc1]; rfl)).trans (by simp)
      · rw [World.frozen?_setCell]; exact hf1
      · rw [World.cell?_of_block (heap_setCell_other _ _ _ _ (by show w.heap.size ≠ w.heap.size + 1; omega))]; exact hr1
      · rw [World.frozen?_setCell]; exact hrf1
      · have := hB1.size; simp [World.setCell]; omega
  case done =>
    rintro D ys W hD rfl ⟨⟨hall, hc, hf, hr, hrf, hs2⟩, hB⟩ hK
    rw [nToS_len] at hc
    gi_wp2
    have hK' := (KeepsOthers.setCell W ⟨w.heap.size, 0, none⟩ (.bool (decide ((nN p : Int) ≤ 4)))).same D _ hK rfl
    refine ⟨by simp, .inl ⟨_, _, rfl, run_takeDeferred hK', ?_⟩⟩
    have hc5 := cell_kept (World.cell?_setCell_same' W ⟨w.heap.size, 0, none⟩ (.bool (decide ((nN p : Int) ≤ 4))) (by rw [hr]; rfl)) (grownBy_putObj' _ D (.deferred none)) (fun r e => by cases e; exact ⟨_, hK', rfl⟩)
    have hpb : pathB p = decide ((nN p : Int) ≤ 4) := by
      unfold pathB
      rw [all_nTo p hp6, hall, show decide (p.size ≤ 64) = true by simpa using h, Bool.true_and, Bool.true_and]
      exact decide_eq_decide.2 (by omega)
    refine ⟨.bool (decide ((nN p : Int) ≤ 4)), ?_, by rw [hpb], (hB.setCell (p := ⟨w.heap.size, 0, none⟩) (Nat.le_refl _) _).trans (belowK_b (w := w) (Nat.le_refl _) _ D _ _ (by simp at hD; omega) hK' rfl rfl)⟩
    simp [results, Tryz.f66, go_sem, hc5]
  case stop =>
    rintro D c pre W hD hpre ⟨⟨rfl, hall, hr⟩, hB⟩ hK
    gi_wp2
    refine ⟨by simp, .inl ⟨_, _, rfl, run_takeDeferred hK, ?_⟩⟩
    have hc5 := cell_kept hr (grownBy_putObj' _ D (.deferred none)) (fun r e => by cases e; exact ⟨_, hK, rfl⟩)
    have hpb : pathB p = false := by
      have : (nToS p hp6 (nN p)).all (fun x => nameB x.1.2) = false := by
        cases hq : (nToS p hp6 (nN p)).all (fun x => nameB x.1.2) with
        | false => rfl
        | true =>
          rw [List.all_eq_true] at hq
          have : pre.all (fun x => nameB x.1.2) = true := List.all_eq_true.2 fun y hy => hq y (hpre.subset hy)
          rw [this] at hall
          cases hall
      unfold pathB
      rw [all_nTo p hp6, this, Bool.false_and, Bool.and_false]
    refine ⟨.bool false, ?_, by rw [hpb], hB.trans (belowK_b (w := w) (Nat.le_refl _) W D _ _ (by simp at hD; omega) hK rfl rfl)⟩
    simp [results, Tryz.f66, go_sem, hc5]
theorem path_any (p : ByteArray) (w : World) : Calls Tryz.prog 66 #[.string p] w fun e w' => e = .returned (.bool (pathB p)) ∧ Below w.heap.size w w' := by
  by_cases h : 64 < p.size
  · exact path_long p w h
  · exact (callsIn_wide (n := 3)).1 (path_in 3 (Nat.le_refl _) p w (by omega))
end Go.Proofs.YtgfjjglejlnfbaaGreatDoor

namespace Go.Proofs.YtgfjjglejlnfbaaGreatDoor
open Go.RowKit

/-- A file. -/
structure Fi where
  path : ByteArray
  text : ByteArray
def Fi.cells (f : Fi) : Array Value := #[.string f.path, .string f.text]
theorem Fi.size (f : Fi) : f.cells.size = 2 := rfl
theorem fi_cell {w : World} {b off i : Nat} {fs : List Fi} (h : RowsAt w 2 Fi.cells (some ⟨b, off, none⟩) fs) {f : Fi} (hf : fs[i]? = some f) : w.cell? ⟨b, off + i * 2, none⟩ = some (.string f.path) ∧ w.cell? ⟨b, off + i * 2 + 1, none⟩ = some (.string f.text) := by
  obtain ⟨b', off', e, hc⟩ := h (by have := (List.getElem?_eq_some_iff.1 hf).1; omega)
  injection e with e
  injection e with e1 e2
  subst e1 e2
  exact ⟨hc i f hf 0 _ rfl, hc i f hf 1 _ rfl⟩
end Go.Proofs.YtgfjjglejlnfbaaGreatDoor

namespace Go.Proofs.YtgfjjglejlnfbaaGreatDoor
open Go.RowKit

/-- The first file of a path. -/
def fiB (path : ByteArray) (f : Fi) : Bool := f.path.toList == path.toList
def fiIx (fs : List Fi) (path : ByteArray) : Int := match fs.findIdx? (fiB path) with
  | some i => i
  | none => -1
theorem fi_found {fs : List Fi} {path : ByteArray} {t : Nat} {f : Fi} (hz : ∀ j f, j < t → fs[j]? = some f → fiB path f = false) (hf : fs[t]? = some f) (hb : fiB path f = true) : fs.findIdx? (fiB path) = some t := by
  rw [List.findIdx?_eq_some_iff_getElem]
  obtain ⟨hl, he⟩ := List.getElem?_eq_some_iff.1 hf
  refine ⟨hl, by rw [he]; exact hb, fun j hj => ?_⟩
  have := hz j _ hj (List.getElem?_eq_getElem (by omega))
  rw [this]
  simp

set_option maxRecDepth 100000 in
set_option maxHeartbeats 1000000 in
theorem finder11_any (f : Fi) (path : ByteArray) (g : Nat) (w : World) (hg : w.cell? ⟨g, 0, none⟩ = some (.string path)) :
    Calls Tryz.prog 96 #[.agg f.cells, .pointer (some ⟨g, 0, none⟩)] w fun e w' => e = .returned (.bool (fiB path f)) ∧ Below w.heap.size w w' := by
  have hgl := block_lt_of_cell hg
  have hg1 : ∀ X, (w.alloc X).cell? ⟨g, 0, none⟩ = some (.string path) := fun X => cell_alloc_l X hg
  unfold Fi.cells
  go_enter Tryz.func96, Tryz.ntmps96
  go_wp2
  go_ret
  exact ⟨rfl, (Below.refl _ _).alloc (Nat.le_refl _) _⟩

set_option maxRecDepth 100000 in
set_option maxHeartbeats 1000000 in
theorem idxF_any (sp : Option Addr) (cap : Nat) (fs : List Fi) (path : ByteArray) (g : Nat) (w : World) (hr : RowsAt w 2 Fi.cells sp fs) (hl : fs.length ≤ 1000000) (hg : w.cell? ⟨g, 0, none⟩ = some (.string path)) :
    Calls Tryz.prog 95 #[.slice sp fs.length cap, .func (.func 96) #[] #[.pointer (some ⟨g, 0, none⟩)]] w fun e w' => e = .returned (.int .i64 (fiIx fs path)) ∧ Below w.heap.size w w' := by
  have hgl := block_lt_of_cell hg
  have HR : Hid _ := hr
  clear hr
  go_enter Tryz.func95, Tryz.ntmps95
  go_wp2
  go_loopw [8] (fun i wr => ∃ t : Nat, t ≤ fs.length ∧ i = .int .i64 t ∧ Below w.heap.size w wr ∧ ∀ j f, j < t → fs[j]? = some f → fiB path f = false) (fun i _ => fs.length - (intOf i).toNat)
  case atStart => exact ⟨0, Nat.zero_le _, rfl, Below.refl _ _, fun j f hj => by omega⟩
  case round =>
    obtain ⟨t, ht, rfl, hB, hz⟩ := hrel
    have HZ : Hid _ := hz
    clear hz
    by_cases hlt : t < fs.length
    · obtain ⟨b, off, rfl, -⟩ := HR.out (by omega)
      obtain ⟨f, hf⟩ : ∃ f, fs[t]? = some f := ⟨_, List.getElem?_eq_getElem hlt⟩
      have hc := fi_cell (RowsAt.below HR.out hB) hf
      have hcc : ∀ j u, f.cells[j]? = some u → wr.cell? ⟨b, off + t * 2 + j, none⟩ = some u := fun j u hu => by
        match j with
        | 0 => rw [show u = .string f.path by simpa [Fi.cells] using hu.symm]; exact hc.1
        | 1 => rw [show u = .string f.text by simpa [Fi.cells] using hu.symm]; exact hc.2
        | j + 2 => simp [Fi.cells] at hu
      have HCC : Hid _ := hcc
      have HF : Hid _ := hf
      have hc0 := hc.1
      clear hc hcc hf
      go_wp2_with (refine load_mid (by rfl) 81 (.tmp 14) (by rfl) b (off + t * 2) (by rfl) f.cells _ HCC.out Tryz.underlying81 rfl (by rw [f.size]; kernel_rfl) ?_)
      refine (finder11_any f path g wr ((hB.cell (p := ⟨g, 0, none⟩) hgl).trans hg)).mono ?_
      rintro e w2 ⟨rfl, hB2⟩
      have f2 : Below w.heap.size w w2 := hB.trans (hB2.mono hB.size)
      clear hc0 hB2
      cases hb : fiB path f with
      | false =>
        go_wp2
        go_roundw
        case rel =>
          refine ⟨t + 1, by omega, by go_num, f2, fun j f' hj hf' => ?_⟩
          by_cases hjt : j < t
          · exact HZ.out j f' hjt hf'
          · obtain rfl : j = t := by omega
            rw [HF.out] at hf'
            injection hf' with hf'
            rw [← hf']
            exact hb
        case measure => simp [intOf]; omega
      | true =>
        have HIX : Hid _ := fi_found HZ.out HF.out hb
        go_wp2
        go_ret
        refine ⟨ret_int ?_, f2⟩
        unfold fiIx
        rw [HIX.out]
    · have htl : t = fs.length := by omega
      have HT : Hid _ := htl
      clear htl
      go_wp2
      go_ret
      refine ⟨ret_int ?_, hB⟩
      have : fs.findIdx? (fiB path) = none := by
        rw [List.findIdx?_eq_none_iff]
        intro f hf
        obtain ⟨j, hj⟩ := List.getElem?_of_mem hf
        exact HZ.out j f (by rw [HT.out]; exact (List.getElem?_eq_some_iff.1 hj).1) hj
      unfold fiIx
      rw [this]
/-- What finder's closure tells. -/
def findB (fs : List Fi) (path : ByteArray) : ByteArray × Bool := match fs.findIdx? (fiB path) with
  | some i => ((fs.getD i ⟨⟨#[]⟩, ⟨#[]⟩⟩).text, true)
  | none => (⟨#[]⟩, false)
theorem results_two {P : Program} {fn : Func} {p q : Tmp} (h : fn.results = #[.tmp p, .tmp q]) (tmps : Array Value) (w : World) (u v : Value) (hp : tmps.getD p undef = u) (hq : tmps.getD q undef = v) :
    (results fn tmps).run P w = .ok (.tuple #[u, v]) w := by
  have hp' : tmps[p]?.getD undef = u := by simpa using hp
  have hq' : tmps[q]?.getD undef = v := by simpa using hq
  simp [results, h, hp', hq']

set_option maxRecDepth 100000 in
set_option maxHeartbeats 1000000 in
theorem finder1_any (sp : Option Addr) (cap : Nat) (fs : List Fi) (path : ByteArray) (g : Nat) (w : World) (hr : RowsAt w 2 Fi.cells sp fs) (hl : fs.length ≤ 1000000) (hg : w.cell? ⟨g, 0, none⟩ = some (.slice sp fs.length cap)) :
    Calls Tryz.prog 94 #[.string path, .pointer (some ⟨g, 0, none⟩)] w fun e w' => e = .returned (.tuple #[.string (findB fs path).1, .bool (findB fs path).2]) ∧ Below w.heap.size w w' := by
  have hgl := block_lt_of_cell hg
  have HR : Hid (RowsAt w 2 Fi.cells sp fs) := hr
  have hg1 : ∀ X, (w.alloc X).cell? ⟨g, 0, none⟩ = some (.slice sp fs.length cap) := fun X => cell_alloc_l X hg
  clear hr
  go_enter Tryz.func94, Tryz.ntmps94
  go_wp2_with fail
  refine calls_gen (fun W1 => Below w.heap.size w W1 ∧ W1.cell? ⟨w.heap.size, 0, none⟩ = some (.string path) ∧ W1.cell? ⟨g, 0, none⟩ = some (.slice sp fs.length cap)) ⟨(Below.refl _ _).alloc (Nat.le_refl _) _, (cell_new_l w _ _).1, hg1 _⟩ ?_
  intro W1 ⟨f1, c1, cg1⟩
  refine (idxF_any sp cap fs path w.heap.size W1 (RowsAt.below HR.out f1) hl c1).mono ?_
  rintro e w2 ⟨rfl, hB2⟩
  have f2 : Below w.heap.size w w2 := f1.trans (hB2.mono f1.size)
  have cg2 : w2.cell? ⟨g, 0, none⟩ = some (.slice sp fs.length cap) := (hB2.cell (p := ⟨g, 0, none⟩) (block_lt_of_cell cg1)).trans cg1
  clear hg hg1 c1 cg1 hB2 f1
  cases hi : fs.findIdx? (fiB path) with
  | none =>
    have hx : fiIx fs path = -1 := by unfold fiIx; rw [hi]
    have HB : Hid (findB fs path = (⟨#[]⟩, false)) := by unfold findB; rw [hi]; exact rfl
    rw [hx]
    clear hi hx
    go_wp2
    refine bodyPost_ret (v := .tuple #[.string ⟨#[]⟩, .bool false]) (results_two Tryz.results94 _ _ _ _ rfl rfl) rfl ⟨by rw [HB.out], f2⟩
  | some i =>
    have hx : fiIx fs path = (i : Int) := by unfold fiIx; rw [hi]
    obtain ⟨hil, -, -⟩ := List.findIdx?_eq_some_iff_getElem.1 hi
    obtain ⟨f, hf⟩ : ∃ f, fs[i]? = some f := ⟨_, List.getElem?_eq_getElem hil⟩
    have HB : Hid (findB fs path = (f.text, true)) := by unfold findB; rw [hi]; show ((fs.getD i _).text, true) = _; rw [List.getD_eq_getElem?_getD, hf]; exact rfl
    rw [hx]
    obtain ⟨b, off, rfl, -⟩ := HR.out (by omega)
    have hc := (fi_cell (RowsAt.below HR.out f2) hf).2
    have hd : decide ((i : Int) < 0) = false := by simp
    clear hi hx hf
    go_wp2
    refine bodyPost_ret (v := .tuple #[.string f.text, .bool true]) (results_two Tryz.results94 _ _ _ _ rfl rfl) rfl ⟨by rw [HB.out], f2⟩
end Go.Proofs.YtgfjjglejlnfbaaGreatDoor

namespace Go.Proofs.YtgfjjglejlnfbaaGreatDoor
open Go.RowKit Go.Shelf
attribute [local go_sem] Oper.semAt_some

/-- A folder's path. -/
def trimS (b : ByteArray) : ByteArray := ⟨(Lib.trimSuffix b.data.toList [47]).toArray⟩
def belowB (fs : List Fi) (p : ByteArray) : Bool := (nTo p (nN p)).any (fun x => (findB fs (trimS x.1)).2)
theorem any_nTo (fs : List Fi) (p : ByteArray) (hp : p.size ≤ 1000000) : belowB fs p = (nToS p hp (nN p)).any (fun x => (findB fs (trimS x.1.1)).2) := by unfold belowB; rw [← nToS_val p hp, List.any_map]; rfl

set_option maxRecDepth 100000 in
set_option maxHeartbeats 2000000 in
theorem below_in (n : Nat) (hn : 3 ≤ n) (p : ByteArray) (sp : Option Addr) (cap : Nat) (fs : List Fi) (g : Nat) (w : World) (hp : p.size ≤ 1000000) (hr : RowsAt w 2 Fi.cells sp fs) (hl : fs.length ≤ 1000000) (hg : w.cell? ⟨g, 0, none⟩ = some (.slice sp fs.length cap)) :
    CallsIn Fence.wide n Tryz.prog 67 #[.string p, .func (.func 94) #[] #[.pointer (some ⟨g, 0, none⟩)]] w fun e w' => e = .returned (.bool (belowB fs p)) ∧ Below w.heap.size w w' := by
  have h1 : 1 ≤ n := by omega
  have HR : Hid (RowsAt w 2 Fi.cells sp fs) := hr
  have hgl := block_lt_of_cell hg
  clear hr
  refine callsIn_of_wp_marks Tryz.func67 rfl trivial ?_ rfl
  simp only [Tryz.ntmps67, List.size_toArray, List.length_cons, List.length_nil, Nat.reduceAdd, Nat.reduceSub, Array.replicate_succ, Array.replicate_zero, List.push_toArray, List.append_toArray, List.nil_append, List.cons_append]
  gi_wp2_with (refine ⟨trivial, ?_⟩; gi_at_call 97; refine (names_any (n - 1) p _).mono ?_; rintro e w' ⟨rfl, rfl⟩)
  have c0 := cell_new_l w (.func (.func 94) #[] #[.pointer (some ⟨g, 0, none⟩)]) 134
  have c1 := cell_new_l (w.alloc (.cells #[.func (.func 94) #[] #[.pointer (some ⟨g, 0, none⟩)]] 134)) (.bool false) 4
  have c2 := cell_new_l ((w.alloc (.cells #[.func (.func 94) #[] #[.pointer (some ⟨g, 0, none⟩)]] 134)).alloc (.cells #[.bool false] 4)) (.string p) 9
  simp only [World.size_alloc] at c1 c2
  have hB0 : Below w.heap.size w (((w.alloc (.cells #[.func (.func 94) #[] #[.pointer (some ⟨g, 0, none⟩)]] 134)).alloc (.cells #[.bool false] 4)).alloc (.cells #[.string p] 9)) := (((Below.refl _ w).alloc (Nat.le_refl _) _).alloc (by simp) _).alloc (by simp; omega) _
  refine wpIn_rangeFunc_ownF rfl h1 (gf := 125) (lb := #[.pointer (some ⟨w.heap.size + 1 + 1, 0, none⟩)]) rfl trivial (enters_of Tryz.func125 (by kernel_rfl) rfl)
    (names_stops (n - 1) (by omega) (w.heap.size + 1 + 1) p hp _ (by simp) c2.1) keepB_t (keepB_b (by simp)) (Below.refl _ _) (fun _ => rfl)
    (fun pre W => (pre.any (fun x => (findB fs (trimS x.1.1)).2) = false ∧ W.cell? ⟨w.heap.size, 0, none⟩ = some (.func (.func 94) #[] #[.pointer (some ⟨g, 0, none⟩)]) ∧ W.cell? ⟨w.heap.size + 1, 0, none⟩ = some (.bool false) ∧ W.frozen? ⟨w.heap.size + 1, 0, none⟩ = false ∧ w.heap.size + 1 + 1 < W.heap.size) ∧ Below w.heap.size w W)
    (fun c pre W => (c = .ret ∧ pre.any (fun x => (findB fs (trimS x.1.1)).2) = true ∧ W.cell? ⟨w.heap.size + 1, 0, none⟩ = some (.bool true)) ∧ Below w.heap.size w W)
    (OwnFrom.and (Own.from (fun s A B row hs hg hr => ⟨hs.1, cell_kept hs.2.1 hg hr, cell_kept hs.2.2.1 hg hr, (frozen_kept hs.2.2.1 hg hr).trans hs.2.2.2.1, Nat.lt_of_lt_of_le hs.2.2.2.2 hg.size⟩) _) (ownFrom_below (Nat.le_refl _) (by simp; omega)))
    (fun c => OwnFrom.and (Own.from (fun s A B row hs hg hr => ⟨hs.1, hs.2.1, cell_kept hs.2.2 hg hr⟩) _) (ownFrom_below (Nat.le_refl _) (by simp; omega)))
    ⟨⟨rfl, cell_alloc_l _ (cell_alloc_l _ c0.1), cell_alloc_l _ c1.1, frozen_alloc_l _ c1.1 c1.2, by simp⟩, hB0⟩
    (fun x => { tmps := #[.string p, .func (.func 94) #[] #[.pointer (some ⟨g, 0, none⟩)], undef, .pointer (some ⟨w.heap.size, 0, none⟩), .pointer (some ⟨w.heap.size + 1, 0, none⟩), .string x.1.1, undef, undef, .string p, .func (.func 125) #[] #[.pointer (some ⟨w.heap.size + 1 + 1, 0, none⟩)], .string x.1.1, .string x.1.2, undef, undef, undef, undef, undef, undef, undef, undef], defers := [] }) ?assign ?body ?done ?stop
  case assign =>
    intro l x W K hK
    gi_wp2
    exact hK
  case body =>
    rintro l pre x W ⟨⟨hall, hf, hr, hrf, hs2⟩, hB⟩ hlt
    have hle := hB.size
    have hx1 : x.1.1.size ≤ 9223372036854775807 := by have := x.2.1; omega
    have hf0 := block_lt_of_cell hf
    have hr0 := block_lt_of_cell hr
    have hgW : W.cell? ⟨g, 0, none⟩ = some (.slice sp fs.length cap) := (hB.cell (p := ⟨g, 0, none⟩) hgl).trans hg
    have HRW : Hid (RowsAt W 2 Fi.cells sp fs) := RowsAt.below HR.out hB
    have hd : 1 ≤ n - 1 - 1 := by omega
    have hmx : Tryz.prog.follows .mixedOrders = true := by kernel_rfl
    have hft : Fence.wide.fn 98 := trivial
    have hff : Fence.wide.fn 94 := trivial
    gi_wp2
    gi_region_with_o (first
      | (gi_at_call 98; refine (CallsIn.inRound l (callsIn_wide.2 (Tryz.strings_TrimSuffix x.1.1 ⟨#[47]⟩ _ hx1))).mono ?_; rintro e w' ⟨rfl, rfl⟩)
      | (gi_at_call 94; refine (CallsIn.inRound l (callsIn_wide.2 (finder1_any sp cap fs (trimS x.1.1) g _ (RowsAt.below HRW.out (by first | exact Below.refl _ _ | exact (Below.refl _ _).drew)) hl (by first | exact hgW | exact hgW)))).mono ?_; rintro e w3 ⟨rfl, hB3⟩; have f3 : Below W.heap.size W w3 := (by first | exact hB3 | exact ((Below.refl _ W).drew).trans hB3 | exact (below_drawn' W _).trans hB3); clear hB3))
    all_goals (
      have hk3 : KeepsOthers W w3 := KeepsOthers.of_grownBy (grown_of f3) (fun j o e => by cases e)
      have hr3 : w3.cell? ⟨w.heap.size + 1, 0, none⟩ = some (.bool false) := (f3.cell (p := ⟨w.heap.size + 1, 0, none⟩) hr0).trans hr
      have hrf3 : w3.frozen? ⟨w.heap.size + 1, 0, none⟩ = false := (f3.frozen (p := ⟨w.heap.size + 1, 0, none⟩) hr0).trans hrf
      have hf3 : w3.cell? ⟨w.heap.size, 0, none⟩ = some (.func (.func 94) #[] #[.pointer (some ⟨g, 0, none⟩)]) := (f3.cell (p := ⟨w.heap.size, 0, none⟩) hf0).trans hf
      have hb3 : w3.heap[w.heap.size + 1 + 1]? = W.heap[w.heap.size + 1 + 1]? := f3.block _ hs2
      have hz3 := f3.size
      cases hfd : (findB fs (trimS x.1.1)).2 with
      | false =>
        gi_wp2
        exact ⟨hk3, hb3, ⟨by rw [List.any_append, hall]; simp [hfd], hf3, hr3, hrf3, by omega⟩, hB.trans (f3.mono hle)⟩
      | true =>
        gi_wp2
        exact ⟨hk3.trans (KeepsOthers.setCell _ _ _), ⟨rfl, by rw [List.any_append]; simp [hfd], World.cell?_setCell_same' _ _ _ (by rw [hr3]; rfl)⟩, (hB.trans (f3.mono hle)).setCell (p := ⟨w.heap.size + 1, 0, none⟩) (by simp) _⟩)
  case done =>
    rintro D ys W hD rfl ⟨⟨hall, hf, hr, hrf, hs2⟩, hB⟩ hK
    gi_wp2
    have hK' := (KeepsOthers.setCell W ⟨w.heap.size + 1, 0, none⟩ (.bool false)).same D _ hK rfl
    refine ⟨by simp, .inl ⟨_, _, rfl, run_takeDeferred hK', ?_⟩⟩
    have hc5 := cell_kept (World.cell?_setCell_same' W ⟨w.heap.size + 1, 0, none⟩ (.bool false) (by rw [hr]; rfl)) (grownBy_putObj' _ D (.deferred none)) (fun r e => by cases e; exact ⟨_, hK', rfl⟩)
    refine ⟨.bool false, ?_, by rw [any_nTo fs p hp, hall], (hB.setCell (p := ⟨w.heap.size + 1, 0, none⟩) (by simp) _).trans (belowK_b (w := w) (Nat.le_refl _) _ D _ _ (by simp at hD; omega) hK' rfl rfl)⟩
    simp [results, Tryz.f67, go_sem, hc5]
  case stop =>
    rintro D c pre W hD hpre ⟨⟨rfl, hall, hr⟩, hB⟩ hK
    gi_wp2
    refine ⟨by simp, .inl ⟨_, _, rfl, run_takeDeferred hK, ?_⟩⟩
    have hc5 := cell_kept hr (grownBy_putObj' _ D (.deferred none)) (fun r e => by cases e; exact ⟨_, hK, rfl⟩)
    have hpb : belowB fs p = true := by
      rw [any_nTo fs p hp, List.any_eq_true]
      obtain ⟨y, hy, hy2⟩ := List.any_eq_true.1 hall
      exact ⟨y, hpre.subset hy, hy2⟩
    refine ⟨.bool true, ?_, by rw [hpb], hB.trans (belowK_b (w := w) (Nat.le_refl _) W D _ _ (by simp at hD; omega) hK rfl rfl)⟩
    simp [results, Tryz.f67, go_sem, hc5]
theorem below_any (p : ByteArray) (sp : Option Addr) (cap : Nat) (fs : List Fi) (g : Nat) (w : World) (hp : p.size ≤ 1000000) (hr : RowsAt w 2 Fi.cells sp fs) (hl : fs.length ≤ 1000000) (hg : w.cell? ⟨g, 0, none⟩ = some (.slice sp fs.length cap)) :
    Calls Tryz.prog 67 #[.string p, .func (.func 94) #[] #[.pointer (some ⟨g, 0, none⟩)]] w fun e w' => e = .returned (.bool (belowB fs p)) ∧ Below w.heap.size w w' := (callsIn_wide (n := 3)).1 (below_in 3 (Nat.le_refl _) p sp cap fs g w hp hr hl hg)
end Go.Proofs.YtgfjjglejlnfbaaGreatDoor
