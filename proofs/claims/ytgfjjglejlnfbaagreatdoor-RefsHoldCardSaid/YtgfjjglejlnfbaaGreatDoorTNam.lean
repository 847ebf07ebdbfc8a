/- The contract of tree's names: a path's names, each with what stands ahead of it. -/
import Derived.RangeFuncNested
import Derived.RangeFuncBound
import Derived.RangeFuncCalls
import Derived.RangeFuncLeaves
import Derived.Shelf.Abstract
import Derived.Shelf.RegionOpen
import Derived.WalkKit
import Derived.OwnWalkIn
import Derived.TacticsInMore
import Derived.LoopNIn
import Derived.LoopIn
import Derived.Test.YtgfjjglejlnfbaaGreatDoorTCut
namespace Go.Proofs.YtgfjjglejlnfbaaGreatDoor
open Go.RowKit Go.Shelf
attribute [local go_sem] Oper.semAt_some

/-- The name that begins at k; where the t-th one begins; it, with what stands ahead. -/
def nm (p : ByteArray) (k : Nat) : ByteArray := ⟨(nameL (p.extract k p.size).data.toList).toArray⟩
def nst (p : ByteArray) : Nat → Nat
  | 0 => 0
  | t + 1 => nst p t + ((nm p (nst p t)).size + 1)
def npr (p : ByteArray) (t : Nat) : ByteArray × ByteArray := (p.extract 0 (nst p t), nm p (nst p t))
def nTo (p : ByteArray) (t : Nat) : List (ByteArray × ByteArray) := (List.range t).map (npr p)
def nUp (p : ByteArray) : Nat → Nat → Nat
  | 0, t => t
  | f + 1, t => if nst p t ≤ p.size then nUp p f (t + 1) else t
/-- How many names. -/
def nN (p : ByteArray) : Nat := nUp p (p.size + 1) 0
theorem nTo_succ (p : ByteArray) (t : Nat) : nTo p (t + 1) = nTo p t ++ [npr p t] := by simp [nTo, List.range_succ]
theorem nTo_len (p : ByteArray) (t : Nat) : (nTo p t).length = t := by simp [nTo]
theorem nst_ge (p : ByteArray) : ∀ t, t ≤ nst p t
  | 0 => Nat.le_refl _
  | t + 1 => by have := nst_ge p t; simp only [nst]; omega
theorem nst_mono (p : ByteArray) {i j : Nat} (h : i ≤ j) : nst p i ≤ nst p j := by
  induction h with
  | refl => exact Nat.le_refl _
  | step _ ih => simp only [nst]; omega
theorem nUp_spec (p : ByteArray) : ∀ f t, p.size < f + t → (∀ j, j < t → nst p j ≤ p.size) → p.size < nst p (nUp p f t) ∧ ∀ j, j < nUp p f t → nst p j ≤ p.size
  | 0, t, h, hj => ⟨by have := nst_ge p t; simp only [nUp]; omega, hj⟩
  | f + 1, t, h, hj => by
    simp only [nUp]
    by_cases ht : nst p t ≤ p.size
    · rw [if_pos ht]
      refine nUp_spec p f (t + 1) (by omega) fun j hj' => ?_
      by_cases hjt : j < t
      · exact hj j hjt
      · obtain rfl : j = t := by omega
        exact ht
    · rw [if_neg ht]
      exact ⟨by omega, hj⟩
theorem nN_end (p : ByteArray) : p.size < nst p (nN p) := (nUp_spec p (p.size + 1) 0 (by omega) (fun j hj => by omega)).1
theorem nN_in {p : ByteArray} {j : Nat} (h : j < nN p) : nst p j ≤ p.size := (nUp_spec p (p.size + 1) 0 (by omega) (fun j hj => by omega)).2 j h
theorem nTo_pre (p : ByteArray) {t : Nat} (h : t ≤ nN p) : nTo p t <+: nTo p (nN p) := by
  obtain ⟨d, hd⟩ : ∃ d, nN p = t + d := ⟨nN p - t, by omega⟩
  rw [hd]
  clear hd h
  induction d with
  | zero => exact List.prefix_rfl
  | succ d ih => rw [← Nat.add_assoc, nTo_succ]; exact ih.trans (List.prefix_append _ _)
/-- A name with what stands ahead, neither too long. -/
abbrev Nmp : Type := { x : ByteArray × ByteArray // x.1.size ≤ 1000000 ∧ x.2.size ≤ 1000000 }
theorem nm_size (p : ByteArray) (k : Nat) : (nm p k).size ≤ p.size := by
  have h1 : (nm p k).size = (nameL (p.extract k p.size).data.toList).length := by
    show (nameL (p.extract k p.size).data.toList).toArray.size = _
    simp
  have h2 : (nameL (p.extract k p.size).data.toList).length ≤ (p.extract k p.size).data.toList.length := (List.takeWhile_sublist _).length_le
  have h3 : (p.extract k p.size).data.toList.length = (p.extract k p.size).size := by simp
  rw [h1]
  rw [ByteArray.size_extract] at h3
  omega
def nprS (p : ByteArray) (hp : p.size ≤ 1000000) (t : Nat) : Nmp := ⟨npr p t, by show (p.extract 0 (nst p t)).size ≤ 1000000; rw [ByteArray.size_extract]; omega, Nat.le_trans (nm_size p _) hp⟩
def nToS (p : ByteArray) (hp : p.size ≤ 1000000) (t : Nat) : List Nmp := (List.range t).map (nprS p hp)
theorem nToS_succ (p : ByteArray) (hp : p.size ≤ 1000000) (t : Nat) : nToS p hp (t + 1) = nToS p hp t ++ [nprS p hp t] := by simp [nToS, List.range_succ]
theorem nToS_len (p : ByteArray) (hp : p.size ≤ 1000000) (t : Nat) : (nToS p hp t).length = t := by simp [nToS]
theorem nToS_val (p : ByteArray) (hp : p.size ≤ 1000000) (t : Nat) : (nToS p hp t).map (·.1) = nTo p t := by simp only [nToS, nTo, List.map_map]; exact List.map_congr_left fun _ _ => rfl
theorem nToS_pre (p : ByteArray) (hp : p.size ≤ 1000000) {t : Nat} (h : t ≤ nN p) : nToS p hp t <+: nToS p hp (nN p) := by
  obtain ⟨d, hd⟩ : ∃ d, nN p = t + d := ⟨nN p - t, by omega⟩
  rw [hd]
  clear hd h
  induction d with
  | zero => exact List.prefix_rfl
  | succ d ih => rw [← Nat.add_assoc, nToS_succ]; exact ih.trans (List.prefix_append _ _)
/-- A block lies as it lay. -/
def KeepB (B : Nat) (W W' : World) : Prop := W'.heap[B]? = W.heap[B]?
theorem keepB_t {B : Nat} {W W' W'' : World} (h : KeepB B W W') (k : KeepB B W' W'') : KeepB B W W'' := Eq.trans k h
theorem keepB_b {B : Nat} {w : World} (hB : B < w.heap.size) (W : World) (l : Nat) (o o' : Obj) (hl : w.heap.size ≤ l) (_ : W.heap[l]? = some o) (_ : o.isCells = false) (_ : o.isWalk = false) : KeepB B W (W.putObj l o') := World.putObj_heap_other (by omega)
theorem below_drawn' {B : Nat} (w : World) (m : Nat) : Below B w (w.drewN m) := ⟨rfl, rfl, rfl, Nat.le_refl _, fun _ _ => rfl⟩
theorem drew_grown (w : World) (n : Nat) : w.grownBy (w.drewN n) none := ⟨rfl, rfl, rfl, Nat.le_refl _, fun _ _ _ => rfl⟩

set_option maxRecDepth 100000 in
set_option maxHeartbeats 2000000 in
theorem names1_in (n : Nat) (hn : 1 ≤ n) (l Bs : Nat) (p : ByteArray) (hp : p.size ≤ 1000000) (J Jx : List Nmp → World → Prop)
    (hD : ∀ pre W m, J pre W → J pre (W.drewN m))
    (hY : ∀ pre x W, J pre W → pre.length < nN p → YieldAt Fence.wide (n - 1) Tryz.prog l #[.string x.1.1, .string x.1.2] W fun e W' =>
      (e = .returned (.bool true) ∧ J (pre ++ [x]) W' ∧ KeepB Bs W W') ∨ (e = .returned (.bool false) ∧ Jx (pre ++ [x]) W'))
    (W : World) (hBs : W.cell? ⟨Bs, 0, none⟩ = some (.string p)) (h0 : J [] W) :
    CallsIn Fence.wide n Tryz.prog 125 #[.func (.yield l) #[] #[], .pointer (some ⟨Bs, 0, none⟩)] W fun e W' => (∃ v, e = .returned v) ∧
      ((∃ ys, ys = nToS p hp (nN p) ∧ J ys W') ∨ (∃ pre, (∃ k, k ≤ nN p ∧ pre = nToS p hp k) ∧ Jx pre W')) := by
  refine callsIn_of_wp Tryz.func125 rfl trivial ?_ rfl
  simp only [Tryz.ntmps125, List.size_toArray, List.length_cons, List.length_nil, Nat.reduceAdd, Nat.reduceSub, Array.replicate_succ, Array.replicate_zero, List.push_toArray, List.append_toArray, List.nil_append, List.cons_append]
  gi_wp2
  gi_loopw [3] (fun i wr => ∃ t : Nat, t ≤ nN p ∧ i = .int .i64 (nst p t) ∧ J (nToS p hp t) wr ∧ KeepB Bs W wr) (fun i _ => p.size + 1 - (intOf i).toNat)
  case atStart => exact ⟨0, Nat.zero_le _, rfl, h0, rfl⟩
  case round =>
    obtain ⟨t, ht, rfl, hJs, hnx⟩ := hrel
    have hcb : wr.cell? ⟨Bs, 0, none⟩ = some (.string p) := (World.cell?_of_block (a := ⟨Bs, 0, none⟩) hnx).trans hBs
    by_cases hlt : t < nN p
    · have hk := nN_in hlt
      have HK2 : Hid _ := show nst p (t + 1) = nst p t + ((nm p (nst p t)).size + 1) from rfl
      have HPR : Hid ((nprS p hp t).1 = (p.extract 0 (nst p t), nm p (nst p t))) := rfl
      generalize hkk : nst p t = k at hk
      have hd : decide ((k : Int) ≤ p.size) = true := by simp; omega
      have hkz : (p.extract k p.size).size ≤ 9223372036854775807 := by rw [ByteArray.size_extract]; omega
      have hnz : (nm p k).size ≤ 1000000 := Nat.le_trans (nm_size p k) hp
      gi_wp2_with (refine ⟨trivial, ?_⟩; gi_at_call 126; refine (callsIn_wide.2 (cut_any (p.extract k p.size) wr hkz)).mono ?_; rintro e w3 ⟨⟨a, b2, f2, rfl, ha⟩, m, rfl⟩; obtain rfl : a = nm p k := (by cases a with | mk d => unfold nm; rw [← ha]); have hJ3 := hD _ _ m hJs; have hcb3 : (wr.drewN m).cell? ⟨Bs, 0, none⟩ = some (.string p) := hcb; obtain ⟨fn, tmps, assign, body, hy, hR⟩ := hY _ (nprS p hp t) (wr.drewN m) hJ3 (by rw [nToS_len]; exact hlt); rw [HPR.out, hkk] at hy; dsimp only at hy)
      refine hR.mono ?_
      rintro e W3 (⟨rfl, hJ4, hk4⟩ | ⟨rfl, hJx4⟩)
      · gi_wp2
        go_roundw
        case rel => exact ⟨t + 1, by omega, by rw [HK2.out, hkk]; go_num, by rw [nToS_succ]; exact hJ4, keepB_t hnx hk4⟩
        case measure => simp [intOf]; omega
      · gi_wp2
        refine bodyPost_ret (results_none rfl _ _ _) rfl ?_
        exact ⟨⟨_, rfl⟩, .inr ⟨_, ⟨t + 1, by omega, (nToS_succ _ _ _).symm⟩, hJx4⟩⟩
    · obtain rfl : t = nN p := by omega
      have hk := nN_end p
      have HTT : Hid (nToS p hp (nN p) = nToS p hp (nN p)) := rfl
      generalize nst p (nN p) = k at hk
      have hd : decide ((k : Int) ≤ p.size) = false := by simp; omega
      gi_wp2
      go_end0
      exact ⟨⟨_, rfl⟩, .inl hJs⟩

set_option maxHeartbeats 1000000 in
theorem names_any (n : Nat) (p : ByteArray) (w : World) :
    CallsIn Fence.wide n Tryz.prog 97 #[.string p] w fun e w' => e = .returned (.func (.func 125) #[] #[.pointer (some ⟨w.heap.size, 0, none⟩)]) ∧ w' = w.alloc (.cells #[.string p] 9) := by
  refine callsIn_of_wp Tryz.func97 rfl trivial ?_ rfl
  simp only [Tryz.ntmps97, List.size_toArray, List.length_cons, List.length_nil, Nat.reduceAdd, Nat.reduceSub, Array.replicate_succ, Array.replicate_zero, List.push_toArray, List.append_toArray, List.nil_append, List.cons_append]
  gi_wp2
  go_ret
  exact ⟨rfl, rfl⟩
/-- What names hands back goes through a path's names. -/
theorem names_stops (n : Nat) (hn : 1 ≤ n) (Bs : Nat) (p : ByteArray) (hp : p.size ≤ 1000000) (w : World) (hBs : Bs < w.heap.size) (hc : w.cell? ⟨Bs, 0, none⟩ = some (.string p)) :
    SeqStopsK Fence.wide n Tryz.prog 125 #[.pointer (some ⟨Bs, 0, none⟩)] (fun x : Nmp => #[.string x.1.1, .string x.1.2]) (KeepB Bs) (fun ys => ys = nToS p hp (nN p)) (fun pre => pre <+: nToS p hp (nN p)) (nN p) w := fun l J Jx W hW hJ _ hY h0 => by
  have hc' := (hW.cell (p := ⟨Bs, 0, none⟩) hBs).trans hc
  refine (names1_in n hn l Bs p hp J Jx (fun pre W' m h => hJ pre W' (W'.drewN m) none h (drew_grown _ _) (fun r e => by cases e)) hY W hc' h0).mono ?_
  rintro e W' ⟨he, ⟨ys, rfl, hj⟩ | ⟨pre, ⟨k, hk, rfl⟩, hj⟩⟩
  · exact ⟨he, .inl ⟨_, rfl, hj⟩⟩
  · exact ⟨he, .inr ⟨_, nToS_pre p hp hk, hj⟩⟩
end Go.Proofs.YtgfjjglejlnfbaaGreatDoor
