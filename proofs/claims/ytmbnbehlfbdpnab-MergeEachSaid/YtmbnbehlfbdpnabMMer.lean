/- The contracts of merge's whole and Merge. -/
import Derived.Test.YtmbnbehlfbdpnabMJoW
namespace Go.Proofs.Ytmbnbehlfbdpnab
open Go.RowKit

/-- Sizes of what is gone through. -/
def MayS (m : May) : Prop := m.value.size ≤ 1000000
theorem takeM_small {p : ByteArray} {l : List Fi} (h : FiS l) : MayS (takeM p l) := by
  cases l with
  | nil => exact Nat.zero_le _
  | cons f r =>
    simp only [takeM]
    split
    · exact (h f (by simp)).2
    · exact Nat.zero_le _
theorem takeL_small {p : ByteArray} {l : List Fi} (h : FiS l) : FiS (takeL p l) := by
  cases l with
  | nil => exact h
  | cons f r =>
    simp only [takeL]
    split
    · exact fun g hg => h g (by simp [hg])
    · exact h
theorem leastS_small {m : May} {l : List Fi} (hm : MayS m) (h : FiS l) : MayS (leastS m l) := by
  rcases leastS_from m l with e | ⟨f, r, rfl, e⟩
  · rw [e]; exact hm
  · rw [e]; exact (h f (by simp)).1
theorem least_small {a b c : List Fi} (ha : FiS a) (hb : FiS b) (hc : FiS c) : MayS (leastR a b c) := leastS_small (leastS_small (leastS_small (Nat.zero_le _) ha) hb) hc
theorem paths_small : ∀ (n : Nat) (a b c : List Fi), FiS a → FiS b → FiS c → ∀ p ∈ pathsL n a b c, p.1.size ≤ 1000000 ∧ MayS p.2.b ∧ MayS p.2.o ∧ MayS p.2.t
  | 0, _, _, _, _, _, _, p, hp => by simp [pathsL] at hp
  | n + 1, a, b, c, ha, hb, hc, p, hp => by
    simp only [pathsL] at hp
    split at hp
    · rcases List.mem_cons.1 hp with rfl | hp
      · exact ⟨least_small ha hb hc, takeM_small ha, takeM_small hb, takeM_small hc⟩
      · exact paths_small n _ _ _ (takeL_small ha) (takeL_small hb) (takeL_small hc) p hp
    · simp at hp
theorem joinF_small {a b c : List Fi} (ha : FiS a) (hb : FiS b) (hc : FiS c) : FiS (joinF (pathsA a b c)) := by
  intro f hf
  obtain ⟨p, hp, hf⟩ := List.mem_flatMap.1 hf
  obtain ⟨h1, h2, h3, h4⟩ := paths_small _ a b c ha hb hc p hp
  unfold fileOf at hf
  split at hf
  · split at hf
    · obtain rfl : f = _ := by simpa using hf
      refine ⟨h1, ?_⟩
      show (mergedR p.2).1.value.size ≤ 1000000
      unfold mergedR
      split
      · exact h4
      · split
        · exact h3
        · exact Nat.zero_le _
    · simp at hf
  · simp at hf

/-- What whole tells. -/
def wholeV (fs : List Fi) (v : Value) : Value := if repoB fs then .tuple #[.agg #[v], .int .i64 0] else .tuple #[.agg #[.slice none 0 0], .int .i64 6]
set_option maxRecDepth 100000 in
set_option maxHeartbeats 1000000 in
theorem whole_any (sp : Option Addr) (cap : Nat) (fs : List Fi) (w : World) (hr : RowsAt w 2 Fi.cells sp fs) (hl : fs.length ≤ 1000000) (hsm : FiS fs) :
    Calls Try.prog 13 #[.slice sp fs.length cap] w fun e w' => e = .returned (wholeV fs (.slice sp fs.length cap)) ∧ Below w.heap.size w w' := by
  have HR : Hid (RowsAt w 2 Fi.cells sp fs) := hr
  have HL : Hid _ := hl
  have HS : Hid _ := hsm
  clear hr hl hsm
  go_enter Try.func13, Try.ntmps13
  go_wp2_with fail
  have hB0 : Below w.heap.size w ((w.alloc (.cells #[.slice none 0 0] 24)).alloc (.cells #[.slice sp fs.length cap] 24)) := ((Below.refl _ _).alloc (Nat.le_refl _) _).alloc (by simp) _
  refine (tcheck_any sp cap fs _ (RowsAt.below HR.out hB0) HL.out HS.out).mono ?_
  rintro e W2 ⟨rfl, hB2⟩
  have hb : Below w.heap.size w W2 := hB0.trans (hB2.mono hB0.size)
  have r4 : W2.heap[w.heap.size + 1]? = some (.cells #[.slice sp fs.length cap] 24 (0, 0)) := by
    refine (hB2.block _ (by simp)).trans ?_
    have := heap_alloc_new (w.alloc (.cells #[.slice none 0 0] 24)) (.cells #[.slice sp fs.length cap] 24)
    rw [World.size_alloc] at this
    exact this
  have r2 : W2.heap[w.heap.size]? = some (.cells #[.slice none 0 0] 24 (0, 0)) := (hB2.block _ (by simp; omega)).trans ((Below.heap_alloc _ _ _ (by simp)).trans (heap_alloc_new _ _))
  have c4 : W2.cell? ⟨w.heap.size + 1, 0, none⟩ = some (.slice sp fs.length cap) := (cell_of_row _ _ _ _ _ _ r4).trans rfl
  have c2 : W2.cell? ⟨w.heap.size, 0, none⟩ = some (.slice none 0 0) := (cell_of_row _ _ _ _ _ _ r2).trans rfl
  have f2 : W2.frozen? ⟨w.heap.size, 0, none⟩ = false := frozen_of_row _ _ _ _ _ r2
  clear hB0 hB2
  cases hrb : repoB fs with
  | false =>
    rw [show checkR fs = 170 by unfold checkR; rw [hrb]; rfl]
    have HW : Hid (wholeV fs (.slice sp fs.length cap) = .tuple #[.agg #[.slice none 0 0], .int .i64 6]) := by show wholeV fs _ = _; unfold wholeV; rw [hrb]; rfl
    clear hrb
    go_wp2
    refine bodyPost_ret (v := .tuple #[.agg #[.slice none 0 0], .int .i64 6]) (results_cell_tmp Try.results13 _ _ w.heap.size 24 #[.slice none 0 0] (0, 0) _ _ rfl rfl ?_ Try.underlying24 rfl (by kernel_rfl)) rfl ⟨by rw [HW.out], hb.setCell (p := ⟨w.heap.size, 0, none⟩) (Nat.le_refl _) _⟩
    exact heap_setCell_same _ _ 0 _ _ _ r2
  | true =>
    rw [show checkR fs = 0 by unfold checkR; rw [hrb]; rfl]
    have HW : Hid (wholeV fs (.slice sp fs.length cap) = .tuple #[.agg #[.slice sp fs.length cap], .int .i64 0]) := by show wholeV fs _ = _; unfold wholeV; rw [hrb]; rfl
    clear hrb
    go_wp2
    refine bodyPost_ret (v := .tuple #[.agg #[.slice sp fs.length cap], .int .i64 0]) (results_cell_tmp Try.results13 _ _ w.heap.size 24 #[.slice sp fs.length cap] (0, 0) _ _ rfl rfl ?_ Try.underlying24 rfl (by kernel_rfl)) rfl ⟨by rw [HW.out], hb.setCell (p := ⟨w.heap.size, 0, none⟩) (Nat.le_refl _) _⟩
    exact heap_setCell_same _ _ 0 _ _ _ r2
theorem results_ctt {P : Program} {fn : Func} {p q r : Tmp} {ty : TypeId} (h : fn.results = #[.cell p ty, .tmp q, .tmp r]) (tmps : Array Value) (w : World) (g : Nat) (t : TypeId) (cs : Array Value) (fr : Nat × Nat) (d : TypeDesc) (u v : Value)
    (hp : tmps.getD p undef = .pointer (some ⟨g, 0, none⟩)) (hq : tmps.getD q undef = u) (hr : tmps.getD r undef = v) (hg : w.heap[g]? = some (.cells cs t fr))
    (hu : P.underlying ty = some d) (hd : (match d with | .struct _ | .array _ _ => true | _ => false) = true) (hi : (P.info? ty).map (·.size) = some cs.size) :
    (results fn tmps).run P w = .ok (.tuple #[.agg cs, u, v]) w := by
  have hp' : tmps[p]?.getD undef = .pointer (some ⟨g, 0, none⟩) := by simpa using hp
  have hq' : tmps[q]?.getD undef = u := by simpa using hq
  have hr' : tmps[r]?.getD undef = v := by simpa using hr
  simp [results, h, hp', hq', hr', asAddr, run_loadVar_row w g t ty cs fr d hg hu hd hi]

/-- What Merge tells. -/
def MergeP (w : World) (x y z : Sl) (e : Ending) (w' : World) : Prop :=
  (if right3 x.fs y.fs z.fs then
    (if joinC (pathsA x.fs y.fs z.fs) = [] then
      (if repoB (joinF (pathsA x.fs y.fs z.fs)) then ∃ vf, e = .returned (.tuple #[.agg #[vf], .slice none 0 0, .int .i64 0]) ∧ OwnF w.heap.size w' vf (joinF (pathsA x.fs y.fs z.fs))
        else e = .returned (.tuple #[.agg #[.slice none 0 0], .slice none 0 0, .int .i64 6]))
      else ∃ vc, e = .returned (.tuple #[.agg #[.slice none 0 0], vc, .int .i64 0]) ∧ OwnC w.heap.size w' vc (joinC (pathsA x.fs y.fs z.fs)))
    else e = .returned (.tuple #[.agg #[.slice none 0 0], .slice none 0 0, .int .i64 170])) ∧ Below w.heap.size w w'

set_option maxRecDepth 100000 in
set_option maxHeartbeats 1000000 in
theorem merge_any (x y z : Sl) (w : World) (hx : SlS w x) (hy : SlS w y) (hz : SlS w z) : Calls Try.prog 6 #[.agg #[.slice x.sp x.fs.length x.cap], .agg #[.slice y.sp y.fs.length y.cap], .agg #[.slice z.sp z.fs.length z.cap]] w (MergeP w x y z) := by
  have HX : Hid (SlS w x) := hx
  have HY : Hid (SlS w y) := hy
  have HZ : Hid (SlS w z) := hz
  clear hx hy hz
  go_enter Try.func6, Try.ntmps6
  go_wp2_with fail
  refine calls_gen (fun W1 => Below w.heap.size w W1 ∧ W1.heap[w.heap.size + 1 + 1 + 1]? = some (.cells #[.slice none 0 0] 24 (0, 0))) ⟨((((Below.refl _ _).alloc (Nat.le_refl _) _).alloc (by simp) _).alloc (by simp; omega) _).alloc (by simp; omega) _, ?_⟩ ?_
  · have := heap_alloc_new (((w.alloc (.cells #[.slice x.sp x.fs.length x.cap] 24)).alloc (.cells #[.slice y.sp y.fs.length y.cap] 24)).alloc (.cells #[.slice z.sp z.fs.length z.cap] 24)) (.cells #[.slice none 0 0] 24)
    simp only [World.size_alloc] at this
    exact this
  rintro W1 ⟨hB1, r1⟩
  have sl : ∀ s : Sl, SlS w s → SlS W1 s := fun s h => ⟨h.1.below hB1, h.2⟩
  refine (join_any x y z W1 (sl x HX.out) (sl y HY.out) (sl z HZ.out)).mono ?_
  rintro e W2 ⟨hj, hB2⟩
  have hb : Below w.heap.size w W2 := hB1.trans (hB2.mono hB1.size)
  have r2 : W2.heap[w.heap.size + 1 + 1 + 1]? = some (.cells #[.slice none 0 0] 24 (0, 0)) := (hB2.block _ (lt_of_row r1)).trans r1
  have c2 : W2.cell? ⟨w.heap.size + 1 + 1 + 1, 0, none⟩ = some (.slice none 0 0) := (cell_of_row _ _ _ _ _ _ r2).trans rfl
  have f2 : W2.frozen? ⟨w.heap.size + 1 + 1 + 1, 0, none⟩ = false := frozen_of_row _ _ _ _ _ r2
  have hle : w.heap.size ≤ W1.heap.size := hB1.size
  clear sl r1
  cases h3 : right3 x.fs y.fs z.fs with
  | false =>
    rw [h3] at hj
    obtain rfl := hj
    have HP : Hid (∀ e w', e = Ending.returned (.tuple #[.agg #[.slice none 0 0], .slice none 0 0, .int .i64 170]) → Below w.heap.size w w' → MergeP w x y z e w') := fun e w' he hb => ⟨by rw [h3]; exact he, hb⟩
    clear h3
    go_wp2
    refine bodyPost_ret (v := .tuple #[.agg #[.slice none 0 0], .slice none 0 0, .int .i64 170]) (results_ctt Try.results6 _ _ (w.heap.size + 1 + 1 + 1) 24 #[.slice none 0 0] (0, 0) _ _ _ rfl rfl rfl (heap_setCell_same _ _ 0 _ _ _ r2) Try.underlying24 rfl (by kernel_rfl)) rfl (HP.out _ _ rfl (hb.setCell (p := ⟨w.heap.size + 1 + 1 + 1, 0, none⟩) (by show w.heap.size ≤ w.heap.size + 1 + 1 + 1; omega) _))
  | true =>
    rw [h3] at hj
    obtain ⟨vf, vc, rfl, hof, hoc⟩ := hj
    obtain ⟨sc, cc, rfl, hrc, hnc, hcc, hmc⟩ := hoc.rows
    have HOC : Hid (OwnC w.heap.size W2 (.slice sc (joinC (pathsA x.fs y.fs z.fs)).length cc) (joinC (pathsA x.fs y.fs z.fs))) := by
      refine ⟨hoc.1, ?_⟩
      rcases hoc.2 with h | ⟨g, cap, cur, h1, h2, h3⟩
      · exact .inl h
      · exact .inr ⟨g, cap, cur, h1, Nat.le_trans hle h2, h3⟩
    have HOF : Hid (OwnF w.heap.size W2 vf (joinF (pathsA x.fs y.fs z.fs))) := hof.mono hle
    clear hrc hnc hcc hmc hof
    by_cases hc0 : joinC (pathsA x.fs y.fs z.fs) = []
    · have hd : decide ((0 : Int) < ((joinC (pathsA x.fs y.fs z.fs)).length : Int)) = false := by rw [hc0]; rfl
      have hd' : decide (0 < (joinC (pathsA x.fs y.fs z.fs)).length) = false := by rw [hc0]; rfl
      have HP : Hid (∀ e w', (if repoB (joinF (pathsA x.fs y.fs z.fs)) then ∃ vf, e = .returned (.tuple #[.agg #[vf], .slice none 0 0, .int .i64 0]) ∧ OwnF w.heap.size w' vf (joinF (pathsA x.fs y.fs z.fs)) else e = .returned (.tuple #[.agg #[.slice none 0 0], .slice none 0 0, .int .i64 6])) → Below w.heap.size w w' → MergeP w x y z e w') := fun e w' he hb => ⟨by rw [if_pos h3, if_pos hc0]; exact he, hb⟩
      have hfl : (joinF (pathsA x.fs y.fs z.fs)).length ≤ 48 := by
        have h1 := joinF_len (pathsA x.fs y.fs z.fs)
        have h2 := pathsA_len x.fs y.fs z.fs
        have h4 : right3 x.fs y.fs z.fs = true := h3
        unfold right3 repoB at h4
        simp only [Bool.and_eq_true, decide_eq_true_eq] at h4
        unfold len3 at h2
        omega
      clear hc0 h3 hoc
      obtain ⟨sf, cf, rfl, hrf, -⟩ := HOF.out.rows
      have HRF : Hid _ := hrf
      clear hrf
      have HSM : Hid (FiS (joinF (pathsA x.fs y.fs z.fs))) := joinF_small HX.out.2.2 HY.out.2.2 HZ.out.2.2
      go_wp2_with fail
      refine (whole_any sf cf (joinF (pathsA x.fs y.fs z.fs)) W2 HRF.out (by omega) HSM.out).mono ?_
      rintro e W3 ⟨rfl, hB3⟩
      have hb3 : Below w.heap.size w W3 := hb.trans (hB3.mono hb.size)
      have r3 : W3.heap[w.heap.size + 1 + 1 + 1]? = some (.cells #[.slice none 0 0] 24 (0, 0)) := (hB3.block _ (lt_of_row r2)).trans r2
      have c3 : W3.cell? ⟨w.heap.size + 1 + 1 + 1, 0, none⟩ = some (.slice none 0 0) := (cell_of_row _ _ _ _ _ _ r3).trans rfl
      have f3 : W3.frozen? ⟨w.heap.size + 1 + 1 + 1, 0, none⟩ = false := frozen_of_row _ _ _ _ _ r3
      have HOF3 : Hid (OwnF w.heap.size W3 (.slice sf (joinF (pathsA x.fs y.fs z.fs)).length cf) (joinF (pathsA x.fs y.fs z.fs))) := HOF.out.below hB3
      have hl3 := lt_of_row r3
      have hz3 : ∀ u : Value, (W3.setCell ⟨w.heap.size + 1 + 1 + 1, 0, none⟩ u).heap.size = W3.heap.size := fun u => by simp [World.setCell]
      have hs3 : ∀ (v u : Value), ((W3.setCell ⟨w.heap.size + 1 + 1 + 1, 0, none⟩ u).alloc (.cells #[v] 24)).heap[w.heap.size + 1 + 1 + 1]? = some (.cells #[u] 24 (0, 0)) := fun v u => (Below.heap_alloc _ _ _ (by rw [hz3]; exact hl3)).trans (heap_setCell_same _ _ 0 _ _ _ r3)
      have HS3 : Hid _ := hs3
      have hbl : ∀ (v u : Value), Below w.heap.size w ((W3.setCell ⟨w.heap.size + 1 + 1 + 1, 0, none⟩ u).alloc (.cells #[v] 24)) := fun v u => (hb3.setCell (p := ⟨w.heap.size + 1 + 1 + 1, 0, none⟩) (by show w.heap.size ≤ w.heap.size + 1 + 1 + 1; omega) _).alloc (by rw [hz3]; exact hb3.size) _
      have HBL : Hid _ := hbl
      have hof : ∀ (v u : Value), OwnF w.heap.size ((W3.setCell ⟨w.heap.size + 1 + 1 + 1, 0, none⟩ u).alloc (.cells #[v] 24)) (.slice sf (joinF (pathsA x.fs y.fs z.fs)).length cf) (joinF (pathsA x.fs y.fs z.fs)) := fun v u => HOF3.out.keep fun k hk => by
        obtain ⟨cs, hcs⟩ := HOF3.out.row hk
        rw [Below.heap_alloc _ _ _ (by rw [hz3]; exact (HOF3.out.lt hk).2), heap_setCell_other _ _ _ _ (fun e => by
          rw [e, r3] at hcs
          injection hcs with hcs
          injection hcs with _ hcs
          exact absurd hcs (by decide))]
      have HOF4 : Hid _ := hof
      clear hz3 hs3 hbl hof HOF HOC HRF HSM r2 c2 f2 hb hB3
      unfold wholeV
      cases hrb : repoB (joinF (pathsA x.fs y.fs z.fs)) with
      | false =>
        rw [hrb] at HP
        rw [if_neg (by simp)]
        clear hrb
        go_wp2
        refine bodyPost_ret (v := .tuple #[.agg #[.slice none 0 0], .slice none 0 0, .int .i64 6]) (results_ctt Try.results6 _ _ (w.heap.size + 1 + 1 + 1) 24 #[.slice none 0 0] (0, 0) _ _ _ rfl rfl rfl (HS3.out _ _) Try.underlying24 rfl (by kernel_rfl)) rfl (HP.out _ _ rfl (HBL.out _ _))
      | true =>
        rw [hrb] at HP
        rw [if_pos rfl]
        clear hrb
        go_wp2
        refine bodyPost_ret (v := .tuple #[.agg #[.slice sf (joinF (pathsA x.fs y.fs z.fs)).length cf], .slice none 0 0, .int .i64 0]) (results_ctt Try.results6 _ _ (w.heap.size + 1 + 1 + 1) 24 #[.slice sf (joinF (pathsA x.fs y.fs z.fs)).length cf] (0, 0) _ _ _ rfl rfl rfl (HS3.out _ _) Try.underlying24 rfl (by kernel_rfl)) rfl (HP.out _ _ ⟨_, rfl, HOF4.out _ _⟩ (HBL.out _ _))
    · have hpos : 0 < (joinC (pathsA x.fs y.fs z.fs)).length := List.length_pos_iff.2 hc0
      have hd : decide ((0 : Int) < ((joinC (pathsA x.fs y.fs z.fs)).length : Int)) = true := by simp; omega
      have HP : Hid (∀ e w', (∃ vc, e = .returned (.tuple #[.agg #[.slice none 0 0], vc, .int .i64 0]) ∧ OwnC w.heap.size w' vc (joinC (pathsA x.fs y.fs z.fs))) → Below w.heap.size w w' → MergeP w x y z e w') := fun e w' he hb => ⟨by rw [if_pos h3, if_neg hc0]; exact he, hb⟩
      have HOC4 : Hid (OwnC w.heap.size (W2.setCell ⟨w.heap.size + 1 + 1 + 1, 0, none⟩ (.slice none 0 0)) (.slice sc (joinC (pathsA x.fs y.fs z.fs)).length cc) (joinC (pathsA x.fs y.fs z.fs))) := HOC.out.keep fun k hk => by
        obtain ⟨cs, hcs⟩ := HOC.out.row hk
        exact heap_setCell_other _ _ _ _ (fun e => by
          rw [e, r2] at hcs
          injection hcs with hcs
          injection hcs with _ hcs
          exact absurd hcs (by decide))
      clear hc0 h3 hoc HOF HOC
      go_wp2
      refine bodyPost_ret (v := .tuple #[.agg #[.slice none 0 0], .slice sc (joinC (pathsA x.fs y.fs z.fs)).length cc, .int .i64 0]) (results_ctt Try.results6 _ _ (w.heap.size + 1 + 1 + 1) 24 #[.slice none 0 0] (0, 0) _ _ _ rfl rfl rfl (heap_setCell_same _ _ 0 _ _ _ r2) Try.underlying24 rfl (by kernel_rfl)) rfl (HP.out _ _ ⟨_, rfl, HOC4.out⟩ (hb.setCell (p := ⟨w.heap.size + 1 + 1 + 1, 0, none⟩) (by show w.heap.size ≤ w.heap.size + 1 + 1 + 1; omega) _))
end Go.Proofs.Ytmbnbehlfbdpnab
