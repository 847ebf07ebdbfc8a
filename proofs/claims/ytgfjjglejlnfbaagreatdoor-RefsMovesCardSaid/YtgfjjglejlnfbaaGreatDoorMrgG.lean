/- refs' number and allowed, slices' Clone: of no parents. -/
/- tree's build, of nothing. -/
/- tree's Split, of nothing. -/
/- The Ids of the folder of nothing and of the commit over it, as keys. -/
import Derived.Test.YtgfjjglejlnfbaaGreatDoorMrgE
import Derived.Test.YtgfjjglejlnfbaaGreatDoorTChk
import Derived.Test.YtgfjjglejlnfbaaGreatDoorFsX
import Derived.Test.YtgfjjglejlnfbaaGreatDoorFiC
namespace Go.Proofs.YtgfjjglejlnfbaaGreatDoor
open Go.RowKit Go.Maps

set_option maxRecDepth 100000 in
set_option maxHeartbeats 400000 in
theorem number_nil (v u : Value) (w : World) : Calls Tryz.prog 59 #[.agg #[v, u], .slice none 0 0] w fun e w' => e = .returned (.int .u32 0) ∧ w' = w.alloc (.cells #[v, u] 105) := by
  go_enter Tryz.func59, Tryz.ntmps59
  go_wp2
  obtain ⟨W0, HW0⟩ : ∃ W0, Hid (w.alloc (.cells #[v, u] 105) = W0) := ⟨_, rfl⟩
  rw [HW0.out]
  go_loopw [5, 12] (fun n i wr => n = .int .u32 0 ∧ i = .int .i64 0 ∧ wr = W0) (fun _ _ _ => 0)
  case atStart => exact ⟨rfl, rfl, rfl⟩
  case round =>
    obtain ⟨rfl, rfl, rfl⟩ := hrel
    go_wp2
    go_ret
    exact ⟨rfl, HW0.out.symm⟩
set_option maxRecDepth 100000 in
set_option maxHeartbeats 400000 in
theorem clone_nil (w : World) : Calls Tryz.prog 58 #[.slice none 0 0] w fun e w' => e = .returned (.slice none 0 0) ∧ w' = w := by
  have hq : (binOp .eql 47 (.slice none 0 0) (.slice none 0 0)).run Tryz.prog w = .ok (.bool true) w := by kernel_rfl
  go_enter Tryz.func58, Tryz.ntmps58
  go_wp2
  go_ret
  exact ⟨rfl, rfl⟩
set_option maxRecDepth 100000 in
set_option maxHeartbeats 400000 in
theorem allowed_nil (v u : Value) (w : World) : Calls Tryz.prog 56 #[.agg #[v, u], .agg #[.slice none 0 0], .slice none 0 0, .string ⟨#[]⟩] w fun e w' => e = .returned (.int .i64 0) ∧ Below w.heap.size w w' := by
  go_enter Tryz.func56, Tryz.ntmps56
  go_wp2_with fail
  refine calls_gen (fun W => Below w.heap.size w W) (((Below.refl _ _).alloc (Nat.le_refl _) _).alloc (by simp) _) ?_
  intro W1 b1
  refine (tcheck_any none 0 [] W1 RowsAt.none (by simp) (by intro f hf; simp at hf)).mono ?_
  rintro e W2 ⟨rfl, b2⟩
  have hc : checkR [] = 0 := by decide +kernel
  rw [hc]
  have B2 : Hid (Below w.heap.size w W2) := b1.trans (b2.mono b1.size)
  clear b1 b2 hc
  go_wp2
  go_loopw [32] (fun i wr => i = .int .i64 0 ∧ wr = W2) (fun _ _ => 0)
  case atStart => exact ⟨rfl, rfl⟩
  case round =>
    obtain ⟨rfl, rfl⟩ := hrel
    go_wp2
    go_loopw [48] (fun i wr' => i = .int .i64 0 ∧ wr' = wr) (fun _ _ => 0)
    case atStart => exact ⟨rfl, rfl⟩
    case round =>
      rename_i wO
      obtain ⟨rfl, rfl⟩ := hrel
      go_wp2
      go_ret
      exact ⟨rfl, B2.out⟩
end Go.Proofs.YtgfjjglejlnfbaaGreatDoor

namespace Go.Proofs.YtgfjjglejlnfbaaGreatDoor
open Go.RowKit

def noCo : Co := ⟨0, fun _ => 0, [], []⟩
/-- The folder of nothing. -/
def noTree : Ob := ⟨2, .slice none 0 0, .slice none 0 0, fun _ => 0, .slice none 0 0, 0, ⟨#[]⟩⟩
theorem noTree_right : rightB noTree noCo = true := by decide +kernel
theorem noTree_enc : encB noTree noCo = mAL := by decide +kernel
theorem bld_tree (W : World) : (Instr.build 65 [(0, .int .i64 2), (2, .slice none 0 0)].toArray).run Tryz.prog W = .ok (.agg noTree.cells) W := by kernel_rfl
theorem finder_in (v : Value) (W : World) : Calls Tryz.prog 65 #[.agg #[v]] W fun e w' => ∃ u, e = .returned u ∧ w' = W.alloc (.cells #[v] 58) := by
  refine (finder_any v W).mono ?_
  rintro e w' ⟨rfl, rfl⟩
  exact ⟨_, rfl, rfl⟩
theorem has_tree (w : World) : Has w noTree noCo :=
  ⟨⟨none, 0, rfl, fun h => absurd h (Nat.lt_irrefl 0)⟩, ⟨none, 0, rfl, RowsAt.none⟩, ⟨none, 0, rfl, RowsAt.none⟩, fun i hi => by simp [noCo] at hi, fun n cap h => by injection h with _ _ h; exact h.symm, by simp [noCo], by simp [noCo], by simp [noCo]⟩
theorem fit_tree : Fit noTree noCo := ⟨by simp [noCo], fun i => by simp [noTree], by simp [noCo], by simp [noTree]⟩
set_option maxRecDepth 100000 in
set_option maxHeartbeats 400000 in
theorem build_none (K : Nat → Int) (S : St) (g : Nat) (w : World) (hT : Tab w K S) (hg : w.heap[g]? = some (.cells #[.slice none 0 0] 46 (0, 0))) :
    Calls Tryz.prog 88 #[.pointer (some ⟨g, 0, none⟩), .agg #[.slice none 0 0], .string ByteArray.empty] w (KeepX g (heOf (digF K S (encB noTree noCo)) noTree rfl rfl rfl) w) := by
  have HT : Hid _ := hT
  have HG : Hid _ := hg
  clear hT hg
  go_enter Tryz.func88, Tryz.ntmps88
  go_wp2_with fail
  refine calls_gen (fun W1 => Below w.heap.size w W1 ∧ W1.heap[w.heap.size]? = some (.cells #[.slice none 0 0] 58 (0, 0)) ∧ W1.heap[w.heap.size + 1]? = some (.cells (arr .u8 32 fun _ => 0) 26 (0, 0))) ⟨((Below.refl _ _).alloc (Nat.le_refl _) _).alloc (by simp) _, heap_alloc2_old _ _ _, (heap_alloc2_new _ _ _).trans rfl⟩ ?_
  intro W1 ⟨b1, r0, r1⟩
  refine (finder_in (.slice none 0 0) W1).mono ?_
  rintro e W2 ⟨u, rfl, hW2⟩
  have b12 : Below W1.heap.size W1 W2 := by rw [hW2]; exact (Below.refl _ _).alloc (Nat.le_refl _) _
  have f2 : Below w.heap.size w W2 := b1.trans (b12.mono b1.size)
  have c2 : W2.cell? ⟨w.heap.size, 0, none⟩ = some (.slice none 0 0) := (cell_of_row _ _ _ _ _ _ ((b12.block _ (lt_of_row r0)).trans r0)).trans rfl
  have R2 : Hid (W2.heap[w.heap.size + 1]? = some (.cells (arr .u8 32 fun _ => 0) 26 (0, 0))) := (b12.block _ (lt_of_row r1)).trans r1
  clear r0 r1 hW2 b1 b12
  go_wp2_with fail
  refine (entries_none W2).mono ?_
  rintro e W3 ⟨rfl, b3⟩
  have f3 : Below w.heap.size w W3 := f2.trans (b3.mono f2.size)
  have R3 : Hid (W3.heap[w.heap.size + 1]? = some (.cells (arr .u8 32 fun _ => 0) 26 (0, 0))) := (b3.block _ (lt_of_row R2.out)).trans R2.out
  clear b3 f2 c2 R2
  go_wp2
  refine wp_loop_rounds 1 ?_
  rw [rounds_succ]
  have HBT : Hid (∀ W, (Instr.build 65 [(0, .int .i64 2), (2, .slice none 0 0)].toArray).run Tryz.prog W = .ok (.agg noTree.cells) W) := bld_tree
  go_wp2_with (refine wpList_build (by rfl) 65 _ (by rfl) [(0, .int .i64 2), (2, .slice none 0 0)] (by rfl) (.agg noTree.cells) (HBT.out _) ?_)
  have G3 : Hid (W3.heap[g]? = some (.cells #[.slice none 0 0] 46 (0, 0))) := (f3.block _ (lt_of_row HG.out)).trans HG.out
  refine (keep_none K S g noTree noCo W3 (HT.out.below f3) (has_tree W3) fit_tree noTree_right rfl rfl rfl G3.out).mono ?_
  generalize hx : heOf (digF K S (encB noTree noCo)) noTree rfl rfl rfl = x
  have HX : Hid _ := hx
  clear hx
  rintro e W4 ⟨rfl, ⟨v, hv, hO⟩, hG4⟩
  have hlt := lt_of_row HG.out
  have R4 : Hid (W4.heap[w.heap.size + 1]? = some (.cells (arr .u8 32 fun _ => 0) 26 (0, 0))) := (hG4.block _ (lt_of_row R3.out) (fun e => by injection e with e; omega)).trans R3.out
  have HV : Hid _ := hv
  have HO4 : Hid _ := hO
  have hl3 := lt_of_row R3.out
  generalize hD : x.id = D
  have HD : Hid _ := hD
  clear hv hO hD HBT
  go_wp2_with (refine wpList_store_row (by rfl) 26 (.tmp 6) _ (by rfl) (w.heap.size + 1) (arr .u8 32 D) (by rfl) (by rfl) 26 _ R4.out (by rw [arr_size]; kernel_rfl) (by rw [arr_size, arr_size]) (arr_one _ _ _) ?_)
  refine bodyPost_ret (v := .tuple #[.agg (arr .u8 32 D), .int .i64 0]) (results_cell_tmp Tryz.results88 _ _ (w.heap.size + 1) 26 _ (0, 0) _ _ rfl rfl (heap_setRow_same R4.out) Tryz.underlying26 rfl (by rw [arr_size]; kernel_rfl)) rfl ?_
  rw [HX.out]
  have hr5 : ∀ k, k ≠ w.heap.size + 1 → (W4.setRow (w.heap.size + 1) (arr .u8 32 D)).heap[k]? = W4.heap[k]? := fun k hk => setRow_other _ _ _ _ hk
  have hq5 := below_setRow' (Below.refl 0 W4) (Nat.zero_le _) (g := w.heap.size + 1) (arr .u8 32 D)
  refine ⟨by rw [HD.out], ⟨v, (hr5 g (by omega)).trans HV.out, OwnH.mono (OwnH.keep HO4.out fun j hj => hr5 j (by have := (OwnH.lt HO4.out hj).1; omega)) f3.size⟩, ⟨hq5.os.trans (hG4.os.trans f3.os), hq5.tape.trans (hG4.tape.trans f3.tape), hq5.output.trans (hG4.output.trans f3.output), Nat.le_trans f3.size (Nat.le_trans hG4.size hq5.size), fun k hk hkg => (hr5 k (by omega)).trans ((hG4.block k (Nat.lt_of_lt_of_le hk f3.size) hkg).trans (f3.block k hk))⟩⟩
end Go.Proofs.YtgfjjglejlnfbaaGreatDoor

namespace Go.Proofs.YtgfjjglejlnfbaaGreatDoor
open Go.RowKit

/-- The folder of nothing, as it is held. -/
def treeHe (K : Nat → Int) (S : St) : He := heOf (digF K S (encB noTree noCo)) noTree rfl rfl rfl
theorem results_cct {P : Program} {fn : Func} {p q r : Tmp} {ty ty2 : TypeId} (h : fn.results = #[.cell p ty, .cell q ty2, .tmp r]) (tmps : Array Value) (w : World) (g g2 : Nat) (t t2 : TypeId) (cs cs2 : Array Value) (fr fr2 : Nat × Nat) (d d2 : TypeDesc) (v : Value)
    (hp : tmps.getD p undef = .pointer (some ⟨g, 0, none⟩)) (hq : tmps.getD q undef = .pointer (some ⟨g2, 0, none⟩)) (hr : tmps.getD r undef = v) (hg : w.heap[g]? = some (.cells cs t fr)) (hg2 : w.heap[g2]? = some (.cells cs2 t2 fr2))
    (hu : P.underlying ty = some d) (hd : (match d with | .struct _ | .array _ _ => true | _ => false) = true) (hi : (P.info? ty).map (·.size) = some cs.size)
    (hu2 : P.underlying ty2 = some d2) (hd2 : (match d2 with | .struct _ | .array _ _ => true | _ => false) = true) (hi2 : (P.info? ty2).map (·.size) = some cs2.size) :
    (results fn tmps).run P w = .ok (.tuple #[.agg cs, .agg cs2, v]) w := by
  have hp' : tmps[p]?.getD undef = .pointer (some ⟨g, 0, none⟩) := by simpa using hp
  have hq' : tmps[q]?.getD undef = .pointer (some ⟨g2, 0, none⟩) := by simpa using hq
  have hr' : tmps[r]?.getD undef = v := by simpa using hr
  simp [results, h, hp', hq', hr', asAddr, run_loadVar_row w g t ty cs fr d hg hu hd hi, run_loadVar_row w g2 t2 ty2 cs2 fr2 d2 hg2 hu2 hd2 hi2]
set_option maxRecDepth 100000 in
set_option maxHeartbeats 400000 in
theorem split_none (K : Nat → Int) (S : St) (w : World) (hT : Tab w K S) :
    Calls Tryz.prog 57 #[.agg #[.slice none 0 0]] w fun e w' => ∃ v, e = .returned (.tuple #[.agg #[v], .agg (arr .u8 32 (treeHe K S).id), .int .i64 0]) ∧ OwnH w.heap.size w' v [treeHe K S] ∧ Below w.heap.size w w' := by
  have HT : Hid _ := hT
  have HBN : Hid (∀ (g : Nat) (w : World), Tab w K S → w.heap[g]? = some (.cells #[.slice none 0 0] 46 (0, 0)) → Calls Tryz.prog 88 #[.pointer (some ⟨g, 0, none⟩), .agg #[.slice none 0 0], .string ⟨#[]⟩] w (KeepX g (treeHe K S) w)) := fun g w h1 h2 => build_none K S g w h1 h2
  clear hT
  generalize treeHe K S = x at *
  generalize hD : x.id = D
  have HD : Hid _ := hD
  clear hD
  go_enter Tryz.func57, Tryz.ntmps57
  go_wp2_with fail
  refine calls_gen (fun W1 => Below w.heap.size w W1 ∧ W1.heap[w.heap.size]? = some (.cells #[.slice none 0 0] 58 (0, 0)) ∧ W1.heap[w.heap.size + 1]? = some (.cells #[.slice none 0 0] 46 (0, 0)) ∧ W1.heap[w.heap.size + 1 + 1]? = some (.cells (arr .u8 32 fun _ => 0) 26 (0, 0))) ?_ ?_
  · have n2 := heap_alloc_new ((w.alloc (.cells #[.slice none 0 0] 58)).alloc (.cells #[.slice none 0 0] 46)) (.cells (arr .u8 32 fun _ => 0) 26)
    have n1 := heap_alloc_new (w.alloc (.cells #[.slice none 0 0] 58)) (.cells #[.slice none 0 0] 46)
    have n0 := heap_alloc_new w (.cells #[.slice none 0 0] 58)
    simp only [World.size_alloc] at n1 n2
    exact ⟨(((Below.refl _ _).alloc (Nat.le_refl _) _).alloc (by simp) _).alloc (by simp; omega) _, (Below.heap_alloc _ _ _ (by simp; omega)).trans ((Below.heap_alloc _ _ _ (by simp)).trans n0), (Below.heap_alloc _ _ _ (by simp)).trans n1, n2⟩
  rintro W1 ⟨b1, r0, r1, r2⟩
  refine (tcheck_any none 0 [] W1 RowsAt.none (by simp) (by intro f hf; simp at hf)).mono ?_
  rintro e W2 ⟨rfl, b2⟩
  have hc : checkR [] = 0 := by decide +kernel
  rw [hc]
  have f2 : Below w.heap.size w W2 := b1.trans (b2.mono b1.size)
  have c0 : W2.cell? ⟨w.heap.size, 0, none⟩ = some (.slice none 0 0) := (cell_of_row _ _ _ _ _ _ ((b2.block _ (lt_of_row r0)).trans r0)).trans rfl
  have R1 : Hid (W2.heap[w.heap.size + 1]? = some (.cells #[.slice none 0 0] 46 (0, 0))) := (b2.block _ (lt_of_row r1)).trans r1
  have R2 : Hid (W2.heap[w.heap.size + 1 + 1]? = some (.cells (arr .u8 32 fun _ => 0) 26 (0, 0))) := (b2.block _ (lt_of_row r2)).trans r2
  have l2 := lt_of_row R2.out
  have l0 : w.heap.size < W2.heap.size := by omega
  have c0a : (W2.alloc (.cells #[.slice none 0 0] 46)).cell? ⟨w.heap.size, 0, none⟩ = some (.slice none 0 0) := (Below.cell ((Below.refl W2.heap.size W2).alloc (Nat.le_refl _) _) (p := ⟨w.heap.size, 0, none⟩) l0).trans c0
  clear r0 r1 r2 b1 b2 hc
  go_wp2_with fail
  refine calls_gen (fun W3 => Below W2.heap.size W2 W3 ∧ W3.heap[W2.heap.size]? = some (.cells #[.slice none 0 0] 46 (0, 0))) ⟨(Below.refl _ _).alloc (Nat.le_refl _) _, heap_alloc_new _ _⟩ ?_
  rintro W3 ⟨b3, r3⟩
  have f3 : Below w.heap.size w W3 := f2.trans (b3.mono f2.size)
  refine (HBN.out W2.heap.size W3 (HT.out.below f3) r3).mono ?_
  rintro e W4 ⟨rfl, ⟨v, hv, hO⟩, hG4⟩
  obtain ⟨sp4, cap4, hv4, -, -⟩ := OwnH.rows hO
  have hv5 : v = .slice sp4 1 cap4 := hv4
  clear hv4
  subst hv5
  rw [HD.out]
  have l3 := lt_of_row r3
  have HV : Hid (∀ W, Below W4.heap.size W4 W → W.heap[W2.heap.size]? = some (.cells #[.slice sp4 1 cap4] 46 (0, 0))) := fun W h => (h.block _ (lt_of_row hv)).trans hv
  have HR1 : Hid (∀ W, Below W4.heap.size W4 W → W.heap[w.heap.size + 1]? = some (.cells #[.slice none 0 0] 46 (0, 0))) := fun W h => by
    have q := (b3.block _ (lt_of_row R1.out)).trans R1.out
    have q4 := (hG4.block _ (lt_of_row q) (fun e => by injection e with e; omega)).trans q
    exact (h.block _ (lt_of_row q4)).trans q4
  have HR2 : Hid (∀ W, Below W4.heap.size W4 W → W.heap[w.heap.size + 1 + 1]? = some (.cells (arr .u8 32 fun _ => 0) 26 (0, 0))) := fun W h => by
    have q := (b3.block _ (lt_of_row R2.out)).trans R2.out
    have q4 := (hG4.block _ (lt_of_row q) (fun e => by injection e with e; omega)).trans q
    exact (h.block _ (lt_of_row q4)).trans q4
  have f4 : Below w.heap.size w W4 := ⟨hG4.os.trans f3.os, hG4.tape.trans f3.tape, hG4.output.trans f3.output, Nat.le_trans f3.size hG4.size, fun k hk => (hG4.block k (Nat.lt_of_lt_of_le hk f3.size) (fun e => by injection e with e; omega)).trans (f3.block k hk)⟩
  have HO4 : Hid _ := hO
  clear hO hv
  go_wp2_with (first
    | (refine wpList_store_row (by rfl) 26 (.tmp 7) (.tmp 19) (by rfl) W4.heap.size (arr .u8 32 D) (by rfl) (by rfl) 26 _ (heap_alloc_new _ _) (by rw [arr_size]; kernel_rfl) (by rw [arr_size]; rfl) (arr_one _ _ _) ?_; refine wpList_gen (fun W => Below W4.heap.size W4 W ∧ W.heap[W4.heap.size]? = some (.cells (arr .u8 32 D) 26 (0, 0))) ⟨below_setRow' ((Below.refl _ _).alloc (Nat.le_refl _) _) (Nat.le_refl _) _, heap_setRow_same (heap_alloc_new _ _)⟩ ?_; intro W5 hW5; have HW5 : Hid _ := hW5; have c5 : W5.cell? ⟨W2.heap.size, 0, none⟩ = some (.slice sp4 1 cap4) := (cell_of_row _ _ _ _ _ _ (HV.out W5 hW5.1)).trans rfl; have c6 : W5.cell? ⟨w.heap.size + 1, 0, none⟩ = some (.slice none 0 0) := (cell_of_row _ _ _ _ _ _ (HR1.out W5 hW5.1)).trans rfl; have z6 : W5.frozen? ⟨w.heap.size + 1, 0, none⟩ = false := frozen_of_row _ _ _ _ _ (HR1.out W5 hW5.1); have HR5 : Hid _ := (show (W5.setCell ⟨w.heap.size + 1, 0, none⟩ (.slice sp4 1 cap4)).heap[w.heap.size + 1 + 1]? = W5.heap[w.heap.size + 1 + 1]? from heap_setCell_other _ _ _ _ (by show w.heap.size + 1 + 1 ≠ w.heap.size + 1; omega)).trans (HR2.out W5 hW5.1); clear hW5)
    | (refine wpList_load_row (by rfl) 26 (.tmp 7) (by rfl) W4.heap.size (by rfl) 26 (arr .u8 32 D) (0, 0) _ HW5.out.2 Tryz.underlying26 rfl (by rw [arr_size]; kernel_rfl) ?_)
    | (refine wpList_store_row (by rfl) 26 (.tmp 3) _ (by rfl) (w.heap.size + 1 + 1) (arr .u8 32 D) (by rfl) (by rfl) 26 _ HR5.out (by rw [arr_size]; kernel_rfl) (by rw [arr_size, arr_size]) (arr_one _ _ _) ?_))
  have V5 := HV.out W5 HW5.out.1
  have q1 := HR1.out W5 HW5.out.1
  have q2 := HR2.out W5 HW5.out.1
  have l4 : W2.heap.size < W4.heap.size := by have := lt_of_row (HV.out W4 (Below.refl _ _)); exact this
  have hS0 : W5.drew.heap[W2.heap.size]? = some (.cells #[.slice sp4 1 cap4] 46 (0, 0)) ∧ W5.drew.heap[W4.heap.size]? = some (.cells (arr .u8 32 D) 26 (0, 0)) := ⟨V5, HW5.out.2⟩
  refine mv_begin (S := fun w' => w'.heap[W2.heap.size]? = some (.cells #[.slice sp4 1 cap4] 46 (0, 0)) ∧ w'.heap[W4.heap.size]? = some (.cells (arr .u8 32 D) 26 (0, 0))) 5 rfl (by kernel_rfl) ?_
  refine mv_row 0 26 46 (.tmp 6) rfl W2.heap.size 46 #[.slice sp4 1 cap4] (0, 0) rfl (by kernel_rfl) (by kernel_rfl) (by kernel_rfl) (fun _ _ _ h => h) _ (fun w' hw' => hw'.1) Tryz.underlying46 rfl (by kernel_rfl) hS0 ?_
  simp only [List.setIfInBounds_toArray, List.set_cons_succ, List.set_cons_zero]
  refine mv_row 1 27 26 (.tmp 7) rfl W4.heap.size 26 (arr .u8 32 D) (0, 0) rfl (by kernel_rfl) (by kernel_rfl) (by kernel_rfl) (fun _ _ _ h => h) _ (fun w' hw' => hw'.2) Tryz.underlying26 rfl (by rw [arr_size]; kernel_rfl) hS0 ?_
  simp only [List.setIfInBounds_toArray, List.set_cons_succ, List.set_cons_zero]
  have hS1 : (W5.drew.setRow (w.heap.size + 1) #[.slice sp4 1 cap4]).heap[W2.heap.size]? = some (.cells #[.slice sp4 1 cap4] 46 (0, 0)) ∧ (W5.drew.setRow (w.heap.size + 1) #[.slice sp4 1 cap4]).heap[W4.heap.size]? = some (.cells (arr .u8 32 D) 26 (0, 0)) := ⟨(setRow_other _ _ _ _ (by omega)).trans hS0.1, (setRow_other _ _ _ _ (by omega)).trans hS0.2⟩
  refine mv_next_store 2 46 (.tmp 2) (.tmp 26) rfl (by kernel_rfl) (w.heap.size + 1) 46 #[.slice sp4 1 cap4] _ rfl rfl q1 (by kernel_rfl) rfl (by kernel_rfl) hS1 ?_
  have q3 : (W5.drew.setRow (w.heap.size + 1) #[.slice sp4 1 cap4]).heap[w.heap.size + 1 + 1]? = some (.cells (arr .u8 32 fun _ => 0) 26 (0, 0)) := (setRow_other _ _ _ _ (by omega)).trans q2
  have q4 : (W5.drew.setRow (w.heap.size + 1) #[.slice sp4 1 cap4]).heap[w.heap.size + 1]? = some (.cells #[.slice sp4 1 cap4] 46 (0, 0)) := heap_setRow_same (w := W5.drew) q1
  have f6 : Below w.heap.size w (W5.drew.setRow (w.heap.size + 1) #[.slice sp4 1 cap4]) := below_setRow' (f4.trans (HW5.out.1.drew.mono f4.size)) (by omega) _
  have hO6 : OwnH W3.heap.size (W5.drew.setRow (w.heap.size + 1) #[.slice sp4 1 cap4]) (.slice sp4 1 cap4) [x] := OwnH.keep HO4.out fun j hj => (setRow_other _ _ _ _ (by have := (OwnH.lt HO4.out hj).1; have := b3.size; omega)).trans (HW5.out.1.drew.block _ (OwnH.lt HO4.out hj).2)
  generalize W5.drew.setRow (w.heap.size + 1) #[.slice sp4 1 cap4] = W6 at *
  have hS2 : (W6.setRow (w.heap.size + 1 + 1) (arr .u8 32 D)).heap[W2.heap.size]? = some (.cells #[.slice sp4 1 cap4] 46 (0, 0)) ∧ (W6.setRow (w.heap.size + 1 + 1) (arr .u8 32 D)).heap[W4.heap.size]? = some (.cells (arr .u8 32 D) 26 (0, 0)) := ⟨(setRow_other _ _ _ _ (by omega)).trans hS1.1, (setRow_other _ _ _ _ (by omega)).trans hS1.2⟩
  refine mv_next_store 3 26 (.tmp 3) (.tmp 27) rfl (by kernel_rfl) (w.heap.size + 1 + 1) 26 (arr .u8 32 D) _ rfl rfl q3 (by rw [arr_size]; kernel_rfl) (by rw [arr_size, arr_size]) (arr_one _ _ _) hS2 ?_
  refine mv_rung 4 4 (.int .i64 0) rfl (by rfl) (by kernel_rfl) (by kernel_rfl) (by kernel_rfl) (fun _ _ _ h => h) (fun w' _ => by first | rfl | go_simp) hS2 ?_
  simp only [List.setIfInBounds_toArray, List.set_cons_succ, List.set_cons_zero]
  refine wpAnyH_done (by kernel_rfl) ?_ _
  have q5 := heap_setRow_same (cs := arr .u8 32 D) q3
  have q6 := (setRow_other W6 (w.heap.size + 1 + 1) (w.heap.size + 1) (arr .u8 32 D) (by omega)).trans q4
  have f7 := below_setRow' f6 (g := w.heap.size + 1 + 1) (by omega) (arr .u8 32 D)
  have hO7 : OwnH w.heap.size (W6.setRow (w.heap.size + 1 + 1) (arr .u8 32 D)) (.slice sp4 1 cap4) [x] := OwnH.mono (OwnH.keep hO6 fun j hj => setRow_other _ _ _ _ (by have := (OwnH.lt hO6 hj).1; have := b3.size; omega)) f3.size
  generalize W6.setRow (w.heap.size + 1 + 1) (arr .u8 32 D) = W7 at *
  go_wp2
  exact bodyPost_ret (v := .tuple #[.agg #[.slice sp4 1 cap4], .agg (arr .u8 32 D), .int .i64 0]) (results_cct Tryz.results57 _ _ (w.heap.size + 1) (w.heap.size + 1 + 1) 46 26 _ _ (0, 0) (0, 0) _ _ _ rfl rfl rfl q6 q5 Tryz.underlying46 rfl (by kernel_rfl) Tryz.underlying26 rfl (by rw [arr_size]; kernel_rfl)) rfl ⟨_, rfl, hO7, f7⟩
end Go.Proofs.YtgfjjglejlnfbaaGreatDoor

namespace Go.Proofs.YtgfjjglejlnfbaaGreatDoor
open Go.RowKit Go.Maps

def dAf (i : Nat) : Int := dAL.getD i 0
def dBf (i : Nat) : Int := dBL.getD i 0
theorem dAf_byte (i : Nat) : 0 ≤ dAf i ∧ dAf i ≤ 255 := by
  by_cases h : i < 32
  · have key : ∀ j, j < 32 → 0 ≤ dAf j ∧ dAf j ≤ 255 := by decide +kernel
    exact key i h
  · have : dAf i = 0 := by
      unfold dAf
      rw [List.getD_eq_getElem?_getD, List.getElem?_eq_none (by show 32 ≤ i; omega)]
      rfl
    rw [this]
    omega
/-- The commit over nothing. -/
def comOb : Ob := ⟨3, .slice none 0 0, .slice none 0 0, dAf, .slice none 0 0, 0, ⟨#[]⟩⟩
theorem com_right : rightB comOb noCo = true := by decide +kernel
theorem com_enc : encB comOb noCo = mBL := by decide +kernel
theorem has_com (w : World) : Has w comOb noCo :=
  ⟨⟨none, 0, rfl, fun h => absurd h (Nat.lt_irrefl 0)⟩, ⟨none, 0, rfl, RowsAt.none⟩, ⟨none, 0, rfl, RowsAt.none⟩, fun i hi => by simp [noCo] at hi, fun n cap h => by injection h with _ _ h; exact h.symm, by simp [noCo], by simp [noCo], by simp [noCo]⟩
theorem fit_com : Fit comOb noCo := ⟨by simp [noCo], fun i => dAf_byte i, by simp [noCo], by simp [comOb]⟩
theorem same_tree : sameB noTree noCo noTree noCo = true := by decide +kernel
theorem same_com : sameB comOb noCo comOb noCo = true := by decide +kernel
def hA : He := ⟨dAf, noTree, rfl, rfl, rfl⟩
def hB : He := ⟨dBf, comOb, rfl, rfl, rfl⟩
theorem tree_cells : (treeHe kF hS).cells = hA.cells := by
  unfold He.cells
  have e : arr .u8 32 (treeHe kF hS).id = arr .u8 32 dAf := arr_congr fun i hi => by
    show digF kF hS (encB noTree noCo) i = dAf i
    rw [noTree_enc, mA_dig i hi]
    rfl
  rw [e]
  rfl
theorem tree_id : arr .u8 32 (treeHe kF hS).id = arr .u8 32 dAf := arr_congr fun i hi => by
  show digF kF hS (encB noTree noCo) i = dAf i
  rw [noTree_enc, mA_dig i hi]
  rfl
theorem com_id : arr .u8 32 (digF kF hS (encB comOb noCo)) = arr .u8 32 dBf := arr_congr fun i hi => by
  rw [com_enc, mB_dig i hi]
  rfl
theorem own_tree {B : Nat} {w : World} {v : Value} (h : OwnH B w v [treeHe kF hS]) : OwnH B w v [hA] := by
  unfold OwnH at h ⊢
  have e : [treeHe kF hS].flatMap heC = [hA].flatMap heC := by
    simp only [List.flatMap_cons, List.flatMap_nil, heC, tree_cells]
  rw [e] at h
  exact h
theorem keys_two : ∃ kA kB, keyOf Tryz.prog 26 (.agg (arr .u8 32 dAf)) = some kA ∧ keyOf Tryz.prog 26 (.agg (arr .u8 32 dBf)) = some kB ∧ kA ≠ kB := by
  have ha : (keyOf Tryz.prog 26 (.agg (arr .u8 32 dAf))).isSome = true := by kernel_rfl
  have hb : (keyOf Tryz.prog 26 (.agg (arr .u8 32 dBf))).isSome = true := by kernel_rfl
  obtain ⟨kA, h1⟩ := Option.isSome_iff_exists.1 ha
  obtain ⟨kB, h2⟩ := Option.isSome_iff_exists.1 hb
  refine ⟨kA, kB, h1, h2, fun e => ?_⟩
  rw [← e] at h2
  have h3 := idLaw.inj h1 h2
  injection h3 with h3
  have h4 : (arr .u8 32 dAf)[0]? = (arr .u8 32 dBf)[0]? := by rw [h3]
  rw [arr_get (by omega), arr_get (by omega)] at h4
  injection h4 with h4
  injection h4 with _ h4
  exact absurd h4 (by decide)
/-- The map of two. -/
theorem two_found {kA kB : Lit} (hne : kA ≠ kB) (ha : WideAt.IsKeyLit kA) (hb : WideAt.IsKeyLit kB) : Maps.has (fndD [kA, kB] 2) kA = true ∧ (fndD [kA, kB] 2).atKey kA (i64L 0) = i64L 0 ∧ Maps.has (fndD [kA, kB] 2) kB = true ∧ (fndD [kA, kB] 2).atKey kB (i64L 0) = i64L 1 := by
  have e1 : fndD [kA, kB] 1 = (DataW.map []).put kA (i64L 0) := by
    rw [fndD, if_neg (by show ¬ (Maps.has (.map []) kA = true); rw [Maps.has_eq]; simp)]
    rfl
  have t1 : Tidy ((DataW.map []).put kA (i64L 0) : DataW Unit) := tidy_empty.put ha _
  have n1 : Maps.has ((DataW.map []).put kA (i64L 0) : DataW Unit) kB = false := by rw [has_put_other (fun e => hne e.symm)]; rw [Maps.has_eq]; simp
  have e2 : fndD [kA, kB] 2 = ((DataW.map []).put kA (i64L 0)).put kB (i64L 1) := by
    rw [fndD, e1, if_neg (by show ¬ (Maps.has _ kB = true); rw [n1]; simp)]
    rfl
  rw [e2]
  refine ⟨?_, ?_, has_put_same t1.isMap hb _, atKey_put_same t1.isMap hb _ _⟩
  · rw [has_put_other hne]; exact has_put_same tidy_empty.isMap ha _
  · rw [atKey_put_other hne]; exact atKey_put_same tidy_empty.isMap ha _ _
/-- missing, of the two. -/
theorem missing_two (v0 : Value) (b0 : Nat) (sp : Option Addr) (cap : Nat) (w : World) (hm0 : MapI w b0 0 (.map [])) (hr : RowsAt w 70 He.cells sp [hA, hB]) :
    Calls Tryz.prog 60 #[.agg #[v0, .map (some b0)], .slice sp 2 cap] w fun e w' => ∃ v, e = .returned (.tuple #[v, .int .i64 0]) ∧ OwnH w.heap.size w' v [hA, hB] ∧ Below w.heap.size w w' := by
  obtain ⟨kA, kB, h1, h2, h3⟩ := keys_two
  obtain ⟨q1, q2, q3, q4⟩ := two_found h3 (idLaw.key h1) (idLaw.key h2)
  refine missing_any v0 b0 sp cap [hA, hB] [kA, kB] w hm0 hr (by simp) ?_ ?_ ?_
  · intro i h hi
    match i, hi with
    | 0, hi => have : hA = h := by simpa using hi
               subst this; exact h1
    | 1, hi => have : hB = h := by simpa using hi
               subst this; exact h2
    | k + 2, hi => simp at hi
  · intro i h hi
    match i, hi with
    | 0, hi => exact ⟨q1, q2⟩
    | 1, hi => exact ⟨q3, q4⟩
    | k + 2, hi => simp at hi
  · intro i h hi
    match i, hi with
    | 0, hi => have : hA = h := by simpa using hi
               subst this; exact ⟨noCo, has_tree, same_tree⟩
    | 1, hi => have : hB = h := by simpa using hi
               subst this; exact ⟨noCo, has_com, same_com⟩
    | k + 2, hi => simp at hi
end Go.Proofs.YtgfjjglejlnfbaaGreatDoor
