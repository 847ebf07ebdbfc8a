/- The contract of object.Check. -/
import Derived.Test.YtgfjjglejlnfbaaGreatDoorMrgA
import Derived.Test.YtgfjjglejlnfbaaGreatDoorMovesg
namespace Go.Proofs.YtgfjjglejlnfbaaGreatDoor
open Go.RowKit

def countedCo (o : Ob) (c : Co) : Co :=
  if o.kind = 1 then ⟨c.nb, c.bf, [], []⟩ else if o.kind = 2 then ⟨0, fun _ => 0, c.es, []⟩ else if o.kind = 3 then ⟨0, fun _ => 0, [], c.ps⟩ else ⟨0, fun _ => 0, [], []⟩
theorem has_counted {w : World} {o : Ob} {c : Co} (h : Has w o c) : Has w (countedO o) (countedCo o c) := by
  have n1 : ∃ (sp : Option Addr) (cap : Nat), (Value.slice none 0 0 : Value) = .slice sp 0 cap ∧ SrcAt w .u8 sp 0 (fun _ => 0) := ⟨none, 0, rfl, fun h => by omega⟩
  have n2 : ∃ (sp : Option Addr) (cap : Nat), (Value.slice none 0 0 : Value) = .slice sp ([] : List Ent).length cap ∧ RowsAt w 34 Ent.cells sp [] := ⟨none, 0, rfl, RowsAt.none⟩
  have n3 : ∃ (sp : Option Addr) (cap : Nat), (Value.slice none 0 0 : Value) = .slice sp ([] : List (Nat → Int)).length cap ∧ RowsAt w 32 (arr .u8 32) sp [] := ⟨none, 0, rfl, RowsAt.none⟩
  unfold countedO countedCo
  split
  · exact ⟨h.b, n2, n3, h.bok, h.bn, h.lb, by simp, by simp⟩
  · split
    · exact ⟨n1, h.e, n3, fun i hi => by simp at hi, fun n cap h => by injection h with _ _ h; exact h.symm, by simp, h.le, by simp⟩
    · split
      · exact ⟨n1, n2, h.p, fun i hi => by simp at hi, fun n cap h => by injection h with _ _ h; exact h.symm, by simp, by simp, h.lp⟩
      · exact ⟨n1, n2, n3, fun i hi => by simp at hi, fun n cap h => by injection h with _ _ h; exact h.symm, by simp, by simp, by simp⟩

/-- May an object be, as for its Kind's own fields? -/
def mayB (o : Ob) (c : Co) : Bool :=
  if o.kind = 1 then decide (c.nb ≤ 4096) else if o.kind = 2 then decide (c.es.length ≤ 32) && namedFrom ⟨#[]⟩ c.es else if o.kind = 3 then decide (c.ps.length ≤ 2) && decide (o.note.size ≤ 200) else false
/-- May an object be? -/
def rightB (o : Ob) (c : Co) : Bool := sameB o c (countedO o) (countedCo o c) && mayB o c
def checkN (o : Ob) (c : Co) : Int := if rightB o c then 0 else 150

set_option maxRecDepth 100000 in
set_option maxHeartbeats 1000000 in
theorem check_any (o : Ob) (c : Co) (w : World) (ho : Has w o c) :
    Calls Tryz.prog 79 #[.agg o.cells] w fun e w' => e = .returned (.int .i64 (checkN o c)) ∧ Below w.heap.size w w' := by
  have HH : Hid _ := ho
  clear ho
  go_enter Tryz.func79, Tryz.ntmps79
  go_wp2
  refine wp_gen (fun W1 => Below w.heap.size w W1 ∧ W1.heap[w.heap.size]? = some (.cells o.cells 65 (0, 0))) ⟨?_, ?_⟩ ?_
  · exact (Below.refl _ _).alloc (Nat.le_refl _) _
  · exact heap_alloc_new _ _
  intro W1 ⟨hB, hrow⟩
  have hlt := lt_of_row hrow
  refine wp_region_held (S := fun w' => Below W1.heap.size W1 w') (by kernel_rfl) ?_
  refine take_row (i := 0) rfl (by kernel_rfl) (by kernel_rfl) (by kernel_rfl) (fun _ _ _ h => h) rfl 65 _ rfl w.heap.size rfl 65 o.cells rfl (0, 0) _ (fun w' hw' => by rw [hw'.block _ hlt]; exact hrow) Tryz.underlying65 rfl (by rw [o.size]; kernel_rfl) (Below.refl _ _).drew ?_
  refine take_row (i := 1) rfl (by kernel_rfl) (by kernel_rfl) (by kernel_rfl) (fun _ _ _ h => h) rfl 65 _ rfl w.heap.size rfl 65 o.cells rfl (0, 0) _ (fun w' hw' => by rw [hw'.block _ hlt]; exact hrow) Tryz.underlying65 rfl (by rw [o.size]; kernel_rfl) (Below.refl _ _).drew ?_
  refine next_one (i := 2) rfl (by kernel_rfl) rfl rfl ?_
  go_simp
  have hH1 : Has (W1.drew) o c := HH.out.below hB.drew
  refine (counted_any o c _ hH1).mono ?_
  rintro e w1 ⟨rfl, hB1⟩
  have hS1 : Below W1.heap.size W1 w1 := (Below.refl _ _).drew.trans hB1
  refine ⟨hS1, ?_⟩
  refine next_one (i := 3) rfl (by kernel_rfl) rfl rfl ?_
  go_simp
  have hH2 : Has w1 o c := hH1.below hB1
  refine (same_any o (countedO o) c (countedCo o c) w1 hH2 (has_counted hH2)).mono ?_
  rintro e w2 ⟨rfl, hB2⟩
  have hS2 : Below W1.heap.size W1 w2 := hS1.trans (hB2.mono hS1.size)
  refine ⟨hS2, ?_⟩
  refine next_one (i := 4) rfl (by kernel_rfl) rfl rfl ?_
  go_simp
  refine ⟨by kernel_rfl, ?_⟩
  have hr := obRow ((hS2.block _ hlt).trans hrow)
  have hBw : Below w.heap.size w w2 := hB.trans (hS2.mono hB.size)
  have hH3 : Has w2 o c := HH.out.below hBw
  clear hH1 hH2 hB1 hB2 hS1 hS2 hrow hB hlt HH
  have r0 : w2.cell? ⟨w.heap.size, 0, none⟩ = some (.int .i64 o.kind) := hr.c0
  cases hs : sameB o c (countedO o) (countedCo o c) with
  | false =>
    go_wp2
    go_ret
    exact ⟨ret_int (by simp [checkN, rightB, hs]), hBw⟩
  | true =>
    by_cases h1 : o.kind = 1
    · rw [h1] at r0
      obtain ⟨s1, k1, hob, -⟩ := hH3.b
      have r1 : w2.cell? ⟨w.heap.size, 1, none⟩ = some (.slice s1 c.nb k1) := hr.c1.trans (by rw [hob])
      have hm : rightB o c = decide (c.nb ≤ 4096) := by simp [rightB, hs, mayB, h1]
      have HM : Hid _ := hm
      clear hm hob hH3 hr
      by_cases hn : c.nb ≤ 4096
      · have hn' : (c.nb : Int) ≤ 4096 := by omega
        go_wp2
        go_ret
        exact ⟨ret_int (by simp [checkN, HM.out, hn]), hBw⟩
      · have hn' : ¬ (c.nb : Int) ≤ 4096 := by omega
        go_wp2
        go_ret
        exact ⟨ret_int (by simp [checkN, HM.out, hn]), hBw⟩
    by_cases h2 : o.kind = 2
    · rw [h2] at r0
      obtain ⟨s1, k1, hob, hs1⟩ := hH3.e
      have hle := hH3.le
      have r1 : w2.cell? ⟨w.heap.size, 2, none⟩ = some (.slice s1 c.es.length k1) := hr.c2.trans (by rw [hob])
      have hm : rightB o c = (decide (c.es.length ≤ 32) && namedFrom ⟨#[]⟩ c.es) := by simp [rightB, hs, mayB, h2]
      have HM : Hid _ := hm
      have HS1 : Hid _ := hs1
      clear hm hob hH3 hr hs1
      by_cases hn : c.es.length ≤ 32
      · have hn' : (c.es.length : Int) ≤ 32 := by omega
        go_wp2_with fail
        refine (named_any s1 k1 c.es w2 HS1.out hle).mono ?_
        rintro e w3 ⟨rfl, hB3⟩
        have hBw3 : Below w.heap.size w w3 := hBw.trans (hB3.mono hBw.size)
        have h32 : decide (c.es.length ≤ 32) = true := by simpa using hn
        cases hf : namedFrom ⟨#[]⟩ c.es with
        | false =>
          rw [hf] at HM
          clear r0 r1 hB3 hBw
          go_wp2
          go_ret
          exact ⟨ret_int (by simp [checkN, HM.out]), hBw3⟩
        | true =>
          rw [hf] at HM
          clear r0 r1 hB3 hBw
          go_wp2
          go_ret
          exact ⟨ret_int (by simp [checkN, HM.out, hn]), hBw3⟩
      · have hn' : ¬ (c.es.length : Int) ≤ 32 := by omega
        go_wp2
        go_ret
        exact ⟨ret_int (by simp [checkN, HM.out, hn]), hBw⟩
    by_cases h3 : o.kind = 3
    · rw [h3] at r0
      obtain ⟨s1, k1, hob, -⟩ := hH3.p
      have r1 : w2.cell? ⟨w.heap.size, 35, none⟩ = some (.slice s1 c.ps.length k1) := hr.c35.trans (by rw [hob])
      have r2 : w2.cell? ⟨w.heap.size, 37, none⟩ = some (.string o.note) := hr.c37
      have hm : rightB o c = (decide (c.ps.length ≤ 2) && decide (o.note.size ≤ 200)) := by simp [rightB, hs, mayB, h3]
      have HM : Hid _ := hm
      clear hm hob hH3 hr
      by_cases hn : c.ps.length ≤ 2
      · have hn' : (c.ps.length : Int) ≤ 2 := by omega
        by_cases hz : o.note.size ≤ 200
        · have hz' : (o.note.size : Int) ≤ 200 := by omega
          go_wp2
          go_ret
          exact ⟨ret_int (by simp [checkN, HM.out, hn, hz]), hBw⟩
        · have hz' : ¬ (o.note.size : Int) ≤ 200 := by omega
          go_wp2
          go_ret
          exact ⟨ret_int (by simp [checkN, HM.out, hn, hz]), hBw⟩
      · have hn' : ¬ (c.ps.length : Int) ≤ 2 := by omega
        go_wp2
        go_ret
        exact ⟨ret_int (by simp [checkN, HM.out, hn]), hBw⟩
    have hm : rightB o c = false := by simp [rightB, mayB, h1, h2, h3]
    have HM : Hid _ := hm
    have e1 : (o.kind == 1) = false := by simpa using h1
    have e2 : (o.kind == 2) = false := by simpa using h2
    have e3 : (o.kind == 3) = false := by simpa using h3
    clear hm hH3 hr h1 h2 h3
    go_wp2
    go_ret
    exact ⟨ret_int (by simp [checkN, HM.out]), hBw⟩
end Go.Proofs.YtgfjjglejlnfbaaGreatDoor
