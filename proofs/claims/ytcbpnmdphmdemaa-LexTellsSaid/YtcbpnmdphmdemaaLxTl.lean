/- The law LexTells answers true. -/
import Derived.Test.YtcbpnmdphmdemaaRxE
import Derived.Test.YtcbpnmdphmdemaaLxT
import Derived.Deep.RegionWith
namespace Go.Proofs.Ytcbpnmdphmdemaa
open Go.RowKit

/-- A token whose Text is cut to 4097 bytes. -/
def cutW (t : Tok) : Tok := ⟨t.kind, strU (t.text.data.toList.take 4097), t.pos⟩
theorem cutW_size (t : Tok) : (cutW t).text.size ≤ 4097 := by
  show (strU _).size ≤ _
  rw [strU_size, List.length_take]
  omega
set_option maxRecDepth 100000 in
set_option maxHeartbeats 8000000 in
theorem lexTells_all (sp : Option Addr) (cap : Nat) (ts : List Tok) (w : World) (hR : RowsT w sp ts) :
    Calls Try.prog 5 #[.slice sp ts.length cap] w fun e w' => e = .returned (.bool true) ∧ Below w.heap.size w w' := by
  have HR : Hid (RowsT w sp ts) := hR
  clear hR
  go_enter Try.func5, Try.ntmps5
  go_wp2_with fail
  refine (wakes_any w).mono ?_
  rintro e W0 ⟨rfl, b0⟩
  have HB0 : Hid (Below w.heap.size w W0) := b0
  clear b0
  go_wp2
  go_loopw [17] (fun i wr => ∃ t : Nat, t ≤ ts.length ∧ t ≤ 30 ∧ i = .int .i64 t ∧ Below w.heap.size w wr) (fun i _ => ts.length - (intOf i).toNat)
  case atStart => exact ⟨0, Nat.zero_le _, by omega, rfl, HB0.out⟩
  case round =>
    clear HB0
    obtain ⟨t, ht, ht30, rfl, hB⟩ := hrel
    have HB : Hid (Below w.heap.size w wr) := hB
    clear hB
    by_cases hlt : t < ts.length
    · have hd : decide ((t : Int) < ts.length) = true := decide_eq_true (by omega)
      obtain ⟨b, o, rfl, -⟩ := HR.out (by omega)
      obtain ⟨x, hx⟩ : ∃ x, ts[t]? = some x := ⟨_, List.getElem?_eq_getElem hlt⟩
      obtain ⟨k0, k1, k2⟩ := tok_cell (RowsAt.below HR.out HB.out) hx
      clear hx
      by_cases h30 : t = 30
      · have h30' : ((t : Int) == 30) = true := by rw [beq_iff_eq]; omega
        clear h30
        go_wp2
        go_ret
        exact ⟨rfl, HB.out.alloc HB.out.size _⟩
      · have h30' : ((t : Int) == 30) = false := by rw [beq_eq_false_iff_ne]; omega
        have hmn : 0 ≤ min (x.text.size : Int) 4097 ∧ min (x.text.size : Int) 4097 ≤ x.text.size := by omega
        obtain ⟨hmn0, hmn1⟩ := hmn
        have hcs : x.text.extract 0 (min (x.text.size : Int) 4097).toNat = strU (x.text.data.toList.take 4097) := cut_str x.text 4097
        have REL : Hid (∃ t' : Nat, t' ≤ ts.length ∧ t' ≤ 30 ∧ Value.int .i64 ((t : Int) + 1) = .int .i64 t') := ⟨t + 1, by omega, by omega, by go_num⟩
        go_wp2_with fail
        have hsz := cutW_size x
        have hcw : cutW x = ⟨x.kind, strU (x.text.data.toList.take 4097), x.pos⟩ := rfl
        obtain ⟨y, HY⟩ : ∃ y, Hid (cutW x = y) := ⟨_, rfl⟩
        have hyk : x.kind = y.kind := by rw [← HY.out]; rfl
        have hyt : strU (x.text.data.toList.take 4097) = y.text := by rw [← HY.out]; rfl
        have hyp : x.pos = y.pos := by rw [← HY.out]; rfl
        rw [HY.out] at hsz
        rw [hyk, hyt, hyp]
        refine calls_gen (fun W => W.heap[wr.heap.size]? = some (.cells y.cells 32 (0, 0)) ∧ Below w.heap.size w W) ⟨heap_alloc_new _ _, HB.out.alloc HB.out.size _⟩ ?_
        rintro W1 ⟨r1, b1⟩
        have hTB : w.heap.size ≤ wr.heap.size := HB.out.size
        clear hcs hcw hyk hyt hyp HY k0 k1 k2 hmn0 hmn1 HB HR
        generalize wr.heap.size = T at r1 hTB ⊢
        refine (number_is y W1).mono ?_
        rintro e W2 ⟨rfl, b2⟩
        have r2 : W2.heap[T]? = some (.cells y.cells 32 (0, 0)) := (b2.block _ (lt_of_row r1)).trans r1
        have b2' : Below w.heap.size w W2 := b1.trans (b2.mono b1.size)
        clear r1 b1 b2
        have c0 : W2.cell? ⟨T, 0, none⟩ = some (.int .i64 y.kind) := (cell_of_row _ _ 0 _ _ _ r2).trans rfl
        have c1 : W2.cell? ⟨T, 1, none⟩ = some (.string y.text) := (cell_of_row _ _ 1 _ _ _ r2).trans rfl
        have c2 : W2.cell? ⟨T, 2, none⟩ = some (.int .i64 y.pos) := (cell_of_row _ _ 2 _ _ _ r2).trans rfl
        cases hno : numO y
        all_goals unfold numV
        all_goals go_wp2_with fail
        all_goals refine (snumber_is y W2 (by omega)).mono ?_
        all_goals rintro e W3 ⟨rfl, b3⟩
        all_goals rw [hno, decV]
        all_goals have r3 : W3.heap[T]? = some (.cells y.cells 32 (0, 0)) := (b3.block _ (lt_of_row r2)).trans r2
        all_goals have b3' : Below w.heap.size w W3 := b2'.trans (b3.mono b2'.size)
        all_goals clear r2 b2' b3 c0 c1 c2
        all_goals have c0 : W3.cell? ⟨T, 0, none⟩ = some (.int .i64 y.kind) := (cell_of_row _ _ 0 _ _ _ r3).trans rfl
        all_goals have c1 : W3.cell? ⟨T, 1, none⟩ = some (.string y.text) := (cell_of_row _ _ 1 _ _ _ r3).trans rfl
        all_goals have c2 : W3.cell? ⟨T, 2, none⟩ = some (.int .i64 y.pos) := (cell_of_row _ _ 2 _ _ _ r3).trans rfl
        all_goals clear hno
        all_goals go_wp2_with fail
        all_goals refine (value_is y W3 (by omega)).mono ?_
        all_goals rintro e W4 ⟨rfl, b4⟩
        all_goals have r4 : W4.heap[T]? = some (.cells y.cells 32 (0, 0)) := (b4.block _ (lt_of_row r3)).trans r3
        all_goals have b4' : Below w.heap.size w W4 := b3'.trans (b4.mono b3'.size)
        all_goals clear r3 b3' b4 c0 c1 c2
        all_goals have c0 : W4.cell? ⟨T, 0, none⟩ = some (.int .i64 y.kind) := (cell_of_row _ _ 0 _ _ _ r4).trans rfl
        all_goals have c1 : W4.cell? ⟨T, 1, none⟩ = some (.string y.text) := (cell_of_row _ _ 1 _ _ _ r4).trans rfl
        all_goals have c2 : W4.cell? ⟨T, 2, none⟩ = some (.int .i64 y.pos) := (cell_of_row _ _ 2 _ _ _ r4).trans rfl
        all_goals cases hvo : valO y
        all_goals unfold strV
        all_goals go_wp2_with fail
        all_goals refine (svalue_is y W4 (by omega)).mono ?_
        all_goals rintro e W5 ⟨rfl, b5⟩
        all_goals rw [hvo, strB]
        all_goals have r5 : W5.heap[T]? = some (.cells y.cells 32 (0, 0)) := (b5.block _ (lt_of_row r4)).trans r4
        all_goals have b5' : Below w.heap.size w W5 := b4'.trans (b5.mono b4'.size)
        all_goals clear r4 b4' b5 c0 c1 c2
        all_goals have c0 : W5.cell? ⟨T, 0, none⟩ = some (.int .i64 y.kind) := (cell_of_row _ _ 0 _ _ _ r5).trans rfl
        all_goals have c1 : W5.cell? ⟨T, 1, none⟩ = some (.string y.text) := (cell_of_row _ _ 1 _ _ _ r5).trans rfl
        all_goals have c2 : W5.cell? ⟨T, 2, none⟩ = some (.int .i64 y.pos) := (cell_of_row _ _ 2 _ _ _ r5).trans rfl
        all_goals clear hvo
        all_goals go_wp2_with fail
        all_goals refine (quote_any y.text W5 (by omega)).mono ?_
        all_goals rintro e W6 ⟨rfl, b6⟩
        all_goals have r6 : W6.heap[T]? = some (.cells y.cells 32 (0, 0)) := (b6.block _ (lt_of_row r5)).trans r5
        all_goals have b6' : Below w.heap.size w W6 := b5'.trans (b6.mono b5'.size)
        all_goals clear r5 b5' b6 c0 c1 c2
        all_goals have c1 : W6.cell? ⟨T, 1, none⟩ = some (.string y.text) := (cell_of_row _ _ 1 _ _ _ r6).trans rfl
        all_goals rcases hqo : quoO y.text.data.toList with _ | z
        all_goals unfold strV
        all_goals go_wp2_with fail
        all_goals refine (squote_any y.text W6 (by omega)).mono ?_
        all_goals rintro e W7 ⟨rfl, b7⟩
        all_goals rw [hqo, strB]
        all_goals have r7 : W7.heap[T]? = some (.cells y.cells 32 (0, 0)) := (b7.block _ (lt_of_row r6)).trans r6
        all_goals have b7' : Below w.heap.size w W7 := b6'.trans (b7.mono b6'.size)
        all_goals have HQO : Hid (quoO y.text.data.toList = _) := hqo
        all_goals clear r6 b6' b7 c1 hqo
        all_goals have c1 : W7.cell? ⟨T, 1, none⟩ = some (.string y.text) := (cell_of_row _ _ 1 _ _ _ r7).trans rfl
        all_goals go_wp2_with fail
        all_goals have hTl : T < W7.heap.size := lt_of_row r7
        all_goals have bD : Below w.heap.size w W7.drew := b7'.drew
        all_goals clear r7 b7'
        all_goals have hS0 : W7.drew.cell? ⟨T, 1, none⟩ = some (.string y.text) ∧ Below w.heap.size w W7.drew := ⟨c1, bD⟩
        all_goals refine mv_begin (S := fun w' => w'.cell? ⟨T, 1, none⟩ = some (.string y.text) ∧ Below w.heap.size w w') 26 rfl (by kernel_rfl) ?_
        all_goals first
          | (have hqN : quoO y.text.data.toList = none := HQO.out; clear hqN; refine mv_rung 0 98 (.string ⟨#[]⟩) rfl (by rfl) (by kernel_rfl) (by kernel_rfl) (by kernel_rfl) (fun _ _ _ h => h) (fun w' hw' => by obtain ⟨hw1, -⟩ := hw'; first | rfl | (go_simp; done)) hS0 ?_; simp only [List.setIfInBounds_toArray, List.set_cons_succ, List.set_cons_zero]
             refine mv_rung 1 99 (.string ⟨#[]⟩) rfl (by rfl) (by kernel_rfl) (by kernel_rfl) (by kernel_rfl) (fun _ _ _ h => h) (fun w' hw' => by obtain ⟨hw1, -⟩ := hw'; first | rfl | (go_simp; done)) hS0 ?_; simp only [List.setIfInBounds_toArray, List.set_cons_succ, List.set_cons_zero]
             refine mv_rung 2 100 (.bool false) rfl (by rfl) (by kernel_rfl) (by kernel_rfl) (by kernel_rfl) (fun _ _ _ h => h) (fun w' hw' => by obtain ⟨hw1, -⟩ := hw'; first | rfl | (go_simp; done)) hS0 ?_; simp only [List.setIfInBounds_toArray, List.set_cons_succ, List.set_cons_zero]
             refine mv_rung 3 101 (.bool false) rfl (by rfl) (by kernel_rfl) (by kernel_rfl) (by kernel_rfl) (fun _ _ _ h => h) (fun w' hw' => by obtain ⟨hw1, -⟩ := hw'; first | rfl | (go_simp; done)) hS0 ?_; simp only [List.setIfInBounds_toArray, List.set_cons_succ, List.set_cons_zero]
             refine mv_rung 4 102 (.bool false) rfl (by rfl) (by kernel_rfl) (by kernel_rfl) (by kernel_rfl) (fun _ _ _ h => h) (fun w' hw' => by obtain ⟨hw1, -⟩ := hw'; first | rfl | (go_simp; done)) hS0 ?_; simp only [List.setIfInBounds_toArray, List.set_cons_succ, List.set_cons_zero]
             refine mv_rung 5 103 (.int .i64 2) rfl (by rfl) (by kernel_rfl) (by kernel_rfl) (by kernel_rfl) (fun _ _ _ h => h) (fun w' hw' => by obtain ⟨hw1, -⟩ := hw'; first | rfl | (go_simp; done)) hS0 ?_; simp only [List.setIfInBounds_toArray, List.set_cons_succ, List.set_cons_zero]
             refine mv_rung 6 104 (.bool false) rfl (by rfl) (by kernel_rfl) (by kernel_rfl) (by kernel_rfl) (fun _ _ _ h => h) (fun w' hw' => by obtain ⟨hw1, -⟩ := hw'; first | rfl | (go_simp; done)) hS0 ?_; simp only [List.setIfInBounds_toArray, List.set_cons_succ, List.set_cons_zero]
             refine mv_rung 7 105 (.bool false) rfl (by rfl) (by kernel_rfl) (by kernel_rfl) (by kernel_rfl) (fun _ _ _ h => h) (fun w' hw' => by obtain ⟨hw1, -⟩ := hw'; first | rfl | (go_simp; done)) hS0 ?_; simp only [List.setIfInBounds_toArray, List.set_cons_succ, List.set_cons_zero]
             refine mv_rung 8 106 (.bool false) rfl (by rfl) (by kernel_rfl) (by kernel_rfl) (by kernel_rfl) (fun _ _ _ h => h) (fun w' hw' => by obtain ⟨hw1, -⟩ := hw'; first | rfl | (go_simp; done)) hS0 ?_; simp only [List.setIfInBounds_toArray, List.set_cons_succ, List.set_cons_zero]
             refine mv_rung 9 107 (.bool false) rfl (by rfl) (by kernel_rfl) (by kernel_rfl) (by kernel_rfl) (fun _ _ _ h => h) (fun w' hw' => by obtain ⟨hw1, -⟩ := hw'; first | rfl | (go_simp; done)) hS0 ?_; simp only [List.setIfInBounds_toArray, List.set_cons_succ, List.set_cons_zero]
             refine mv_rung 10 108 (.bool false) rfl (by rfl) (by kernel_rfl) (by kernel_rfl) (by kernel_rfl) (fun _ _ _ h => h) (fun w' hw' => by obtain ⟨hw1, -⟩ := hw'; first | rfl | (go_simp; done)) hS0 ?_; simp only [List.setIfInBounds_toArray, List.set_cons_succ, List.set_cons_zero]
             refine mv_rung 11 109 (.bool true) rfl (by rfl) (by kernel_rfl) (by kernel_rfl) (by kernel_rfl) (fun _ _ _ h => h) (fun w' hw' => by obtain ⟨hw1, -⟩ := hw'; first | rfl | (go_simp; done)) hS0 ?_; simp only [List.setIfInBounds_toArray, List.set_cons_succ, List.set_cons_zero]
             refine mv_rung 12 110 (.bool true) rfl (by rfl) (by kernel_rfl) (by kernel_rfl) (by kernel_rfl) (fun _ _ _ h => h) (fun w' hw' => by obtain ⟨hw1, -⟩ := hw'; first | rfl | (go_simp; done)) hS0 ?_; simp only [List.setIfInBounds_toArray, List.set_cons_succ, List.set_cons_zero]
             refine mv_rung 13 111 (.int .i64 2) rfl (by rfl) (by kernel_rfl) (by kernel_rfl) (by kernel_rfl) (fun _ _ _ h => h) (fun w' hw' => by obtain ⟨hw1, -⟩ := hw'; first | rfl | (go_simp; done)) hS0 ?_; simp only [List.setIfInBounds_toArray, List.set_cons_succ, List.set_cons_zero]
             refine mv_rung 14 112 (.bool false) rfl (by rfl) (by kernel_rfl) (by kernel_rfl) (by kernel_rfl) (fun _ _ _ h => h) (fun w' hw' => by obtain ⟨hw1, -⟩ := hw'; first | rfl | (go_simp; done)) hS0 ?_; simp only [List.setIfInBounds_toArray, List.set_cons_succ, List.set_cons_zero]
             refine mv_rung 15 113 (.bool false) rfl (by rfl) (by kernel_rfl) (by kernel_rfl) (by kernel_rfl) (fun _ _ _ h => h) (fun w' hw' => by obtain ⟨hw1, -⟩ := hw'; first | rfl | (go_simp; done)) hS0 ?_; simp only [List.setIfInBounds_toArray, List.set_cons_succ, List.set_cons_zero]
             refine mv_rung 16 114 (.bool false) rfl (by rfl) (by kernel_rfl) (by kernel_rfl) (by kernel_rfl) (fun _ _ _ h => h) (fun w' hw' => by obtain ⟨hw1, -⟩ := hw'; first | rfl | (go_simp; done)) hS0 ?_; simp only [List.setIfInBounds_toArray, List.set_cons_succ, List.set_cons_zero]
             refine mv_rung 17 115 (.bool false) rfl (by rfl) (by kernel_rfl) (by kernel_rfl) (by kernel_rfl) (fun _ _ _ h => h) (fun w' hw' => by obtain ⟨hw1, -⟩ := hw'; first | rfl | (go_simp; done)) hS0 ?_; simp only [List.setIfInBounds_toArray, List.set_cons_succ, List.set_cons_zero]
             refine mv_rung 18 116 (.pointer (some ⟨T, 1, none⟩)) rfl (by rfl) (by kernel_rfl) (by kernel_rfl) (by kernel_rfl) (fun _ _ _ h => h) (fun w' hw' => by obtain ⟨hw1, -⟩ := hw'; first | rfl | (go_simp; done)) hS0 ?_; simp only [List.setIfInBounds_toArray, List.set_cons_succ, List.set_cons_zero]
             refine mv_rung 19 117 (.string y.text) rfl (by rfl) (by kernel_rfl) (by kernel_rfl) (by kernel_rfl) (fun _ _ _ h => h) (fun w' hw' => by obtain ⟨hw1, -⟩ := hw'; first | rfl | (go_simp; done)) hS0 ?_; simp only [List.setIfInBounds_toArray, List.set_cons_succ, List.set_cons_zero]
             refine mv_rung 21 119 (.pointer (some ⟨T, 1, none⟩)) rfl (by rfl) (by kernel_rfl) (by kernel_rfl) (by kernel_rfl) (fun _ _ _ h => h) (fun w' hw' => by obtain ⟨hw1, -⟩ := hw'; first | rfl | (go_simp; done)) hS0 ?_; simp only [List.setIfInBounds_toArray, List.set_cons_succ, List.set_cons_zero]
             refine mv_rung 22 120 (.string y.text) rfl (by rfl) (by kernel_rfl) (by kernel_rfl) (by kernel_rfl) (fun _ _ _ h => h) (fun w' hw' => by obtain ⟨hw1, -⟩ := hw'; first | rfl | (go_simp; done)) hS0 ?_; simp only [List.setIfInBounds_toArray, List.set_cons_succ, List.set_cons_zero])
          | (have hqN : quoO y.text.data.toList = some z := HQO.out; clear hqN; refine mv_rung 0 98 (.string (strU z)) rfl (by rfl) (by kernel_rfl) (by kernel_rfl) (by kernel_rfl) (fun _ _ _ h => h) (fun w' hw' => by obtain ⟨hw1, -⟩ := hw'; first | rfl | (go_simp; done)) hS0 ?_; simp only [List.setIfInBounds_toArray, List.set_cons_succ, List.set_cons_zero]
             refine mv_rung 1 99 (.string (strU z)) rfl (by rfl) (by kernel_rfl) (by kernel_rfl) (by kernel_rfl) (fun _ _ _ h => h) (fun w' hw' => by obtain ⟨hw1, -⟩ := hw'; first | rfl | (go_simp; done)) hS0 ?_; simp only [List.setIfInBounds_toArray, List.set_cons_succ, List.set_cons_zero]
             refine mv_rung 2 100 (.bool false) rfl (by rfl) (by kernel_rfl) (by kernel_rfl) (by kernel_rfl) (fun _ _ _ h => h) (fun w' hw' => by obtain ⟨hw1, -⟩ := hw'; first | rfl | (go_simp; done)) hS0 ?_; simp only [List.setIfInBounds_toArray, List.set_cons_succ, List.set_cons_zero]
             refine mv_rung 3 101 (.bool false) rfl (by rfl) (by kernel_rfl) (by kernel_rfl) (by kernel_rfl) (fun _ _ _ h => h) (fun w' hw' => by obtain ⟨hw1, -⟩ := hw'; first | rfl | (go_simp; done)) hS0 ?_; simp only [List.setIfInBounds_toArray, List.set_cons_succ, List.set_cons_zero]
             refine mv_rung 4 102 (.bool true) rfl (by rfl) (by kernel_rfl) (by kernel_rfl) (by kernel_rfl) (fun _ _ _ h => h) (fun w' hw' => by obtain ⟨hw1, -⟩ := hw'; first | rfl | (go_simp; done)) hS0 ?_; simp only [List.setIfInBounds_toArray, List.set_cons_succ, List.set_cons_zero]
             refine mv_rung 5 103 (.int .i64 0) rfl (by rfl) (by kernel_rfl) (by kernel_rfl) (by kernel_rfl) (fun _ _ _ h => h) (fun w' hw' => by obtain ⟨hw1, -⟩ := hw'; first | rfl | (go_simp; done)) hS0 ?_; simp only [List.setIfInBounds_toArray, List.set_cons_succ, List.set_cons_zero]
             refine mv_rung 6 104 (.bool true) rfl (by rfl) (by kernel_rfl) (by kernel_rfl) (by kernel_rfl) (fun _ _ _ h => h) (fun w' hw' => by obtain ⟨hw1, -⟩ := hw'; first | rfl | (go_simp; done)) hS0 ?_; simp only [List.setIfInBounds_toArray, List.set_cons_succ, List.set_cons_zero]
             refine mv_rung 7 105 (.bool false) rfl (by rfl) (by kernel_rfl) (by kernel_rfl) (by kernel_rfl) (fun _ _ _ h => h) (fun w' hw' => by obtain ⟨hw1, -⟩ := hw'; first | rfl | (go_simp; done)) hS0 ?_; simp only [List.setIfInBounds_toArray, List.set_cons_succ, List.set_cons_zero]
             refine mv_rung 8 106 (.bool false) rfl (by rfl) (by kernel_rfl) (by kernel_rfl) (by kernel_rfl) (fun _ _ _ h => h) (fun w' hw' => by obtain ⟨hw1, -⟩ := hw'; first | rfl | (go_simp; done)) hS0 ?_; simp only [List.setIfInBounds_toArray, List.set_cons_succ, List.set_cons_zero]
             refine mv_rung 9 107 (.bool false) rfl (by rfl) (by kernel_rfl) (by kernel_rfl) (by kernel_rfl) (fun _ _ _ h => h) (fun w' hw' => by obtain ⟨hw1, -⟩ := hw'; first | rfl | (go_simp; done)) hS0 ?_; simp only [List.setIfInBounds_toArray, List.set_cons_succ, List.set_cons_zero]
             refine mv_rung 10 108 (.bool true) rfl (by rfl) (by kernel_rfl) (by kernel_rfl) (by kernel_rfl) (fun _ _ _ h => h) (fun w' hw' => by obtain ⟨hw1, -⟩ := hw'; first | rfl | (go_simp; done)) hS0 ?_; simp only [List.setIfInBounds_toArray, List.set_cons_succ, List.set_cons_zero]
             refine mv_rung 11 109 (.bool false) rfl (by rfl) (by kernel_rfl) (by kernel_rfl) (by kernel_rfl) (fun _ _ _ h => h) (fun w' hw' => by obtain ⟨hw1, -⟩ := hw'; first | rfl | (go_simp; done)) hS0 ?_; simp only [List.setIfInBounds_toArray, List.set_cons_succ, List.set_cons_zero]
             refine mv_rung 12 110 (.bool false) rfl (by rfl) (by kernel_rfl) (by kernel_rfl) (by kernel_rfl) (fun _ _ _ h => h) (fun w' hw' => by obtain ⟨hw1, -⟩ := hw'; first | rfl | (go_simp; done)) hS0 ?_; simp only [List.setIfInBounds_toArray, List.set_cons_succ, List.set_cons_zero]
             refine mv_skip 13 111 rfl (by rfl) (by kernel_rfl) (by kernel_rfl) (by kernel_rfl) (fun _ _ _ h => h) hS0 ?_; simp only [List.setIfInBounds_toArray, List.set_cons_succ, List.set_cons_zero]
             refine mv_skip 14 112 rfl (by rfl) (by kernel_rfl) (by kernel_rfl) (by kernel_rfl) (fun _ _ _ h => h) hS0 ?_; simp only [List.setIfInBounds_toArray, List.set_cons_succ, List.set_cons_zero]
             refine mv_rung 15 113 (.bool false) rfl (by rfl) (by kernel_rfl) (by kernel_rfl) (by kernel_rfl) (fun _ _ _ h => h) (fun w' hw' => by obtain ⟨hw1, -⟩ := hw'; first | rfl | (go_simp; done)) hS0 ?_; simp only [List.setIfInBounds_toArray, List.set_cons_succ, List.set_cons_zero]
             refine mv_rung 16 114 (.bool false) rfl (by rfl) (by kernel_rfl) (by kernel_rfl) (by kernel_rfl) (fun _ _ _ h => h) (fun w' hw' => by obtain ⟨hw1, -⟩ := hw'; first | rfl | (go_simp; done)) hS0 ?_; simp only [List.setIfInBounds_toArray, List.set_cons_succ, List.set_cons_zero]
             refine mv_rung 17 115 (.bool false) rfl (by rfl) (by kernel_rfl) (by kernel_rfl) (by kernel_rfl) (fun _ _ _ h => h) (fun w' hw' => by obtain ⟨hw1, -⟩ := hw'; first | rfl | (go_simp; done)) hS0 ?_; simp only [List.setIfInBounds_toArray, List.set_cons_succ, List.set_cons_zero]
             refine mv_rung 18 116 (.pointer (some ⟨T, 1, none⟩)) rfl (by rfl) (by kernel_rfl) (by kernel_rfl) (by kernel_rfl) (fun _ _ _ h => h) (fun w' hw' => by obtain ⟨hw1, -⟩ := hw'; first | rfl | (go_simp; done)) hS0 ?_; simp only [List.setIfInBounds_toArray, List.set_cons_succ, List.set_cons_zero]
             refine mv_rung 19 117 (.string y.text) rfl (by rfl) (by kernel_rfl) (by kernel_rfl) (by kernel_rfl) (fun _ _ _ h => h) (fun w' hw' => by obtain ⟨hw1, -⟩ := hw'; first | rfl | (go_simp; done)) hS0 ?_; simp only [List.setIfInBounds_toArray, List.set_cons_succ, List.set_cons_zero]
             refine mv_rung 21 119 (.pointer (some ⟨T, 1, none⟩)) rfl (by rfl) (by kernel_rfl) (by kernel_rfl) (by kernel_rfl) (fun _ _ _ h => h) (fun w' hw' => by obtain ⟨hw1, -⟩ := hw'; first | rfl | (go_simp; done)) hS0 ?_; simp only [List.setIfInBounds_toArray, List.set_cons_succ, List.set_cons_zero]
             refine mv_rung 22 120 (.string y.text) rfl (by rfl) (by kernel_rfl) (by kernel_rfl) (by kernel_rfl) (fun _ _ _ h => h) (fun w' hw' => by obtain ⟨hw1, -⟩ := hw'; first | rfl | (go_simp; done)) hS0 ?_; simp only [List.setIfInBounds_toArray, List.set_cons_succ, List.set_cons_zero])
        all_goals refine mv_nextg 20 rfl (by rfl) (by kernel_rfl) ?_
        all_goals go_simp
        all_goals refine (word_is y.text _).mono ?_
        all_goals rintro e W8 ⟨rfl, b8⟩
        all_goals have hS8 : W8.cell? ⟨T, 1, none⟩ = some (.string y.text) ∧ Below w.heap.size w W8 := ⟨(b8.cell (p := ⟨T, 1, none⟩) hTl).trans c1, bD.trans (b8.mono bD.size)⟩
        all_goals refine ⟨hS8, ?_⟩
        all_goals clear hS0 b8 c1 bD HQO
        all_goals refine mv_nextg 23 rfl (by rfl) (by kernel_rfl) ?_
        all_goals go_simp
        all_goals refine (sword_is y.text _ (by omega)).mono ?_
        all_goals rintro e W9 ⟨rfl, hW9⟩
        all_goals rw [hW9]
        all_goals refine ⟨hS8, ?_⟩
        all_goals clear hW9
        all_goals (refine mv_rung 24 122 (.bool false) rfl (by rfl) (by kernel_rfl) (by kernel_rfl) (by kernel_rfl) (fun _ _ _ h => h) (fun w' hw' => by first | rfl | (go_simp; done)) hS8 ?_; simp only [List.setIfInBounds_toArray, List.set_cons_succ, List.set_cons_zero])
        all_goals (refine mv_rung 25 123 (.bool false) rfl (by rfl) (by kernel_rfl) (by kernel_rfl) (by kernel_rfl) (fun _ _ _ h => h) (fun w' hw' => by first | rfl | (go_simp; done)) hS8 ?_; simp only [List.setIfInBounds_toArray, List.set_cons_succ, List.set_cons_zero])
        all_goals refine wpAnyH_done (by kernel_rfl) ?_ _
        all_goals obtain ⟨t', hp1, hp2, hp3⟩ := REL.out
        all_goals have HF : Hid (∃ t' : Nat, t' ≤ ts.length ∧ t' ≤ 30 ∧ Value.int .i64 ((t : Int) + 1) = .int .i64 t' ∧ Below w.heap.size w W8) := ⟨t', hp1, hp2, hp3, hS8.2⟩
        all_goals clear hp1 hp2 hp3 hS8
        all_goals go_wp2
        all_goals exact ⟨HF.out, by simp [intOf]; omega⟩
    · have hd : decide ((t : Int) < ts.length) = false := decide_eq_false (by omega)
      go_wp2
      go_ret
      exact ⟨rfl, HB.out⟩
end Go.Proofs.Ytcbpnmdphmdemaa
