/- The contracts of a part's making: its start, its word, its kids, its end. -/
/- The contract of a part's end, and of a part of one token. -/
/- What the rules read ends behind where it begins. No function of the program is walked here. -/
/- Small laws for the reader's walks: what the rules read, step by step; where kids lie. No function of the program is walked here. -/
/- The contracts of the reader's rules that do not call themselves. -/
import Derived.Test.YtbadafkfjfbnlaaGreatDoorMrgE
namespace Go.Proofs.YtbadafkfjfbnlaaGreatDoor
set_option maxRecDepth 100000
open Go.RowKit

set_option maxRecDepth 100000 in
set_option maxHeartbeats 1000000 in
theorem start_any (k f : Int) (w : World) : Calls Tryz.prog 109 #[.int .i64 k, .int .i64 f] w fun e w' => e = .returned (.pointer (some ⟨w.heap.size, 0, none⟩)) ∧ Mk w.heap.size w' w.heap.size k ⟨#[]⟩ 0 f f 0 (.slice none 0 0) [] ∧ Below w.heap.size w w' := by
  go_enter Tryz.func109, Tryz.ntmps109
  go_wp2
  go_ret
  exact ⟨rfl, Mk.new w k ⟨#[]⟩ 0 f f 0, (Below.refl _ _).alloc (Nat.le_refl _) _⟩
section
variable {T : Nat} {w : World} {g : Nat} {st : Option Addr} {cap : Nat} {ts : List Tok} {p : Nat}
set_option maxRecDepth 100000 in
set_option maxHeartbeats 1000000 in
theorem begin_any (k : Int) (hR : Rdr T w g st cap ts p) : Calls Tryz.prog 76 #[.pointer (some ⟨g, 0, none⟩), .int .i64 k] w fun e w' => ∃ b, e = .returned (.pointer (some ⟨b, 0, none⟩)) ∧ Mk w.heap.size w' b k ⟨#[]⟩ 0 (herI ts p) (herI ts p) 0 (.slice none 0 0) [] ∧ Below w.heap.size w w' := by
  have HR : Hid (Rdr T w g st cap ts p) := hR
  clear hR
  go_enter Tryz.func76, Tryz.ntmps76
  go_wp2_with fail
  refine (here_any HR.out).mono ?_
  rintro e W ⟨rfl, b0⟩
  go_wp2_with fail
  refine (start_any k (herI ts p) W).mono ?_
  rintro e W1 ⟨rfl, hM, b1⟩
  go_wp2
  go_ret
  exact ⟨_, rfl, hM.mono b0.size, b0.trans (b1.mono b0.size)⟩
end
section
variable {B : Nat} {w : World} {b : Nat} {k : Int} {x : ByteArray} {n a f t : Int} {v : Value} {l : List Pt}
/-- What a writing of two of its cells leaves. -/
theorem Mk.word (h : Mk B w b k x n a f t v l) (x' : ByteArray) (a' : Int) {W : World} (hb : Below w.heap.size w W) : Mk B ((W.setCell ⟨b, 1, none⟩ (.string x')).setCell ⟨b, 4, none⟩ (.int .i64 a')) b k x' n a' f t v l ∧ Below B w ((W.setCell ⟨b, 1, none⟩ (.string x')).setCell ⟨b, 4, none⟩ (.int .i64 a')) ∧ ∀ j, j ≠ b → j < w.heap.size → ((W.setCell ⟨b, 1, none⟩ (.string x')).setCell ⟨b, 4, none⟩ (.int .i64 a')).heap[j]? = w.heap[j]? := by
  have hM := h.below hb
  have h1 := heap_setCell_same _ _ 1 _ _ (.string x') hM.row
  have h2 := heap_setCell_same _ _ 4 _ _ (.int .i64 a') h1
  refine ⟨hM.turn (by simp) (fun j hj _ => (heap_setCell_other _ _ _ _ hj).trans (heap_setCell_other _ _ _ _ hj)) h2, ?_⟩
  have hb' : Below B w W := ⟨hb.os, hb.tape, hb.output, hb.size, fun k hk => hb.block k (by have := h.hB; have := h.lt; omega)⟩
  exact ⟨(hb'.setCell (p := ⟨b, 1, none⟩) h.hB _).setCell (p := ⟨b, 4, none⟩) h.hB _, fun j hj hl => (heap_setCell_other _ _ _ _ hj).trans ((heap_setCell_other _ _ _ _ hj).trans (hb.block j hl))⟩
set_option maxRecDepth 100000 in
set_option maxHeartbeats 1000000 in
theorem says_full (t' : Tok) (hM : Mk B w b k x n a f t v l) : Calls Tryz.prog 78 #[.pointer (some ⟨b, 0, none⟩), .agg t'.cells] w fun e w' => e = .returned (.tuple #[]) ∧ Mk B w' b k t'.text n t'.pos f t v l ∧ Below B w w' ∧ ∀ j, j ≠ b → j < w.heap.size → w'.heap[j]? = w.heap[j]? := by
  have HM : Hid (Mk B w b k x n a f t v l) := hM
  clear hM
  unfold Tok.cells
  go_enter Tryz.func78, Tryz.ntmps78
  go_wp2
  refine wp_gen (fun W => Below w.heap.size w W ∧ W.heap[w.heap.size]? = some (.cells t'.cells 60 (0, 0))) ⟨(Below.refl _ _).alloc (Nat.le_refl _) _, heap_alloc_new _ _⟩ ?_
  rintro W ⟨hB, hz⟩
  have HB : Hid (Below w.heap.size w W) := hB
  have hM := HM.out.below hB
  have k1 : W.cell? ⟨w.heap.size, 1, none⟩ = some (.string t'.text) := (cell_of_row _ _ 1 _ _ _ hz).trans rfl
  have k2 : W.cell? ⟨w.heap.size, 2, none⟩ = some (.int .i64 t'.pos) := (cell_of_row _ _ 2 _ _ _ hz).trans rfl
  have c1 : W.cell? ⟨b, 1, none⟩ = some (.string x) := (cell_of_row _ _ 1 _ _ _ hM.row).trans rfl
  have c4 : W.cell? ⟨b, 4, none⟩ = some (.int .i64 a) := (cell_of_row _ _ 4 _ _ _ hM.row).trans rfl
  have f1 : W.frozen? ⟨b, 1, none⟩ = false := frozen_of_row _ _ _ _ _ hM.row
  have f4 : W.frozen? ⟨b, 4, none⟩ = false := frozen_of_row _ _ _ _ _ hM.row
  clear hM hz hB
  go_region
  go_end0
  obtain ⟨h1, h2, h3⟩ := HM.out.word t'.text t'.pos HB.out
  exact ⟨rfl, h1.keep (Nat.le_refl _) fun _ _ _ => rfl, h2.drew, h3⟩
theorem says_any (t' : Tok) (hM : Mk B w b k x n a f t v l) : Calls Tryz.prog 78 #[.pointer (some ⟨b, 0, none⟩), .agg t'.cells] w fun e w' => e = .returned (.tuple #[]) ∧ Mk B w' b k t'.text n t'.pos f t v l ∧ Below B w w' :=
  (says_full t' hM).mono fun _ _ ⟨h1, h2, h3, _⟩ => ⟨h1, h2, h3⟩
/-- Kids more. -/
theorem Mk.more {bs2 : List Nat} {l2 : List Pt} {sp : Option Addr} {cp : Nat} {S2 : Nat → Prop} (h : Mk B w b k x n a f t v l) (hr : RowsP w sp bs2) (hn : sp = none → bs2.length = 0 ∧ cp = 0) (hp : PsAt w S2 bs2 l2)
    (hS : ∀ j, S2 j → B ≤ j ∧ j < w.heap.size ∧ j ≠ b ∧ v.ownBlock ≠ some j) (hl : l.length + l2.length ≤ 1000000) :
    ∃ s0 n0 c0 s1 n1 c1 W, v = .slice s0 n0 c0 ∧ (Builtin.append_ #[123, 123] 123 #[v, .slice sp bs2.length cp]).run Tryz.prog w = .ok (.slice s1 n1 c1) W ∧ W.cell? ⟨b, 7, none⟩ = some v ∧ W.frozen? ⟨b, 7, none⟩ = false ∧
      Mk B (W.setCell ⟨b, 7, none⟩ (.slice s1 n1 c1)) b k x n a f t (.slice s1 n1 c1) (l ++ l2) ∧ Below B w (W.setCell ⟨b, 7, none⟩ (.slice s1 n1 c1)) := by
  have hlt := h.lt
  obtain ⟨hB, h1, bs, S, h2, h3, h4⟩ := h
  obtain ⟨s0, c0, rfl, -⟩ := OwnG.shape h2
  obtain ⟨v', W, hrun, ho, hg, hq⟩ := own_run elP 123 h2 hn hr (by rw [h3.1, hp.1]; exact hl) (by omega)
  obtain ⟨s1, c1, rfl⟩ := OwnG.shape ho
  have hne : (Value.slice s0 bs.length c0).ownBlock ≠ some b := h2.ne h1 (by decide)
  have hk : ∀ j, j < w.heap.size → (Value.slice s0 bs.length c0).ownBlock ≠ some j → W.heap[j]? = w.heap[j]? := fun j hj hn => hg.block j hj fun e => hn e.symm
  have hrow : W.heap[b]? = some (.cells (paC k x n a f t (.slice s0 bs.length c0)) 125 (0, 0)) := (hk b hlt hne).trans h1
  have hnew : ∀ j, j < w.heap.size → (Value.slice s0 bs.length c0).ownBlock ≠ some j → (Value.slice s1 (bs ++ bs2).length c1).ownBlock ≠ some j := fun j hj hn e => by
    rcases hq with hq | hq
    · exact hn (hq.symm.trans e)
    · rw [hq] at e
      injection e with e
      omega
  have hset := heap_setCell_same _ _ 7 _ _ (.slice s1 (bs ++ bs2).length c1) hrow
  refine ⟨s0, _, c0, s1, _, c1, W, rfl, hrun, (cell_of_row _ _ 7 _ _ _ hrow).trans rfl, frozen_of_row _ _ _ _ _ hrow, ⟨hB, hset, bs ++ bs2, fun j => S j ∨ S2 j, ?_, ?_, ?_⟩, ?_⟩
  · refine ho.keep fun q hq' => heap_setCell_other _ _ _ _ fun e => ?_
    exact hnew b hlt hne (by rw [hq', show q = b from e])
  · refine PsAt.app ?_ ?_
    · exact h3.keep (fun _ h => .inl h) fun j hj => (heap_setCell_other _ _ _ _ (h4 j hj).2.2.1).trans (hk j (h4 j hj).2.1 (h4 j hj).2.2.2)
    · exact hp.keep (fun _ h => .inr h) fun j hj => (heap_setCell_other _ _ _ _ (hS j hj).2.2.1).trans (hk j (hS j hj).2.1 (hS j hj).2.2.2)
  · rintro j hj
    have hsz : (W.setCell ⟨b, 7, none⟩ (.slice s1 (bs ++ bs2).length c1)).heap.size = W.heap.size := by simp
    rw [hsz]
    have hle := hg.size
    rcases hj with hj | hj
    · obtain ⟨q1, q2, q3, q4⟩ := h4 j hj
      exact ⟨q1, by omega, q3, hnew j q2 q4⟩
    · obtain ⟨q1, q2, q3, q4⟩ := hS j hj
      exact ⟨q1, by omega, q3, hnew j q2 q4⟩
  · have hb : Below B w W := ⟨hg.os, hg.tape, hg.output, hg.size, fun j hj => hk j (by omega) fun e => by have := (h2.lt e).1; omega⟩
    exact hb.setCell (p := ⟨b, 7, none⟩) hB _
set_option maxRecDepth 100000 in
set_option maxHeartbeats 1000000 in
theorem add_any {bs2 : List Nat} {l2 : List Pt} {sp : Option Addr} {cp : Nat} {S2 : Nat → Prop} (hM : Mk B w b k x n a f t v l) (hr : RowsP w sp bs2) (hn : sp = none → bs2.length = 0 ∧ cp = 0) (hp : PsAt w S2 bs2 l2)
    (hS : ∀ j, S2 j → B ≤ j ∧ j < w.heap.size ∧ j ≠ b ∧ v.ownBlock ≠ some j) (hl : l.length + l2.length ≤ 1000000) :
    Calls Tryz.prog 82 #[.pointer (some ⟨b, 0, none⟩), .slice sp bs2.length cp] w fun e w' => e = .returned (.tuple #[]) ∧ (∃ v', Mk B w' b k x n a f t v' (l ++ l2)) ∧ Below B w w' := by
  obtain ⟨s0, n0, c0, s1, n1, c1, W, rfl, hrun, hc, hz, hM', hb⟩ := hM.more hr hn hp hS hl
  have HM : Hid _ := hM'
  have HBB : Hid _ := hb
  have d7 : w.cell? ⟨b, 7, none⟩ = some (.slice s0 n0 c0) := (cell_of_row _ _ 7 _ _ _ hM.row).trans rfl
  clear hM hr hn hp hS hl hM' hb
  go_enter Tryz.func82, Tryz.ntmps82
  go_wp2_with (refine list_appendg (.tmp 8) (.tmp 9) 123 (by rfl) (by rfl) (by rfl) (by rfl) hrun ?_)
  go_end0
  exact ⟨rfl, ⟨_, HM.out⟩, HBB.out⟩
end
end Go.Proofs.YtbadafkfjfbnlaaGreatDoor

namespace Go.Proofs.YtbadafkfjfbnlaaGreatDoor
set_option maxRecDepth 100000
open Go.RowKit

section
variable {T B : Nat} {w : World} {g : Nat} {st : Option Addr} {cap : Nat} {ts : List Tok} {p : Nat} {b : Nat} {k : Int} {x : ByteArray} {n a f t : Int} {v : Value} {l : List Pt}
/-- A cell of it is written. -/
theorem Mk.numb (h : Mk B w b k x n a f t v l) (u : Int) : Mk B (w.setCell ⟨b, 6, none⟩ (.int .i64 u)) b k x n a f u v l ∧ Below B w (w.setCell ⟨b, 6, none⟩ (.int .i64 u)) ∧ w.cell? ⟨b, 6, none⟩ = some (.int .i64 t) ∧ w.frozen? ⟨b, 6, none⟩ = false :=
  ⟨h.turn (by simp) (fun j hj _ => heap_setCell_other _ _ _ _ hj) (heap_setCell_same _ _ 6 _ _ (.int .i64 u) h.row), (Below.refl _ _).setCell (p := ⟨b, 6, none⟩) h.hB _, (cell_of_row _ _ 6 _ _ _ h.row).trans rfl, frozen_of_row _ _ _ _ _ h.row⟩
theorem Mk.text (h : Mk B w b k x n a f t v l) (u : ByteArray) : Mk B (w.setCell ⟨b, 1, none⟩ (.string u)) b k u n a f t v l ∧ Below B w (w.setCell ⟨b, 1, none⟩ (.string u)) ∧ w.cell? ⟨b, 1, none⟩ = some (.string x) ∧ w.frozen? ⟨b, 1, none⟩ = false :=
  ⟨h.turn (by simp) (fun j hj _ => heap_setCell_other _ _ _ _ hj) (heap_setCell_same _ _ 1 _ _ (.string u) h.row), (Below.refl _ _).setCell (p := ⟨b, 1, none⟩) h.hB _, (cell_of_row _ _ 1 _ _ _ h.row).trans rfl, frozen_of_row _ _ _ _ _ h.row⟩
theorem Mk.nums (h : Mk B w b k x n a f t v l) (u : Int) : Mk B (w.setCell ⟨b, 2, none⟩ (.int .i64 u)) b k x u a f t v l ∧ Below B w (w.setCell ⟨b, 2, none⟩ (.int .i64 u)) ∧ w.cell? ⟨b, 2, none⟩ = some (.int .i64 n) ∧ w.frozen? ⟨b, 2, none⟩ = false :=
  ⟨h.turn (by simp) (fun j hj _ => heap_setCell_other _ _ _ _ hj) (heap_setCell_same _ _ 2 _ _ (.int .i64 u) h.row), (Below.refl _ _).setCell (p := ⟨b, 2, none⟩) h.hB _, (cell_of_row _ _ 2 _ _ _ h.row).trans rfl, frozen_of_row _ _ _ _ _ h.row⟩
theorem Mk.kind (h : Mk B w b k x n a f t v l) (u : Int) : Mk B (w.setCell ⟨b, 0, none⟩ (.int .i64 u)) b u x n a f t v l ∧ Below B w (w.setCell ⟨b, 0, none⟩ (.int .i64 u)) ∧ w.cell? ⟨b, 0, none⟩ = some (.int .i64 k) ∧ w.frozen? ⟨b, 0, none⟩ = false :=
  ⟨h.turn (by simp) (fun j hj _ => heap_setCell_other _ _ _ _ hj) (heap_setCell_same _ _ 0 _ _ (.int .i64 u) h.row), (Below.refl _ _).setCell (p := ⟨b, 0, none⟩) h.hB _, (cell_of_row _ _ 0 _ _ _ h.row).trans rfl, frozen_of_row _ _ _ _ _ h.row⟩
set_option maxRecDepth 100000 in
set_option maxHeartbeats 1000000 in
theorem done_any {bs2 : List Nat} {l2 : List Pt} {sp : Option Addr} {cp : Nat} {S2 : Nat → Prop} (hR : Rdr T w g st cap ts p) (hTB : T ≤ B) (hM : Mk B w b k x n a f t v l) (hr : RowsP w sp bs2) (hn : sp = none → bs2.length = 0 ∧ cp = 0) (hp : PsAt w S2 bs2 l2)
    (hS : ∀ j, S2 j → B ≤ j ∧ j < w.heap.size ∧ j ≠ b ∧ v.ownBlock ≠ some j) (hl : l.length + l2.length ≤ 1000000) :
    Calls Tryz.prog 85 #[.pointer (some ⟨g, 0, none⟩), .pointer (some ⟨b, 0, none⟩), .slice sp bs2.length cp] w fun e w' => e = .returned (.pointer (some ⟨b, 0, none⟩)) ∧ (∃ v', Mk B w' b k x n a f (behI ts p) v' (l ++ l2)) ∧ Below B w w' := by
  have HR : Hid (Rdr T w g st cap ts p) := hR
  have HM : Hid (Mk B w b k x n a f t v l) := hM
  have HRR : Hid (RowsP w sp bs2) := hr
  have HN : Hid (sp = none → bs2.length = 0 ∧ cp = 0) := hn
  have HP : Hid (PsAt w S2 bs2 l2) := hp
  have HS : Hid (∀ j, S2 j → B ≤ j ∧ j < w.heap.size ∧ j ≠ b ∧ v.ownBlock ≠ some j) := hS
  clear hR hM hr hn hp hS
  go_enter Tryz.func85, Tryz.ntmps85
  go_wp2_with fail
  refine (add_any HM.out HRR.out HN.out HP.out HS.out hl).mono ?_
  rintro e W1 ⟨rfl, ⟨v1, hM1⟩, b1⟩
  have HM1 : Hid (Mk B W1 b k x n a f t v1 (l ++ l2)) := hM1
  clear hM1 HRR HN HP HS
  go_wp2_with fail
  refine (behind_any (HR.out.below hTB b1)).mono ?_
  rintro e W2 ⟨rfl, b2⟩
  have HM2 : Hid (Mk B W2 b k x n a f t v1 (l ++ l2)) := HM1.out.below b2
  have HB2 : Hid (Below B w W2) := b1.trans ⟨b2.os, b2.tape, b2.output, b2.size, fun j hj => b2.block j (by have := HM1.out.hB; have := HM1.out.lt; omega)⟩
  obtain ⟨hM3, b3, c6, z6⟩ := HM2.out.numb (behI ts p)
  have HM3 : Hid _ := hM3
  have HB3 : Hid _ := b3
  clear hM3 b3 b1 b2 HM1
  go_wp2
  go_ret
  exact ⟨rfl, ⟨_, HM3.out⟩, HB2.out.trans HB3.out⟩
/-- A part was read. -/
def PtP (T : Nat) (w : World) (g : Nat) (st : Option Addr) (cap : Nat) (ts : List Tok) (r : Rs Pt) (e : Ending) (w' : World) : Prop :=
  w.grownBy w' (some g) ∧ match r with
  | .ok t q => ∃ b, e = .returned (.pointer (some ⟨b, 0, none⟩)) ∧ PtAt w' (fun j => w.heap.size ≤ j ∧ j < w'.heap.size) b t ∧ Rdr T w' g st cap ts q
  | .bad s => e = wroE s
  | .out => False
theorem below_base {W W' : World} (hb : Below w.heap.size W W') (hw : w.grownBy W (some g)) : w.grownBy W' (some g) := gr_on hw hb
set_option maxRecDepth 100000 in
set_option maxHeartbeats 1000000 in
theorem leaf_any (k : Int) (hR : Rdr T w g st cap ts p) (hp : p < ts.length) : Calls Tryz.prog 151 #[.pointer (some ⟨g, 0, none⟩), .int .i64 k] w fun e w' => w.grownBy w' (some g) ∧ ∃ b v, e = .returned (.pointer (some ⟨b, 0, none⟩)) ∧ Mk w.heap.size w' b k (nxT ts p).text 0 (nxT ts p).pos (herI ts p) (behI ts (p + 1)) v [] ∧ Rdr T w' g st cap ts (p + 1) := by
  have HR : Hid (Rdr T w g st cap ts p) := hR
  have hT := hR.hT
  have hg := hR.lt
  clear hR
  go_enter Tryz.func151, Tryz.ntmps151
  go_wp2_with fail
  refine (begin_any k HR.out).mono ?_
  rintro e W1 ⟨b, rfl, hM, b1⟩
  have HM1 : Hid _ := hM
  have HB1 : Hid (Below w.heap.size w W1) := b1
  clear hM b1
  go_wp2_with fail
  refine (take_one (HR.out.low HB1.out) hp).mono ?_
  rintro e W2 ⟨rfl, g2, r2⟩
  have HM2 : Hid _ := HM1.out.grow hg g2
  have HG2 : Hid (w.grownBy W2 (some g)) := gr_trans (gr_below HB1.out) g2
  have HR2 : Hid (Rdr T W2 g st cap ts (p + 1)) := r2
  clear g2 r2 HM1 HB1
  go_wp2_with fail
  refine (says_any (nxT ts p) HM2.out).mono ?_
  rintro e W3 ⟨rfl, hM3, b3⟩
  have HM3 : Hid _ := hM3
  have HG3 : Hid (w.grownBy W3 (some g)) := gr_on HG2.out b3
  have HR3 : Hid (Rdr T W3 g st cap ts (p + 1)) := HR2.out.below hT b3
  clear hM3 b3 HM2 HG2 HR2
  go_wp2_with fail
  refine (done_any (bs2 := []) (l2 := []) (S2 := fun _ => False) HR3.out hT HM3.out RowsAt.none (fun _ => ⟨rfl, rfl⟩) (PsAt.nil _ _) (fun _ h => h.elim) (by simp)).mono ?_
  rintro e W4 ⟨rfl, ⟨v4, hM4⟩, b4⟩
  have HM4 : Hid _ := hM4
  have HG4 : Hid (w.grownBy W4 (some g)) := gr_on HG3.out b4
  have HR4 : Hid (Rdr T W4 g st cap ts (p + 1)) := HR3.out.below hT b4
  clear hM4 b4 HM3 HG3 HR3
  go_wp2
  go_ret
  exact ⟨HG4.out, b, v4, rfl, HM4.out, HR4.out⟩
end
end Go.Proofs.YtbadafkfjfbnlaaGreatDoor

namespace Go.Proofs.YtbadafkfjfbnlaaGreatDoor
set_option maxRecDepth 100000
open Go.RowKit

/-- Where something is read, it ends at that place at the least. -/
def ad {α : Type} (r : Rs α) (k : Nat) : Prop := match r with | .ok _ q => k ≤ q | _ => True
theorem ad_mono {α : Type} {r : Rs α} {k m : Nat} (h : ad r k) (hm : m ≤ k) : ad r m := by
  cases r with
  | ok v q => exact Nat.le_trans hm h
  | bad s => trivial
  | out => trivial
theorem ad_bind {α β : Type} {r : Rs α} {f : α → Nat → Rs β} {k m : Nat} (h : ad r k) (hf : ∀ v q, k ≤ q → ad (f v q) m) : ad (r.bind f) m := by
  cases r with
  | ok v q => exact hf v q h
  | bad s => trivial
  | out => trivial
theorem ad_need {β : Type} {b : Bool} {s : Int} {k : Rs β} {m : Nat} (h : b = true → ad k m) : ad (Rs.need b s k) m := by
  unfold Rs.need
  split
  · rename_i hb; exact h hb
  · trivial
theorem ad_ite {β : Type} {c : Prop} [Decidable c] {a b : Rs β} {m : Nat} (h : c → ad a m) (h' : ¬ c → ad b m) : ad (if c then a else b) m := by
  split
  · rename_i hc; exact h hc
  · rename_i hc; exact h' hc
section
variable {ts : List Tok}
theorem ad_exp {β : Type} {s : List UInt8} {p m : Nat} {k : Nat → Rs β} (hs : s ≠ []) (h : p < ts.length → ad (k (p + 1)) m) : ad (expP ts s p k) m := ad_need fun hb => h (is_lt hb hs)
theorem ad_kin {β : Type} {n : Int} {p m : Nat} {k : Tok → Nat → Rs β} (hn : n ≠ 0) (h : p < ts.length → ad (k (nxT ts p) (p + 1)) m) : ad (kinP ts n p k) m := ad_need fun hb => h (kin_lt hb hn)
theorem ad_nam {β : Type} {p m : Nat} {k : Tok → Nat → Rs β} (h : p < ts.length → ad (k (nxT ts p) (p + 1)) m) : ad (namP ts p k) m := ad_need fun hb => h (nam_lt hb)
theorem ad_lea (k : Int) (p : Nat) : ad (leaP ts k p) (p + 1) := Nat.le_refl _
theorem ad_wor (k : Int) (p : Nat) : ad (worP ts k p) (p + 1) := ad_need fun _ => Nat.le_refl _
theorem ad_va1 (p : Nat) : ad (va1P ts p) (p + 1) := by
  unfold va1P
  refine ad_ite (fun _ => Nat.le_refl _) fun _ => ad_ite (fun _ => Nat.le_refl _) fun _ => ad_ite (fun _ => ad_lea _ _) fun _ => trivial
theorem ad_val (p : Nat) : ad (valP ts p) (p + 1) := by
  unfold valP
  refine ad_ite (fun _ => ad_ite (fun _ => ad_bind (ad_va1 _) fun v q h => ?_) fun _ => trivial) fun _ => ad_va1 _
  show p + 1 ≤ q
  omega
theorem ad_typ (p : Nat) : ad (typP ts p) (p + 1) := by
  unfold typP
  refine ad_ite (fun _ => ad_lea _ _) fun _ => ad_ite (fun _ => ad_bind (ad_wor _ _) fun v q h => ad_exp (by simp) fun _ => ad_nam fun _ => ?_) fun _ => ad_wor _ _
  show p + 1 ≤ q + 1 + 1
  omega
theorem ad_tyd (k : Int) (p : Nat) : ad (tydP ts k p) (p + 2) := by
  unfold tydP
  refine ad_nam fun _ => ad_bind (ad_typ _) fun v q h => ?_
  show p + 2 ≤ q
  omega
theorem ad_imp (p : Nat) : ad (impP ts p) (p + 2) := by
  unfold impP
  exact ad_exp (by simp) fun _ => ad_kin (by simp) fun _ => Nat.le_refl _
theorem ad_con (p : Nat) : ad (conP ts p) (p + 1) := by
  unfold conP
  refine ad_exp (by simp) fun _ => ad_nam fun _ => ad_exp (by simp) fun _ => ad_bind (ad_val _) fun v q h => ?_
  show p + 1 ≤ q
  omega
theorem ad_rec (p : Nat) : ad (recP ts p) (p + 1) := by
  unfold recP
  refine ad_nam fun _ => ad_bind (ad_wor _ _) fun v q h => ?_
  show p + 1 ≤ q
  omega
theorem ad_ok {α : Type} {v : α} {k q : Nat} (h : k ≤ q) : ad (Rs.ok v q) k := h
structure AdA (ts : List Tok) (n : Nat) : Prop where
  bin : ∀ l p, ad ((fns ts n).bin l p) (p + 1)
  binL : ∀ l fr t p, ad ((fns ts n).binL l fr t p) p
  una : ∀ p, ad ((fns ts n).una p) (p + 1)
  post : ∀ p, ad ((fns ts n).post p) (p + 1)
  posL : ∀ fr t p, ad ((fns ts n).posL fr t p) p
  prim : ∀ p, ad ((fns ts n).prim p) (p + 1)
  argL : ∀ l p, ad ((fns ts n).argL l p) p
  parL : ∀ l p, ad ((fns ts n).parL l p) p
  fieL : ∀ l p, ad ((fns ts n).fieL l p) p
  stmt : ∀ p, ad ((fns ts n).stmt p) (p + 1)
  bran : ∀ p, ad ((fns ts n).bran p) (p + 1)
  stmL : ∀ l p, ad ((fns ts n).stmL l p) p
  impL : ∀ l p, ad ((fns ts n).impL l p) p
  decL : ∀ l p, ad ((fns ts n).decL l p) p
theorem ad_blo {n p : Nat} (h : AdA ts n) : ad (bloP ts (fns ts n) p) (p + 1) := by
  unfold bloP linP
  refine ad_bind (k := p + 1) (ad_exp (by simp) fun hp => ad_bind (h.stmL _ _) fun l q hq => ad_exp (by simp) fun _ => ad_ok (by omega)) fun l q hq => ad_ok hq
theorem ad_lis {one : Nat → Rs Pt} {more : List Pt → Nat → Rs (List Pt)} {p : Nat} (h1 : p < ts.length → ad (one (p + 1)) (p + 1)) (h2 : ∀ l q, p < ts.length → p + 1 ≤ q → ad (more l q) q) : ad (lisP ts one more p) (p + 1) := by
  unfold lisP
  refine ad_exp (by simp) fun hp => ad_ite (fun _ => ad_ok (by omega)) fun _ => ad_bind (h1 hp) fun v q hq => ad_bind (h2 _ _ hp hq) fun l q' hq' => ad_exp (by simp) fun _ => ad_ok (by omega)
theorem adA (n : Nat) : AdA ts n := by
  induction n with
  | zero => constructor <;> (intros; trivial)
  | succ n ih =>
    have hvar : ∀ p, ad (varP ts (fns ts n) p) (p + 1) := fun p => by
      unfold varP
      refine ad_exp (by simp) fun _ => ad_nam fun _ => ad_bind (ad_typ _) fun v q hq => ad_ite (fun _ => ad_bind (ih.bin _ _) fun x q' hq' => ad_ok (by omega)) fun _ => ad_ok (by omega)
    have hblo : ∀ p, ad (bloP ts (fns ts n) p) (p + 1) := fun p => ad_blo ih
    constructor
    · intro l p
      show ad (if l = 5 then (fns ts n).una p else ((fns ts n).bin (l + 1) p).bind fun t q => (fns ts n).binL l (herI ts p) t q) (p + 1)
      refine ad_ite (fun h => ih.una _) fun h => ad_bind (ih.bin _ _) fun t q hq => ad_mono (ih.binL _ _ _ _) hq
    · intro l fr t p
      refine ad_ite (fun h => ?_) fun _ => ad_ok (Nat.le_refl _)
      have hp := row_lt h
      refine ad_bind (ih.bin _ _) fun u q hq => ad_ite (fun _ => ad_ok (by omega)) fun _ => ad_mono (ih.binL _ _ _ _) (by omega)
    · intro p
      refine ad_ite (fun h => ?_) fun _ => ih.post _
      have hp : p < ts.length := by
        rw [Bool.or_eq_true] at h
        rcases h with h | h <;> exact is_lt h (by simp)
      exact ad_bind (ih.una _) fun u q hq => ad_ok (by omega)
    · intro p
      exact ad_bind (ih.prim _) fun t q hq => ad_mono (ih.posL _ _ _) hq
    · intro fr t p
      refine ad_ite (fun h => ?_) fun _ => ad_ite (fun h => ?_) fun _ => ad_ok (Nat.le_refl _)
      · exact ad_nam fun hp => ad_mono (ih.posL _ _ _) (by omega)
      · have hp := is_lt h (by simp)
        exact ad_bind (ad_lis (fun _ => ad_mono (ih.bin _ _) (by omega)) fun l q _ hq => ih.argL _ _) fun l q hq => ad_mono (ih.posL _ _ _) (by omega)
    · intro p
      refine ad_ite (fun h => ?_) fun _ => ad_ite (fun _ => ad_lea _ _) fun _ => ad_va1 _
      have hp := is_lt h (by simp)
      exact ad_bind (ih.bin _ _) fun t q hq => ad_exp (by simp) fun _ => ad_ok (by omega)
    · intro l p
      refine ad_ite (fun h => ?_) fun _ => ad_ok (Nat.le_refl _)
      have hp := is_lt h (by simp)
      exact ad_bind (ih.bin _ _) fun t q hq => ad_mono (ih.argL _ _) (by omega)
    · intro l p
      refine ad_ite (fun h => ?_) fun _ => ad_ok (Nat.le_refl _)
      have hp := is_lt h (by simp)
      exact ad_bind (ad_tyd _ _) fun t q hq => ad_mono (ih.parL _ _) (by omega)
    · intro l p
      refine ad_ite (fun _ => ad_ok (Nat.le_refl _)) fun _ => ?_
      refine ad_bind (ad_tyd _ _) fun t q hq => ad_ite (fun h => ?_) fun _ => ad_kin (by simp) fun h => ad_mono (ih.fieL _ _) (by omega)
      have := is_lt h (by simp)
      exact ad_mono (ih.fieL _ _) (by omega)
    · intro p
      refine ad_ite (fun h => ?_) fun _ => ad_ite (fun h => ?_) fun _ => ad_ite (fun h => ih.bran _) fun _ => ad_ite (fun h => ?_) fun _ => ad_ite (fun h => ?_) fun _ => ad_ite (fun h => ?_) fun _ => ?_
      · exact hblo p
      · exact hvar p
      · unfold looP
        refine ad_exp (by simp) fun hp => ad_bind (ih.bin _ _) fun x q hq => ad_bind (hblo q) fun b q' hq' => ad_ok (by omega)
      · unfold resP
        refine ad_exp (by simp) fun hp => ad_ite (fun _ => ad_bind (ih.bin _ _) fun x q hq => ad_ok (by omega)) fun _ => ad_ok (by omega)
      · unfold shoP
        refine ad_nam fun hp => ad_exp (by simp) fun _ => ad_bind (ih.bin _ _) fun x q hq => ad_ok (by omega)
      · unfold simP
        refine ad_bind (ih.bin _ _) fun x q hq => ad_ite (fun h => ?_) fun _ => ad_ok (by omega)
        have := is_lt h (by simp)
        exact ad_bind (ih.bin _ _) fun y q' hq' => ad_ok (by omega)
    · intro p
      unfold fns
      dsimp only
      refine ad_exp (by simp) fun hp => ad_bind (ih.bin _ _) fun x q hq => ad_bind (hblo q) fun b q' hq' => ad_ite (fun h => ?_) fun _ => ad_ok (by omega)
      have := is_lt h (by simp)
      refine ad_bind (k := q' + 1) (ad_ite (fun _ => ad_mono (ih.bran _) (by omega)) fun _ => ad_mono (hblo _) (by omega)) fun c q'' hq'' => ad_ok (by omega)
    · intro l p
      refine ad_ite (fun _ => ad_ok (Nat.le_refl _)) fun _ => ad_bind (ih.stmt _) fun t q hq => ad_ite (fun h => ?_) fun _ => ad_kin (by simp) fun h => ad_mono (ih.stmL _ _) (by omega)
      have := is_lt h (by simp)
      exact ad_mono (ih.stmL _ _) (by omega)
    · intro l p
      refine ad_ite (fun h => ?_) fun _ => ad_ok (Nat.le_refl _)
      have := is_lt h (by simp)
      exact ad_bind (ad_imp _) fun t q hq => ad_kin (by simp) fun _ => ad_mono (ih.impL _ _) (by omega)
    · intro l p
      refine ad_ite (fun hp => ?_) fun _ => ad_ok (Nat.le_refl _)
      have hdec : ad (decP ts (fns ts n) p) (p + 1) := by
        have hlis : ∀ q, p + 1 ≤ q → ad (lisP ts (tydP ts 9) (fns ts n).parL q) (q + 1) := fun q hq => ad_lis (fun _ => ad_mono (ad_tyd _ _) (by omega)) fun l q' _ hq' => ih.parL _ _
        have hfun : ∀ fr l q, p + 1 ≤ q → ad (funR ts (fns ts n) fr l q) (q + 1) := fun fr l q hq => by
          unfold funR
          refine ad_nam fun _ => ad_bind (hlis _ (by omega)) fun ps q' hq' => ad_ite (fun _ => ad_bind (hblo _) fun b q'' hq'' => ad_ok (by omega)) fun _ => ad_bind (ad_typ _) fun v q'' hq'' => ad_bind (hblo _) fun b q3 hq3 => ad_ok (by omega)
        unfold decP
        refine ad_ite (fun _ => ad_con _) fun _ => ad_ite (fun _ => hvar p) fun _ => ad_ite (fun _ => ?_) fun _ => ad_ite (fun _ => ?_) fun _ => trivial
        · unfold strP linP
          refine ad_exp (by simp) fun _ => ad_nam fun _ => ad_exp (by simp) fun _ => ad_bind (k := p + 1) (ad_exp (by simp) fun _ => ad_bind (ih.fieL _ _) fun l q hq => ad_exp (by simp) fun _ => ad_ok (by omega)) fun l q hq => ad_ok hq
        · unfold funP
          refine ad_exp (by simp) fun _ => ad_ite (fun _ => ad_bind (ad_rec _) fun v q hq => ad_exp (by simp) fun _ => ad_mono (hfun _ _ _ (by omega)) (by omega)) fun _ => ad_mono (hfun _ _ _ (by omega)) (by omega)
      exact ad_bind hdec fun t q hq => ad_kin (by simp) fun _ => ad_mono (ih.decL _ _) (by omega)
theorem ad_decP (n p : Nat) : ad (decP ts (fns ts n) p) (p + 1) := by
  have ih := adA (ts := ts) n
  have hvar : ∀ p, ad (varP ts (fns ts n) p) (p + 1) := fun p => by
    unfold varP
    refine ad_exp (by simp) fun _ => ad_nam fun _ => ad_bind (ad_typ _) fun v q hq => ad_ite (fun _ => ad_bind (ih.bin _ _) fun x q' hq' => ad_ok (by omega)) fun _ => ad_ok (by omega)
  have hblo : ∀ p, ad (bloP ts (fns ts n) p) (p + 1) := fun p => ad_blo ih
  have hlis : ∀ q, p + 1 ≤ q → ad (lisP ts (tydP ts 9) (fns ts n).parL q) (q + 1) := fun q hq => ad_lis (fun _ => ad_mono (ad_tyd _ _) (by omega)) fun l q' _ hq' => ih.parL _ _
  have hfun : ∀ fr l q, p + 1 ≤ q → ad (funR ts (fns ts n) fr l q) (q + 1) := fun fr l q hq => by
    unfold funR
    refine ad_nam fun _ => ad_bind (hlis _ (by omega)) fun ps q' hq' => ad_ite (fun _ => ad_bind (hblo _) fun b q'' hq'' => ad_ok (by omega)) fun _ => ad_bind (ad_typ _) fun v q'' hq'' => ad_bind (hblo _) fun b q3 hq3 => ad_ok (by omega)
  unfold decP
  refine ad_ite (fun _ => ad_con _) fun _ => ad_ite (fun _ => hvar p) fun _ => ad_ite (fun _ => ?_) fun _ => ad_ite (fun _ => ?_) fun _ => trivial
  · unfold strP linP
    refine ad_exp (by simp) fun _ => ad_nam fun _ => ad_exp (by simp) fun _ => ad_bind (k := p + 1) (ad_exp (by simp) fun _ => ad_bind (ih.fieL _ _) fun l q hq => ad_exp (by simp) fun _ => ad_ok (by omega)) fun l q hq => ad_ok hq
  · unfold funP
    refine ad_exp (by simp) fun _ => ad_ite (fun _ => ad_bind (ad_rec _) fun v q hq => ad_exp (by simp) fun _ => ad_mono (hfun _ _ _ (by omega)) (by omega)) fun _ => ad_mono (hfun _ _ _ (by omega)) (by omega)
end
end Go.Proofs.YtbadafkfjfbnlaaGreatDoor

namespace Go.Proofs.YtbadafkfjfbnlaaGreatDoor
set_option maxRecDepth 100000
open Go.RowKit

section
variable {α β : Type} {ts : List Tok} {p : Nat} {s : List UInt8} {r : Rs β}
theorem exp_no {k : Nat → Rs β} (hb : isT ts p s = false) (h : expP ts s p k = r) : r = .bad (herI ts p) := by
  rw [← h]; unfold expP Rs.need; rw [hb]; rfl
theorem exp_yes {k : Nat → Rs β} (hb : isT ts p s = true) (h : expP ts s p k = r) : k (p + 1) = r := by
  rw [← h]; unfold expP Rs.need; rw [hb]; rfl
theorem nam_no {k : Tok → Nat → Rs β} (hb : namB ts p = false) (h : namP ts p k = r) : r = .bad (herI ts p) := by
  rw [← h]; unfold namP Rs.need; rw [hb]; rfl
theorem nam_yes {k : Tok → Nat → Rs β} (hb : namB ts p = true) (h : namP ts p k = r) : k (nxT ts p) (p + 1) = r := by
  rw [← h]; unfold namP Rs.need; rw [hb]; rfl
theorem kin_no {n : Int} {k : Tok → Nat → Rs β} (hb : ((nxT ts p).kind == n) = false) (h : kinP ts n p k = r) : r = .bad (herI ts p) := by
  rw [← h]; unfold kinP Rs.need; rw [hb]; rfl
theorem kin_yes {n : Int} {k : Tok → Nat → Rs β} (hb : ((nxT ts p).kind == n) = true) (h : kinP ts n p k = r) : k (nxT ts p) (p + 1) = r := by
  rw [← h]; unfold kinP Rs.need; rw [hb]; rfl
theorem bind_ok {x : Rs α} {f : α → Nat → Rs β} {v : α} {q : Nat} (hx : x = .ok v q) (h : x.bind f = r) : f v q = r := by rw [← h, hx]; rfl
theorem bind_bad {x : Rs α} {f : α → Nat → Rs β} {c : Int} (hx : x = .bad c) (h : x.bind f = r) : r = .bad c := by rw [← h, hx]; rfl
theorem bind_out {x : Rs α} {f : α → Nat → Rs β} (h : x.bind f = r) (hr : r ≠ .out) : x ≠ .out := by rintro rfl; exact hr h.symm
theorem ite_yes {c : Bool} {a b : Rs β} (hc : c = true) (h : (if c then a else b) = r) : a = r := by rw [← h, hc]; rfl
theorem ite_no {c : Bool} {a b : Rs β} (hc : c = false) (h : (if c then a else b) = r) : b = r := by rw [← h, hc]; rfl
end
section
variable {T : Nat} {w W : World} {g : Nat} {st : Option Addr} {cap : Nat} {ts : List Tok} {r : Rs Pt} {s : Int}
theorem ptp_bad (hG : w.grownBy W (some g)) (hr : r = .bad s) : PtP T w g st cap ts r (wroE s) W := by subst hr; exact ⟨hG, rfl⟩
theorem ptp_ok {b : Nat} {t : Pt} {q : Nat} (hG : w.grownBy W (some g)) (hr : Rs.ok t q = r) (ht : PtAt W (fun j => w.heap.size ≤ j ∧ j < W.heap.size) b t) (hR : Rdr T W g st cap ts q) : PtP T w g st cap ts r (.returned (.pointer (some ⟨b, 0, none⟩))) W := by
  subst hr; exact ⟨hG, b, rfl, ht, hR⟩
/-- What was read in a later world was read from the first on. -/
theorem PtP.from {W' : World} {e : Ending} (hG : w.grownBy W (some g)) (h : PtP T W g st cap ts r e W') : PtP T w g st cap ts r e W' := by
  obtain ⟨h1, h2⟩ := h
  refine ⟨gr_trans hG h1, ?_⟩
  cases r with
  | ok t q =>
    obtain ⟨b, h3, h4, h5⟩ := h2
    exact ⟨b, h3, h4.keep (fun j hj => ⟨Nat.le_trans hG.size hj.1, hj.2⟩) fun _ _ => rfl, h5⟩
  | bad s => exact h2
  | out => exact h2
end
theorem PtAt.grow {w w' : World} {lo hi g b : Nat} {t : Pt} (h : PtAt w (fun j => lo ≤ j ∧ j < hi) b t) (hg : g < lo) (hh : hi ≤ w.heap.size) (hw : w.grownBy w' (some g)) : PtAt w' (fun j => lo ≤ j ∧ j < hi) b t :=
  h.keep (fun _ h => h) fun j hj => hw.block j (by omega) (fun e => by injection e with e; omega)
theorem PtAt.low {w w' : World} {lo hi B b : Nat} {t : Pt} (h : PtAt w (fun j => lo ≤ j ∧ j < hi) b t) (hh : hi ≤ B) (hw : Below B w w') : PtAt w' (fun j => lo ≤ j ∧ j < hi) b t :=
  h.keep (fun _ h => h) fun j hj => hw.block j (by omega)
theorem PtAt.wide {w : World} {lo hi lo' hi' b : Nat} {t : Pt} (h : PtAt w (fun j => lo ≤ j ∧ j < hi) b t) (h1 : lo' ≤ lo) (h2 : hi ≤ hi') : PtAt w (fun j => lo' ≤ j ∧ j < hi') b t :=
  h.keep (fun j hj => ⟨by omega, by omega⟩) fun _ _ => rfl
/-- Kids that came behind a part lie beside it. -/
theorem kid_in {B b lo hi : Nat} {v : Value} {W : World} (hb : b < lo ∧ ∀ q, v.ownBlock = some q → q < lo) (hB : B ≤ lo) (hh : hi ≤ W.heap.size) : ∀ j, (lo ≤ j ∧ j < hi) → B ≤ j ∧ j < W.heap.size ∧ j ≠ b ∧ v.ownBlock ≠ some j := fun j hj =>
  ⟨by omega, by omega, by omega, fun e => by have := hb.2 j e; omega⟩
theorem Mk.at {B : Nat} {w : World} {b : Nat} {k : Int} {x : ByteArray} {n a f t : Int} {v : Value} {l : List Pt} (h : Mk B w b k x n a f t v l) : b < w.heap.size ∧ ∀ q, v.ownBlock = some q → q < w.heap.size := ⟨h.lt, fun _ hq => h.own hq⟩
theorem two_rows {w : World} {g a b : Nat} {ty : TypeId} {fr : Nat × Nat} (h : w.heap[g]? = some (.cells #[.pointer (some ⟨a, 0, none⟩), .pointer (some ⟨b, 0, none⟩)] ty fr)) : RowsP w (some ⟨g, 0, none⟩) [a, b] := fun _ => by
  refine ⟨g, 0, rfl, fun i x hx j u hu => ?_⟩
  have hj : j = 0 := by have := (Array.getElem?_eq_some_iff.1 hu).1; simp [ptrC] at this; omega
  subst hj
  rw [cell_of_row _ _ _ _ _ _ h]
  match i, hx with
  | 0, hx => simp at hx; subst hx; simpa [ptrC] using hu
  | 1, hx => simp at hx; subst hx; simpa [ptrC] using hu
theorem PsAt.two {w : World} {S : Nat → Prop} {a b : Nat} {s t : Pt} (h : PtAt w S a s) (h' : PtAt w S b t) : PsAt w S [a, b] [s, t] := (PsAt.one h).app (PsAt.one h')
theorem is_lit (ts : List Tok) (p : Nat) (s : ByteArray) (l : List UInt8) (h : s.data.toList = l) : isT ts p s.data.toList = isT ts p l := by rw [h]
end Go.Proofs.YtbadafkfjfbnlaaGreatDoor

namespace Go.Proofs.YtbadafkfjfbnlaaGreatDoor
set_option maxRecDepth 100000
open Go.RowKit

section
variable {T : Nat} {w : World} {g : Nat} {st : Option Addr} {cap : Nat} {ts : List Tok} {p : Nat}
set_option maxRecDepth 100000 in
set_option maxHeartbeats 4000000 in
theorem qword_any (k : Int) (hR : Rdr T w g st cap ts p) : Calls Tryz.prog 152 #[.pointer (some ⟨g, 0, none⟩), .int .i64 k] w (PtP T w g st cap ts (worP ts k p)) := by
  have HR0 : Hid (Rdr T w g st cap ts p) := hR
  have hT := hR.hT
  have hgT := hR.hg
  have HG0 : Hid (w.grownBy w (some g)) := gr_refl _ _
  clear hR
  obtain ⟨r, hX⟩ : ∃ r, worP ts k p = r := ⟨_, rfl⟩
  rw [hX]
  have HX0 : Hid (worP ts k p = r) := hX
  clear hX
  unfold worP at HX0
  go_enter Tryz.func152, Tryz.ntmps152
  go_wp2_with fail
  refine (named_any HR0.out).mono ?_
  rintro e W1 ⟨rfl, b1⟩
  have HR1 : Hid (Rdr T W1 g st cap ts p) := HR0.out.low b1
  have HB1 : Hid (Below w.heap.size w W1) := b1
  clear b1 HR0
  unfold Rs.need at HX0
  obtain ⟨bb, hb⟩ : ∃ bb, namB ts p = bb := ⟨_, rfl⟩
  rw [hb] at HX0 ⊢
  cases bb
  · go_wp2_with fail
    refine (wrong_any HR1.out).mono ?_
    rintro e W2 ⟨rfl, b2⟩
    have HP : Hid (PtP T w g st cap ts r (wroE (herI ts p)) W2) := ptp_bad (gr_below (HB1.out.trans (b2.mono HB1.out.size))) HX0.out.symm
    clear HX0 HR1 HB1 b2
    go_wp2
    exact ⟨rfl, HP.out⟩
  have hp := nam_lt hb
  go_wp2_with fail
  refine (leaf_any k HR1.out hp).mono ?_
  rintro e W2 ⟨g2, b, v, rfl, hM, r2⟩
  have HP : Hid (PtP T w g st cap ts r (.returned (.pointer (some ⟨b, 0, none⟩))) W2) := ptp_ok (gr_trans (gr_below HB1.out) g2) HX0.out (hM.mono HB1.out.size).fin r2
  clear HX0 HR1 HB1 g2 hM r2
  go_wp2
  go_ret
  exact HP.out
set_option maxRecDepth 100000 in
set_option maxHeartbeats 4000000 in
theorem qtyp_any (hR : Rdr T w g st cap ts p) : Calls Tryz.prog 134 #[.pointer (some ⟨g, 0, none⟩)] w (PtP T w g st cap ts (typP ts p)) := by
  have HR0 : Hid (Rdr T w g st cap ts p) := hR
  have hT := hR.hT
  have hgT := hR.hg
  have HG0 : Hid (w.grownBy w (some g)) := gr_refl _ _
  clear hR
  obtain ⟨r, hX⟩ : ∃ r, typP ts p = r := ⟨_, rfl⟩
  rw [hX]
  have HX0 : Hid (typP ts p = r) := hX
  clear hX
  unfold typP at HX0
  go_enter Tryz.func134, Tryz.ntmps134
  have hfd : ∀ (a b c : Value) (W : World), (Instr.field 60 (.agg #[a, b, c]) 1).run Tryz.prog W = .ok b W := fun _ _ _ _ => rfl
  have HE : Hid (∀ q (s : List UInt8), ((nxT ts q).text.toList == s) = isT ts q s) := fun q s => by unfold isT; rw [ByteArray.toList_eq]
  go_wp2_with fail
  refine (next_any HR0.out).mono ?_
  rintro e W1 ⟨rfl, b1⟩
  have HR1 : Hid (Rdr T W1 g st cap ts p) := HR0.out.low b1
  have HG1 : Hid (w.grownBy W1 (some g)) := gr_below b1
  clear b1 HR0 HG0
  obtain ⟨bb, hb⟩ : ∃ bb, (isT ts p [105, 110, 116] || isT ts p [98, 111, 111, 108] || isT ts p [115, 116, 114, 105, 110, 103]) = bb := ⟨_, rfl⟩
  rw [hb] at HX0
  cases bb
  rotate_left
  · have hp : p < ts.length := by
      rw [Bool.or_eq_true, Bool.or_eq_true] at hb
      rcases hb with (hb | hb) | hb <;> exact is_lt hb (by simp)
    have HLF : Hid (∀ W', Below W1.heap.size W1 W' → Calls Tryz.prog 151 #[.pointer (some ⟨g, 0, none⟩), .int .i64 10] W' fun e W2 => PtP T w g st cap ts r e W2 ∧ ∃ b, e = .returned (.pointer (some ⟨b, 0, none⟩))) := fun W' hb' => (leaf_any 10 (HR1.out.low hb') hp).mono fun e W2 ⟨g2, b, v, he, hM, r2⟩ => by
      subst he
      exact ⟨ptp_ok (gr_trans (gr_trans HG1.out (gr_below hb')) g2) (ite_yes rfl HX0.out) (hM.mono (Nat.le_trans HG1.out.size hb'.size)).fin r2, b, rfl⟩
    have hb3 : ((nxT ts p).text.toList == [105, 110, 116]) = true ∨ ((nxT ts p).text.toList == [105, 110, 116]) = false ∧ (((nxT ts p).text.toList == [98, 111, 111, 108]) = true ∨ ((nxT ts p).text.toList == [98, 111, 111, 108]) = false ∧ ((nxT ts p).text.toList == [115, 116, 114, 105, 110, 103]) = true) := by
      rw [HE.out, HE.out, HE.out]
      cases h1 : isT ts p [105, 110, 116]
      · cases h2 : isT ts p [98, 111, 111, 108]
        · rw [h1, h2] at hb
          exact .inr ⟨rfl, .inr ⟨rfl, hb⟩⟩
        · exact .inr ⟨rfl, .inl rfl⟩
      · exact .inl rfl
    clear hb HX0 HE HR1 HG1
    unfold Tok.cells
    rcases hb3 with h1 | ⟨h1, h2 | ⟨h2, h3⟩⟩
    · go_wp2_with fail
      refine (HLF.out _ (Below.refl _ _)).mono ?_
      rintro e W2 ⟨hP, b, rfl⟩
      have HP : Hid _ := hP
      clear hP
      go_wp2
      go_ret
      exact HP.out
    · go_wp2_with fail
      refine (HLF.out _ (Below.refl _ _)).mono ?_
      rintro e W2 ⟨hP, b, rfl⟩
      have HP : Hid _ := hP
      clear hP
      go_wp2
      go_ret
      exact HP.out
    · go_wp2_with fail
      refine (HLF.out _ (Below.refl _ _)).mono ?_
      rintro e W2 ⟨hP, b, rfl⟩
      have HP : Hid _ := hP
      clear hP
      go_wp2
      go_ret
      exact HP.out
  have HX1 : Hid _ := ite_no rfl HX0.out
  obtain ⟨h1, h2, h3⟩ : ((nxT ts p).text.toList == [105, 110, 116]) = false ∧ ((nxT ts p).text.toList == [98, 111, 111, 108]) = false ∧ ((nxT ts p).text.toList == [115, 116, 114, 105, 110, 103]) = false := by
    rw [HE.out, HE.out, HE.out]
    rw [Bool.or_eq_false_iff, Bool.or_eq_false_iff] at hb
    exact ⟨hb.1.1, hb.1.2, hb.2⟩
  clear hb HX0
  unfold Tok.cells
  go_wp2_with fail
  clear h1 h2 h3
  refine (peek_any 1 (Nat.le_refl _) HR1.out).mono ?_
  rintro e W2 ⟨rfl, b2⟩
  have HR2 : Hid (Rdr T W2 g st cap ts p) := HR1.out.low b2
  have HG2 : Hid (w.grownBy W2 (some g)) := gr_trans HG1.out (gr_below b2)
  clear b2 HR1 HG1
  have HE1 : Hid _ := HE.out (p + 1) [46]
  obtain ⟨bb, hb⟩ : ∃ bb, isT ts (p + 1) [46] = bb := ⟨_, rfl⟩
  rw [hb] at HX1 HE1
  unfold Tok.cells
  cases bb
  · have hne : ((nxT ts (p + 1)).text.toList == [46]) = false := HE1.out
    have HX2 : Hid _ := ite_no rfl HX1.out
    clear HX1 hb
    go_wp2_with fail
    refine (qword_any 11 HR2.out).mono ?_
    rintro e W3 ⟨g1, hm⟩
    rcases hx : worP ts 11 p with ⟨t3, q3⟩ | s3 | _
    rotate_left
    · rw [hx] at hm
      have hm' : e = wroE s3 := hm
      subst hm'
      have HP : Hid (PtP T w g st cap ts r (wroE s3) W3) := ptp_bad (gr_trans HG2.out g1) (HX2.out.symm.trans hx)
      clear HX2 HR2 HG2 g1 hm
      unfold wroE
      go_wp2
      exact ⟨rfl, HP.out⟩
    · rw [hx] at hm
      exact hm.elim
    rw [hx] at hm
    obtain ⟨b3, rfl, hpt, r3⟩ := hm
    have HP : Hid (PtP T w g st cap ts r (.returned (.pointer (some ⟨b3, 0, none⟩))) W3) := ptp_ok (gr_trans HG2.out g1) (hx.symm.trans HX2.out) (hpt.wide HG2.out.size (Nat.le_refl _)) r3
    clear HX2 HR2 HG2 g1 hpt r3 hx
    go_wp2
    go_ret
    exact HP.out
  have heq : ((nxT ts (p + 1)).text.toList == [46]) = true := HE1.out
  have HX2 : Hid _ := ite_yes rfl HX1.out
  clear HX1 hb HE1 HE
  go_wp2_with fail
  refine (begin_any 12 HR2.out).mono ?_
  rintro e W11 ⟨bk11, rfl, hM, b1⟩
  have HM11 : Hid (Mk w.heap.size W11 bk11 12 ⟨#[]⟩ 0 (herI ts p) (herI ts p) 0 (.slice none 0 0) []) := hM.mono HG2.out.size
  have HG11 : Hid (w.grownBy W11 (some g)) := gr_trans HG2.out (gr_below b1)
  have HR11 : Hid (Rdr T W11 g st cap ts p) := HR2.out.low b1
  clear hM b1 HG2 HR2
  clear heq
  have HL12 : Hid ((bk11 < W11.heap.size ∧ ∀ q, ((.slice none 0 0) : Value).ownBlock = some q → q < W11.heap.size) ∧ w.heap.size ≤ W11.heap.size ∧ g < W11.heap.size) := ⟨HM11.out.at, HG11.out.size, HR11.out.lt⟩
  go_wp2_with fail
  refine (qword_any 23 HR11.out).mono ?_
  rintro e W12 ⟨g1, hm⟩
  rcases hx : worP ts 23 p with ⟨t12, q12⟩ | s12 | _
  rotate_left
  · rw [hx] at hm
    have hm' : e = wroE s12 := hm
    subst hm'
    have HP : Hid (PtP T w g st cap ts r (wroE (s12)) W12) := ptp_bad (gr_trans HG11.out g1) (bind_bad hx HX2.out)
    clear HG11 HR11 HX2 HM11 HL12
    unfold wroE
    go_wp2
    exact ⟨rfl, HP.out⟩
  · rw [hx] at hm
    exact hm.elim
  rw [hx] at hm
  obtain ⟨bk12, rfl, hpt, r1⟩ := hm
  have HX12 : Hid _ := bind_ok hx HX2.out
  have hsz12 := g1.size
  have HG13 : Hid (w.grownBy W12 (some g)) := gr_trans HG11.out g1
  have HM13 : Hid (Mk w.heap.size W12 bk11 12 ⟨#[]⟩ 0 (herI ts p) (herI ts p) 0 (.slice none 0 0) []) := HM11.out.grow (Nat.lt_of_lt_of_le hgT hT) g1
  have HK12 : Hid (PtAt W12 (fun j => W11.heap.size ≤ j ∧ j < W12.heap.size) bk12 t12) := hpt
  have HR12 : Hid (Rdr T W12 g st cap ts q12) := r1
  clear g1 r1 hpt hx HX2 HR11 HG11 HM11
  go_wp2_with fail
  refine calls_gen (fun W => Below W12.heap.size W12 W ∧ W.heap[W12.heap.size]? = some (.cells #[.pointer (some ⟨bk12, 0, none⟩)] 102 (0, 0))) ⟨(Below.refl _ _).alloc (Nat.le_refl _) _, heap_alloc_new _ _⟩ ?_
  rintro Wa14 ⟨ba, ra⟩
  refine (add_any (bs2 := [bk12]) (l2 := [t12]) (S2 := fun j => W11.heap.size ≤ j ∧ j < W12.heap.size) (HM13.out.below ba) (oneG_rows ra) (fun h => by cases h) (PsAt.one (HK12.out.low (Nat.le_refl _) ba)) (kid_in HL12.out.1 HL12.out.2.1 ba.size) (by simp)).mono ?_
  rintro e W14 ⟨rfl, ⟨v14, hM⟩, b1⟩
  have HM14 : Hid (Mk w.heap.size W14 bk11 12 ⟨#[]⟩ 0 (herI ts p) (herI ts p) 0 v14 ([] ++ [t12])) := hM
  have HGa14 : Hid (w.grownBy Wa14 (some g)) := gr_trans HG13.out (gr_below ba)
  have HRa14 : Hid (Rdr T Wa14 g st cap ts q12) := HR12.out.low ba
  have HG15 : Hid (w.grownBy W14 (some g)) := gr_on HGa14.out b1
  have HR15 : Hid (Rdr T W14 g st cap ts q12) := HRa14.out.below hT b1
  clear hM b1 ba ra HM13 HL12 HG13 HR12 HGa14 HRa14 HK12
  go_wp2_with fail
  refine (expect_any ⟨#[46]⟩ (by simp) HR15.out).mono ?_
  rintro e W16 ⟨g1, hm0⟩
  have hm : (if isT ts q12 [46] then e = .returned (.tuple #[]) ∧ Rdr T W16 g st cap ts (q12 + 1) else e = wroE (herI ts q12)) := hm0
  clear hm0
  obtain ⟨bb, hb⟩ : ∃ bb, isT ts q12 [46] = bb := ⟨_, rfl⟩
  rw [hb] at hm
  cases bb
  · simp only [Bool.false_eq_true, if_false] at hm
    subst hm
    have HP : Hid (PtP T w g st cap ts r (wroE (herI ts q12)) W16) := ptp_bad (gr_trans HG15.out g1) (exp_no hb HX12.out)
    clear HG15 HR15 HX12 HM14
    unfold wroE
    go_wp2
    exact ⟨rfl, HP.out⟩
  simp only [if_true] at hm
  obtain ⟨rfl, r1⟩ := hm
  have HX16 : Hid _ := exp_yes hb HX12.out
  have HG17 : Hid (w.grownBy W16 (some g)) := gr_trans HG15.out g1
  have HM17 : Hid (Mk w.heap.size W16 bk11 12 ⟨#[]⟩ 0 (herI ts p) (herI ts p) 0 v14 ([] ++ [t12])) := HM14.out.grow (Nat.lt_of_lt_of_le hgT hT) g1
  have HR16 : Hid (Rdr T W16 g st cap ts (q12 + 1)) := r1
  clear g1 r1 hb HX12 HR15 HG15 HM14
  go_wp2_with fail
  refine (name_any HR16.out).mono ?_
  rintro e W18 ⟨g1, hm⟩
  obtain ⟨bb, hb⟩ : ∃ bb, namB ts (q12 + 1) = bb := ⟨_, rfl⟩
  rw [hb] at hm
  cases bb
  · simp only [Bool.false_eq_true, if_false] at hm
    subst hm
    have HP : Hid (PtP T w g st cap ts r (wroE (herI ts (q12 + 1))) W18) := ptp_bad (gr_trans HG17.out g1) (nam_no hb HX16.out)
    clear HG17 HR16 HX16 HM17
    unfold wroE
    go_wp2
    exact ⟨rfl, HP.out⟩
  simp only [if_true] at hm
  obtain ⟨rfl, r1⟩ := hm
  have HX18 : Hid _ := nam_yes hb HX16.out
  have HG19 : Hid (w.grownBy W18 (some g)) := gr_trans HG17.out g1
  have HM19 : Hid (Mk w.heap.size W18 bk11 12 ⟨#[]⟩ 0 (herI ts p) (herI ts p) 0 v14 ([] ++ [t12])) := HM17.out.grow (Nat.lt_of_lt_of_le hgT hT) g1
  have HR18 : Hid (Rdr T W18 g st cap ts ((q12 + 1) + 1)) := r1
  clear g1 r1 hb HX16 HR16 HG17 HM17
  go_wp2_with fail
  refine (says_any (nxT ts (q12 + 1)) HM19.out).mono ?_
  rintro e W20 ⟨rfl, hM, b1⟩
  have HM20 : Hid (Mk w.heap.size W20 bk11 12 (nxT ts (q12 + 1)).text 0 (nxT ts (q12 + 1)).pos (herI ts p) 0 v14 ([] ++ [t12])) := hM
  have HG21 : Hid (w.grownBy W20 (some g)) := gr_on HG19.out b1
  have HR21 : Hid (Rdr T W20 g st cap ts ((q12 + 1) + 1)) := HR18.out.below hT b1
  clear hM b1 HM19 HG19 HR18
  go_wp2_with fail
  refine (done_any (bs2 := []) (l2 := []) (S2 := fun _ => False) HR21.out hT HM20.out RowsAt.none (fun _ => ⟨rfl, rfl⟩) (PsAt.nil _ _) (fun _ h => h.elim) (by simp)).mono ?_
  rintro e W22 ⟨rfl, ⟨v22, hM⟩, b1⟩
  have HM22 : Hid (Mk w.heap.size W22 bk11 12 (nxT ts (q12 + 1)).text 0 (nxT ts (q12 + 1)).pos (herI ts p) (behI ts ((q12 + 1) + 1)) v22 (([] ++ [t12]) ++ [])) := hM
  have HG23 : Hid (w.grownBy W22 (some g)) := gr_on HG21.out b1
  have HR23 : Hid (Rdr T W22 g st cap ts ((q12 + 1) + 1)) := HR21.out.below hT b1
  clear hM b1 HM20 HG21 HR21
  go_wp2
  go_ret
  exact ptp_ok HG23.out HX18.out HM22.out.fin HR23.out
set_option maxRecDepth 100000 in
set_option maxHeartbeats 4000000 in
theorem qtyped_any (k : Int) (hR : Rdr T w g st cap ts p) : Calls Tryz.prog 154 #[.pointer (some ⟨g, 0, none⟩), .int .i64 k] w (PtP T w g st cap ts (tydP ts k p)) := by
  have HR0 : Hid (Rdr T w g st cap ts p) := hR
  have hT := hR.hT
  have hgT := hR.hg
  have HG0 : Hid (w.grownBy w (some g)) := gr_refl _ _
  clear hR
  obtain ⟨r, hX⟩ : ∃ r, tydP ts k p = r := ⟨_, rfl⟩
  rw [hX]
  have HX0 : Hid (tydP ts k p = r) := hX
  clear hX
  unfold tydP at HX0
  go_enter Tryz.func154, Tryz.ntmps154
  go_wp2_with fail
  refine (begin_any k HR0.out).mono ?_
  rintro e W1 ⟨bk1, rfl, hM, b1⟩
  have HM1 : Hid (Mk w.heap.size W1 bk1 k ⟨#[]⟩ 0 (herI ts p) (herI ts p) 0 (.slice none 0 0) []) := hM.mono HG0.out.size
  have HG1 : Hid (w.grownBy W1 (some g)) := gr_trans HG0.out (gr_below b1)
  have HR1 : Hid (Rdr T W1 g st cap ts p) := HR0.out.low b1
  clear hM b1 HG0 HR0
  go_wp2_with fail
  refine (name_any HR1.out).mono ?_
  rintro e W2 ⟨g1, hm⟩
  obtain ⟨bb, hb⟩ : ∃ bb, namB ts p = bb := ⟨_, rfl⟩
  rw [hb] at hm
  cases bb
  · simp only [Bool.false_eq_true, if_false] at hm
    subst hm
    have HP : Hid (PtP T w g st cap ts r (wroE (herI ts p)) W2) := ptp_bad (gr_trans HG1.out g1) (nam_no hb HX0.out)
    clear HG1 HR1 HX0 HM1
    unfold wroE
    go_wp2
    exact ⟨rfl, HP.out⟩
  simp only [if_true] at hm
  obtain ⟨rfl, r1⟩ := hm
  have HX2 : Hid _ := nam_yes hb HX0.out
  have HG3 : Hid (w.grownBy W2 (some g)) := gr_trans HG1.out g1
  have HM3 : Hid (Mk w.heap.size W2 bk1 k ⟨#[]⟩ 0 (herI ts p) (herI ts p) 0 (.slice none 0 0) []) := HM1.out.grow (Nat.lt_of_lt_of_le hgT hT) g1
  have HR2 : Hid (Rdr T W2 g st cap ts (p + 1)) := r1
  clear g1 r1 hb HX0 HR1 HG1 HM1
  go_wp2_with fail
  refine (says_any (nxT ts p) HM3.out).mono ?_
  rintro e W4 ⟨rfl, hM, b1⟩
  have HM4 : Hid (Mk w.heap.size W4 bk1 k (nxT ts p).text 0 (nxT ts p).pos (herI ts p) 0 (.slice none 0 0) []) := hM
  have HG5 : Hid (w.grownBy W4 (some g)) := gr_on HG3.out b1
  have HR5 : Hid (Rdr T W4 g st cap ts (p + 1)) := HR2.out.below hT b1
  clear hM b1 HM3 HG3 HR2
  have HL6 : Hid ((bk1 < W4.heap.size ∧ ∀ q, ((.slice none 0 0) : Value).ownBlock = some q → q < W4.heap.size) ∧ w.heap.size ≤ W4.heap.size ∧ g < W4.heap.size) := ⟨HM4.out.at, HG5.out.size, HR5.out.lt⟩
  go_wp2_with fail
  refine (qtyp_any HR5.out).mono ?_
  rintro e W6 ⟨g1, hm⟩
  rcases hx : typP ts (p + 1) with ⟨t6, q6⟩ | s6 | _
  rotate_left
  · rw [hx] at hm
    have hm' : e = wroE s6 := hm
    subst hm'
    have HP : Hid (PtP T w g st cap ts r (wroE (s6)) W6) := ptp_bad (gr_trans HG5.out g1) (bind_bad hx HX2.out)
    clear HG5 HR5 HX2 HM4 HL6
    unfold wroE
    go_wp2
    exact ⟨rfl, HP.out⟩
  · rw [hx] at hm
    exact hm.elim
  rw [hx] at hm
  obtain ⟨bk6, rfl, hpt, r1⟩ := hm
  have HX6 : Hid _ := bind_ok hx HX2.out
  have hsz6 := g1.size
  have HG7 : Hid (w.grownBy W6 (some g)) := gr_trans HG5.out g1
  have HM7 : Hid (Mk w.heap.size W6 bk1 k (nxT ts p).text 0 (nxT ts p).pos (herI ts p) 0 (.slice none 0 0) []) := HM4.out.grow (Nat.lt_of_lt_of_le hgT hT) g1
  have HK6 : Hid (PtAt W6 (fun j => W4.heap.size ≤ j ∧ j < W6.heap.size) bk6 t6) := hpt
  have HR6 : Hid (Rdr T W6 g st cap ts q6) := r1
  clear g1 r1 hpt hx HX2 HR5 HG5 HM4
  go_wp2_with fail
  refine calls_gen (fun W => Below W6.heap.size W6 W ∧ W.heap[W6.heap.size]? = some (.cells #[.pointer (some ⟨bk6, 0, none⟩)] 102 (0, 0))) ⟨(Below.refl _ _).alloc (Nat.le_refl _) _, heap_alloc_new _ _⟩ ?_
  rintro Wa8 ⟨ba, ra⟩
  refine (done_any (bs2 := [bk6]) (l2 := [t6]) (S2 := fun j => W4.heap.size ≤ j ∧ j < W6.heap.size) (HR6.out.low ba) hT (HM7.out.below ba) (oneG_rows ra) (fun h => by cases h) (PsAt.one (HK6.out.low (Nat.le_refl _) ba)) (kid_in HL6.out.1 HL6.out.2.1 ba.size) (by simp)).mono ?_
  rintro e W8 ⟨rfl, ⟨v8, hM⟩, b1⟩
  have HM8 : Hid (Mk w.heap.size W8 bk1 k (nxT ts p).text 0 (nxT ts p).pos (herI ts p) (behI ts q6) v8 ([] ++ [t6])) := hM
  have HGa8 : Hid (w.grownBy Wa8 (some g)) := gr_trans HG7.out (gr_below ba)
  have HRa8 : Hid (Rdr T Wa8 g st cap ts q6) := HR6.out.low ba
  have HG9 : Hid (w.grownBy W8 (some g)) := gr_on HGa8.out b1
  have HR9 : Hid (Rdr T W8 g st cap ts q6) := HRa8.out.below hT b1
  clear hM b1 ba ra HM7 HL6 HG7 HR6 HGa8 HRa8 HK6
  go_wp2
  go_ret
  exact ptp_ok HG9.out HX6.out HM8.out.fin HR9.out
set_option maxRecDepth 100000 in
set_option maxHeartbeats 1000000 in
theorem qfield_any (hR : Rdr T w g st cap ts p) : Calls Tryz.prog 138 #[.pointer (some ⟨g, 0, none⟩)] w (PtP T w g st cap ts (tydP ts 6 p)) := by
  have HR0 : Hid (Rdr T w g st cap ts p) := hR
  clear hR
  have hC := qtyped_any 6 HR0.out
  obtain ⟨r, hX⟩ : ∃ r, tydP ts 6 p = r := ⟨_, rfl⟩
  rw [hX] at hC ⊢
  go_enter Tryz.func138, Tryz.ntmps138
  go_wp2_with fail
  refine hC.mono ?_
  clear hC hX
  rintro e W1 hm
  have HP : Hid (PtP T w g st cap ts r e W1) := hm
  rcases r with ⟨t3, q3⟩ | s3 | _
  · obtain ⟨-, b3, rfl, -⟩ := hm
    go_wp2
    go_ret
    exact HP.out
  · obtain ⟨-, hm'⟩ := hm
    have hm2 : e = wroE s3 := hm'
    subst hm2
    clear hm'
    unfold wroE at HP ⊢
    go_wp2
    exact ⟨rfl, HP.out⟩
  · exact hm.2.elim
set_option maxRecDepth 100000 in
set_option maxHeartbeats 1000000 in
theorem qparam_any (hR : Rdr T w g st cap ts p) : Calls Tryz.prog 141 #[.pointer (some ⟨g, 0, none⟩)] w (PtP T w g st cap ts (tydP ts 9 p)) := by
  have HR0 : Hid (Rdr T w g st cap ts p) := hR
  clear hR
  have hC := qtyped_any 9 HR0.out
  obtain ⟨r, hX⟩ : ∃ r, tydP ts 9 p = r := ⟨_, rfl⟩
  rw [hX] at hC ⊢
  go_enter Tryz.func141, Tryz.ntmps141
  go_wp2_with fail
  refine hC.mono ?_
  clear hC hX
  rintro e W1 hm
  have HP : Hid (PtP T w g st cap ts r e W1) := hm
  rcases r with ⟨t3, q3⟩ | s3 | _
  · obtain ⟨-, b3, rfl, -⟩ := hm
    go_wp2
    go_ret
    exact HP.out
  · obtain ⟨-, hm'⟩ := hm
    have hm2 : e = wroE s3 := hm'
    subst hm2
    clear hm'
    unfold wroE at HP ⊢
    go_wp2
    exact ⟨rfl, HP.out⟩
  · exact hm.2.elim
set_option maxRecDepth 100000 in
set_option maxHeartbeats 4000000 in
theorem qreceiver_any (hR : Rdr T w g st cap ts p) : Calls Tryz.prog 139 #[.pointer (some ⟨g, 0, none⟩)] w (PtP T w g st cap ts (recP ts p)) := by
  have HR0 : Hid (Rdr T w g st cap ts p) := hR
  have hT := hR.hT
  have hgT := hR.hg
  have HG0 : Hid (w.grownBy w (some g)) := gr_refl _ _
  clear hR
  obtain ⟨r, hX⟩ : ∃ r, recP ts p = r := ⟨_, rfl⟩
  rw [hX]
  have HX0 : Hid (recP ts p = r) := hX
  clear hX
  unfold recP at HX0
  go_enter Tryz.func139, Tryz.ntmps139
  go_wp2_with fail
  refine (begin_any 8 HR0.out).mono ?_
  rintro e W1 ⟨bk1, rfl, hM, b1⟩
  have HM1 : Hid (Mk w.heap.size W1 bk1 8 ⟨#[]⟩ 0 (herI ts p) (herI ts p) 0 (.slice none 0 0) []) := hM.mono HG0.out.size
  have HG1 : Hid (w.grownBy W1 (some g)) := gr_trans HG0.out (gr_below b1)
  have HR1 : Hid (Rdr T W1 g st cap ts p) := HR0.out.low b1
  clear hM b1 HG0 HR0
  go_wp2_with fail
  refine (name_any HR1.out).mono ?_
  rintro e W2 ⟨g1, hm⟩
  obtain ⟨bb, hb⟩ : ∃ bb, namB ts p = bb := ⟨_, rfl⟩
  rw [hb] at hm
  cases bb
  · simp only [Bool.false_eq_true, if_false] at hm
    subst hm
    have HP : Hid (PtP T w g st cap ts r (wroE (herI ts p)) W2) := ptp_bad (gr_trans HG1.out g1) (nam_no hb HX0.out)
    clear HG1 HR1 HX0 HM1
    unfold wroE
    go_wp2
    exact ⟨rfl, HP.out⟩
  simp only [if_true] at hm
  obtain ⟨rfl, r1⟩ := hm
  have HX2 : Hid _ := nam_yes hb HX0.out
  have HG3 : Hid (w.grownBy W2 (some g)) := gr_trans HG1.out g1
  have HM3 : Hid (Mk w.heap.size W2 bk1 8 ⟨#[]⟩ 0 (herI ts p) (herI ts p) 0 (.slice none 0 0) []) := HM1.out.grow (Nat.lt_of_lt_of_le hgT hT) g1
  have HR2 : Hid (Rdr T W2 g st cap ts (p + 1)) := r1
  clear g1 r1 hb HX0 HR1 HG1 HM1
  go_wp2_with fail
  refine (says_any (nxT ts p) HM3.out).mono ?_
  rintro e W4 ⟨rfl, hM, b1⟩
  have HM4 : Hid (Mk w.heap.size W4 bk1 8 (nxT ts p).text 0 (nxT ts p).pos (herI ts p) 0 (.slice none 0 0) []) := hM
  have HG5 : Hid (w.grownBy W4 (some g)) := gr_on HG3.out b1
  have HR5 : Hid (Rdr T W4 g st cap ts (p + 1)) := HR2.out.below hT b1
  clear hM b1 HM3 HG3 HR2
  have HL6 : Hid ((bk1 < W4.heap.size ∧ ∀ q, ((.slice none 0 0) : Value).ownBlock = some q → q < W4.heap.size) ∧ w.heap.size ≤ W4.heap.size ∧ g < W4.heap.size) := ⟨HM4.out.at, HG5.out.size, HR5.out.lt⟩
  go_wp2_with fail
  refine (qword_any 11 HR5.out).mono ?_
  rintro e W6 ⟨g1, hm⟩
  rcases hx : worP ts 11 (p + 1) with ⟨t6, q6⟩ | s6 | _
  rotate_left
  · rw [hx] at hm
    have hm' : e = wroE s6 := hm
    subst hm'
    have HP : Hid (PtP T w g st cap ts r (wroE (s6)) W6) := ptp_bad (gr_trans HG5.out g1) (bind_bad hx HX2.out)
    clear HG5 HR5 HX2 HM4 HL6
    unfold wroE
    go_wp2
    exact ⟨rfl, HP.out⟩
  · rw [hx] at hm
    exact hm.elim
  rw [hx] at hm
  obtain ⟨bk6, rfl, hpt, r1⟩ := hm
  have HX6 : Hid _ := bind_ok hx HX2.out
  have hsz6 := g1.size
  have HG7 : Hid (w.grownBy W6 (some g)) := gr_trans HG5.out g1
  have HM7 : Hid (Mk w.heap.size W6 bk1 8 (nxT ts p).text 0 (nxT ts p).pos (herI ts p) 0 (.slice none 0 0) []) := HM4.out.grow (Nat.lt_of_lt_of_le hgT hT) g1
  have HK6 : Hid (PtAt W6 (fun j => W4.heap.size ≤ j ∧ j < W6.heap.size) bk6 t6) := hpt
  have HR6 : Hid (Rdr T W6 g st cap ts q6) := r1
  clear g1 r1 hpt hx HX2 HR5 HG5 HM4
  go_wp2_with fail
  refine calls_gen (fun W => Below W6.heap.size W6 W ∧ W.heap[W6.heap.size]? = some (.cells #[.pointer (some ⟨bk6, 0, none⟩)] 102 (0, 0))) ⟨(Below.refl _ _).alloc (Nat.le_refl _) _, heap_alloc_new _ _⟩ ?_
  rintro Wa8 ⟨ba, ra⟩
  refine (done_any (bs2 := [bk6]) (l2 := [t6]) (S2 := fun j => W4.heap.size ≤ j ∧ j < W6.heap.size) (HR6.out.low ba) hT (HM7.out.below ba) (oneG_rows ra) (fun h => by cases h) (PsAt.one (HK6.out.low (Nat.le_refl _) ba)) (kid_in HL6.out.1 HL6.out.2.1 ba.size) (by simp)).mono ?_
  rintro e W8 ⟨rfl, ⟨v8, hM⟩, b1⟩
  have HM8 : Hid (Mk w.heap.size W8 bk1 8 (nxT ts p).text 0 (nxT ts p).pos (herI ts p) (behI ts q6) v8 ([] ++ [t6])) := hM
  have HGa8 : Hid (w.grownBy Wa8 (some g)) := gr_trans HG7.out (gr_below ba)
  have HRa8 : Hid (Rdr T Wa8 g st cap ts q6) := HR6.out.low ba
  have HG9 : Hid (w.grownBy W8 (some g)) := gr_on HGa8.out b1
  have HR9 : Hid (Rdr T W8 g st cap ts q6) := HRa8.out.below hT b1
  clear hM b1 ba ra HM7 HL6 HG7 HR6 HGa8 HRa8 HK6
  go_wp2
  go_ret
  exact ptp_ok HG9.out HX6.out HM8.out.fin HR9.out
end
end Go.Proofs.YtbadafkfjfbnlaaGreatDoor
