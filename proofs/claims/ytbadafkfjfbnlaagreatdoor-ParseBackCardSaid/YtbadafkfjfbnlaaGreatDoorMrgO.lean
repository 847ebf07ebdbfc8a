/- The contracts of the writer's expr. -/
/- The contracts of the writer's expr: numbers, calls, and what is none. -/
/- The contracts of the writer's stmt. -/
import Derived.Test.YtbadafkfjfbnlaaGreatDoorMrgN
import Derived.Test.YtbadafkfjfbnlaaGreatDoorShelf
import Derived.Lib.AppendIntMem
namespace Go.Proofs.YtbadafkfjfbnlaaGreatDoor
set_option maxRecDepth 100000
open Go.RowKit

/-- The table of the library's decimal numerals. -/
def TabP (w : World) : Prop := Lib.TabIs Tryz.prog w "internal/strconv.uint64pow10" .u64 Lib.pow10Tab
theorem TabP.low {w w' : World} (h : TabP w) (hb : Below w.heap.size w w') : TabP w' := Lib.tabBelow_of_tabIs h w' hb
theorem ope_cnt (k : Int) (x : ByteArray) (ts : List Pt) : (wOpe k x (ts.map hdP) (ts.map wrP) 0).length ≤ 12 * cntL ts ∧ (wOpe k x (ts.map hdP) (ts.map wrP) 0).length + 12 * cntL (ts.drop 1) ≤ 12 * cntL ts := by
  cases ts with
  | nil => simp [wOpe, cntL]
  | cons t r =>
    have h1 := wr_len t
    have h2 : (wOpe k x ((t :: r).map hdP) ((t :: r).map wrP) 0).length ≤ (wrP t).length + 2 := by
      apply ope_le
      intro o ho
      have : wrP t = o := by simpa using ho
      rw [this]
      exact Nat.le_refl _
    rw [show (t :: r).drop 1 = r from rfl, cntL]
    omega
theorem kid_le {ts : List Pt} {i : Nat} {t : Pt} (h : ts[i]? = some t) : cntP t ≤ cntL ts := by have := cntL_at ts i t h; omega
section
variable {w0 w : World} {g : Nat} {nv v : Value} {out : List Tok} {L : List Nd} {m : NdM} {x : ByteArray} {n : Int} {ts : List Pt}
set_option maxRecDepth 100000 in
set_option maxHeartbeats 4000000 in
theorem expr_text (hx : x.size ≤ 100000) (hE : EnW w0 nv L) (hm : NdW w0 g nv L m 21 x n ts) (h : Wr w0 g nv w v out) (hl : out.length + 7 + 12 * cntL ts ≤ 900000) :
    Calls Tryz.prog 125 #[.pointer (some ⟨g, 0, none⟩), .agg m.cells] w fun e w' => e = .returned (.tuple #[]) ∧ Wp w0 g nv w v (out ++ [tkW 3 (quoT x)]) w' := by
  have HW : Hid (Wr w0 g nv w v out) := h
  have HE : Hid (EnW w0 nv L) := hE
  have HM : Hid (NdW w0 g nv L m 21 x n ts) := hm
  obtain ⟨ks, hkn, hK⟩ := hm.k
  have HK : Hid (KsA w0 g nv L m.ks ks ts) := hK
  have hks : ks.length ≤ 100000 := hK.s
  have hmc : ks.length ≤ m.kc := by have := hm.c.1; omega
  have HMC : Hid (m.kc ≤ maxLen ∧ (m.ks = none → m.kc = 0)) := hm.c.2
  have HCE : Hid (m.cells = #[.int .i64 21, .string x, .int .i64 n, .slice m.ks ks.length m.kc, .int .i64 m.a, .int .i64 m.f, .int .i64 m.t]) := by
    show m.cells = _
    rw [← hkn, ← hm.e.1, ← hm.e.2.1, ← hm.e.2.2]
    rfl
  have hB0 : Below w.heap.size w (w.alloc (.cells m.cells 49)) := (Below.refl _ _).alloc (Nat.le_refl _) _
  have hr0 := heap_alloc_new w (.cells m.cells 49)
  have HP0 : Hid (Wp w0 g nv w v out (w.alloc (.cells m.cells 49))) := Wp.pre hB0 (Wp.start (h.low hB0))
  have hne : w.heap.size ≠ g := by have := h.lt; omega
  have HNE : Hid (w.heap.size ≠ g) := hne
  rw [HCE.out] at hr0 HP0
  have HR0 : Hid _ := hr0
  obtain ⟨v1, w1, s1⟩ := Wp.step HP0.out
  have HW1 : Hid _ := w1
  have HS1 : Hid _ := s1
  clear h hm hK hkn hE hB0 hr0 hne w1 s1
  rw [HCE.out]
  have HC := wtext_any x HW1.out (by omega) hx
  go_enter Tryz.func125, Tryz.ntmps125
  go_wp2_with fail
  refine HC.mono ?_
  rintro e W ⟨rfl, hp⟩
  have HN : Hid (Wp w0 g nv w v (out ++ [tkW 3 (quoT x)]) W) := by
    have := (HS1.out _ _ hp).1
    show Wp _ _ _ _ _ _ _
    simpa [sgT] using this
  clear hp HC
  go_wp2
  go_end0
  exact ⟨rfl, HN.out⟩
set_option maxRecDepth 100000 in
set_option maxHeartbeats 4000000 in
theorem expr_bool (hE : EnW w0 nv L) (hm : NdW w0 g nv L m 22 x n ts) (h : Wr w0 g nv w v out) (hl : out.length + 7 + 12 * cntL ts ≤ 900000) :
    Calls Tryz.prog 125 #[.pointer (some ⟨g, 0, none⟩), .agg m.cells] w fun e w' => e = .returned (.tuple #[]) ∧ Wp w0 g nv w v (out ++ [tkW 1 x]) w' := by
  have HW : Hid (Wr w0 g nv w v out) := h
  have HE : Hid (EnW w0 nv L) := hE
  have HM : Hid (NdW w0 g nv L m 22 x n ts) := hm
  obtain ⟨ks, hkn, hK⟩ := hm.k
  have HK : Hid (KsA w0 g nv L m.ks ks ts) := hK
  have hks : ks.length ≤ 100000 := hK.s
  have hmc : ks.length ≤ m.kc := by have := hm.c.1; omega
  have HMC : Hid (m.kc ≤ maxLen ∧ (m.ks = none → m.kc = 0)) := hm.c.2
  have HCE : Hid (m.cells = #[.int .i64 22, .string x, .int .i64 n, .slice m.ks ks.length m.kc, .int .i64 m.a, .int .i64 m.f, .int .i64 m.t]) := by
    show m.cells = _
    rw [← hkn, ← hm.e.1, ← hm.e.2.1, ← hm.e.2.2]
    rfl
  have hB0 : Below w.heap.size w (w.alloc (.cells m.cells 49)) := (Below.refl _ _).alloc (Nat.le_refl _) _
  have hr0 := heap_alloc_new w (.cells m.cells 49)
  have HP0 : Hid (Wp w0 g nv w v out (w.alloc (.cells m.cells 49))) := Wp.pre hB0 (Wp.start (h.low hB0))
  have hne : w.heap.size ≠ g := by have := h.lt; omega
  have HNE : Hid (w.heap.size ≠ g) := hne
  rw [HCE.out] at hr0 HP0
  have HR0 : Hid _ := hr0
  obtain ⟨v1, w1, s1⟩ := Wp.step HP0.out
  have HW1 : Hid _ := w1
  have HS1 : Hid _ := s1
  clear h hm hK hkn hE hB0 hr0 hne w1 s1
  rw [HCE.out]
  have HC := words_lit [x] HW1.out (by simp; omega) (by simp)
  simp only [World.size_alloc] at HC
  go_enter Tryz.func125, Tryz.ntmps125
  go_wp2_with fail
  refine HC.mono ?_
  rintro e W ⟨rfl, hp⟩
  have HN : Hid (Wp w0 g nv w v (out ++ [tkW 1 x]) W) := by
    have := (HS1.out _ _ hp).1
    show Wp _ _ _ _ _ _ _
    simpa [sgT] using this
  clear hp HC
  go_wp2
  go_end0
  exact ⟨rfl, HN.out⟩
set_option maxRecDepth 100000 in
set_option maxHeartbeats 4000000 in
theorem expr_name (hE : EnW w0 nv L) (hm : NdW w0 g nv L m 23 x n ts) (h : Wr w0 g nv w v out) (hl : out.length + 7 + 12 * cntL ts ≤ 900000) :
    Calls Tryz.prog 125 #[.pointer (some ⟨g, 0, none⟩), .agg m.cells] w fun e w' => e = .returned (.tuple #[]) ∧ Wp w0 g nv w v (out ++ [tkW 1 x]) w' := by
  have HW : Hid (Wr w0 g nv w v out) := h
  have HE : Hid (EnW w0 nv L) := hE
  have HM : Hid (NdW w0 g nv L m 23 x n ts) := hm
  obtain ⟨ks, hkn, hK⟩ := hm.k
  have HK : Hid (KsA w0 g nv L m.ks ks ts) := hK
  have hks : ks.length ≤ 100000 := hK.s
  have hmc : ks.length ≤ m.kc := by have := hm.c.1; omega
  have HMC : Hid (m.kc ≤ maxLen ∧ (m.ks = none → m.kc = 0)) := hm.c.2
  have HCE : Hid (m.cells = #[.int .i64 23, .string x, .int .i64 n, .slice m.ks ks.length m.kc, .int .i64 m.a, .int .i64 m.f, .int .i64 m.t]) := by
    show m.cells = _
    rw [← hkn, ← hm.e.1, ← hm.e.2.1, ← hm.e.2.2]
    rfl
  have hB0 : Below w.heap.size w (w.alloc (.cells m.cells 49)) := (Below.refl _ _).alloc (Nat.le_refl _) _
  have hr0 := heap_alloc_new w (.cells m.cells 49)
  have HP0 : Hid (Wp w0 g nv w v out (w.alloc (.cells m.cells 49))) := Wp.pre hB0 (Wp.start (h.low hB0))
  have hne : w.heap.size ≠ g := by have := h.lt; omega
  have HNE : Hid (w.heap.size ≠ g) := hne
  rw [HCE.out] at hr0 HP0
  have HR0 : Hid _ := hr0
  obtain ⟨v1, w1, s1⟩ := Wp.step HP0.out
  have HW1 : Hid _ := w1
  have HS1 : Hid _ := s1
  clear h hm hK hkn hE hB0 hr0 hne w1 s1
  rw [HCE.out]
  have HC := words_lit [x] HW1.out (by simp; omega) (by simp)
  simp only [World.size_alloc] at HC
  go_enter Tryz.func125, Tryz.ntmps125
  go_wp2_with fail
  refine HC.mono ?_
  rintro e W ⟨rfl, hp⟩
  have HN : Hid (Wp w0 g nv w v (out ++ [tkW 1 x]) W) := by
    have := (HS1.out _ _ hp).1
    show Wp _ _ _ _ _ _ _
    simpa [sgT] using this
  clear hp HC
  go_wp2
  go_end0
  exact ⟨rfl, HN.out⟩
set_option maxRecDepth 100000 in
set_option maxHeartbeats 4000000 in
theorem expr_dot (hE : EnW w0 nv L) (hm : NdW w0 g nv L m 24 x n ts) (h : Wr w0 g nv w v out) (hl : out.length + 7 + 12 * cntL ts ≤ 900000) :
    Calls Tryz.prog 125 #[.pointer (some ⟨g, 0, none⟩), .agg m.cells] w fun e w' => e = .returned (.tuple #[]) ∧ Wp w0 g nv w v (out ++ (wOpe 24 x (ts.map hdP) (ts.map wrP) 0 ++ [sgT [46]] ++ [tkW 1 x])) w' := by
  have HW : Hid (Wr w0 g nv w v out) := h
  have HE : Hid (EnW w0 nv L) := hE
  have HM : Hid (NdW w0 g nv L m 24 x n ts) := hm
  obtain ⟨ks, hkn, hK⟩ := hm.k
  have HK : Hid (KsA w0 g nv L m.ks ks ts) := hK
  have hks : ks.length ≤ 100000 := hK.s
  have hmc : ks.length ≤ m.kc := by have := hm.c.1; omega
  have HMC : Hid (m.kc ≤ maxLen ∧ (m.ks = none → m.kc = 0)) := hm.c.2
  have HCE : Hid (m.cells = #[.int .i64 24, .string x, .int .i64 n, .slice m.ks ks.length m.kc, .int .i64 m.a, .int .i64 m.f, .int .i64 m.t]) := by
    show m.cells = _
    rw [← hkn, ← hm.e.1, ← hm.e.2.1, ← hm.e.2.2]
    rfl
  have hB0 : Below w.heap.size w (w.alloc (.cells m.cells 49)) := (Below.refl _ _).alloc (Nat.le_refl _) _
  have hr0 := heap_alloc_new w (.cells m.cells 49)
  have HP0 : Hid (Wp w0 g nv w v out (w.alloc (.cells m.cells 49))) := Wp.pre hB0 (Wp.start (h.low hB0))
  have hne : w.heap.size ≠ g := by have := h.lt; omega
  have HNE : Hid (w.heap.size ≠ g) := hne
  rw [HCE.out] at hr0 HP0
  have HR0 : Hid _ := hr0
  obtain ⟨v1, w1, s1⟩ := Wp.step HP0.out
  have HW1 : Hid _ := w1
  have HS1 : Hid _ := s1
  clear h hm hK hkn hE hB0 hr0 hne w1 s1
  rw [HCE.out]
  have HC1 := operand_any 0 (by omega) HE.out HM.out HW1.out (fun t ht => by have := kid_le ht; omega)
  rw [HCE.out] at HC1
  go_enter Tryz.func125, Tryz.ntmps125
  go_wp2_with fail
  refine HC1.mono ?_
  rintro e W2 ⟨rfl, hp⟩
  obtain ⟨hp2, hrr2⟩ := HS1.out _ _ hp
  have r2 := hrr2 _ _ _ _ HR0.out HNE.out (by decide)
  obtain ⟨v2, w2, s2⟩ := Wp.step hp2
  have HR1 : Hid _ := r2
  have HW2 : Hid _ := w2
  have HS2 : Hid _ := s2
  have cx20 : W2.cell? ⟨w.heap.size, 0, none⟩ = some (.int .i64 24) := (cell_of_row _ _ 0 _ _ _ r2).trans rfl
  have cx21 : W2.cell? ⟨w.heap.size, 1, none⟩ = some (.string x) := (cell_of_row _ _ 1 _ _ _ r2).trans rfl
  have cx22 : W2.cell? ⟨w.heap.size, 2, none⟩ = some (.int .i64 n) := (cell_of_row _ _ 2 _ _ _ r2).trans rfl
  have cx23 : W2.cell? ⟨w.heap.size, 3, none⟩ = some (.slice m.ks ks.length m.kc) := (cell_of_row _ _ 3 _ _ _ r2).trans rfl
  have cx24 : W2.cell? ⟨w.heap.size, 4, none⟩ = some (.int .i64 m.a) := (cell_of_row _ _ 4 _ _ _ r2).trans rfl
  have cx25 : W2.cell? ⟨w.heap.size, 5, none⟩ = some (.int .i64 m.f) := (cell_of_row _ _ 5 _ _ _ r2).trans rfl
  have cx26 : W2.cell? ⟨w.heap.size, 6, none⟩ = some (.int .i64 m.t) := (cell_of_row _ _ 6 _ _ _ r2).trans rfl
  clear hp hp2 hrr2 r2 w2 s2 HC1
  have HC2 := wsign_any (strU [46]) HW2.out (by have := (ope_cnt 24 x ts).1; simp; omega)
  go_wp2_with fail
  refine HC2.mono ?_
  rintro e W3 ⟨rfl, hp⟩
  obtain ⟨hp3, hrr3⟩ := HS2.out _ _ hp
  have r3 := hrr3 _ _ _ _ HR1.out HNE.out (by decide)
  obtain ⟨v3, w3, s3⟩ := Wp.step hp3
  have HR2 : Hid _ := r3
  have HW3 : Hid _ := w3
  have HS3 : Hid _ := s3
  have cx30 : W3.cell? ⟨w.heap.size, 0, none⟩ = some (.int .i64 24) := (cell_of_row _ _ 0 _ _ _ r3).trans rfl
  have cx31 : W3.cell? ⟨w.heap.size, 1, none⟩ = some (.string x) := (cell_of_row _ _ 1 _ _ _ r3).trans rfl
  have cx32 : W3.cell? ⟨w.heap.size, 2, none⟩ = some (.int .i64 n) := (cell_of_row _ _ 2 _ _ _ r3).trans rfl
  have cx33 : W3.cell? ⟨w.heap.size, 3, none⟩ = some (.slice m.ks ks.length m.kc) := (cell_of_row _ _ 3 _ _ _ r3).trans rfl
  have cx34 : W3.cell? ⟨w.heap.size, 4, none⟩ = some (.int .i64 m.a) := (cell_of_row _ _ 4 _ _ _ r3).trans rfl
  have cx35 : W3.cell? ⟨w.heap.size, 5, none⟩ = some (.int .i64 m.f) := (cell_of_row _ _ 5 _ _ _ r3).trans rfl
  have cx36 : W3.cell? ⟨w.heap.size, 6, none⟩ = some (.int .i64 m.t) := (cell_of_row _ _ 6 _ _ _ r3).trans rfl
  clear hp hp3 hrr3 r3 w3 s3 HC2
  have HC3 := words_lit [x] HW3.out (by have := (ope_cnt 24 x ts).1; simp; omega) (by simp)
  go_wp2_with fail
  refine HC3.mono ?_
  rintro e WZ ⟨rfl, hp⟩
  have HN : Hid (Wp w0 g nv w v (out ++ (wOpe 24 x (ts.map hdP) (ts.map wrP) 0 ++ [sgT [46]] ++ [tkW 1 x])) WZ) := by
    have := (HS3.out _ _ hp).1
    show Wp _ _ _ _ _ _ _
    simpa [sgT] using this
  clear hp
  go_wp2
  go_end0
  exact ⟨rfl, HN.out⟩
set_option maxRecDepth 100000 in
set_option maxHeartbeats 4000000 in
theorem expr_unary (hE : EnW w0 nv L) (hm : NdW w0 g nv L m 26 x n ts) (h : Wr w0 g nv w v out) (hl : out.length + 7 + 12 * cntL ts ≤ 900000) :
    Calls Tryz.prog 125 #[.pointer (some ⟨g, 0, none⟩), .agg m.cells] w fun e w' => e = .returned (.tuple #[]) ∧ Wp w0 g nv w v (out ++ ([tkW 4 x] ++ wOpe 26 x (ts.map hdP) (ts.map wrP) 0)) w' := by
  have HW : Hid (Wr w0 g nv w v out) := h
  have HE : Hid (EnW w0 nv L) := hE
  have HM : Hid (NdW w0 g nv L m 26 x n ts) := hm
  obtain ⟨ks, hkn, hK⟩ := hm.k
  have HK : Hid (KsA w0 g nv L m.ks ks ts) := hK
  have hks : ks.length ≤ 100000 := hK.s
  have hmc : ks.length ≤ m.kc := by have := hm.c.1; omega
  have HMC : Hid (m.kc ≤ maxLen ∧ (m.ks = none → m.kc = 0)) := hm.c.2
  have HCE : Hid (m.cells = #[.int .i64 26, .string x, .int .i64 n, .slice m.ks ks.length m.kc, .int .i64 m.a, .int .i64 m.f, .int .i64 m.t]) := by
    show m.cells = _
    rw [← hkn, ← hm.e.1, ← hm.e.2.1, ← hm.e.2.2]
    rfl
  have hB0 : Below w.heap.size w (w.alloc (.cells m.cells 49)) := (Below.refl _ _).alloc (Nat.le_refl _) _
  have hr0 := heap_alloc_new w (.cells m.cells 49)
  have HP0 : Hid (Wp w0 g nv w v out (w.alloc (.cells m.cells 49))) := Wp.pre hB0 (Wp.start (h.low hB0))
  have hne : w.heap.size ≠ g := by have := h.lt; omega
  have HNE : Hid (w.heap.size ≠ g) := hne
  rw [HCE.out] at hr0 HP0
  have HR0 : Hid _ := hr0
  obtain ⟨v1, w1, s1⟩ := Wp.step HP0.out
  have HW1 : Hid _ := w1
  have HS1 : Hid _ := s1
  clear h hm hK hkn hE hB0 hr0 hne w1 s1
  rw [HCE.out]
  have HC1 := wsign_any x HW1.out (by omega)
  go_enter Tryz.func125, Tryz.ntmps125
  go_wp2_with fail
  refine HC1.mono ?_
  rintro e W2 ⟨rfl, hp⟩
  obtain ⟨hp2, hrr2⟩ := HS1.out _ _ hp
  have r2 := hrr2 _ _ _ _ HR0.out HNE.out (by decide)
  obtain ⟨v2, w2, s2⟩ := Wp.step hp2
  have HR1 : Hid _ := r2
  have HW2 : Hid _ := w2
  have HS2 : Hid _ := s2
  have cx20 : W2.cell? ⟨w.heap.size, 0, none⟩ = some (.int .i64 26) := (cell_of_row _ _ 0 _ _ _ r2).trans rfl
  have cx21 : W2.cell? ⟨w.heap.size, 1, none⟩ = some (.string x) := (cell_of_row _ _ 1 _ _ _ r2).trans rfl
  have cx22 : W2.cell? ⟨w.heap.size, 2, none⟩ = some (.int .i64 n) := (cell_of_row _ _ 2 _ _ _ r2).trans rfl
  have cx23 : W2.cell? ⟨w.heap.size, 3, none⟩ = some (.slice m.ks ks.length m.kc) := (cell_of_row _ _ 3 _ _ _ r2).trans rfl
  have cx24 : W2.cell? ⟨w.heap.size, 4, none⟩ = some (.int .i64 m.a) := (cell_of_row _ _ 4 _ _ _ r2).trans rfl
  have cx25 : W2.cell? ⟨w.heap.size, 5, none⟩ = some (.int .i64 m.f) := (cell_of_row _ _ 5 _ _ _ r2).trans rfl
  have cx26 : W2.cell? ⟨w.heap.size, 6, none⟩ = some (.int .i64 m.t) := (cell_of_row _ _ 6 _ _ _ r2).trans rfl
  clear hp hp2 hrr2 r2 w2 s2 HC1
  have HC2 := operand_any 0 (by omega) HE.out HM.out HW2.out (fun t ht => by have := kid_le ht; simp; omega)
  rw [HCE.out] at HC2
  go_wp2_with fail
  refine HC2.mono ?_
  rintro e WZ ⟨rfl, hp⟩
  have HN : Hid (Wp w0 g nv w v (out ++ ([tkW 4 x] ++ wOpe 26 x (ts.map hdP) (ts.map wrP) 0)) WZ) := by
    have := (HS2.out _ _ hp).1
    show Wp _ _ _ _ _ _ _
    simpa [sgT] using this
  clear hp
  go_wp2
  go_end0
  exact ⟨rfl, HN.out⟩
set_option maxRecDepth 100000 in
set_option maxHeartbeats 4000000 in
theorem expr_binary (hE : EnW w0 nv L) (hm : NdW w0 g nv L m 27 x n ts) (h : Wr w0 g nv w v out) (hl : out.length + 7 + 12 * cntL ts ≤ 900000) :
    Calls Tryz.prog 125 #[.pointer (some ⟨g, 0, none⟩), .agg m.cells] w fun e w' => e = .returned (.tuple #[]) ∧ Wp w0 g nv w v (out ++ (wOpe 27 x (ts.map hdP) (ts.map wrP) 0 ++ [tkW 4 x] ++ wOpe 27 x (ts.map hdP) (ts.map wrP) 1)) w' := by
  have HW : Hid (Wr w0 g nv w v out) := h
  have HE : Hid (EnW w0 nv L) := hE
  have HM : Hid (NdW w0 g nv L m 27 x n ts) := hm
  obtain ⟨ks, hkn, hK⟩ := hm.k
  have HK : Hid (KsA w0 g nv L m.ks ks ts) := hK
  have hks : ks.length ≤ 100000 := hK.s
  have hmc : ks.length ≤ m.kc := by have := hm.c.1; omega
  have HMC : Hid (m.kc ≤ maxLen ∧ (m.ks = none → m.kc = 0)) := hm.c.2
  have HCE : Hid (m.cells = #[.int .i64 27, .string x, .int .i64 n, .slice m.ks ks.length m.kc, .int .i64 m.a, .int .i64 m.f, .int .i64 m.t]) := by
    show m.cells = _
    rw [← hkn, ← hm.e.1, ← hm.e.2.1, ← hm.e.2.2]
    rfl
  have hB0 : Below w.heap.size w (w.alloc (.cells m.cells 49)) := (Below.refl _ _).alloc (Nat.le_refl _) _
  have hr0 := heap_alloc_new w (.cells m.cells 49)
  have HP0 : Hid (Wp w0 g nv w v out (w.alloc (.cells m.cells 49))) := Wp.pre hB0 (Wp.start (h.low hB0))
  have hne : w.heap.size ≠ g := by have := h.lt; omega
  have HNE : Hid (w.heap.size ≠ g) := hne
  rw [HCE.out] at hr0 HP0
  have HR0 : Hid _ := hr0
  obtain ⟨v1, w1, s1⟩ := Wp.step HP0.out
  have HW1 : Hid _ := w1
  have HS1 : Hid _ := s1
  clear h hm hK hkn hE hB0 hr0 hne w1 s1
  rw [HCE.out]
  have HC1 := operand_any 0 (by omega) HE.out HM.out HW1.out (fun t ht => by have := kid_le ht; omega)
  rw [HCE.out] at HC1
  go_enter Tryz.func125, Tryz.ntmps125
  go_wp2_with fail
  refine HC1.mono ?_
  rintro e W2 ⟨rfl, hp⟩
  obtain ⟨hp2, hrr2⟩ := HS1.out _ _ hp
  have r2 := hrr2 _ _ _ _ HR0.out HNE.out (by decide)
  obtain ⟨v2, w2, s2⟩ := Wp.step hp2
  have HR1 : Hid _ := r2
  have HW2 : Hid _ := w2
  have HS2 : Hid _ := s2
  have cx20 : W2.cell? ⟨w.heap.size, 0, none⟩ = some (.int .i64 27) := (cell_of_row _ _ 0 _ _ _ r2).trans rfl
  have cx21 : W2.cell? ⟨w.heap.size, 1, none⟩ = some (.string x) := (cell_of_row _ _ 1 _ _ _ r2).trans rfl
  have cx22 : W2.cell? ⟨w.heap.size, 2, none⟩ = some (.int .i64 n) := (cell_of_row _ _ 2 _ _ _ r2).trans rfl
  have cx23 : W2.cell? ⟨w.heap.size, 3, none⟩ = some (.slice m.ks ks.length m.kc) := (cell_of_row _ _ 3 _ _ _ r2).trans rfl
  have cx24 : W2.cell? ⟨w.heap.size, 4, none⟩ = some (.int .i64 m.a) := (cell_of_row _ _ 4 _ _ _ r2).trans rfl
  have cx25 : W2.cell? ⟨w.heap.size, 5, none⟩ = some (.int .i64 m.f) := (cell_of_row _ _ 5 _ _ _ r2).trans rfl
  have cx26 : W2.cell? ⟨w.heap.size, 6, none⟩ = some (.int .i64 m.t) := (cell_of_row _ _ 6 _ _ _ r2).trans rfl
  clear hp hp2 hrr2 r2 w2 s2 HC1
  have HC2 := wsign_any x HW2.out (by have := (ope_cnt 27 x ts).1; simp; omega)
  go_wp2_with fail
  refine HC2.mono ?_
  rintro e W3 ⟨rfl, hp⟩
  obtain ⟨hp3, hrr3⟩ := HS2.out _ _ hp
  have r3 := hrr3 _ _ _ _ HR1.out HNE.out (by decide)
  obtain ⟨v3, w3, s3⟩ := Wp.step hp3
  have HR2 : Hid _ := r3
  have HW3 : Hid _ := w3
  have HS3 : Hid _ := s3
  have cx30 : W3.cell? ⟨w.heap.size, 0, none⟩ = some (.int .i64 27) := (cell_of_row _ _ 0 _ _ _ r3).trans rfl
  have cx31 : W3.cell? ⟨w.heap.size, 1, none⟩ = some (.string x) := (cell_of_row _ _ 1 _ _ _ r3).trans rfl
  have cx32 : W3.cell? ⟨w.heap.size, 2, none⟩ = some (.int .i64 n) := (cell_of_row _ _ 2 _ _ _ r3).trans rfl
  have cx33 : W3.cell? ⟨w.heap.size, 3, none⟩ = some (.slice m.ks ks.length m.kc) := (cell_of_row _ _ 3 _ _ _ r3).trans rfl
  have cx34 : W3.cell? ⟨w.heap.size, 4, none⟩ = some (.int .i64 m.a) := (cell_of_row _ _ 4 _ _ _ r3).trans rfl
  have cx35 : W3.cell? ⟨w.heap.size, 5, none⟩ = some (.int .i64 m.f) := (cell_of_row _ _ 5 _ _ _ r3).trans rfl
  have cx36 : W3.cell? ⟨w.heap.size, 6, none⟩ = some (.int .i64 m.t) := (cell_of_row _ _ 6 _ _ _ r3).trans rfl
  clear hp hp3 hrr3 r3 w3 s3 HC2
  have HC3 := operand_any 1 (by omega) HE.out HM.out HW3.out (fun t ht => by have := (ope_cnt 27 x ts).2; have := kid_le (i := 0) (ts := ts.drop 1) (t := t) (by rw [List.getElem?_drop]; exact ht); simp; omega)
  rw [HCE.out] at HC3
  go_wp2_with fail
  refine HC3.mono ?_
  rintro e WZ ⟨rfl, hp⟩
  have HN : Hid (Wp w0 g nv w v (out ++ (wOpe 27 x (ts.map hdP) (ts.map wrP) 0 ++ [tkW 4 x] ++ wOpe 27 x (ts.map hdP) (ts.map wrP) 1)) WZ) := by
    have := (HS3.out _ _ hp).1
    show Wp _ _ _ _ _ _ _
    simpa [sgT] using this
  clear hp
  go_wp2
  go_end0
  exact ⟨rfl, HN.out⟩
end
end Go.Proofs.YtbadafkfjfbnlaaGreatDoor

namespace Go.Proofs.YtbadafkfjfbnlaaGreatDoor
set_option maxRecDepth 100000
open Go.RowKit

theorem below_grow (w : World) (k : Nat) (os : Array Obj) : Below w.heap.size w (Sort.grow (w.drewN k) os) :=
  ⟨(below_dN (B := w.heap.size) w k).os, (below_dN (B := w.heap.size) w k).tape, (below_dN (B := w.heap.size) w k).output, by have := (below_dN (B := w.heap.size) w k).size; show w.heap.size ≤ ((w.drewN k).heap ++ os).size; rw [Array.size_append]; omega, fun j hj => Lib.heap_grow_old w k os j hj⟩
section
variable {w0 w : World} {g : Nat} {nv v : Value} {out : List Tok} {L : List Nd} {m : NdM} {x : ByteArray} {n : Int} {ts : List Pt}
set_option maxRecDepth 100000 in
set_option maxHeartbeats 4000000 in
theorem expr_int (hP : TabP w0) (hn : -9223372036854775808 ≤ n ∧ n ≤ 9223372036854775807) (hE : EnW w0 nv L) (hm : NdW w0 g nv L m 20 x n ts) (h : Wr w0 g nv w v out) (hl : out.length + 7 + 12 * cntL ts ≤ 900000) :
    Calls Tryz.prog 125 #[.pointer (some ⟨g, 0, none⟩), .agg m.cells] w fun e w' => e = .returned (.tuple #[]) ∧ Wp w0 g nv w v (out ++ [nuT n]) w' := by
  have HW : Hid (Wr w0 g nv w v out) := h
  have HE : Hid (EnW w0 nv L) := hE
  have HM : Hid (NdW w0 g nv L m 20 x n ts) := hm
  obtain ⟨ks, hkn, hK⟩ := hm.k
  have HK : Hid (KsA w0 g nv L m.ks ks ts) := hK
  have hks : ks.length ≤ 100000 := hK.s
  have hmc : ks.length ≤ m.kc := by have := hm.c.1; omega
  have HMC : Hid (m.kc ≤ maxLen ∧ (m.ks = none → m.kc = 0)) := hm.c.2
  have HCE : Hid (m.cells = #[.int .i64 20, .string x, .int .i64 n, .slice m.ks ks.length m.kc, .int .i64 m.a, .int .i64 m.f, .int .i64 m.t]) := by
    show m.cells = _
    rw [← hkn, ← hm.e.1, ← hm.e.2.1, ← hm.e.2.2]
    rfl
  have hB0 : Below w.heap.size w (w.alloc (.cells m.cells 49)) := (Below.refl _ _).alloc (Nat.le_refl _) _
  have hr0 := heap_alloc_new w (.cells m.cells 49)
  have HP0 : Hid (Wp w0 g nv w v out (w.alloc (.cells m.cells 49))) := Wp.pre hB0 (Wp.start (h.low hB0))
  have hne : w.heap.size ≠ g := by have := h.lt; omega
  have HNE : Hid (w.heap.size ≠ g) := hne
  rw [HCE.out] at hr0 HP0
  have HR0 : Hid _ := hr0
  obtain ⟨v1, w1, s1⟩ := Wp.step HP0.out
  have HW1 : Hid _ := w1
  have HS1 : Hid _ := s1
  clear h hm hK hkn hE hB0 hr0 hne w1 s1
  have HP : Hid (TabP w0) := hP
  have HN : Hid (-9223372036854775808 ≤ n ∧ n ≤ 9223372036854775807) := hn
  clear hP hn
  rw [HCE.out]
  go_enter Tryz.func125, Tryz.ntmps125
  go_wp2_with fail
  refine (Tryz.strconv_FormatInt_10 n HN.out.1 HN.out.2 _ (TabP.low HP.out HW1.out.b)).mono ?_
  rintro e W ⟨rfl, k, os, rfl⟩
  have hb := below_grow (w.alloc (.cells #[.int .i64 20, .string x, .int .i64 n, .slice m.ks ks.length m.kc, .int .i64 m.a, .int .i64 m.f, .int .i64 m.t] 49)) k os
  generalize Sort.grow ((w.alloc (.cells #[.int .i64 20, .string x, .int .i64 n, .slice m.ks ks.length m.kc, .int .i64 m.a, .int .i64 m.f, .int .i64 m.t] 49)).drewN k) os = W at *
  have HB : Hid _ := hb
  have HC := put_one 2 ⟨(Lib.itoa n).toArray⟩ (HW1.out.low hb) (by omega)
  clear hb
  go_wp2_with fail
  refine HC.mono ?_
  rintro e WZ ⟨rfl, hp⟩
  have HZ : Hid (Wp w0 g nv w v (out ++ [nuT n]) WZ) := (HS1.out _ _ (Wp.pre HB.out hp)).1
  clear hp HC
  go_wp2
  go_end0
  exact ⟨rfl, HZ.out⟩
set_option maxRecDepth 100000 in
set_option maxHeartbeats 4000000 in
theorem expr_call (hE : EnW w0 nv L) (hm : NdW w0 g nv L m 25 x n ts) (h : Wr w0 g nv w v out) (hl : out.length + 7 + 12 * cntL ts ≤ 900000) :
    Calls Tryz.prog 125 #[.pointer (some ⟨g, 0, none⟩), .agg m.cells] w fun e w' => e = .returned (.tuple #[]) ∧ Wp w0 g nv w v (out ++ (wOpe 25 x (ts.map hdP) (ts.map wrP) 0 ++ wBrk ((ts.drop 1).map wrP))) w' := by
  have HW : Hid (Wr w0 g nv w v out) := h
  have HE : Hid (EnW w0 nv L) := hE
  have HM : Hid (NdW w0 g nv L m 25 x n ts) := hm
  obtain ⟨ks, hkn, hK⟩ := hm.k
  have HK : Hid (KsA w0 g nv L m.ks ks ts) := hK
  have hks : ks.length ≤ 100000 := hK.s
  have hmc : ks.length ≤ m.kc := by have := hm.c.1; omega
  have HMC : Hid (m.kc ≤ maxLen ∧ (m.ks = none → m.kc = 0)) := hm.c.2
  have HCE : Hid (m.cells = #[.int .i64 25, .string x, .int .i64 n, .slice m.ks ks.length m.kc, .int .i64 m.a, .int .i64 m.f, .int .i64 m.t]) := by
    show m.cells = _
    rw [← hkn, ← hm.e.1, ← hm.e.2.1, ← hm.e.2.2]
    rfl
  have hB0 : Below w.heap.size w (w.alloc (.cells m.cells 49)) := (Below.refl _ _).alloc (Nat.le_refl _) _
  have hr0 := heap_alloc_new w (.cells m.cells 49)
  have HP0 : Hid (Wp w0 g nv w v out (w.alloc (.cells m.cells 49))) := Wp.pre hB0 (Wp.start (h.low hB0))
  have hne : w.heap.size ≠ g := by have := h.lt; omega
  have HNE : Hid (w.heap.size ≠ g) := hne
  rw [HCE.out] at hr0 HP0
  have HR0 : Hid _ := hr0
  obtain ⟨v1, w1, s1⟩ := Wp.step HP0.out
  have HW1 : Hid _ := w1
  have HS1 : Hid _ := s1
  clear h hm hK hkn hE hB0 hr0 hne w1 s1
  rw [HCE.out]
  have HC1 := operand_any 0 (by omega) HE.out HM.out HW1.out (fun t ht => by have := kid_le ht; omega)
  rw [HCE.out] at HC1
  go_enter Tryz.func125, Tryz.ntmps125
  go_wp2_with fail
  refine HC1.mono ?_
  rintro e W2 ⟨rfl, hp⟩
  obtain ⟨hp2, hrr2⟩ := HS1.out _ _ hp
  have r2 := hrr2 _ _ _ _ HR0.out HNE.out (by decide)
  obtain ⟨v2, w2, s2⟩ := Wp.step hp2
  have HR1 : Hid _ := r2
  have HW2 : Hid _ := w2
  have HS2 : Hid _ := s2
  have cx20 : W2.cell? ⟨w.heap.size, 0, none⟩ = some (.int .i64 25) := (cell_of_row _ _ 0 _ _ _ r2).trans rfl
  have cx21 : W2.cell? ⟨w.heap.size, 1, none⟩ = some (.string x) := (cell_of_row _ _ 1 _ _ _ r2).trans rfl
  have cx22 : W2.cell? ⟨w.heap.size, 2, none⟩ = some (.int .i64 n) := (cell_of_row _ _ 2 _ _ _ r2).trans rfl
  have cx23 : W2.cell? ⟨w.heap.size, 3, none⟩ = some (.slice m.ks ks.length m.kc) := (cell_of_row _ _ 3 _ _ _ r2).trans rfl
  have cx24 : W2.cell? ⟨w.heap.size, 4, none⟩ = some (.int .i64 m.a) := (cell_of_row _ _ 4 _ _ _ r2).trans rfl
  have cx25 : W2.cell? ⟨w.heap.size, 5, none⟩ = some (.int .i64 m.f) := (cell_of_row _ _ 5 _ _ _ r2).trans rfl
  have cx26 : W2.cell? ⟨w.heap.size, 6, none⟩ = some (.int .i64 m.t) := (cell_of_row _ _ 6 _ _ _ r2).trans rfl
  clear hp hp2 hrr2 r2 w2 s2 HC1
  have HALL : Hid (∀ sk' c', RowsAt w0 1 intC sk' (ks.drop 1) → Calls Tryz.prog 123 #[.pointer (some ⟨g, 0, none⟩), .slice sk' (ks.length - (min 1 (ks.length : Int)).toNat) c'] W2 fun e w' => e = .returned (.tuple #[]) ∧ Wp w0 g nv W2 v2 (out ++ wOpe 25 x (ts.map hdP) (ts.map wrP) 0 ++ wBrk ((ts.drop 1).map wrP)) w') := fun sk' c' hr => by
    rw [show ks.length - (min 1 (ks.length : Int)).toNat = (ks.drop 1).length by rw [List.length_drop]; omega]
    exact bracketed_any sk' c' (ks.drop 1) (ts.drop 1) (HK.out.drop 1 hr) HW2.out (by have := (ope_cnt 25 x ts).2; simp; simp at this; omega)
  go_wp2_with fail
  · rename_i hq
    have hr : RowsAt w0 1 intC m.ks (ks.drop 1) := fun hl => by rw [List.length_drop] at hl; omega
    refine (HALL.out _ _ hr).mono ?_
    rintro e WZ ⟨rfl, hp⟩
    have HN : Hid (Wp w0 g nv w v (out ++ (wOpe 25 x (ts.map hdP) (ts.map wrP) 0 ++ wBrk ((ts.drop 1).map wrP))) WZ) := by
      have := (HS2.out _ _ hp).1
      show Wp _ _ _ _ _ _ _
      rw [← List.append_assoc]
      exact this
    clear hp
    go_wp2
    go_end0
    exact ⟨rfl, HN.out⟩
  · rename_i hq
    have hr : RowsAt w0 1 intC (Option.map (fun x => x.add (min 1 (ks.length : Int)).toNat) m.ks) (ks.drop 1) := fun hl => by
      have hl' := hl
      rw [List.length_drop] at hl'
      obtain ⟨b, o, e, -⟩ := HK.out.r (by omega)
      have := rows_drop1 (by rw [← e]; exact HK.out.r) 1 hl
      rw [show (min 1 (ks.length : Int)).toNat = 1 by omega, e]
      exact this
    refine (HALL.out _ _ hr).mono ?_
    rintro e WZ ⟨rfl, hp⟩
    have HN : Hid (Wp w0 g nv w v (out ++ (wOpe 25 x (ts.map hdP) (ts.map wrP) 0 ++ wBrk ((ts.drop 1).map wrP))) WZ) := by
      have := (HS2.out _ _ hp).1
      show Wp _ _ _ _ _ _ _
      rw [← List.append_assoc]
      exact this
    clear hp
    go_wp2
    go_end0
    exact ⟨rfl, HN.out⟩
set_option maxRecDepth 100000 in
set_option maxHeartbeats 4000000 in
theorem expr_none {k : Int} (n20 : (k == 20) = false) (n21 : (k == 21) = false) (n22 : (k == 22) = false) (n23 : (k == 23) = false) (n24 : (k == 24) = false) (n25 : (k == 25) = false) (n26 : (k == 26) = false) (n27 : (k == 27) = false) (hE : EnW w0 nv L) (hm : NdW w0 g nv L m k x n ts) (h : Wr w0 g nv w v out) (_hl : out.length + 7 + 12 * cntL ts ≤ 900000) :
    Calls Tryz.prog 125 #[.pointer (some ⟨g, 0, none⟩), .agg m.cells] w fun e w' => e = .returned (.tuple #[]) ∧ Wp w0 g nv w v (out ++ []) w' := by
  have HW : Hid (Wr w0 g nv w v out) := h
  have HE : Hid (EnW w0 nv L) := hE
  have HM : Hid (NdW w0 g nv L m k x n ts) := hm
  obtain ⟨ks, hkn, hK⟩ := hm.k
  have HK : Hid (KsA w0 g nv L m.ks ks ts) := hK
  have hks : ks.length ≤ 100000 := hK.s
  have hmc : ks.length ≤ m.kc := by have := hm.c.1; omega
  have HMC : Hid (m.kc ≤ maxLen ∧ (m.ks = none → m.kc = 0)) := hm.c.2
  have HCE : Hid (m.cells = #[.int .i64 k, .string x, .int .i64 n, .slice m.ks ks.length m.kc, .int .i64 m.a, .int .i64 m.f, .int .i64 m.t]) := by
    show m.cells = _
    rw [← hkn, ← hm.e.1, ← hm.e.2.1, ← hm.e.2.2]
    rfl
  have hB0 : Below w.heap.size w (w.alloc (.cells m.cells 49)) := (Below.refl _ _).alloc (Nat.le_refl _) _
  have hr0 := heap_alloc_new w (.cells m.cells 49)
  have HP0 : Hid (Wp w0 g nv w v out (w.alloc (.cells m.cells 49))) := Wp.pre hB0 (Wp.start (h.low hB0))
  have hne : w.heap.size ≠ g := by have := h.lt; omega
  have HNE : Hid (w.heap.size ≠ g) := hne
  rw [HCE.out] at hr0 HP0
  have HR0 : Hid _ := hr0
  obtain ⟨v1, w1, s1⟩ := Wp.step HP0.out
  have HW1 : Hid _ := w1
  have HS1 : Hid _ := s1
  clear h hm hK hkn hE hB0 hr0 hne w1 s1
  rw [HCE.out]
  go_enter Tryz.func125, Tryz.ntmps125
  go_wp2
  go_end0
  refine ⟨rfl, ?_⟩
  rw [List.append_nil]
  exact HP0.out
theorem expr_any {k : Int} (hP : TabP w0) (hx : x.size ≤ 100000) (hn : -9223372036854775808 ≤ n ∧ n ≤ 9223372036854775807) (hE : EnW w0 nv L) (hm : NdW w0 g nv L m k x n ts) (h : Wr w0 g nv w v out) (hl : out.length + 7 + 12 * cntL ts ≤ 900000) :
    Calls Tryz.prog 125 #[.pointer (some ⟨g, 0, none⟩), .agg m.cells] w fun e w' => e = .returned (.tuple #[]) ∧ Wp w0 g nv w v (out ++ wrX k x n (ts.map hdP) (ts.map wrP)) w' := by
  unfold wrX
  by_cases h20 : k = 20
  · subst h20; exact expr_int hP hn hE hm h hl
  by_cases h21 : k = 21
  · subst h21; exact expr_text hx hE hm h hl
  by_cases h22 : k = 22
  · subst h22; exact expr_bool hE hm h hl
  by_cases h23 : k = 23
  · subst h23; exact expr_name hE hm h hl
  by_cases h24 : k = 24
  · subst h24; exact expr_dot hE hm h hl
  by_cases h25 : k = 25
  · subst h25
    have := expr_call hE hm h hl
    rw [List.map_drop] at this
    exact this
  by_cases h26 : k = 26
  · subst h26; exact expr_unary hE hm h hl
  by_cases h27 : k = 27
  · subst h27; exact expr_binary hE hm h hl
  rw [if_neg h20, if_neg h21, if_neg (by omega), if_neg h24, if_neg h25, if_neg h26, if_neg h27]
  exact expr_none (by simpa using h20) (by simpa using h21) (by simpa using h22) (by simpa using h23) (by simpa using h24) (by simpa using h25) (by simpa using h26) (by simpa using h27) hE hm h hl
end
end Go.Proofs.YtbadafkfjfbnlaaGreatDoor

namespace Go.Proofs.YtbadafkfjfbnlaaGreatDoor
set_option maxRecDepth 100000
open Go.RowKit

section
variable {w0 w : World} {g : Nat} {nv v : Value} {out : List Tok} {L : List Nd} {m : NdM} {x : ByteArray} {n : Int} {ts : List Pt}
set_option maxRecDepth 100000 in
set_option maxHeartbeats 4000000 in
theorem stmt_block (hE : EnW w0 nv L) (hm : NdW w0 g nv L m 13 x n ts) (h : Wr w0 g nv w v out) (hl : out.length + 7 + 12 * cntL ts ≤ 900000) :
    Calls Tryz.prog 95 #[.pointer (some ⟨g, 0, none⟩), .agg m.cells] w fun e w' => e = .returned (.tuple #[]) ∧ Wp w0 g nv w v (out ++ wBra (ts.map wrP)) w' := by
  have HW : Hid (Wr w0 g nv w v out) := h
  have HE : Hid (EnW w0 nv L) := hE
  have HM : Hid (NdW w0 g nv L m 13 x n ts) := hm
  obtain ⟨ks, hkn, hK⟩ := hm.k
  have HK : Hid (KsA w0 g nv L m.ks ks ts) := hK
  have hks : ks.length ≤ 100000 := hK.s
  have hmc : ks.length ≤ m.kc := by have := hm.c.1; omega
  have HMC : Hid (m.kc ≤ maxLen ∧ (m.ks = none → m.kc = 0)) := hm.c.2
  have HCE : Hid (m.cells = #[.int .i64 13, .string x, .int .i64 n, .slice m.ks ks.length m.kc, .int .i64 m.a, .int .i64 m.f, .int .i64 m.t]) := by
    show m.cells = _
    rw [← hkn, ← hm.e.1, ← hm.e.2.1, ← hm.e.2.2]
    rfl
  have hB0 : Below w.heap.size w (w.alloc (.cells m.cells 49)) := (Below.refl _ _).alloc (Nat.le_refl _) _
  have hr0 := heap_alloc_new w (.cells m.cells 49)
  have HP0 : Hid (Wp w0 g nv w v out (w.alloc (.cells m.cells 49))) := Wp.pre hB0 (Wp.start (h.low hB0))
  have hne : w.heap.size ≠ g := by have := h.lt; omega
  have HNE : Hid (w.heap.size ≠ g) := hne
  rw [HCE.out] at hr0 HP0
  have HR0 : Hid _ := hr0
  obtain ⟨v1, w1, s1⟩ := Wp.step HP0.out
  have HW1 : Hid _ := w1
  have HS1 : Hid _ := s1
  clear h hm hK hkn hE hB0 hr0 hne w1 s1
  rw [HCE.out]
  have HC1 := braced_any m.ks m.kc ks ts HK.out HW1.out (by omega)
  go_enter Tryz.func95, Tryz.ntmps95
  go_wp2_with fail
  refine HC1.mono ?_
  rintro e WZ ⟨rfl, hp⟩
  have HN : Hid (Wp w0 g nv w v (out ++ wBra (ts.map wrP)) WZ) := by
    have := (HS1.out _ _ hp).1
    show Wp _ _ _ _ _ _ _
    simpa [sgT, wdT] using this
  clear hp
  go_wp2
  go_end0
  exact ⟨rfl, HN.out⟩
set_option maxRecDepth 100000 in
set_option maxHeartbeats 4000000 in
theorem stmt_if (hE : EnW w0 nv L) (hm : NdW w0 g nv L m 14 x n ts) (h : Wr w0 g nv w v out) (hl : out.length + 7 + 12 * cntL ts ≤ 900000) :
    Calls Tryz.prog 95 #[.pointer (some ⟨g, 0, none⟩), .agg m.cells] w fun e w' => e = .returned (.tuple #[]) ∧ Wp w0 g nv w v (out ++ ([wdT [105, 102]] ++ wIf (ts.map wrP))) w' := by
  have HW : Hid (Wr w0 g nv w v out) := h
  have HE : Hid (EnW w0 nv L) := hE
  have HM : Hid (NdW w0 g nv L m 14 x n ts) := hm
  obtain ⟨ks, hkn, hK⟩ := hm.k
  have HK : Hid (KsA w0 g nv L m.ks ks ts) := hK
  have hks : ks.length ≤ 100000 := hK.s
  have hmc : ks.length ≤ m.kc := by have := hm.c.1; omega
  have HMC : Hid (m.kc ≤ maxLen ∧ (m.ks = none → m.kc = 0)) := hm.c.2
  have HCE : Hid (m.cells = #[.int .i64 14, .string x, .int .i64 n, .slice m.ks ks.length m.kc, .int .i64 m.a, .int .i64 m.f, .int .i64 m.t]) := by
    show m.cells = _
    rw [← hkn, ← hm.e.1, ← hm.e.2.1, ← hm.e.2.2]
    rfl
  have hB0 : Below w.heap.size w (w.alloc (.cells m.cells 49)) := (Below.refl _ _).alloc (Nat.le_refl _) _
  have hr0 := heap_alloc_new w (.cells m.cells 49)
  have HP0 : Hid (Wp w0 g nv w v out (w.alloc (.cells m.cells 49))) := Wp.pre hB0 (Wp.start (h.low hB0))
  have hne : w.heap.size ≠ g := by have := h.lt; omega
  have HNE : Hid (w.heap.size ≠ g) := hne
  rw [HCE.out] at hr0 HP0
  have HR0 : Hid _ := hr0
  obtain ⟨v1, w1, s1⟩ := Wp.step HP0.out
  have HW1 : Hid _ := w1
  have HS1 : Hid _ := s1
  clear h hm hK hkn hE hB0 hr0 hne w1 s1
  rw [HCE.out]
  have HC1 := branch_any HM.out HW1.out (by omega)
  rw [HCE.out] at HC1
  go_enter Tryz.func95, Tryz.ntmps95
  go_wp2_with fail
  refine HC1.mono ?_
  rintro e WZ ⟨rfl, hp⟩
  have HN : Hid (Wp w0 g nv w v (out ++ ([wdT [105, 102]] ++ wIf (ts.map wrP))) WZ) := by
    have := (HS1.out _ _ hp).1
    show Wp _ _ _ _ _ _ _
    simpa [sgT, wdT] using this
  clear hp
  go_wp2
  go_end0
  exact ⟨rfl, HN.out⟩
set_option maxRecDepth 100000 in
set_option maxHeartbeats 4000000 in
theorem stmt_for (hE : EnW w0 nv L) (hm : NdW w0 g nv L m 15 x n ts) (h : Wr w0 g nv w v out) (hl : out.length + 7 + 12 * cntL ts ≤ 900000) :
    Calls Tryz.prog 95 #[.pointer (some ⟨g, 0, none⟩), .agg m.cells] w fun e w' => e = .returned (.tuple #[]) ∧ Wp w0 g nv w v (out ++ ([wdT [102, 111, 114]] ++ (ts.map wrP).flatten)) w' := by
  have HW : Hid (Wr w0 g nv w v out) := h
  have HE : Hid (EnW w0 nv L) := hE
  have HM : Hid (NdW w0 g nv L m 15 x n ts) := hm
  obtain ⟨ks, hkn, hK⟩ := hm.k
  have HK : Hid (KsA w0 g nv L m.ks ks ts) := hK
  have hks : ks.length ≤ 100000 := hK.s
  have hmc : ks.length ≤ m.kc := by have := hm.c.1; omega
  have HMC : Hid (m.kc ≤ maxLen ∧ (m.ks = none → m.kc = 0)) := hm.c.2
  have HCE : Hid (m.cells = #[.int .i64 15, .string x, .int .i64 n, .slice m.ks ks.length m.kc, .int .i64 m.a, .int .i64 m.f, .int .i64 m.t]) := by
    show m.cells = _
    rw [← hkn, ← hm.e.1, ← hm.e.2.1, ← hm.e.2.2]
    rfl
  have hB0 : Below w.heap.size w (w.alloc (.cells m.cells 49)) := (Below.refl _ _).alloc (Nat.le_refl _) _
  have hr0 := heap_alloc_new w (.cells m.cells 49)
  have HP0 : Hid (Wp w0 g nv w v out (w.alloc (.cells m.cells 49))) := Wp.pre hB0 (Wp.start (h.low hB0))
  have hne : w.heap.size ≠ g := by have := h.lt; omega
  have HNE : Hid (w.heap.size ≠ g) := hne
  rw [HCE.out] at hr0 HP0
  have HR0 : Hid _ := hr0
  obtain ⟨v1, w1, s1⟩ := Wp.step HP0.out
  have HW1 : Hid _ := w1
  have HS1 : Hid _ := s1
  clear h hm hK hkn hE hB0 hr0 hne w1 s1
  rw [HCE.out]
  have HC1 := words_lit [strU [102, 111, 114]] HW1.out (by simp; omega) (by simp)
  simp only [World.size_alloc] at HC1
  go_enter Tryz.func95, Tryz.ntmps95
  go_wp2_with fail
  refine HC1.mono ?_
  rintro e W2 ⟨rfl, hp⟩
  obtain ⟨hp2, hrr2⟩ := HS1.out _ _ hp
  have r2 := hrr2 _ _ _ _ HR0.out HNE.out (by decide)
  obtain ⟨v2, w2, s2⟩ := Wp.step hp2
  have HR1 : Hid _ := r2
  have HW2 : Hid _ := w2
  have HS2 : Hid _ := s2
  have cx20 : W2.cell? ⟨w.heap.size, 0, none⟩ = some (.int .i64 15) := (cell_of_row _ _ 0 _ _ _ r2).trans rfl
  have cx21 : W2.cell? ⟨w.heap.size, 1, none⟩ = some (.string x) := (cell_of_row _ _ 1 _ _ _ r2).trans rfl
  have cx22 : W2.cell? ⟨w.heap.size, 2, none⟩ = some (.int .i64 n) := (cell_of_row _ _ 2 _ _ _ r2).trans rfl
  have cx23 : W2.cell? ⟨w.heap.size, 3, none⟩ = some (.slice m.ks ks.length m.kc) := (cell_of_row _ _ 3 _ _ _ r2).trans rfl
  have cx24 : W2.cell? ⟨w.heap.size, 4, none⟩ = some (.int .i64 m.a) := (cell_of_row _ _ 4 _ _ _ r2).trans rfl
  have cx25 : W2.cell? ⟨w.heap.size, 5, none⟩ = some (.int .i64 m.f) := (cell_of_row _ _ 5 _ _ _ r2).trans rfl
  have cx26 : W2.cell? ⟨w.heap.size, 6, none⟩ = some (.int .i64 m.t) := (cell_of_row _ _ 6 _ _ _ r2).trans rfl
  clear hp hp2 hrr2 r2 w2 s2 HC1
  have HC2 := all_any m.ks m.kc ks ts HK.out HW2.out (by have := flat_cnt ts; simp at this ⊢; omega)
  go_wp2_with fail
  refine HC2.mono ?_
  rintro e WZ ⟨rfl, hp⟩
  have HN : Hid (Wp w0 g nv w v (out ++ ([wdT [102, 111, 114]] ++ (ts.map wrP).flatten)) WZ) := by
    have := (HS2.out _ _ hp).1
    show Wp _ _ _ _ _ _ _
    simpa [sgT, wdT] using this
  clear hp
  go_wp2
  go_end0
  exact ⟨rfl, HN.out⟩
set_option maxRecDepth 100000 in
set_option maxHeartbeats 4000000 in
theorem stmt_return (hE : EnW w0 nv L) (hm : NdW w0 g nv L m 16 x n ts) (h : Wr w0 g nv w v out) (hl : out.length + 7 + 12 * cntL ts ≤ 900000) :
    Calls Tryz.prog 95 #[.pointer (some ⟨g, 0, none⟩), .agg m.cells] w fun e w' => e = .returned (.tuple #[]) ∧ Wp w0 g nv w v (out ++ ([wdT [114, 101, 116, 117, 114, 110]] ++ (ts.map wrP).flatten)) w' := by
  have HW : Hid (Wr w0 g nv w v out) := h
  have HE : Hid (EnW w0 nv L) := hE
  have HM : Hid (NdW w0 g nv L m 16 x n ts) := hm
  obtain ⟨ks, hkn, hK⟩ := hm.k
  have HK : Hid (KsA w0 g nv L m.ks ks ts) := hK
  have hks : ks.length ≤ 100000 := hK.s
  have hmc : ks.length ≤ m.kc := by have := hm.c.1; omega
  have HMC : Hid (m.kc ≤ maxLen ∧ (m.ks = none → m.kc = 0)) := hm.c.2
  have HCE : Hid (m.cells = #[.int .i64 16, .string x, .int .i64 n, .slice m.ks ks.length m.kc, .int .i64 m.a, .int .i64 m.f, .int .i64 m.t]) := by
    show m.cells = _
    rw [← hkn, ← hm.e.1, ← hm.e.2.1, ← hm.e.2.2]
    rfl
  have hB0 : Below w.heap.size w (w.alloc (.cells m.cells 49)) := (Below.refl _ _).alloc (Nat.le_refl _) _
  have hr0 := heap_alloc_new w (.cells m.cells 49)
  have HP0 : Hid (Wp w0 g nv w v out (w.alloc (.cells m.cells 49))) := Wp.pre hB0 (Wp.start (h.low hB0))
  have hne : w.heap.size ≠ g := by have := h.lt; omega
  have HNE : Hid (w.heap.size ≠ g) := hne
  rw [HCE.out] at hr0 HP0
  have HR0 : Hid _ := hr0
  obtain ⟨v1, w1, s1⟩ := Wp.step HP0.out
  have HW1 : Hid _ := w1
  have HS1 : Hid _ := s1
  clear h hm hK hkn hE hB0 hr0 hne w1 s1
  rw [HCE.out]
  have HC1 := words_lit [strU [114, 101, 116, 117, 114, 110]] HW1.out (by simp; omega) (by simp)
  simp only [World.size_alloc] at HC1
  go_enter Tryz.func95, Tryz.ntmps95
  go_wp2_with fail
  refine HC1.mono ?_
  rintro e W2 ⟨rfl, hp⟩
  obtain ⟨hp2, hrr2⟩ := HS1.out _ _ hp
  have r2 := hrr2 _ _ _ _ HR0.out HNE.out (by decide)
  obtain ⟨v2, w2, s2⟩ := Wp.step hp2
  have HR1 : Hid _ := r2
  have HW2 : Hid _ := w2
  have HS2 : Hid _ := s2
  have cx20 : W2.cell? ⟨w.heap.size, 0, none⟩ = some (.int .i64 16) := (cell_of_row _ _ 0 _ _ _ r2).trans rfl
  have cx21 : W2.cell? ⟨w.heap.size, 1, none⟩ = some (.string x) := (cell_of_row _ _ 1 _ _ _ r2).trans rfl
  have cx22 : W2.cell? ⟨w.heap.size, 2, none⟩ = some (.int .i64 n) := (cell_of_row _ _ 2 _ _ _ r2).trans rfl
  have cx23 : W2.cell? ⟨w.heap.size, 3, none⟩ = some (.slice m.ks ks.length m.kc) := (cell_of_row _ _ 3 _ _ _ r2).trans rfl
  have cx24 : W2.cell? ⟨w.heap.size, 4, none⟩ = some (.int .i64 m.a) := (cell_of_row _ _ 4 _ _ _ r2).trans rfl
  have cx25 : W2.cell? ⟨w.heap.size, 5, none⟩ = some (.int .i64 m.f) := (cell_of_row _ _ 5 _ _ _ r2).trans rfl
  have cx26 : W2.cell? ⟨w.heap.size, 6, none⟩ = some (.int .i64 m.t) := (cell_of_row _ _ 6 _ _ _ r2).trans rfl
  clear hp hp2 hrr2 r2 w2 s2 HC1
  have HC2 := all_any m.ks m.kc ks ts HK.out HW2.out (by have := flat_cnt ts; simp at this ⊢; omega)
  go_wp2_with fail
  refine HC2.mono ?_
  rintro e WZ ⟨rfl, hp⟩
  have HN : Hid (Wp w0 g nv w v (out ++ ([wdT [114, 101, 116, 117, 114, 110]] ++ (ts.map wrP).flatten)) WZ) := by
    have := (HS2.out _ _ hp).1
    show Wp _ _ _ _ _ _ _
    simpa [sgT, wdT] using this
  clear hp
  go_wp2
  go_end0
  exact ⟨rfl, HN.out⟩
set_option maxRecDepth 100000 in
set_option maxHeartbeats 4000000 in
theorem stmt_short (hE : EnW w0 nv L) (hm : NdW w0 g nv L m 17 x n ts) (h : Wr w0 g nv w v out) (hl : out.length + 7 + 12 * cntL ts ≤ 900000) :
    Calls Tryz.prog 95 #[.pointer (some ⟨g, 0, none⟩), .agg m.cells] w fun e w' => e = .returned (.tuple #[]) ∧ Wp w0 g nv w v (out ++ ([tkW 1 x] ++ [sgT [58, 61]] ++ (ts.map wrP).flatten)) w' := by
  have HW : Hid (Wr w0 g nv w v out) := h
  have HE : Hid (EnW w0 nv L) := hE
  have HM : Hid (NdW w0 g nv L m 17 x n ts) := hm
  obtain ⟨ks, hkn, hK⟩ := hm.k
  have HK : Hid (KsA w0 g nv L m.ks ks ts) := hK
  have hks : ks.length ≤ 100000 := hK.s
  have hmc : ks.length ≤ m.kc := by have := hm.c.1; omega
  have HMC : Hid (m.kc ≤ maxLen ∧ (m.ks = none → m.kc = 0)) := hm.c.2
  have HCE : Hid (m.cells = #[.int .i64 17, .string x, .int .i64 n, .slice m.ks ks.length m.kc, .int .i64 m.a, .int .i64 m.f, .int .i64 m.t]) := by
    show m.cells = _
    rw [← hkn, ← hm.e.1, ← hm.e.2.1, ← hm.e.2.2]
    rfl
  have hB0 : Below w.heap.size w (w.alloc (.cells m.cells 49)) := (Below.refl _ _).alloc (Nat.le_refl _) _
  have hr0 := heap_alloc_new w (.cells m.cells 49)
  have HP0 : Hid (Wp w0 g nv w v out (w.alloc (.cells m.cells 49))) := Wp.pre hB0 (Wp.start (h.low hB0))
  have hne : w.heap.size ≠ g := by have := h.lt; omega
  have HNE : Hid (w.heap.size ≠ g) := hne
  rw [HCE.out] at hr0 HP0
  have HR0 : Hid _ := hr0
  obtain ⟨v1, w1, s1⟩ := Wp.step HP0.out
  have HW1 : Hid _ := w1
  have HS1 : Hid _ := s1
  clear h hm hK hkn hE hB0 hr0 hne w1 s1
  rw [HCE.out]
  have HC1 := words_lit [x] HW1.out (by simp; omega) (by simp)
  simp only [World.size_alloc] at HC1
  go_enter Tryz.func95, Tryz.ntmps95
  go_wp2_with fail
  refine HC1.mono ?_
  rintro e W2 ⟨rfl, hp⟩
  obtain ⟨hp2, hrr2⟩ := HS1.out _ _ hp
  have r2 := hrr2 _ _ _ _ HR0.out HNE.out (by decide)
  obtain ⟨v2, w2, s2⟩ := Wp.step hp2
  have HR1 : Hid _ := r2
  have HW2 : Hid _ := w2
  have HS2 : Hid _ := s2
  have cx20 : W2.cell? ⟨w.heap.size, 0, none⟩ = some (.int .i64 17) := (cell_of_row _ _ 0 _ _ _ r2).trans rfl
  have cx21 : W2.cell? ⟨w.heap.size, 1, none⟩ = some (.string x) := (cell_of_row _ _ 1 _ _ _ r2).trans rfl
  have cx22 : W2.cell? ⟨w.heap.size, 2, none⟩ = some (.int .i64 n) := (cell_of_row _ _ 2 _ _ _ r2).trans rfl
  have cx23 : W2.cell? ⟨w.heap.size, 3, none⟩ = some (.slice m.ks ks.length m.kc) := (cell_of_row _ _ 3 _ _ _ r2).trans rfl
  have cx24 : W2.cell? ⟨w.heap.size, 4, none⟩ = some (.int .i64 m.a) := (cell_of_row _ _ 4 _ _ _ r2).trans rfl
  have cx25 : W2.cell? ⟨w.heap.size, 5, none⟩ = some (.int .i64 m.f) := (cell_of_row _ _ 5 _ _ _ r2).trans rfl
  have cx26 : W2.cell? ⟨w.heap.size, 6, none⟩ = some (.int .i64 m.t) := (cell_of_row _ _ 6 _ _ _ r2).trans rfl
  clear hp hp2 hrr2 r2 w2 s2 HC1
  have HC2 := wsign_any (strU [58, 61]) HW2.out (by have := flat_cnt ts; simp at this ⊢; omega)
  go_wp2_with fail
  refine HC2.mono ?_
  rintro e W3 ⟨rfl, hp⟩
  obtain ⟨hp3, hrr3⟩ := HS2.out _ _ hp
  have r3 := hrr3 _ _ _ _ HR1.out HNE.out (by decide)
  obtain ⟨v3, w3, s3⟩ := Wp.step hp3
  have HR2 : Hid _ := r3
  have HW3 : Hid _ := w3
  have HS3 : Hid _ := s3
  have cx30 : W3.cell? ⟨w.heap.size, 0, none⟩ = some (.int .i64 17) := (cell_of_row _ _ 0 _ _ _ r3).trans rfl
  have cx31 : W3.cell? ⟨w.heap.size, 1, none⟩ = some (.string x) := (cell_of_row _ _ 1 _ _ _ r3).trans rfl
  have cx32 : W3.cell? ⟨w.heap.size, 2, none⟩ = some (.int .i64 n) := (cell_of_row _ _ 2 _ _ _ r3).trans rfl
  have cx33 : W3.cell? ⟨w.heap.size, 3, none⟩ = some (.slice m.ks ks.length m.kc) := (cell_of_row _ _ 3 _ _ _ r3).trans rfl
  have cx34 : W3.cell? ⟨w.heap.size, 4, none⟩ = some (.int .i64 m.a) := (cell_of_row _ _ 4 _ _ _ r3).trans rfl
  have cx35 : W3.cell? ⟨w.heap.size, 5, none⟩ = some (.int .i64 m.f) := (cell_of_row _ _ 5 _ _ _ r3).trans rfl
  have cx36 : W3.cell? ⟨w.heap.size, 6, none⟩ = some (.int .i64 m.t) := (cell_of_row _ _ 6 _ _ _ r3).trans rfl
  clear hp hp3 hrr3 r3 w3 s3 HC2
  have HC3 := all_any m.ks m.kc ks ts HK.out HW3.out (by have := flat_cnt ts; simp at this ⊢; omega)
  go_wp2_with fail
  refine HC3.mono ?_
  rintro e WZ ⟨rfl, hp⟩
  have HN : Hid (Wp w0 g nv w v (out ++ ([tkW 1 x] ++ [sgT [58, 61]] ++ (ts.map wrP).flatten)) WZ) := by
    have := (HS3.out _ _ hp).1
    show Wp _ _ _ _ _ _ _
    simpa [sgT, wdT] using this
  clear hp
  go_wp2
  go_end0
  exact ⟨rfl, HN.out⟩
set_option maxRecDepth 100000 in
set_option maxHeartbeats 4000000 in
theorem stmt_assign (hE : EnW w0 nv L) (hm : NdW w0 g nv L m 18 x n ts) (h : Wr w0 g nv w v out) (hl : out.length + 7 + 12 * cntL ts ≤ 900000) :
    Calls Tryz.prog 95 #[.pointer (some ⟨g, 0, none⟩), .agg m.cells] w fun e w' => e = .returned (.tuple #[]) ∧ Wp w0 g nv w v (out ++ wPar [61] (ts.map wrP)) w' := by
  have HW : Hid (Wr w0 g nv w v out) := h
  have HE : Hid (EnW w0 nv L) := hE
  have HM : Hid (NdW w0 g nv L m 18 x n ts) := hm
  obtain ⟨ks, hkn, hK⟩ := hm.k
  have HK : Hid (KsA w0 g nv L m.ks ks ts) := hK
  have hks : ks.length ≤ 100000 := hK.s
  have hmc : ks.length ≤ m.kc := by have := hm.c.1; omega
  have HMC : Hid (m.kc ≤ maxLen ∧ (m.ks = none → m.kc = 0)) := hm.c.2
  have HCE : Hid (m.cells = #[.int .i64 18, .string x, .int .i64 n, .slice m.ks ks.length m.kc, .int .i64 m.a, .int .i64 m.f, .int .i64 m.t]) := by
    show m.cells = _
    rw [← hkn, ← hm.e.1, ← hm.e.2.1, ← hm.e.2.2]
    rfl
  have hB0 : Below w.heap.size w (w.alloc (.cells m.cells 49)) := (Below.refl _ _).alloc (Nat.le_refl _) _
  have hr0 := heap_alloc_new w (.cells m.cells 49)
  have HP0 : Hid (Wp w0 g nv w v out (w.alloc (.cells m.cells 49))) := Wp.pre hB0 (Wp.start (h.low hB0))
  have hne : w.heap.size ≠ g := by have := h.lt; omega
  have HNE : Hid (w.heap.size ≠ g) := hne
  rw [HCE.out] at hr0 HP0
  have HR0 : Hid _ := hr0
  obtain ⟨v1, w1, s1⟩ := Wp.step HP0.out
  have HW1 : Hid _ := w1
  have HS1 : Hid _ := s1
  clear h hm hK hkn hE hB0 hr0 hne w1 s1
  rw [HCE.out]
  have HC1 := parted_any [61] m.ks m.kc ks ts HK.out HW1.out (by omega)
  go_enter Tryz.func95, Tryz.ntmps95
  go_wp2_with fail
  refine HC1.mono ?_
  rintro e WZ ⟨rfl, hp⟩
  have HN : Hid (Wp w0 g nv w v (out ++ wPar [61] (ts.map wrP)) WZ) := by
    have := (HS1.out _ _ hp).1
    show Wp _ _ _ _ _ _ _
    simpa [sgT, wdT] using this
  clear hp
  go_wp2
  go_end0
  exact ⟨rfl, HN.out⟩
set_option maxRecDepth 100000 in
set_option maxHeartbeats 4000000 in
theorem stmt_expr (hE : EnW w0 nv L) (hm : NdW w0 g nv L m 19 x n ts) (h : Wr w0 g nv w v out) (hl : out.length + 7 + 12 * cntL ts ≤ 900000) :
    Calls Tryz.prog 95 #[.pointer (some ⟨g, 0, none⟩), .agg m.cells] w fun e w' => e = .returned (.tuple #[]) ∧ Wp w0 g nv w v (out ++ (ts.map wrP).flatten) w' := by
  have HW : Hid (Wr w0 g nv w v out) := h
  have HE : Hid (EnW w0 nv L) := hE
  have HM : Hid (NdW w0 g nv L m 19 x n ts) := hm
  obtain ⟨ks, hkn, hK⟩ := hm.k
  have HK : Hid (KsA w0 g nv L m.ks ks ts) := hK
  have hks : ks.length ≤ 100000 := hK.s
  have hmc : ks.length ≤ m.kc := by have := hm.c.1; omega
  have HMC : Hid (m.kc ≤ maxLen ∧ (m.ks = none → m.kc = 0)) := hm.c.2
  have HCE : Hid (m.cells = #[.int .i64 19, .string x, .int .i64 n, .slice m.ks ks.length m.kc, .int .i64 m.a, .int .i64 m.f, .int .i64 m.t]) := by
    show m.cells = _
    rw [← hkn, ← hm.e.1, ← hm.e.2.1, ← hm.e.2.2]
    rfl
  have hB0 : Below w.heap.size w (w.alloc (.cells m.cells 49)) := (Below.refl _ _).alloc (Nat.le_refl _) _
  have hr0 := heap_alloc_new w (.cells m.cells 49)
  have HP0 : Hid (Wp w0 g nv w v out (w.alloc (.cells m.cells 49))) := Wp.pre hB0 (Wp.start (h.low hB0))
  have hne : w.heap.size ≠ g := by have := h.lt; omega
  have HNE : Hid (w.heap.size ≠ g) := hne
  rw [HCE.out] at hr0 HP0
  have HR0 : Hid _ := hr0
  obtain ⟨v1, w1, s1⟩ := Wp.step HP0.out
  have HW1 : Hid _ := w1
  have HS1 : Hid _ := s1
  clear h hm hK hkn hE hB0 hr0 hne w1 s1
  rw [HCE.out]
  have HC1 := all_any m.ks m.kc ks ts HK.out HW1.out (by omega)
  go_enter Tryz.func95, Tryz.ntmps95
  go_wp2_with fail
  refine HC1.mono ?_
  rintro e WZ ⟨rfl, hp⟩
  have HN : Hid (Wp w0 g nv w v (out ++ (ts.map wrP).flatten) WZ) := by
    have := (HS1.out _ _ hp).1
    show Wp _ _ _ _ _ _ _
    simpa [sgT, wdT] using this
  clear hp
  go_wp2
  go_end0
  exact ⟨rfl, HN.out⟩
set_option maxRecDepth 100000 in
set_option maxHeartbeats 4000000 in
theorem stmt_other {k : Int} (hP : TabP w0) (hx : x.size ≤ 100000) (hn : -9223372036854775808 ≤ n ∧ n ≤ 9223372036854775807) (n13 : (k == 13) = false) (n14 : (k == 14) = false) (n15 : (k == 15) = false) (n16 : (k == 16) = false) (n17 : (k == 17) = false) (n18 : (k == 18) = false) (n19 : (k == 19) = false) (hE : EnW w0 nv L) (hm : NdW w0 g nv L m k x n ts) (h : Wr w0 g nv w v out) (hl : out.length + 7 + 12 * cntL ts ≤ 900000) :
    Calls Tryz.prog 95 #[.pointer (some ⟨g, 0, none⟩), .agg m.cells] w fun e w' => e = .returned (.tuple #[]) ∧ Wp w0 g nv w v (out ++ wrX k x n (ts.map hdP) (ts.map wrP)) w' := by
  have HW : Hid (Wr w0 g nv w v out) := h
  have HE : Hid (EnW w0 nv L) := hE
  have HM : Hid (NdW w0 g nv L m k x n ts) := hm
  obtain ⟨ks, hkn, hK⟩ := hm.k
  have HK : Hid (KsA w0 g nv L m.ks ks ts) := hK
  have hks : ks.length ≤ 100000 := hK.s
  have hmc : ks.length ≤ m.kc := by have := hm.c.1; omega
  have HMC : Hid (m.kc ≤ maxLen ∧ (m.ks = none → m.kc = 0)) := hm.c.2
  have HCE : Hid (m.cells = #[.int .i64 k, .string x, .int .i64 n, .slice m.ks ks.length m.kc, .int .i64 m.a, .int .i64 m.f, .int .i64 m.t]) := by
    show m.cells = _
    rw [← hkn, ← hm.e.1, ← hm.e.2.1, ← hm.e.2.2]
    rfl
  have hB0 : Below w.heap.size w (w.alloc (.cells m.cells 49)) := (Below.refl _ _).alloc (Nat.le_refl _) _
  have hr0 := heap_alloc_new w (.cells m.cells 49)
  have HP0 : Hid (Wp w0 g nv w v out (w.alloc (.cells m.cells 49))) := Wp.pre hB0 (Wp.start (h.low hB0))
  have hne : w.heap.size ≠ g := by have := h.lt; omega
  have HNE : Hid (w.heap.size ≠ g) := hne
  rw [HCE.out] at hr0 HP0
  have HR0 : Hid _ := hr0
  obtain ⟨v1, w1, s1⟩ := Wp.step HP0.out
  have HW1 : Hid _ := w1
  have HS1 : Hid _ := s1
  clear h hm hK hkn hE hB0 hr0 hne w1 s1
  have HP : Hid (TabP w0) := hP
  have HXS : Hid (x.size ≤ 100000) := hx
  have HNB : Hid (-9223372036854775808 ≤ n ∧ n ≤ 9223372036854775807) := hn
  clear hP hx hn
  rw [HCE.out]
  have HC1 := expr_any HP.out HXS.out HNB.out HE.out HM.out HW1.out (by omega)
  rw [HCE.out] at HC1
  go_enter Tryz.func95, Tryz.ntmps95
  go_wp2_with fail
  refine HC1.mono ?_
  rintro e WZ ⟨rfl, hp⟩
  have HN : Hid (Wp w0 g nv w v (out ++ wrX k x n (ts.map hdP) (ts.map wrP)) WZ) := by
    have := (HS1.out _ _ hp).1
    show Wp _ _ _ _ _ _ _
    simpa [sgT, wdT] using this
  clear hp
  go_wp2
  go_end0
  exact ⟨rfl, HN.out⟩
theorem stmt_any {k : Int} (hP : TabP w0) (hx : x.size ≤ 100000) (hn : -9223372036854775808 ≤ n ∧ n ≤ 9223372036854775807) (hE : EnW w0 nv L) (hm : NdW w0 g nv L m k x n ts) (h : Wr w0 g nv w v out) (hl : out.length + 7 + 12 * cntL ts ≤ 900000) :
    Calls Tryz.prog 95 #[.pointer (some ⟨g, 0, none⟩), .agg m.cells] w fun e w' => e = .returned (.tuple #[]) ∧ Wp w0 g nv w v (out ++ wrS k x n (ts.map hdP) (ts.map wrP)) w' := by
  unfold wrS
  by_cases h13 : k = 13
  · subst h13; exact stmt_block hE hm h hl
  by_cases h14 : k = 14
  · subst h14; exact stmt_if hE hm h hl
  by_cases h15 : k = 15
  · subst h15; exact stmt_for hE hm h hl
  by_cases h16 : k = 16
  · subst h16; exact stmt_return hE hm h hl
  by_cases h17 : k = 17
  · subst h17; exact stmt_short hE hm h hl
  by_cases h18 : k = 18
  · subst h18; exact stmt_assign hE hm h hl
  by_cases h19 : k = 19
  · subst h19; exact stmt_expr hE hm h hl
  rw [if_neg h13, if_neg h14, if_neg h15, if_neg h16, if_neg h17, if_neg h18, if_neg h19]
  exact stmt_other hP hx hn (by simpa using h13) (by simpa using h14) (by simpa using h15) (by simpa using h16) (by simpa using h17) (by simpa using h18) (by simpa using h19) hE hm h hl
end
end Go.Proofs.YtbadafkfjfbnlaaGreatDoor
