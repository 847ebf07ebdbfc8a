import Derived.Test.YtbadafkfjfbnlaaGreatDoorTbF
namespace Go.Proofs.YtbadafkfjfbnlaaGreatDoor
set_option maxRecDepth 100000
set_option maxHeartbeats 4000000
open Go.RowKit
theorem Rdr.went {T : Nat} {w : World} {g : Nat} {st : Option Addr} {cap : Nat} {ts : List Tok} {p : Nat} (h : Rdr T w g st cap ts p) (hp : p + 1 <= ts.length) : w.grownBy (w.setCell ⟨g, 1, none⟩ (.int .i64 ((p : Int) + 1))) (some g) ∧ Rdr T (w.setCell ⟨g, 1, none⟩ (.int .i64 ((p : Int) + 1))) g st cap ts (p + 1) := by
 have hb := (Below.refl 0 w).setCell (p := ⟨g, 1, none⟩) (Nat.zero_le _) (.int .i64 ((p : Int) + 1))
 exact ⟨⟨hb.os, hb.tape, hb.output, hb.size, fun k hk hkg => heap_setCell_other _ _ _ _ fun e => hkg (by rw [show k = g from e])⟩, h.go (q := p + 1) hp⟩
section
variable {T : Nat} {w : World} {g : Nat} {st : Option Addr} {cap : Nat} {ts : List Tok} {p : Nat}
theorem zfs (hR : Rdr T w g st cap ts p) :
  Calls Tryz.prog 112 #[.pointer (some ⟨g, 0, none⟩)] w fun e w' => e = .returned (.bool (namB ts p)) ∧ Below w.heap.size w w' := by
 have HR : Hid (Rdr T w g st cap ts p) := hR
 clear hR
 have HX : Hid (namB ts p = (((nxT ts p).kind == 1) && !kepB (nxT ts p).text)) := rfl
 go_enter Tryz.func112, Tryz.ntmps112
 go_wp2_with fail
 refine (zc4 HR.out).mono ?_
 rintro e W1 ⟨rfl, b1⟩
 have HB1 : Hid (Below w.heap.size w W1) := b1
 clear HR b1
 by_cases hn : (nxT ts p).kind = 1
 rotate_left
 ·have hk : ((nxT ts p).kind == 1) = false := by rw [beq_eq_false_iff_ne]; exact hn
  go_wp2_with (refine zd7 (by rfl) (.tmp 3) (.tmp 5) (by rfl) (t := nxT ts p) (z := tokZ) (by rfl) (by rfl) (heap_alloc_new _ _) ?_; refine zcb (fun W => Below w.heap.size w W ∧ W.heap[W1.heap.size]? = some (.cells (nxT ts p).cells 60 (0, 0))) ⟨zan (HB1.out.alloc HB1.out.size _) HB1.out.size _, zaj (heap_alloc_new _ _)⟩ ?_; rintro W2 ⟨hB2, hz2⟩; have HB2 : Hid _ := hB2; have k0 : W2.cell? ⟨W1.heap.size, 0, none⟩ = some (.int .i64 (nxT ts p).kind) := (cell_of_row _ _ 0 _ _ _ hz2).trans rfl; have k1 : W2.cell? ⟨W1.heap.size, 1, none⟩ = some (.string (nxT ts p).text) := (cell_of_row _ _ 1 _ _ _ hz2).trans rfl; clear hB2 hz2)
  go_ret
  exact ⟨by rw [HX.out, hk]; rfl, HB2.out⟩
 ·have hk : ((nxT ts p).kind == 1) = true := by rw [hn]; rfl
  go_wp2_with (refine zd7 (by rfl) (.tmp 3) (.tmp 5) (by rfl) (t := nxT ts p) (z := tokZ) (by rfl) (by rfl) (heap_alloc_new _ _) ?_; refine zcb (fun W => Below w.heap.size w W ∧ W.heap[W1.heap.size]? = some (.cells (nxT ts p).cells 60 (0, 0))) ⟨zan (HB1.out.alloc HB1.out.size _) HB1.out.size _, zaj (heap_alloc_new _ _)⟩ ?_; rintro W2 ⟨hB2, hz2⟩; have HB2 : Hid _ := hB2; have k0 : W2.cell? ⟨W1.heap.size, 0, none⟩ = some (.int .i64 (nxT ts p).kind) := (cell_of_row _ _ 0 _ _ _ hz2).trans rfl; have k1 : W2.cell? ⟨W1.heap.size, 1, none⟩ = some (.string (nxT ts p).text) := (cell_of_row _ _ 1 _ _ _ hz2).trans rfl; clear hB2 hz2)
  refine (zud _ W2).mono ?_
  rintro e W3 ⟨rfl, b3⟩
  go_wp2
  go_ret
  exact ⟨by rw [HX.out, hk]; rfl, HB2.out.trans (b3.mono HB2.out.size)⟩
def TakP (T : Nat) (w : World) (g : Nat) (st : Option Addr) (cap : Nat) (ts : List Tok) (p : Nat) (e : Ending) (w' : World) : Prop :=
 e = .returned (.agg (nxT ts p).cells) ∧ w.grownBy w' (some g) ∧ Rdr T w' g st cap ts (p + 1)
theorem ze7 (hR : Rdr T w g st cap ts p) (hp : p < ts.length) : Calls Tryz.prog 131 #[.pointer (some ⟨g, 0, none⟩)] w (TakP T w g st cap ts p) := by
 have HR : Hid (Rdr T w g st cap ts p) := hR
 have hfe := hR.few
 have hg := hR.lt
 clear hR
 go_enter Tryz.func131, Tryz.ntmps131
 go_wp2_with fail
 refine zae (fun W => Below w.heap.size w W ∧ W.heap[w.heap.size]? = some (.cells tokZ.cells 60 (0, 0))) ⟨(Below.refl _ _).alloc (Nat.le_refl _) _, heap_alloc_new _ _⟩ ?_
 rintro W ⟨hB, hz⟩
 refine (zc4 (HR.out.low hB)).mono ?_
 rintro e W1 ⟨rfl, b1⟩
 have HZ1 : Hid (W1.heap[w.heap.size]? = some (.cells tokZ.cells 60 (0, 0))) := (b1.block _ (zab hz)).trans hz
 have HB1 : Hid (Below w.heap.size w W1) := hB.trans (b1.mono hB.size)
 have hl1 : w.heap.size < W1.heap.size := zab HZ1.out
 clear hB b1 hz
 go_wp2_with (first
  | (refine zd7 (by rfl) (.tmp 3) (.tmp 5) (by rfl) (t := nxT ts p) (z := tokZ) (by rfl) (by rfl) (heap_alloc_new _ _) ?_; refine zcb (fun W => Below w.heap.size w W ∧ W.heap[w.heap.size]? = some (.cells tokZ.cells 60 (0, 0)) ∧ W.heap[W1.heap.size]? = some (.cells (nxT ts p).cells 60 (0, 0))) ⟨zan (HB1.out.alloc HB1.out.size _) HB1.out.size _, (setRow_other _ _ _ _ (by omega)).trans ((Below.heap_alloc _ _ _ hl1).trans HZ1.out), zaj (heap_alloc_new _ _)⟩ ?_; rintro W2 ⟨hB2, hz2, ht2⟩; have HB2 : Hid _ := hB2; have HZ2 : Hid _ := hz2; have HT2 : Hid _ := ht2; have HR2 : Hid (Rdr T W2 g st cap ts p) := HR.out.low hB2; have c1 := HR2.out.c1; have z1 := HR2.out.z 1;  clear hB2 hz2 ht2)
  | (refine zcb (fun W => w.grownBy W (some g) ∧ Rdr T W g st cap ts (p + 1) ∧ W.heap[w.heap.size]? = some (.cells tokZ.cells 60 (0, 0)) ∧ W.heap[W1.heap.size]? = some (.cells (nxT ts p).cells 60 (0, 0))) ⟨zaa (zad HB2.out) (HR2.out.went (by omega)).1, (HR2.out.went (by omega)).2, (heap_setCell_other _ _ _ _ (show w.heap.size ≠ g by omega)).trans HZ2.out, (heap_setCell_other _ _ _ _ (show W1.heap.size ≠ g by omega)).trans HT2.out⟩ ?_; rintro W3 ⟨hG3, hR3, hz3, ht3⟩; have HG3 : Hid _ := hG3; have HR3 : Hid _ := hR3; have HZ3 : Hid _ := hz3; have HT3 : Hid _ := ht3; clear hG3 hR3 hz3 ht3; refine zj7 (by rfl) (.tmp 3) (by rfl) (t := nxT ts p) (by rfl) HT3.out ?_)
  | (refine zd7 (by rfl) (.tmp 2) (.tmp 13) (by rfl) (t := nxT ts p) (z := tokZ) (by rfl) (by rfl) HZ3.out ?_))
 have hb : Below w.heap.size W3 (W3.setRow w.heap.size (nxT ts p).cells) := zan (Below.refl _ _) (Nat.le_refl _) _
 exact zfd Tryz.results131 rfl (zaj HZ3.out) ⟨rfl, zax HG3.out hb, HR.out.keep (zax HG3.out hb) ((hb.block _ hg).trans HR3.out.row) (by omega)⟩
def MusP (T : Nat) (w : World) (g : Nat) (st : Option Addr) (cap : Nat) (ts : List Tok) (p : Nat) (b : Bool) (e : Ending) (w' : World) : Prop :=
 w.grownBy w' (some g) ∧ if b then e = .returned (.agg (nxT ts p).cells) ∧ Rdr T w' g st cap ts (p + 1) else e = wroE (herI ts p)
theorem zi5 (b : Bool) (hR : Rdr T w g st cap ts p) (hb : b = true -> p < ts.length) : Calls Tryz.prog 111 #[.pointer (some ⟨g, 0, none⟩), .bool b] w (MusP T w g st cap ts p b) := by
 have HR : Hid (Rdr T w g st cap ts p) := hR
 have hg := hR.lt
 clear hR
 cases b
 ·go_enter Tryz.func111, Tryz.ntmps111
  go_wp2_with fail
  refine zae (fun W => Below w.heap.size w W) ((Below.refl _ _).alloc (Nat.le_refl _) _) ?_
  intro W hB
  refine (zex (HR.out.low hB)).mono ?_
  rintro e W1 ⟨rfl, b1⟩
  have HP : Hid (MusP T w g st cap ts p false (wroE (herI ts p)) W1) := ⟨zad (hB.trans (b1.mono hB.size)), rfl⟩
  clear HR hB b1
  go_wp2
  exact ⟨rfl, HP.out⟩
 ·have hp := hb rfl
  go_enter Tryz.func111, Tryz.ntmps111
  go_wp2_with fail
  refine zae (fun W => Below w.heap.size w W ∧ W.heap[w.heap.size]? = some (.cells tokZ.cells 60 (0, 0))) ⟨(Below.refl _ _).alloc (Nat.le_refl _) _, heap_alloc_new _ _⟩ ?_
  rintro W ⟨hB, hz⟩
  refine (ze7 (HR.out.low hB) hp).mono ?_
  rintro e W1 ⟨rfl, g1, r1⟩
  have hlt := zab hz
  have HG1 : Hid (w.grownBy W1 (some g)) := zaa (zad hB) g1
  have HZ1 : Hid (W1.heap[w.heap.size]? = some (.cells tokZ.cells 60 (0, 0))) := (g1.block _ hlt (fun e => by injection e with e; omega)).trans hz
  have HW1 : Hid _ := r1.row
  clear hB hz g1 r1
  go_wp2_with (refine zd7 (by rfl) (.tmp 4) (.tmp 11) (by rfl) (t := nxT ts p) (z := tokZ) (by rfl) (by rfl) HZ1.out ?_)
  have hb : Below w.heap.size W1 (W1.setRow w.heap.size (nxT ts p).cells) := zan (Below.refl _ _) (Nat.le_refl _) _
  exact zfd Tryz.results111 rfl (zaj HZ1.out) ⟨zax HG1.out hb, rfl, HR.out.keep (zax HG1.out hb) ((hb.block _ hg).trans HW1.out) (by omega)⟩
theorem zc5 (hR : Rdr T w g st cap ts p) : Calls Tryz.prog 79 #[.pointer (some ⟨g, 0, none⟩)] w (MusP T w g st cap ts p (namB ts p)) := by
 have HR : Hid (Rdr T w g st cap ts p) := hR
 have hg := hR.lt
 clear hR
 have hfd : ∀ (a b c : Value) (W : World), (Instr.field 60 (.agg #[a, b, c]) 0).run Tryz.prog W = .ok a W := fun _ _ _ _ => rfl
 go_enter Tryz.func79, Tryz.ntmps79
 go_wp2_with fail
 refine zae (fun W => Below w.heap.size w W ∧ W.heap[w.heap.size]? = some (.cells tokZ.cells 60 (0, 0))) ⟨(Below.refl _ _).alloc (Nat.le_refl _) _, heap_alloc_new _ _⟩ ?_
 rintro W ⟨hB, hz⟩
 refine (zfs (HR.out.low hB)).mono ?_
 rintro e W0 ⟨rfl, b0⟩
 have hB0 : Hid (Below w.heap.size w W0) := hB.trans (b0.mono hB.size)
 have hz0 : Hid (W0.heap[w.heap.size]? = some (.cells tokZ.cells 60 (0, 0))) := (b0.block _ (zab hz)).trans hz
 clear hB hz b0
 try unfold Tok.cells
 go_wp2_with fail
 refine (zi5 _ (HR.out.low hB0.out) zgk).mono ?_
 rintro e W1 ⟨g1, hm⟩
 have hlt := zab hz0.out
 have HG1 : Hid (w.grownBy W1 (some g)) := zaa (zad hB0.out) g1
 have HZ1 : Hid (W1.heap[w.heap.size]? = some (.cells tokZ.cells 60 (0, 0))) := (g1.block _ hlt (fun e => by injection e with e; omega)).trans hz0.out
 clear hB0 hz0 g1 hlt
 obtain ⟨bb, hb⟩ : ∃ bb, (namB ts p) = bb := ⟨_, rfl⟩
 have HBB : Hid ((namB ts p) = bb) := hb
 cases bb
 ·rw [hb] at hm
  simp only [Bool.false_eq_true, if_false] at hm
  subst hm
  have HP : Hid (MusP T w g st cap ts p (namB ts p) (wroE (herI ts p)) W1) := ⟨HG1.out, by rw [hb]; rfl⟩
  clear hb
  unfold wroE
  clear HG1 HZ1 HR
  go_wp2
  exact ⟨rfl, HP.out⟩
 ·rw [hb] at hm
  simp only [if_true] at hm
  obtain ⟨rfl, r1⟩ := hm
  have hle := r1.le
  have HW1 : Hid _ := r1.row
  clear r1 hb
  go_wp2_with (refine zd7 (by rfl) (.tmp 2) (.tmp 6) (by rfl) (t := nxT ts p) (z := tokZ) (by rfl) (by rfl) HZ1.out ?_)
  have hb : Below w.heap.size W1 (W1.setRow w.heap.size (nxT ts p).cells) := zan (Below.refl _ _) (Nat.le_refl _) _
  exact zfd Tryz.results79 rfl (zaj HZ1.out) ⟨zax HG1.out hb, by rw [HBB.out]; exact ⟨rfl, HR.out.keep (zax HG1.out hb) ((hb.block _ hg).trans HW1.out) hle⟩⟩
theorem zft (n : Int) (hn : n ≠ 0) (hR : Rdr T w g st cap ts p) : Calls Tryz.prog 80 #[.pointer (some ⟨g, 0, none⟩), .int .i64 n] w (MusP T w g st cap ts p ((nxT ts p).kind == n)) := by
 have HR : Hid (Rdr T w g st cap ts p) := hR
 have hg := hR.lt
 clear hR
 have hfd : ∀ (a b c : Value) (W : World), (Instr.field 60 (.agg #[a, b, c]) 0).run Tryz.prog W = .ok a W := fun _ _ _ _ => rfl
 go_enter Tryz.func80, Tryz.ntmps80
 go_wp2_with fail
 refine zae (fun W => Below w.heap.size w W ∧ W.heap[w.heap.size]? = some (.cells tokZ.cells 60 (0, 0))) ⟨(Below.refl _ _).alloc (Nat.le_refl _) _, heap_alloc_new _ _⟩ ?_
 rintro W ⟨hB, hz⟩
 refine (zc4 (HR.out.low hB)).mono ?_
 rintro e W0 ⟨rfl, b0⟩
 have hB0 : Hid (Below w.heap.size w W0) := hB.trans (b0.mono hB.size)
 have hz0 : Hid (W0.heap[w.heap.size]? = some (.cells tokZ.cells 60 (0, 0))) := (b0.block _ (zab hz)).trans hz
 clear hB hz b0
 try unfold Tok.cells
 go_wp2_with fail
 refine (zi5 _ (HR.out.low hB0.out) (fun h => zfr h hn)).mono ?_
 rintro e W1 ⟨g1, hm⟩
 have hlt := zab hz0.out
 have HG1 : Hid (w.grownBy W1 (some g)) := zaa (zad hB0.out) g1
 have HZ1 : Hid (W1.heap[w.heap.size]? = some (.cells tokZ.cells 60 (0, 0))) := (g1.block _ hlt (fun e => by injection e with e; omega)).trans hz0.out
 clear hB0 hz0 g1 hlt
 obtain ⟨bb, hb⟩ : ∃ bb, ((nxT ts p).kind == n) = bb := ⟨_, rfl⟩
 have HBB : Hid (((nxT ts p).kind == n) = bb) := hb
 cases bb
 ·rw [hb] at hm
  simp only [Bool.false_eq_true, if_false] at hm
  subst hm
  have HP : Hid (MusP T w g st cap ts p ((nxT ts p).kind == n) (wroE (herI ts p)) W1) := ⟨HG1.out, by rw [hb]; rfl⟩
  clear hb
  unfold wroE
  clear HG1 HZ1 HR
  go_wp2
  exact ⟨rfl, HP.out⟩
 ·rw [hb] at hm
  simp only [if_true] at hm
  obtain ⟨rfl, r1⟩ := hm
  have hle := r1.le
  have HW1 : Hid _ := r1.row
  clear r1 hb
  go_wp2_with (refine zd7 (by rfl) (.tmp 4) (.tmp 11) (by rfl) (t := nxT ts p) (z := tokZ) (by rfl) (by rfl) HZ1.out ?_)
  have hb : Below w.heap.size W1 (W1.setRow w.heap.size (nxT ts p).cells) := zan (Below.refl _ _) (Nat.le_refl _) _
  exact zfd Tryz.results80 rfl (zaj HZ1.out) ⟨zax HG1.out hb, by rw [HBB.out]; exact ⟨rfl, HR.out.keep (zax HG1.out hb) ((hb.block _ hg).trans HW1.out) hle⟩⟩
def ExpP (T : Nat) (w : World) (g : Nat) (st : Option Addr) (cap : Nat) (ts : List Tok) (p : Nat) (b : Bool) (e : Ending) (w' : World) : Prop :=
 w.grownBy w' (some g) ∧ if b then e = .returned (.tuple #[]) ∧ Rdr T w' g st cap ts (p + 1) else e = wroE (herI ts p)
theorem za3 (s : ByteArray) (hs : s.data.toList ≠ []) (hR : Rdr T w g st cap ts p) : Calls Tryz.prog 77 #[.pointer (some ⟨g, 0, none⟩), .string s] w (ExpP T w g st cap ts p (isT ts p s.data.toList)) := by
 have HR : Hid (Rdr T w g st cap ts p) := hR
 clear hR
 go_enter Tryz.func77, Tryz.ntmps77
 go_wp2_with fail
 refine (zef s HR.out).mono ?_
 rintro e W ⟨rfl, hB⟩
 go_wp2_with fail
 refine (zi5 _ (HR.out.low hB) (fun h => zbw h hs)).mono ?_
 rintro e W1 ⟨g1, hm⟩
 have HG1 : Hid (w.grownBy W1 (some g)) := zaa (zad hB) g1
 clear hB g1
 obtain ⟨bb, hb⟩ : ∃ bb, (isT ts p s.data.toList) = bb := ⟨_, rfl⟩
 have HBB : Hid ((isT ts p s.data.toList) = bb) := hb
 cases bb
 ·rw [hb] at hm
  simp only [Bool.false_eq_true, if_false] at hm
  subst hm
  have HP : Hid (ExpP T w g st cap ts p (isT ts p s.data.toList) (wroE (herI ts p)) W1) := ⟨HG1.out, by rw [hb]; rfl⟩
  clear hb
  unfold wroE
  clear HG1 HR
  go_wp2
  exact ⟨rfl, HP.out⟩
 ·rw [hb] at hm
  simp only [if_true] at hm
  obtain ⟨rfl, r1⟩ := hm
  have HP : Hid (ExpP T w g st cap ts p (isT ts p s.data.toList) (.returned (.tuple #[])) W1) := ⟨HG1.out, by rw [hb]; exact ⟨rfl, r1⟩⟩
  clear r1 HG1 HR hb
  go_wp2
  go_end0
  exact HP.out
def SkiP (T : Nat) (w : World) (g : Nat) (st : Option Addr) (cap : Nat) (ts : List Tok) (p : Nat) (b : Bool) (e : Ending) (w' : World) : Prop :=
 e = .returned (.bool b) ∧ w.grownBy w' (some g) ∧ Rdr T w' g st cap ts (if b then p + 1 else p)
theorem zd8 (s : ByteArray) (hs : s.data.toList ≠ []) (hR : Rdr T w g st cap ts p) : Calls Tryz.prog 135 #[.pointer (some ⟨g, 0, none⟩), .string s] w (SkiP T w g st cap ts p (isT ts p s.data.toList)) := by
 have HR : Hid (Rdr T w g st cap ts p) := hR
 have hfe := hR.few
 clear hR
 go_enter Tryz.func135, Tryz.ntmps135
 go_wp2_with fail
 refine (zef s HR.out).mono ?_
 rintro e W ⟨rfl, hB⟩
 have HB : Hid (Below w.heap.size w W) := hB
 have HRW : Hid (Rdr T W g st cap ts p) := HR.out.low hB
 clear hB
 obtain ⟨bb, hb⟩ : ∃ bb, isT ts p s.data.toList = bb := ⟨_, rfl⟩
 rw [hb]
 have HBB : Hid (isT ts p s.data.toList = bb) := hb
 cases bb
 ·go_wp2
  go_ret
  rw [HBB.out]
  exact ⟨rfl, zad HB.out, HRW.out⟩
 ·have hp := zbw hb hs
  have c1 := HRW.out.c1
  have z1 := HRW.out.z 1
  go_wp2
  go_ret
  rw [HBB.out]
  exact ⟨rfl, zaa (zad HB.out) (HRW.out.went hp).1, (HRW.out.went hp).2⟩
end
theorem zfu (k f : Int) (w : World) : Calls Tryz.prog 109 #[.int .i64 k, .int .i64 f] w fun e w' => e = .returned (.pointer (some ⟨w.heap.size, 0, none⟩)) ∧ Mk w.heap.size w' w.heap.size k ⟨#[]⟩ 0 f f 0 (.slice none 0 0) [] ∧ Below w.heap.size w w' := by
 go_enter Tryz.func109, Tryz.ntmps109
 go_wp2
 go_ret
 exact ⟨rfl, Mk.new w k ⟨#[]⟩ 0 f f 0, (Below.refl _ _).alloc (Nat.le_refl _) _⟩
section
variable {T : Nat} {w : World} {g : Nat} {st : Option Addr} {cap : Nat} {ts : List Tok} {p : Nat}
theorem zba (k : Int) (hR : Rdr T w g st cap ts p) : Calls Tryz.prog 76 #[.pointer (some ⟨g, 0, none⟩), .int .i64 k] w fun e w' => ∃ b, e = .returned (.pointer (some ⟨b, 0, none⟩)) ∧ Mk w.heap.size w' b k ⟨#[]⟩ 0 (herI ts p) (herI ts p) 0 (.slice none 0 0) [] ∧ Below w.heap.size w w' := by
 have HR : Hid (Rdr T w g st cap ts p) := hR
 clear hR
 go_enter Tryz.func76, Tryz.ntmps76
 go_wp2_with fail
 refine (zgv HR.out).mono ?_
 rintro e W ⟨rfl, b0⟩
 go_wp2_with fail
 refine (zfu k (herI ts p) W).mono ?_
 rintro e W1 ⟨rfl, hM, b1⟩
 go_wp2
 go_ret
 exact ⟨_, rfl, hM.mono b0.size, b0.trans (b1.mono b0.size)⟩
end
section
variable {B : Nat} {w : World} {b : Nat} {k : Int} {x : ByteArray} {n a f t : Int} {v : Value} {l : List Pt}
theorem Mk.word (h : Mk B w b k x n a f t v l) (x' : ByteArray) (a' : Int) {W : World} (hb : Below w.heap.size w W) : Mk B ((W.setCell ⟨b, 1, none⟩ (.string x')).setCell ⟨b, 4, none⟩ (.int .i64 a')) b k x' n a' f t v l ∧ Below B w ((W.setCell ⟨b, 1, none⟩ (.string x')).setCell ⟨b, 4, none⟩ (.int .i64 a')) ∧ ∀ j, j ≠ b -> j < w.heap.size -> ((W.setCell ⟨b, 1, none⟩ (.string x')).setCell ⟨b, 4, none⟩ (.int .i64 a')).heap[j]? = w.heap[j]? := by
 have hM := h.below hb
 have h1 := heap_setCell_same _ _ 1 _ _ (.string x') hM.row
 have h2 := heap_setCell_same _ _ 4 _ _ (.int .i64 a') h1
 refine ⟨hM.turn (by simp) (fun j hj _ => (heap_setCell_other _ _ _ _ hj).trans (heap_setCell_other _ _ _ _ hj)) h2, ?_⟩
 have hb' : Below B w W := ⟨hb.os, hb.tape, hb.output, hb.size, fun k hk => hb.block k (by have := h.hB; have := h.lt; omega)⟩
 exact ⟨(hb'.setCell (p := ⟨b, 1, none⟩) h.hB _).setCell (p := ⟨b, 4, none⟩) h.hB _, fun j hj hl => (heap_setCell_other _ _ _ _ hj).trans ((heap_setCell_other _ _ _ _ hj).trans (hb.block j hl))⟩
theorem zfv (t' : Tok) (hM : Mk B w b k x n a f t v l) : Calls Tryz.prog 78 #[.pointer (some ⟨b, 0, none⟩), .agg t'.cells] w fun e w' => e = .returned (.tuple #[]) ∧ Mk B w' b k t'.text n t'.pos f t v l ∧ Below B w w' ∧ ∀ j, j ≠ b -> j < w.heap.size -> w'.heap[j]? = w.heap[j]? := by
 have HM : Hid (Mk B w b k x n a f t v l) := hM
 clear hM
 unfold Tok.cells
 go_enter Tryz.func78, Tryz.ntmps78
 go_wp2
 refine zeu (fun W => Below w.heap.size w W ∧ W.heap[w.heap.size]? = some (.cells t'.cells 60 (0, 0))) ⟨(Below.refl _ _).alloc (Nat.le_refl _) _, heap_alloc_new _ _⟩ ?_
 rintro W ⟨hB, hz⟩
 have HB : Hid (Below w.heap.size w W) := hB
 have hM := HM.out.below hB
 have k1 : W.cell? ⟨w.heap.size, 1, none⟩ = some (.string t'.text) := (cell_of_row _ _ 1 _ _ _ hz).trans rfl
 have k2 : W.cell? ⟨w.heap.size, 2, none⟩ = some (.int .i64 t'.pos) := (cell_of_row _ _ 2 _ _ _ hz).trans rfl
 have c1 : W.cell? ⟨b, 1, none⟩ = some (.string x) := (cell_of_row _ _ 1 _ _ _ hM.row).trans rfl
 have c4 : W.cell? ⟨b, 4, none⟩ = some (.int .i64 a) := (cell_of_row _ _ 4 _ _ _ hM.row).trans rfl
 have f1 : W.frozen? ⟨b, 1, none⟩ = false := frozen_of_row _ _ _ _ _ hM.row
 have f4 : W.frozen? ⟨b, 4, none⟩ = false := frozen_of_row _ _ _ _ _ hM.row
 clear hM hz hB
 go_region
 go_end0
 obtain ⟨h1, h2, h3⟩ := HM.out.word t'.text t'.pos HB.out
 exact ⟨rfl, h1.keep (Nat.le_refl _) fun _ _ _ => rfl, h2.drew, h3⟩
theorem zcm (t' : Tok) (hM : Mk B w b k x n a f t v l) : Calls Tryz.prog 78 #[.pointer (some ⟨b, 0, none⟩), .agg t'.cells] w fun e w' => e = .returned (.tuple #[]) ∧ Mk B w' b k t'.text n t'.pos f t v l ∧ Below B w w' :=
 (zfv t' hM).mono fun _ _ ⟨h1, h2, h3, _⟩ => ⟨h1, h2, h3⟩
theorem Mk.more {bs2 : List Nat} {l2 : List Pt} {sp : Option Addr} {cp : Nat} {S2 : Nat -> Prop} (h : Mk B w b k x n a f t v l) (hr : RowsP w sp bs2) (hn : sp = none -> bs2.length = 0 ∧ cp = 0) (hp : PsAt w S2 bs2 l2)
  (hS : ∀ j, S2 j -> B <= j ∧ j < w.heap.size ∧ j ≠ b ∧ v.ownBlock ≠ some j) (hl : l.length + l2.length <= 1000000) :
  ∃ s0 n0 c0 s1 n1 c1 W, v = .slice s0 n0 c0 ∧ (Builtin.append_ #[123, 123] 123 #[v, .slice sp bs2.length cp]).run Tryz.prog w = .ok (.slice s1 n1 c1) W ∧ W.cell? ⟨b, 7, none⟩ = some v ∧ W.frozen? ⟨b, 7, none⟩ = false ∧
   Mk B (W.setCell ⟨b, 7, none⟩ (.slice s1 n1 c1)) b k x n a f t (.slice s1 n1 c1) (l ++ l2) ∧ Below B w (W.setCell ⟨b, 7, none⟩ (.slice s1 n1 c1)) := by
 have hlt := h.lt
 obtain ⟨hB, h1, bs, S, h2, h3, h4⟩ := h
 obtain ⟨s0, c0, rfl, -⟩ := OwnG.shape h2
 obtain ⟨v', W, hrun, ho, hg, hq⟩ := zdm elP 123 h2 hn hr (by rw [h3.1, hp.1]; exact hl) (by omega)
 obtain ⟨s1, c1, rfl⟩ := OwnG.shape ho
 have hne : (Value.slice s0 bs.length c0).ownBlock ≠ some b := h2.ne h1 (by decide)
 have hk : ∀ j, j < w.heap.size -> (Value.slice s0 bs.length c0).ownBlock ≠ some j -> W.heap[j]? = w.heap[j]? := fun j hj hn => hg.block j hj fun e => hn e.symm
 have hrow : W.heap[b]? = some (.cells (paC k x n a f t (.slice s0 bs.length c0)) 125 (0, 0)) := (hk b hlt hne).trans h1
 have hnew : ∀ j, j < w.heap.size -> (Value.slice s0 bs.length c0).ownBlock ≠ some j -> (Value.slice s1 (bs ++ bs2).length c1).ownBlock ≠ some j := fun j hj hn e => by
  rcases hq with hq | hq
  ·exact hn (hq.symm.trans e)
  ·rw [hq] at e
   injection e with e
   omega
 have hset := heap_setCell_same _ _ 7 _ _ (.slice s1 (bs ++ bs2).length c1) hrow
 refine ⟨s0, _, c0, s1, _, c1, W, rfl, hrun, (cell_of_row _ _ 7 _ _ _ hrow).trans rfl, frozen_of_row _ _ _ _ _ hrow, ⟨hB, hset, bs ++ bs2, fun j => S j ∨ S2 j, ?_, ?_, ?_⟩, ?_⟩
 ·refine ho.keep fun q hq' => heap_setCell_other _ _ _ _ fun e => ?_
  exact hnew b hlt hne (by rw [hq', show q = b from e])
 ·refine PsAt.app ?_ ?_
  ·exact h3.keep (fun _ h => .inl h) fun j hj => (heap_setCell_other _ _ _ _ (h4 j hj).2.2.1).trans (hk j (h4 j hj).2.1 (h4 j hj).2.2.2)
  ·exact hp.keep (fun _ h => .inr h) fun j hj => (heap_setCell_other _ _ _ _ (hS j hj).2.2.1).trans (hk j (hS j hj).2.1 (hS j hj).2.2.2)
 ·rintro j hj
  have hsz : (W.setCell ⟨b, 7, none⟩ (.slice s1 (bs ++ bs2).length c1)).heap.size = W.heap.size := by simp
  rw [hsz]
  have hle := hg.size
  rcases hj with hj | hj
  ·obtain ⟨q1, q2, q3, q4⟩ := h4 j hj
   exact ⟨q1, by omega, q3, hnew j q2 q4⟩
  ·obtain ⟨q1, q2, q3, q4⟩ := hS j hj
   exact ⟨q1, by omega, q3, hnew j q2 q4⟩
 ·have hb : Below B w W := ⟨hg.os, hg.tape, hg.output, hg.size, fun j hj => hk j (by omega) fun e => by have := (h2.lt e).1; omega⟩
  exact hb.setCell (p := ⟨b, 7, none⟩) hB _
theorem zci {bs2 : List Nat} {l2 : List Pt} {sp : Option Addr} {cp : Nat} {S2 : Nat -> Prop} (hM : Mk B w b k x n a f t v l) (hr : RowsP w sp bs2) (hn : sp = none -> bs2.length = 0 ∧ cp = 0) (hp : PsAt w S2 bs2 l2)
  (hS : ∀ j, S2 j -> B <= j ∧ j < w.heap.size ∧ j ≠ b ∧ v.ownBlock ≠ some j) (hl : l.length + l2.length <= 1000000) :
  Calls Tryz.prog 82 #[.pointer (some ⟨b, 0, none⟩), .slice sp bs2.length cp] w fun e w' => e = .returned (.tuple #[]) ∧ (∃ v', Mk B w' b k x n a f t v' (l ++ l2)) ∧ Below B w w' := by
 obtain ⟨s0, n0, c0, s1, n1, c1, W, rfl, hrun, hc, hz, hM', hb⟩ := hM.more hr hn hp hS hl
 have HM : Hid _ := hM'
 have HBB : Hid _ := hb
 have d7 : w.cell? ⟨b, 7, none⟩ = some (.slice s0 n0 c0) := (cell_of_row _ _ 7 _ _ _ hM.row).trans rfl
 clear hM hr hn hp hS hl hM' hb
 go_enter Tryz.func82, Tryz.ntmps82
 go_wp2_with (refine zbc (.tmp 8) (.tmp 9) 123 (by rfl) (by rfl) (by rfl) (by rfl) hrun ?_)
 go_end0
 exact ⟨rfl, ⟨_, HM.out⟩, HBB.out⟩
end
section
variable {T B : Nat} {w : World} {g : Nat} {st : Option Addr} {cap : Nat} {ts : List Tok} {p : Nat} {b : Nat} {k : Int} {x : ByteArray} {n a f t : Int} {v : Value} {l : List Pt}
theorem Mk.numb (h : Mk B w b k x n a f t v l) (u : Int) : Mk B (w.setCell ⟨b, 6, none⟩ (.int .i64 u)) b k x n a f u v l ∧ Below B w (w.setCell ⟨b, 6, none⟩ (.int .i64 u)) ∧ w.cell? ⟨b, 6, none⟩ = some (.int .i64 t) ∧ w.frozen? ⟨b, 6, none⟩ = false :=
 ⟨h.turn (by simp) (fun j hj _ => heap_setCell_other _ _ _ _ hj) (heap_setCell_same _ _ 6 _ _ (.int .i64 u) h.row), (Below.refl _ _).setCell (p := ⟨b, 6, none⟩) h.hB _, (cell_of_row _ _ 6 _ _ _ h.row).trans rfl, frozen_of_row _ _ _ _ _ h.row⟩
theorem Mk.text (h : Mk B w b k x n a f t v l) (u : ByteArray) : Mk B (w.setCell ⟨b, 1, none⟩ (.string u)) b k u n a f t v l ∧ Below B w (w.setCell ⟨b, 1, none⟩ (.string u)) ∧ w.cell? ⟨b, 1, none⟩ = some (.string x) ∧ w.frozen? ⟨b, 1, none⟩ = false :=
 ⟨h.turn (by simp) (fun j hj _ => heap_setCell_other _ _ _ _ hj) (heap_setCell_same _ _ 1 _ _ (.string u) h.row), (Below.refl _ _).setCell (p := ⟨b, 1, none⟩) h.hB _, (cell_of_row _ _ 1 _ _ _ h.row).trans rfl, frozen_of_row _ _ _ _ _ h.row⟩
theorem Mk.nums (h : Mk B w b k x n a f t v l) (u : Int) : Mk B (w.setCell ⟨b, 2, none⟩ (.int .i64 u)) b k x u a f t v l ∧ Below B w (w.setCell ⟨b, 2, none⟩ (.int .i64 u)) ∧ w.cell? ⟨b, 2, none⟩ = some (.int .i64 n) ∧ w.frozen? ⟨b, 2, none⟩ = false :=
 ⟨h.turn (by simp) (fun j hj _ => heap_setCell_other _ _ _ _ hj) (heap_setCell_same _ _ 2 _ _ (.int .i64 u) h.row), (Below.refl _ _).setCell (p := ⟨b, 2, none⟩) h.hB _, (cell_of_row _ _ 2 _ _ _ h.row).trans rfl, frozen_of_row _ _ _ _ _ h.row⟩
theorem Mk.kind (h : Mk B w b k x n a f t v l) (u : Int) : Mk B (w.setCell ⟨b, 0, none⟩ (.int .i64 u)) b u x n a f t v l ∧ Below B w (w.setCell ⟨b, 0, none⟩ (.int .i64 u)) ∧ w.cell? ⟨b, 0, none⟩ = some (.int .i64 k) ∧ w.frozen? ⟨b, 0, none⟩ = false :=
 ⟨h.turn (by simp) (fun j hj _ => heap_setCell_other _ _ _ _ hj) (heap_setCell_same _ _ 0 _ _ (.int .i64 u) h.row), (Below.refl _ _).setCell (p := ⟨b, 0, none⟩) h.hB _, (cell_of_row _ _ 0 _ _ _ h.row).trans rfl, frozen_of_row _ _ _ _ _ h.row⟩
theorem zay {bs2 : List Nat} {l2 : List Pt} {sp : Option Addr} {cp : Nat} {S2 : Nat -> Prop} (hR : Rdr T w g st cap ts p) (hTB : T <= B) (hM : Mk B w b k x n a f t v l) (hr : RowsP w sp bs2) (hn : sp = none -> bs2.length = 0 ∧ cp = 0) (hp : PsAt w S2 bs2 l2)
  (hS : ∀ j, S2 j -> B <= j ∧ j < w.heap.size ∧ j ≠ b ∧ v.ownBlock ≠ some j) (hl : l.length + l2.length <= 1000000) :
  Calls Tryz.prog 85 #[.pointer (some ⟨g, 0, none⟩), .pointer (some ⟨b, 0, none⟩), .slice sp bs2.length cp] w fun e w' => e = .returned (.pointer (some ⟨b, 0, none⟩)) ∧ (∃ v', Mk B w' b k x n a f (behI ts p) v' (l ++ l2)) ∧ Below B w w' := by
 have HR : Hid (Rdr T w g st cap ts p) := hR
 have HM : Hid (Mk B w b k x n a f t v l) := hM
 have HRR : Hid (RowsP w sp bs2) := hr
 have HN : Hid (sp = none -> bs2.length = 0 ∧ cp = 0) := hn
 have HP : Hid (PsAt w S2 bs2 l2) := hp
 have HS : Hid (∀ j, S2 j -> B <= j ∧ j < w.heap.size ∧ j ≠ b ∧ v.ownBlock ≠ some j) := hS
 clear hR hM hr hn hp hS
 go_enter Tryz.func85, Tryz.ntmps85
 go_wp2_with fail
 refine (zci HM.out HRR.out HN.out HP.out HS.out hl).mono ?_
 rintro e W1 ⟨rfl, ⟨v1, hM1⟩, b1⟩
 have HM1 : Hid (Mk B W1 b k x n a f t v1 (l ++ l2)) := hM1
 clear hM1 HRR HN HP HS
 go_wp2_with fail
 refine (zh8 (HR.out.below hTB b1)).mono ?_
 rintro e W2 ⟨rfl, b2⟩
 have HM2 : Hid (Mk B W2 b k x n a f t v1 (l ++ l2)) := HM1.out.below b2
 have HB2 : Hid (Below B w W2) := b1.trans ⟨b2.os, b2.tape, b2.output, b2.size, fun j hj => b2.block j (by have := HM1.out.hB; have := HM1.out.lt; omega)⟩
 obtain ⟨hM3, b3, c6, z6⟩ := HM2.out.numb (behI ts p)
 have HM3 : Hid _ := hM3
 have HB3 : Hid _ := b3
 clear hM3 b3 b1 b2 HM1
 go_wp2
 go_ret
 exact ⟨rfl, ⟨_, HM3.out⟩, HB2.out.trans HB3.out⟩
def PtP (T : Nat) (w : World) (g : Nat) (st : Option Addr) (cap : Nat) (ts : List Tok) (r : Rs Pt) (e : Ending) (w' : World) : Prop :=
 w.grownBy w' (some g) ∧ match r with
 | .ok t q => ∃ b, e = .returned (.pointer (some ⟨b, 0, none⟩)) ∧ PtAt w' (fun j => w.heap.size <= j ∧ j < w'.heap.size) b t ∧ Rdr T w' g st cap ts q
 | .bad s => e = wroE s
 | .out => False
theorem zep (k : Int) (hR : Rdr T w g st cap ts p) (hp : p < ts.length) : Calls Tryz.prog 151 #[.pointer (some ⟨g, 0, none⟩), .int .i64 k] w fun e w' => w.grownBy w' (some g) ∧ ∃ b v, e = .returned (.pointer (some ⟨b, 0, none⟩)) ∧ Mk w.heap.size w' b k (nxT ts p).text 0 (nxT ts p).pos (herI ts p) (behI ts (p + 1)) v [] ∧ Rdr T w' g st cap ts (p + 1) := by
 have HR : Hid (Rdr T w g st cap ts p) := hR
 have hT := hR.hT
 have hg := hR.lt
 clear hR
 go_enter Tryz.func151, Tryz.ntmps151
 go_wp2_with fail
 refine (zba k HR.out).mono ?_
 rintro e W1 ⟨b, rfl, hM, b1⟩
 have HM1 : Hid _ := hM
 have HB1 : Hid (Below w.heap.size w W1) := b1
 clear hM b1
 go_wp2_with fail
 refine (ze7 (HR.out.low HB1.out) hp).mono ?_
 rintro e W2 ⟨rfl, g2, r2⟩
 have HM2 : Hid _ := HM1.out.grow hg g2
 have HG2 : Hid (w.grownBy W2 (some g)) := zaa (zad HB1.out) g2
 have HR2 : Hid (Rdr T W2 g st cap ts (p + 1)) := r2
 clear g2 r2 HM1 HB1
 go_wp2_with fail
 refine (zcm (nxT ts p) HM2.out).mono ?_
 rintro e W3 ⟨rfl, hM3, b3⟩
 have HM3 : Hid _ := hM3
 have HG3 : Hid (w.grownBy W3 (some g)) := zax HG2.out b3
 have HR3 : Hid (Rdr T W3 g st cap ts (p + 1)) := HR2.out.below hT b3
 clear hM3 b3 HM2 HG2 HR2
 go_wp2_with fail
 refine (zay (bs2 := []) (l2 := []) (S2 := fun _ => False) HR3.out hT HM3.out RowsAt.none (fun _ => ⟨rfl, rfl⟩) (PsAt.nil _ _) (fun _ h => h.elim) (by simp)).mono ?_
 rintro e W4 ⟨rfl, ⟨v4, hM4⟩, b4⟩
 have HM4 : Hid _ := hM4
 have HG4 : Hid (w.grownBy W4 (some g)) := zax HG3.out b4
 have HR4 : Hid (Rdr T W4 g st cap ts (p + 1)) := HR3.out.below hT b4
 clear hM4 b4 HM3 HG3 HR3
 go_wp2
 go_ret
 exact ⟨HG4.out, b, v4, rfl, HM4.out, HR4.out⟩
end
def ad {α : Type} (r : Rs α) (k : Nat) : Prop := match r with | .ok _ q => k <= q | _ => True
theorem zbl {α : Type} {r : Rs α} {k m : Nat} (h : ad r k) (hm : m <= k) : ad r m := by
 cases r with
 | ok v q => exact Nat.le_trans hm h
 | bad s => trivial
 | out => trivial
theorem zal {α β : Type} {r : Rs α} {f : α -> Nat -> Rs β} {k m : Nat} (h : ad r k) (hf : ∀ v q, k <= q -> ad (f v q) m) : ad (r.bind f) m := by
 cases r with
 | ok v q => exact hf v q h
 | bad s => trivial
 | out => trivial
theorem zi6 {β : Type} {b : Bool} {s : Int} {k : Rs β} {m : Nat} (h : b = true -> ad k m) : ad (Rs.need b s k) m := by
 unfold Rs.need
 split
 ·rename_i hb; exact h hb
 ·trivial
theorem za1 {β : Type} {c : Prop} [Decidable c] {a b : Rs β} {m : Nat} (h : c -> ad a m) (h' : ¬ c -> ad b m) : ad (if c then a else b) m := by
 split
 ·rename_i hc; exact h hc
 ·rename_i hc; exact h' hc
section
variable {ts : List Tok}
theorem zb4 {β : Type} {s : List UInt8} {p m : Nat} {k : Nat -> Rs β} (hs : s ≠ []) (h : p < ts.length -> ad (k (p + 1)) m) : ad (expP ts s p k) m := zi6 fun hb => h (zbw hb hs)
theorem zj8 {β : Type} {n : Int} {p m : Nat} {k : Tok -> Nat -> Rs β} (hn : n ≠ 0) (h : p < ts.length -> ad (k (nxT ts p) (p + 1)) m) : ad (kinP ts n p k) m := zi6 fun hb => h (zfr hb hn)
theorem zd9 {β : Type} {p m : Nat} {k : Tok -> Nat -> Rs β} (h : p < ts.length -> ad (k (nxT ts p) (p + 1)) m) : ad (namP ts p k) m := zi6 fun hb => h (zgk hb)
theorem zp7 (k : Int) (p : Nat) : ad (leaP ts k p) (p + 1) := Nat.le_refl _
theorem zp8 (k : Int) (p : Nat) : ad (worP ts k p) (p + 1) := zi6 fun _ => Nat.le_refl _
theorem zp9 (p : Nat) : ad (va1P ts p) (p + 1) := by
 unfold va1P
 refine za1 (fun _ => Nat.le_refl _) fun _ => za1 (fun _ => Nat.le_refl _) fun _ => za1 (fun _ => zp7 _ _) fun _ => trivial
theorem zzx (p : Nat) : ad (valP ts p) (p + 1) := by
 unfold valP
 refine za1 (fun _ => za1 (fun _ => zal (zp9 _) fun v q h => ?_) fun _ => trivial) fun _ => zp9 _
 show p + 1 <= q
 omega
theorem zg6 (p : Nat) : ad (typP ts p) (p + 1) := by
 unfold typP
 refine za1 (fun _ => zp7 _ _) fun _ => za1 (fun _ => zal (zp8 _ _) fun v q h => zb4 (by simp) fun _ => zd9 fun _ => ?_) fun _ => zp8 _ _
 show p + 1 <= q + 1 + 1
 omega
theorem zh9 (k : Int) (p : Nat) : ad (tydP ts k p) (p + 2) := by
 unfold tydP
 refine zd9 fun _ => zal (zg6 _) fun v q h => ?_
 show p + 2 <= q
 omega
theorem zv2 (p : Nat) : ad (impP ts p) (p + 2) := by
 unfold impP
 exact zb4 (by simp) fun _ => zj8 (by simp) fun _ => Nat.le_refl _
theorem zqa (p : Nat) : ad (conP ts p) (p + 1) := by
 unfold conP
 refine zb4 (by simp) fun _ => zd9 fun _ => zb4 (by simp) fun _ => zal (zzx _) fun v q h => ?_
 show p + 1 <= q
 omega
theorem zv3 (p : Nat) : ad (recP ts p) (p + 1) := by
 unfold recP
 refine zd9 fun _ => zal (zp8 _ _) fun v q h => ?_
 show p + 1 <= q
 omega
theorem zcf {α : Type} {v : α} {k q : Nat} (h : k <= q) : ad (Rs.ok v q) k := h
structure AdA (ts : List Tok) (n : Nat) : Prop where
 bin : ∀ l p, ad ((fns ts n).bin l p) (p + 1)
 binL : ∀ l fr t p, ad ((fns ts n).binL l fr t p) p
 una : ∀ p, ad ((fns ts n).una p) (p + 1)
 post : ∀ p, ad ((fns ts n).post p) (p + 1)
 posL : ∀ fr t p, ad ((fns ts n).posL fr t p) p
 prim : ∀ p, ad ((fns ts n).prim p) (p + 1)
 argL : ∀ l p, ad ((fns ts n).argL l p) p
 parL : ∀ l p, ad ((fns ts n).parL l p) p
 fieL : ∀ l p, ad ((fns ts n).fieL l p) p
 stmt : ∀ p, ad ((fns ts n).stmt p) (p + 1)
 bran : ∀ p, ad ((fns ts n).bran p) (p + 1)
 stmL : ∀ l p, ad ((fns ts n).stmL l p) p
 impL : ∀ l p, ad ((fns ts n).impL l p) p
 decL : ∀ l p, ad ((fns ts n).decL l p) p
theorem zv4 {n p : Nat} (h : AdA ts n) : ad (bloP ts (fns ts n) p) (p + 1) := by
 unfold bloP linP
 refine zal (k := p + 1) (zb4 (by simp) fun hp => zal (h.stmL _ _) fun l q hq => zb4 (by simp) fun _ => zcf (by omega)) fun l q hq => zcf hq
theorem zm4 {one : Nat -> Rs Pt} {more : List Pt -> Nat -> Rs (List Pt)} {p : Nat} (h1 : p < ts.length -> ad (one (p + 1)) (p + 1)) (h2 : ∀ l q, p < ts.length -> p + 1 <= q -> ad (more l q) q) : ad (lisP ts one more p) (p + 1) := by
 unfold lisP
 refine zb4 (by simp) fun hp => za1 (fun _ => zcf (by omega)) fun _ => zal (h1 hp) fun v q hq => zal (h2 _ _ hp hq) fun l q' hq' => zb4 (by simp) fun _ => zcf (by omega)
theorem adA (n : Nat) : AdA ts n := by
 induction n with
 | zero => constructor <;> (intros; trivial)
 | succ n ih =>
  have hvar : ∀ p, ad (varP ts (fns ts n) p) (p + 1) := fun p => by
   unfold varP
   refine zb4 (by simp) fun _ => zd9 fun _ => zal (zg6 _) fun v q hq => za1 (fun _ => zal (ih.bin _ _) fun x q' hq' => zcf (by omega)) fun _ => zcf (by omega)
  have hblo : ∀ p, ad (bloP ts (fns ts n) p) (p + 1) := fun p => zv4 ih
  constructor
  ·intro l p
   show ad (if l = 5 then (fns ts n).una p else ((fns ts n).bin (l + 1) p).bind fun t q => (fns ts n).binL l (herI ts p) t q) (p + 1)
   refine za1 (fun h => ih.una _) fun h => zal (ih.bin _ _) fun t q hq => zbl (ih.binL _ _ _ _) hq
  ·intro l fr t p
   refine za1 (fun h => ?_) fun _ => zcf (Nat.le_refl _)
   have hp := zm3 h
   refine zal (ih.bin _ _) fun u q hq => za1 (fun _ => zcf (by omega)) fun _ => zbl (ih.binL _ _ _ _) (by omega)
  ·intro p
   refine za1 (fun h => ?_) fun _ => ih.post _
   have hp : p < ts.length := by
    rw [Bool.or_eq_true] at h
    rcases h with h | h <;> exact zbw h (by simp)
   exact zal (ih.una _) fun u q hq => zcf (by omega)
  ·intro p
   exact zal (ih.prim _) fun t q hq => zbl (ih.posL _ _ _) hq
  ·intro fr t p
   refine za1 (fun h => ?_) fun _ => za1 (fun h => ?_) fun _ => zcf (Nat.le_refl _)
   ·exact zd9 fun hp => zbl (ih.posL _ _ _) (by omega)
   ·have hp := zbw h (by simp)
    exact zal (zm4 (fun _ => zbl (ih.bin _ _) (by omega)) fun l q _ hq => ih.argL _ _) fun l q hq => zbl (ih.posL _ _ _) (by omega)
  ·intro p
   refine za1 (fun h => ?_) fun _ => za1 (fun _ => zp7 _ _) fun _ => zp9 _
   have hp := zbw h (by simp)
   exact zal (ih.bin _ _) fun t q hq => zb4 (by simp) fun _ => zcf (by omega)
  ·intro l p
   refine za1 (fun h => ?_) fun _ => zcf (Nat.le_refl _)
   have hp := zbw h (by simp)
   exact zal (ih.bin _ _) fun t q hq => zbl (ih.argL _ _) (by omega)
  ·intro l p
   refine za1 (fun h => ?_) fun _ => zcf (Nat.le_refl _)
   have hp := zbw h (by simp)
   exact zal (zh9 _ _) fun t q hq => zbl (ih.parL _ _) (by omega)
  ·intro l p
   refine za1 (fun _ => zcf (Nat.le_refl _)) fun _ => ?_
   refine zal (zh9 _ _) fun t q hq => za1 (fun h => ?_) fun _ => zj8 (by simp) fun h => zbl (ih.fieL _ _) (by omega)
   have := zbw h (by simp)
   exact zbl (ih.fieL _ _) (by omega)
  ·intro p
   refine za1 (fun h => ?_) fun _ => za1 (fun h => ?_) fun _ => za1 (fun h => ih.bran _) fun _ => za1 (fun h => ?_) fun _ => za1 (fun h => ?_) fun _ => za1 (fun h => ?_) fun _ => ?_
   ·exact hblo p
   ·exact hvar p
   ·unfold looP
    refine zb4 (by simp) fun hp => zal (ih.bin _ _) fun x q hq => zal (hblo q) fun b q' hq' => zcf (by omega)
   ·unfold resP
    refine zb4 (by simp) fun hp => za1 (fun _ => zal (ih.bin _ _) fun x q hq => zcf (by omega)) fun _ => zcf (by omega)
   ·unfold shoP
    refine zd9 fun hp => zb4 (by simp) fun _ => zal (ih.bin _ _) fun x q hq => zcf (by omega)
   ·unfold simP
    refine zal (ih.bin _ _) fun x q hq => za1 (fun h => ?_) fun _ => zcf (by omega)
    have := zbw h (by simp)
    exact zal (ih.bin _ _) fun y q' hq' => zcf (by omega)
  ·intro p
   unfold fns
   dsimp only
   refine zb4 (by simp) fun hp => zal (ih.bin _ _) fun x q hq => zal (hblo q) fun b q' hq' => za1 (fun h => ?_) fun _ => zcf (by omega)
   have := zbw h (by simp)
   refine zal (k := q' + 1) (za1 (fun _ => zbl (ih.bran _) (by omega)) fun _ => zbl (hblo _) (by omega)) fun c q'' hq'' => zcf (by omega)
  ·intro l p
   refine za1 (fun _ => zcf (Nat.le_refl _)) fun _ => zal (ih.stmt _) fun t q hq => za1 (fun h => ?_) fun _ => zj8 (by simp) fun h => zbl (ih.stmL _ _) (by omega)
   have := zbw h (by simp)
   exact zbl (ih.stmL _ _) (by omega)
  ·intro l p
   refine za1 (fun h => ?_) fun _ => zcf (Nat.le_refl _)
   have := zbw h (by simp)
   exact zal (zv2 _) fun t q hq => zj8 (by simp) fun _ => zbl (ih.impL _ _) (by omega)
  ·intro l p
   refine za1 (fun hp => ?_) fun _ => zcf (Nat.le_refl _)
   have hdec : ad (decP ts (fns ts n) p) (p + 1) := by
    have hlis : ∀ q, p + 1 <= q -> ad (lisP ts (tydP ts 9) (fns ts n).parL q) (q + 1) := fun q hq => zm4 (fun _ => zbl (zh9 _ _) (by omega)) fun l q' _ hq' => ih.parL _ _
    have hfun : ∀ fr l q, p + 1 <= q -> ad (funR ts (fns ts n) fr l q) (q + 1) := fun fr l q hq => by
     unfold funR
     refine zd9 fun _ => zal (hlis _ (by omega)) fun ps q' hq' => za1 (fun _ => zal (hblo _) fun b q'' hq'' => zcf (by omega)) fun _ => zal (zg6 _) fun v q'' hq'' => zal (hblo _) fun b q3 hq3 => zcf (by omega)
    unfold decP
    refine za1 (fun _ => zqa _) fun _ => za1 (fun _ => hvar p) fun _ => za1 (fun _ => ?_) fun _ => za1 (fun _ => ?_) fun _ => trivial
    ·unfold strP linP
     refine zb4 (by simp) fun _ => zd9 fun _ => zb4 (by simp) fun _ => zal (k := p + 1) (zb4 (by simp) fun _ => zal (ih.fieL _ _) fun l q hq => zb4 (by simp) fun _ => zcf (by omega)) fun l q hq => zcf hq
    ·unfold funP
     refine zb4 (by simp) fun _ => za1 (fun _ => zal (zv3 _) fun v q hq => zb4 (by simp) fun _ => zbl (hfun _ _ _ (by omega)) (by omega)) fun _ => zbl (hfun _ _ _ (by omega)) (by omega)
   exact zal hdec fun t q hq => zj8 (by simp) fun _ => zbl (ih.decL _ _) (by omega)
theorem zxm (n p : Nat) : ad (decP ts (fns ts n) p) (p + 1) := by
 have ih := adA (ts := ts) n
 have hvar : ∀ p, ad (varP ts (fns ts n) p) (p + 1) := fun p => by
  unfold varP
  refine zb4 (by simp) fun _ => zd9 fun _ => zal (zg6 _) fun v q hq => za1 (fun _ => zal (ih.bin _ _) fun x q' hq' => zcf (by omega)) fun _ => zcf (by omega)
 have hblo : ∀ p, ad (bloP ts (fns ts n) p) (p + 1) := fun p => zv4 ih
 have hlis : ∀ q, p + 1 <= q -> ad (lisP ts (tydP ts 9) (fns ts n).parL q) (q + 1) := fun q hq => zm4 (fun _ => zbl (zh9 _ _) (by omega)) fun l q' _ hq' => ih.parL _ _
 have hfun : ∀ fr l q, p + 1 <= q -> ad (funR ts (fns ts n) fr l q) (q + 1) := fun fr l q hq => by
  unfold funR
  refine zd9 fun _ => zal (hlis _ (by omega)) fun ps q' hq' => za1 (fun _ => zal (hblo _) fun b q'' hq'' => zcf (by omega)) fun _ => zal (zg6 _) fun v q'' hq'' => zal (hblo _) fun b q3 hq3 => zcf (by omega)
 unfold decP
 refine za1 (fun _ => zqa _) fun _ => za1 (fun _ => hvar p) fun _ => za1 (fun _ => ?_) fun _ => za1 (fun _ => ?_) fun _ => trivial
 ·unfold strP linP
  refine zb4 (by simp) fun _ => zd9 fun _ => zb4 (by simp) fun _ => zal (k := p + 1) (zb4 (by simp) fun _ => zal (ih.fieL _ _) fun l q hq => zb4 (by simp) fun _ => zcf (by omega)) fun l q hq => zcf hq
 ·unfold funP
  refine zb4 (by simp) fun _ => za1 (fun _ => zal (zv3 _) fun v q hq => zb4 (by simp) fun _ => zbl (hfun _ _ _ (by omega)) (by omega)) fun _ => zbl (hfun _ _ _ (by omega)) (by omega)
end
section
variable {α β : Type} {ts : List Tok} {p : Nat} {s : List UInt8} {r : Rs β}
theorem zc6 {k : Nat -> Rs β} (hb : isT ts p s = false) (h : expP ts s p k = r) : r = .bad (herI ts p) := by
 rw [<- h]; unfold expP Rs.need; rw [hb]; rfl
theorem zcg {k : Nat -> Rs β} (hb : isT ts p s = true) (h : expP ts s p k = r) : k (p + 1) = r := by
 rw [<- h]; unfold expP Rs.need; rw [hb]; rfl
theorem zey {k : Tok -> Nat -> Rs β} (hb : namB ts p = false) (h : namP ts p k = r) : r = .bad (herI ts p) := by
 rw [<- h]; unfold namP Rs.need; rw [hb]; rfl
theorem zdx {k : Tok -> Nat -> Rs β} (hb : namB ts p = true) (h : namP ts p k = r) : k (nxT ts p) (p + 1) = r := by
 rw [<- h]; unfold namP Rs.need; rw [hb]; rfl
theorem zj9 {n : Int} {k : Tok -> Nat -> Rs β} (hb : ((nxT ts p).kind == n) = false) (h : kinP ts n p k = r) : r = .bad (herI ts p) := by
 rw [<- h]; unfold kinP Rs.need; rw [hb]; rfl
theorem zg7 {n : Int} {k : Tok -> Nat -> Rs β} (hb : ((nxT ts p).kind == n) = true) (h : kinP ts n p k = r) : k (nxT ts p) (p + 1) = r := by
 rw [<- h]; unfold kinP Rs.need; rw [hb]; rfl
theorem zav {x : Rs α} {f : α -> Nat -> Rs β} {v : α} {q : Nat} (hx : x = .ok v q) (h : x.bind f = r) : f v q = r := by rw [<- h, hx]; rfl
theorem zah {x : Rs α} {f : α -> Nat -> Rs β} {c : Int} (hx : x = .bad c) (h : x.bind f = r) : r = .bad c := by rw [<- h, hx]; rfl
theorem zap {x : Rs α} {f : α -> Nat -> Rs β} (h : x.bind f = r) (hr : r ≠ .out) : x ≠ .out := by rintro rfl; exact hr h.symm
theorem za2 {c : Bool} {a b : Rs β} (hc : c = true) (h : (if c then a else b) = r) : a = r := by rw [<- h, hc]; rfl
theorem zbh {c : Bool} {a b : Rs β} (hc : c = false) (h : (if c then a else b) = r) : b = r := by rw [<- h, hc]; rfl
end
section
variable {T : Nat} {w W : World} {g : Nat} {st : Option Addr} {cap : Nat} {ts : List Tok} {r : Rs Pt} {s : Int}
theorem zaf (hG : w.grownBy W (some g)) (hr : r = .bad s) : PtP T w g st cap ts r (wroE s) W := by subst hr; exact ⟨hG, rfl⟩
theorem zbb {b : Nat} {t : Pt} {q : Nat} (hG : w.grownBy W (some g)) (hr : Rs.ok t q = r) (ht : PtAt W (fun j => w.heap.size <= j ∧ j < W.heap.size) b t) (hR : Rdr T W g st cap ts q) : PtP T w g st cap ts r (.returned (.pointer (some ⟨b, 0, none⟩))) W := by
 subst hr; exact ⟨hG, b, rfl, ht, hR⟩
theorem PtP.from {W' : World} {e : Ending} (hG : w.grownBy W (some g)) (h : PtP T W g st cap ts r e W') : PtP T w g st cap ts r e W' := by
 obtain ⟨h1, h2⟩ := h
 refine ⟨zaa hG h1, ?_⟩
 cases r with
 | ok t q =>
  obtain ⟨b, h3, h4, h5⟩ := h2
  exact ⟨b, h3, h4.keep (fun j hj => ⟨Nat.le_trans hG.size hj.1, hj.2⟩) fun _ _ => rfl, h5⟩
 | bad s => exact h2
 | out => exact h2
end
theorem PtAt.grow {w w' : World} {lo hi g b : Nat} {t : Pt} (h : PtAt w (fun j => lo <= j ∧ j < hi) b t) (hg : g < lo) (hh : hi <= w.heap.size) (hw : w.grownBy w' (some g)) : PtAt w' (fun j => lo <= j ∧ j < hi) b t :=
 h.keep (fun _ h => h) fun j hj => hw.block j (by omega) (fun e => by injection e with e; omega)
theorem PtAt.low {w w' : World} {lo hi B b : Nat} {t : Pt} (h : PtAt w (fun j => lo <= j ∧ j < hi) b t) (hh : hi <= B) (hw : Below B w w') : PtAt w' (fun j => lo <= j ∧ j < hi) b t :=
 h.keep (fun _ h => h) fun j hj => hw.block j (by omega)
theorem PtAt.wide {w : World} {lo hi lo' hi' b : Nat} {t : Pt} (h : PtAt w (fun j => lo <= j ∧ j < hi) b t) (h1 : lo' <= lo) (h2 : hi <= hi') : PtAt w (fun j => lo' <= j ∧ j < hi') b t :=
 h.keep (fun j hj => ⟨by omega, by omega⟩) fun _ _ => rfl
theorem zbz {B b lo hi : Nat} {v : Value} {W : World} (hb : b < lo ∧ ∀ q, v.ownBlock = some q -> q < lo) (hB : B <= lo) (hh : hi <= W.heap.size) : ∀ j, (lo <= j ∧ j < hi) -> B <= j ∧ j < W.heap.size ∧ j ≠ b ∧ v.ownBlock ≠ some j := fun j hj =>
 ⟨by omega, by omega, by omega, fun e => by have := hb.2 j e; omega⟩
theorem Mk.at {B : Nat} {w : World} {b : Nat} {k : Int} {x : ByteArray} {n a f t : Int} {v : Value} {l : List Pt} (h : Mk B w b k x n a f t v l) : b < w.heap.size ∧ ∀ q, v.ownBlock = some q -> q < w.heap.size := ⟨h.lt, fun _ hq => h.own hq⟩
theorem zi7 {w : World} {g a b : Nat} {ty : TypeId} {fr : Nat × Nat} (h : w.heap[g]? = some (.cells #[.pointer (some ⟨a, 0, none⟩), .pointer (some ⟨b, 0, none⟩)] ty fr)) : RowsP w (some ⟨g, 0, none⟩) [a, b] := fun _ => by
 refine ⟨g, 0, rfl, fun i x hx j u hu => ?_⟩
 have hj : j = 0 := by have := (Array.getElem?_eq_some_iff.1 hu).1; simp [ptrC] at this; omega
 subst hj
 rw [cell_of_row _ _ _ _ _ _ h]
 match i, hx with
 | 0, hx => simp at hx; subst hx; simpa [ptrC] using hu
 | 1, hx => simp at hx; subst hx; simpa [ptrC] using hu
theorem PsAt.two {w : World} {S : Nat -> Prop} {a b : Nat} {s t : Pt} (h : PtAt w S a s) (h' : PtAt w S b t) : PsAt w S [a, b] [s, t] := (PsAt.one h).app (PsAt.one h')
end Go.Proofs.YtbadafkfjfbnlaaGreatDoor
