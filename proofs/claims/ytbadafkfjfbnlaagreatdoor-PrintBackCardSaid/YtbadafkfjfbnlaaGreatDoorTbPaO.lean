import Derived.Test.YtbadafkfjfbnlaaGreatDoorTbJ
namespace Go.Proofs.YtbadafkfjfbnlaaGreatDoor
set_option maxRecDepth 100000
set_option maxHeartbeats 4000000
open Go.RowKit
structure StmC (ts : List Tok) (T g : Nat) (st : Option Addr) (cap : Nat) (n : Nat) : Prop where
 stmt : ∀ (w : World) (p : Nat), Rdr T w g st cap ts p -> (fns ts n).stmt p ≠ .out -> Calls Tryz.prog 155 #[.pointer (some ⟨g, 0, none⟩)] w (PtP T w g st cap ts ((fns ts n).stmt p))
 bran : ∀ (w : World) (p : Nat), Rdr T w g st cap ts p -> (fns ts n).bran p ≠ .out -> Calls Tryz.prog 170 #[.pointer (some ⟨g, 0, none⟩)] w (PtP T w g st cap ts ((fns ts n).bran p))
section
variable {T : Nat} {w : World} {g : Nat} {st : Option Addr} {cap : Nat} {ts : List Tok} {p : Nat}
theorem zuw {n : Nat} (h : ∀ m, m <= n -> StmC ts T g st cap m) : Rnd ts T g st cap 155 (fun m q => (fns ts m).stmt q) n 1 :=
 ⟨fun m hm W q hR ho => (h m hm).stmt W q hR ho, fun m p t q hx => by
  have := (adA (ts := ts) m).stmt p
  rw [hx] at this
  exact this⟩
theorem zox (args : Array Value) (W : World) : (callFunc 155 args).run Tryz.prog W = .ok (.enter 155 args) W := by rfl
theorem zdk {n : Nat} (h : ∀ m, m <= n -> StmC ts T g st cap m) (hR : Rdr T w g st cap ts p) (ho : bloP ts (fns ts n) p ≠ .out) : Calls Tryz.prog 142 #[.pointer (some ⟨g, 0, none⟩)] w (PtP T w g st cap ts (bloP ts (fns ts n) p)) := by
 have HR0 : Hid (Rdr T w g st cap ts p) := hR
 have hT := hR.hT
 have hgT := hR.hg
 have HG0 : Hid (w.grownBy w (some g)) := zbs _ _
 clear hR
 obtain ⟨r, hX⟩ : ∃ r, bloP ts (fns ts n) p = r := ⟨_, rfl⟩
 rw [hX] at ho ⊢
 have HX0 : Hid (bloP ts (fns ts n) p = r) := hX
 have HO : Hid (r ≠ .out) := ho
 clear hX ho
 unfold bloP at HX0
 have HH : Hid (∀ m, m <= n -> StmC ts T g st cap m) := h
 clear h
 have hmf : ∀ (fn : Fn) (first cap : Array Value) (w : World), (Instr.makeFunc fn first cap).run Tryz.prog w = .ok (.func fn first cap) w := fun _ _ _ _ => rfl
 go_enter Tryz.func142, Tryz.ntmps142
 go_wp2_with fail
 refine (zba 13 HR0.out).mono ?_
 rintro e W1 ⟨bk1, rfl, hM, b1⟩
 have HM1 : Hid (Mk w.heap.size W1 bk1 13 ⟨#[]⟩ 0 (herI ts p) (herI ts p) 0 (.slice none 0 0) []) := hM.mono HG0.out.size
 have HG1 : Hid (w.grownBy W1 (some g)) := zaa HG0.out (zad b1)
 have HR1 : Hid (Rdr T W1 g st cap ts p) := HR0.out.low b1
 clear hM b1 HG0 HR0
 have HL2 : Hid ((bk1 < W1.heap.size ∧ ∀ q, ((.slice none 0 0) : Value).ownBlock = some q -> q < W1.heap.size) ∧ w.heap.size <= W1.heap.size) := ⟨HM1.out.at, HG1.out.size⟩
 go_wp2_with fail
 refine (zka 155 (fun m q => (fns ts m).stmt q) (fun m => (fns ts m).stmL) n (fun _ _ => rfl) (fun _ _ _ => rfl) (zuw HH.out) zox HR1.out (zap HX0.out HO.out)).mono ?_
 rintro e W2 ⟨g1, hm0⟩
 have hm : match linP ts (fns ts n).stmL p with
  | .ok l q => ∃ bs sp cp, e = .returned (.slice sp bs.length cp) ∧ RowsP W2 sp bs ∧ (sp = none -> bs.length = 0 ∧ cp = 0) ∧ PsAt W2 (fun j => W1.heap.size <= j ∧ j < W2.heap.size) bs l ∧ l.length <= q ∧ Rdr T W2 g st cap ts q
  | .bad s => e = wroE s
  | .out => False := hm0
 clear hm0
 rcases hx : linP ts (fns ts n).stmL p with ⟨l2, q2⟩ | s2 | _
 rotate_left
 ·rw [hx] at hm
  have hm' : e = wroE s2 := hm
  subst hm'
  have HP : Hid (PtP T w g st cap ts r (wroE (s2)) W2) := zaf (zaa HG1.out g1) (zah hx HX0.out)
  clear HG1 HR1 HX0 HM1
  unfold wroE
  go_wp2
  exact ⟨rfl, HP.out⟩
 ·rw [hx] at hm
  exact hm.elim
 rw [hx] at hm
 obtain ⟨bs2, sp2, cp2, rfl, hr2, hn2, hp2, hl2, r1⟩ := hm
 have hq2 := r1.le
 have hfe2 := r1.few
 have HX2 : Hid _ := zav hx HX0.out
 have HG3 : Hid (w.grownBy W2 (some g)) := zaa HG1.out g1
 have HM3 : Hid (Mk w.heap.size W2 bk1 13 ⟨#[]⟩ 0 (herI ts p) (herI ts p) 0 (.slice none 0 0) []) := HM1.out.grow (Nat.lt_of_lt_of_le hgT hT) g1
 have HR2 : Hid (Rdr T W2 g st cap ts q2) := r1
 have HRR2 : Hid (RowsP W2 sp2 bs2) := hr2
 have HNN2 : Hid (sp2 = none -> bs2.length = 0 ∧ cp2 = 0) := hn2
 have HPP2 : Hid (PsAt W2 (fun j => W1.heap.size <= j ∧ j < W2.heap.size) bs2 l2) := hp2
 clear g1 r1 hx hr2 hn2 hp2 HX0 HR1 HG1 HM1
 go_wp2_with fail
 refine (zay (S2 := fun j => W1.heap.size <= j ∧ j < W2.heap.size) HR2.out hT HM3.out HRR2.out HNN2.out HPP2.out (zbz HL2.out.1 HL2.out.2 (Nat.le_refl _)) (by simp; omega)).mono ?_
 rintro e W4 ⟨rfl, ⟨v4, hM⟩, b1⟩
 have HM4 : Hid (Mk w.heap.size W4 bk1 13 ⟨#[]⟩ 0 (herI ts p) (herI ts p) (behI ts q2) v4 ([] ++ l2)) := hM
 have HG5 : Hid (w.grownBy W4 (some g)) := zax HG3.out b1
 have HR5 : Hid (Rdr T W4 g st cap ts q2) := HR2.out.below hT b1
 clear hM b1 HM3 HL2 HRR2 HNN2 HPP2 HG3 HR2
 go_wp2
 go_ret
 exact zbb HG5.out HX2.out HM4.out.fin HR5.out
theorem zux {n : Nat} (h : ∀ m, m <= n -> StmC ts T g st cap m) (hR : Rdr T w g st cap ts p) (ho : looP ts (fns ts n) p ≠ .out) : Calls Tryz.prog 171 #[.pointer (some ⟨g, 0, none⟩)] w (PtP T w g st cap ts (looP ts (fns ts n) p)) := by
 have HR0 : Hid (Rdr T w g st cap ts p) := hR
 have hT := hR.hT
 have hgT := hR.hg
 have HG0 : Hid (w.grownBy w (some g)) := zbs _ _
 clear hR
 obtain ⟨r, hX⟩ : ∃ r, looP ts (fns ts n) p = r := ⟨_, rfl⟩
 rw [hX] at ho ⊢
 have HX0 : Hid (looP ts (fns ts n) p = r) := hX
 have HO : Hid (r ≠ .out) := ho
 clear hX ho
 unfold looP at HX0
 have HH : Hid (∀ m, m <= n -> StmC ts T g st cap m) := h
 clear h
 have hmf : ∀ (fn : Fn) (first cap : Array Value) (w : World), (Instr.makeFunc fn first cap).run Tryz.prog w = .ok (.func fn first cap) w := fun _ _ _ _ => rfl
 go_enter Tryz.func171, Tryz.ntmps171
 go_wp2_with fail
 refine (zba 15 HR0.out).mono ?_
 rintro e W1 ⟨bk1, rfl, hM, b1⟩
 have HM1 : Hid (Mk w.heap.size W1 bk1 15 ⟨#[]⟩ 0 (herI ts p) (herI ts p) 0 (.slice none 0 0) []) := hM.mono HG0.out.size
 have HG1 : Hid (w.grownBy W1 (some g)) := zaa HG0.out (zad b1)
 have HR1 : Hid (Rdr T W1 g st cap ts p) := HR0.out.low b1
 clear hM b1 HG0 HR0
 go_wp2_with fail
 refine (za3 ⟨#[102, 111, 114]⟩ (by simp) HR1.out).mono ?_
 rintro e W2 ⟨g1, hm0⟩
 have hm : (if isT ts p [102, 111, 114] then e = .returned (.tuple #[]) ∧ Rdr T W2 g st cap ts (p + 1) else e = wroE (herI ts p)) := hm0
 clear hm0
 obtain ⟨bb, hb⟩ : ∃ bb, isT ts p [102, 111, 114] = bb := ⟨_, rfl⟩
 rw [hb] at hm
 cases bb
 ·simp only [Bool.false_eq_true, if_false] at hm
  subst hm
  have HP : Hid (PtP T w g st cap ts r (wroE (herI ts p)) W2) := zaf (zaa HG1.out g1) (zc6 hb HX0.out)
  clear HG1 HR1 HX0 HM1
  unfold wroE
  go_wp2
  exact ⟨rfl, HP.out⟩
 simp only [if_true] at hm
 obtain ⟨rfl, r1⟩ := hm
 have HX2 : Hid _ := zcg hb HX0.out
 have HG3 : Hid (w.grownBy W2 (some g)) := zaa HG1.out g1
 have HM3 : Hid (Mk w.heap.size W2 bk1 15 ⟨#[]⟩ 0 (herI ts p) (herI ts p) 0 (.slice none 0 0) []) := HM1.out.grow (Nat.lt_of_lt_of_le hgT hT) g1
 have HR2 : Hid (Rdr T W2 g st cap ts (p + 1)) := r1
 clear g1 r1 hb HX0 HR1 HG1 HM1
 have HL4 : Hid ((bk1 < W2.heap.size ∧ ∀ q, ((.slice none 0 0) : Value).ownBlock = some q -> q < W2.heap.size) ∧ w.heap.size <= W2.heap.size ∧ g < W2.heap.size) := ⟨HM3.out.at, HG3.out.size, HR2.out.lt⟩
 go_wp2_with fail
 refine (zeq (zff n) HR2.out (zap HX2.out HO.out)).mono ?_
 rintro e W4 ⟨g1, hm⟩
 rcases hx : (fns ts n).bin 0 (p + 1) with ⟨t4, q4⟩ | s4 | _
 rotate_left
 ·rw [hx] at hm
  have hm' : e = wroE s4 := hm
  subst hm'
  have HP : Hid (PtP T w g st cap ts r (wroE (s4)) W4) := zaf (zaa HG3.out g1) (zah hx HX2.out)
  clear HG3 HR2 HX2 HM3 HL4
  unfold wroE
  go_wp2
  exact ⟨rfl, HP.out⟩
 ·rw [hx] at hm
  exact hm.elim
 rw [hx] at hm
 obtain ⟨bk4, rfl, hpt, r1⟩ := hm
 have HX4 : Hid _ := zav hx HX2.out
 have hsz4 := g1.size
 have HG5 : Hid (w.grownBy W4 (some g)) := zaa HG3.out g1
 have HM5 : Hid (Mk w.heap.size W4 bk1 15 ⟨#[]⟩ 0 (herI ts p) (herI ts p) 0 (.slice none 0 0) []) := HM3.out.grow (Nat.lt_of_lt_of_le hgT hT) g1
 have HK4 : Hid (PtAt W4 (fun j => W2.heap.size <= j ∧ j < W4.heap.size) bk4 t4) := hpt
 have HR4 : Hid (Rdr T W4 g st cap ts q4) := r1
 clear g1 r1 hpt hx HX2 HR2 HG3 HM3
 go_wp2_with fail
 refine (zdk HH.out HR4.out (zap HX4.out HO.out)).mono ?_
 rintro e W6 ⟨g1, hm⟩
 rcases hx : bloP ts (fns ts n) q4 with ⟨t6, q6⟩ | s6 | _
 rotate_left
 ·rw [hx] at hm
  have hm' : e = wroE s6 := hm
  subst hm'
  have HP : Hid (PtP T w g st cap ts r (wroE (s6)) W6) := zaf (zaa HG5.out g1) (zah hx HX4.out)
  clear HG5 HR4 HX4 HM5 HL4 HK4
  unfold wroE
  go_wp2
  exact ⟨rfl, HP.out⟩
 ·rw [hx] at hm
  exact hm.elim
 rw [hx] at hm
 obtain ⟨bk6, rfl, hpt, r1⟩ := hm
 have HX6 : Hid _ := zav hx HX4.out
 have hsz6 := g1.size
 have HG7 : Hid (w.grownBy W6 (some g)) := zaa HG5.out g1
 have HM7 : Hid (Mk w.heap.size W6 bk1 15 ⟨#[]⟩ 0 (herI ts p) (herI ts p) 0 (.slice none 0 0) []) := HM5.out.grow (Nat.lt_of_lt_of_le hgT hT) g1
 have HK7a : Hid (PtAt W6 (fun j => W2.heap.size <= j ∧ j < W4.heap.size) bk4 t4) := HK4.out.grow HL4.out.2.2 (by omega) g1
 have HK6 : Hid (PtAt W6 (fun j => W4.heap.size <= j ∧ j < W6.heap.size) bk6 t6) := hpt
 have HR6 : Hid (Rdr T W6 g st cap ts q6) := r1
 clear g1 r1 hpt hx HX4 HR4 HG5 HM5 HK4
 go_wp2_with fail
 refine zae (fun W => Below W6.heap.size W6 W ∧ W.heap[W6.heap.size]? = some (.cells #[.pointer (some ⟨bk4, 0, none⟩), .pointer (some ⟨bk6, 0, none⟩)] 102 (0, 0))) ⟨(Below.refl _ _).alloc (Nat.le_refl _) _, heap_alloc_new _ _⟩ ?_
 rintro Wa8 ⟨ba, ra⟩
 refine (zay (bs2 := [bk4, bk6]) (l2 := [t4, t6]) (S2 := fun j => W2.heap.size <= j ∧ j < W6.heap.size) (HR6.out.low ba) hT (HM7.out.below ba) (zi7 ra) (fun h => by cases h) (PsAt.two ((HK7a.out.low (by omega) ba).wide (Nat.le_refl _) (by omega)) ((HK6.out.low (Nat.le_refl _) ba).wide (by omega) (Nat.le_refl _))) (zbz HL4.out.1 HL4.out.2.1 ba.size) (by simp)).mono ?_
 rintro e W8 ⟨rfl, ⟨v8, hM⟩, b1⟩
 have HM8 : Hid (Mk w.heap.size W8 bk1 15 ⟨#[]⟩ 0 (herI ts p) (herI ts p) (behI ts q6) v8 ([] ++ [t4, t6])) := hM
 have HGa8 : Hid (w.grownBy Wa8 (some g)) := zaa HG7.out (zad ba)
 have HRa8 : Hid (Rdr T Wa8 g st cap ts q6) := HR6.out.low ba
 have HG9 : Hid (w.grownBy W8 (some g)) := zax HGa8.out b1
 have HR9 : Hid (Rdr T W8 g st cap ts q6) := HRa8.out.below hT b1
 clear hM b1 ba ra HM7 HL4 HG7 HR6 HGa8 HRa8 HK7a HK6
 go_wp2
 go_ret
 exact zbb HG9.out HX6.out HM8.out.fin HR9.out
theorem zq2 {n : Nat} (h : ∀ m, m <= n -> StmC ts T g st cap m) (hR : Rdr T w g st cap ts p) (ho : (fns ts (n + 1)).bran p ≠ .out) : Calls Tryz.prog 170 #[.pointer (some ⟨g, 0, none⟩)] w (PtP T w g st cap ts ((fns ts (n + 1)).bran p)) := by
 have HR0 : Hid (Rdr T w g st cap ts p) := hR
 have hT := hR.hT
 have hgT := hR.hg
 have HG0 : Hid (w.grownBy w (some g)) := zbs _ _
 clear hR
 obtain ⟨r, hX⟩ : ∃ r, (fns ts (n + 1)).bran p = r := ⟨_, rfl⟩
 rw [hX] at ho ⊢
 have HX0 : Hid ((fns ts (n + 1)).bran p = r) := hX
 have HO : Hid (r ≠ .out) := ho
 have HX1 : Hid ((expP ts [105, 102] p fun q => ((fns ts n).bin 0 q).bind fun x q => (bloP ts (fns ts n) q).bind fun b q =>
    if isT ts q [101, 108, 115, 101] then
     (if isT ts (q + 1) [105, 102] then (fns ts n).bran (q + 1) else bloP ts (fns ts n) (q + 1)).bind fun c q => .ok (.mk 14 ⟨#[]⟩ 0 (herI ts p) (herI ts p) (behI ts q) [x, b, c]) q
    else .ok (.mk 14 ⟨#[]⟩ 0 (herI ts p) (herI ts p) (behI ts q) [x, b]) q) = r) := hX
 clear hX ho HX0
 have HH : Hid (∀ m, m <= n -> StmC ts T g st cap m) := h
 clear h
 have hmf : ∀ (fn : Fn) (first cap : Array Value) (w : World), (Instr.makeFunc fn first cap).run Tryz.prog w = .ok (.func fn first cap) w := fun _ _ _ _ => rfl
 go_enter Tryz.func170, Tryz.ntmps170
 go_wp2_with fail
 refine (zba 14 HR0.out).mono ?_
 rintro e W1 ⟨bk1, rfl, hM, b1⟩
 have HM1 : Hid (Mk w.heap.size W1 bk1 14 ⟨#[]⟩ 0 (herI ts p) (herI ts p) 0 (.slice none 0 0) []) := hM.mono HG0.out.size
 have HG1 : Hid (w.grownBy W1 (some g)) := zaa HG0.out (zad b1)
 have HR1 : Hid (Rdr T W1 g st cap ts p) := HR0.out.low b1
 clear hM b1 HG0 HR0
 go_wp2_with fail
 refine (za3 ⟨#[105, 102]⟩ (by simp) HR1.out).mono ?_
 rintro e W2 ⟨g1, hm0⟩
 have hm : (if isT ts p [105, 102] then e = .returned (.tuple #[]) ∧ Rdr T W2 g st cap ts (p + 1) else e = wroE (herI ts p)) := hm0
 clear hm0
 obtain ⟨bb, hb⟩ : ∃ bb, isT ts p [105, 102] = bb := ⟨_, rfl⟩
 rw [hb] at hm
 cases bb
 ·simp only [Bool.false_eq_true, if_false] at hm
  subst hm
  have HP : Hid (PtP T w g st cap ts r (wroE (herI ts p)) W2) := zaf (zaa HG1.out g1) (zc6 hb HX1.out)
  clear HG1 HR1 HX1 HM1
  unfold wroE
  go_wp2
  exact ⟨rfl, HP.out⟩
 simp only [if_true] at hm
 obtain ⟨rfl, r1⟩ := hm
 have HX2 : Hid _ := zcg hb HX1.out
 have HG3 : Hid (w.grownBy W2 (some g)) := zaa HG1.out g1
 have HM3 : Hid (Mk w.heap.size W2 bk1 14 ⟨#[]⟩ 0 (herI ts p) (herI ts p) 0 (.slice none 0 0) []) := HM1.out.grow (Nat.lt_of_lt_of_le hgT hT) g1
 have HR2 : Hid (Rdr T W2 g st cap ts (p + 1)) := r1
 clear g1 r1 hb HX1 HR1 HG1 HM1
 have HL4 : Hid ((bk1 < W2.heap.size ∧ ∀ q, ((.slice none 0 0) : Value).ownBlock = some q -> q < W2.heap.size) ∧ w.heap.size <= W2.heap.size ∧ g < W2.heap.size) := ⟨HM3.out.at, HG3.out.size, HR2.out.lt⟩
 go_wp2_with fail
 refine (zeq (zff n) HR2.out (zap HX2.out HO.out)).mono ?_
 rintro e W4 ⟨g1, hm⟩
 rcases hx : (fns ts n).bin 0 (p + 1) with ⟨t4, q4⟩ | s4 | _
 rotate_left
 ·rw [hx] at hm
  have hm' : e = wroE s4 := hm
  subst hm'
  have HP : Hid (PtP T w g st cap ts r (wroE (s4)) W4) := zaf (zaa HG3.out g1) (zah hx HX2.out)
  clear HG3 HR2 HX2 HM3 HL4
  unfold wroE
  go_wp2
  exact ⟨rfl, HP.out⟩
 ·rw [hx] at hm
  exact hm.elim
 rw [hx] at hm
 obtain ⟨bk4, rfl, hpt, r1⟩ := hm
 have HX4 : Hid _ := zav hx HX2.out
 have hsz4 := g1.size
 have HG5 : Hid (w.grownBy W4 (some g)) := zaa HG3.out g1
 have HM5 : Hid (Mk w.heap.size W4 bk1 14 ⟨#[]⟩ 0 (herI ts p) (herI ts p) 0 (.slice none 0 0) []) := HM3.out.grow (Nat.lt_of_lt_of_le hgT hT) g1
 have HK4 : Hid (PtAt W4 (fun j => W2.heap.size <= j ∧ j < W4.heap.size) bk4 t4) := hpt
 have HR4 : Hid (Rdr T W4 g st cap ts q4) := r1
 clear g1 r1 hpt hx HX2 HR2 HG3 HM3
 go_wp2_with fail
 refine (zdk HH.out HR4.out (zap HX4.out HO.out)).mono ?_
 rintro e W6 ⟨g1, hm⟩
 rcases hx : bloP ts (fns ts n) q4 with ⟨t6, q6⟩ | s6 | _
 rotate_left
 ·rw [hx] at hm
  have hm' : e = wroE s6 := hm
  subst hm'
  have HP : Hid (PtP T w g st cap ts r (wroE (s6)) W6) := zaf (zaa HG5.out g1) (zah hx HX4.out)
  clear HG5 HR4 HX4 HM5 HL4 HK4
  unfold wroE
  go_wp2
  exact ⟨rfl, HP.out⟩
 ·rw [hx] at hm
  exact hm.elim
 rw [hx] at hm
 obtain ⟨bk6, rfl, hpt, r1⟩ := hm
 have HX6 : Hid _ := zav hx HX4.out
 have hsz6 := g1.size
 have HG7 : Hid (w.grownBy W6 (some g)) := zaa HG5.out g1
 have HM7 : Hid (Mk w.heap.size W6 bk1 14 ⟨#[]⟩ 0 (herI ts p) (herI ts p) 0 (.slice none 0 0) []) := HM5.out.grow (Nat.lt_of_lt_of_le hgT hT) g1
 have HK7a : Hid (PtAt W6 (fun j => W2.heap.size <= j ∧ j < W4.heap.size) bk4 t4) := HK4.out.grow HL4.out.2.2 (by omega) g1
 have HK6 : Hid (PtAt W6 (fun j => W4.heap.size <= j ∧ j < W6.heap.size) bk6 t6) := hpt
 have HR6 : Hid (Rdr T W6 g st cap ts q6) := r1
 clear g1 r1 hpt hx HX4 HR4 HG5 HM5 HK4
 go_wp2_with fail
 refine zae (fun W => Below W6.heap.size W6 W ∧ W.heap[W6.heap.size]? = some (.cells #[.pointer (some ⟨bk4, 0, none⟩), .pointer (some ⟨bk6, 0, none⟩)] 102 (0, 0))) ⟨(Below.refl _ _).alloc (Nat.le_refl _) _, heap_alloc_new _ _⟩ ?_
 rintro Wa8 ⟨ba, ra⟩
 refine (zci (bs2 := [bk4, bk6]) (l2 := [t4, t6]) (S2 := fun j => W2.heap.size <= j ∧ j < W6.heap.size) (HM7.out.below ba) (zi7 ra) (fun h => by cases h) (PsAt.two ((HK7a.out.low (by omega) ba).wide (Nat.le_refl _) (by omega)) ((HK6.out.low (Nat.le_refl _) ba).wide (by omega) (Nat.le_refl _))) (zbz HL4.out.1 HL4.out.2.1 ba.size) (by simp)).mono ?_
 rintro e W8 ⟨rfl, ⟨v8, hM⟩, b1⟩
 have HM8 : Hid (Mk w.heap.size W8 bk1 14 ⟨#[]⟩ 0 (herI ts p) (herI ts p) 0 v8 ([] ++ [t4, t6])) := hM
 have HGa8 : Hid (w.grownBy Wa8 (some g)) := zaa HG7.out (zad ba)
 have HRa8 : Hid (Rdr T Wa8 g st cap ts q6) := HR6.out.low ba
 have HG9 : Hid (w.grownBy W8 (some g)) := zax HGa8.out b1
 have HR9 : Hid (Rdr T W8 g st cap ts q6) := HRa8.out.below hT b1
 clear hM b1 ba ra HM7 HL4 HG7 HR6 HGa8 HRa8 HK7a HK6
 go_wp2_with fail
 refine (zd8 ⟨#[101, 108, 115, 101]⟩ (by simp) HR9.out).mono ?_
 rintro e W10 ⟨he, g1, r1⟩
 obtain ⟨bb, hb⟩ : ∃ bb, isT ts q6 [101, 108, 115, 101] = bb := ⟨_, rfl⟩
 rw [show isT ts q6 (⟨#[101, 108, 115, 101]⟩ : ByteArray).data.toList = bb from hb] at he r1
 subst he
 rw [hb] at HX6
 have HG11 : Hid (w.grownBy W10 (some g)) := zaa HG9.out g1
 have HM11 : Hid (Mk w.heap.size W10 bk1 14 ⟨#[]⟩ 0 (herI ts p) (herI ts p) 0 v8 ([] ++ [t4, t6])) := HM8.out.grow (Nat.lt_of_lt_of_le hgT hT) g1
 clear g1 hb HR9 HG9 HM8
 cases bb
 rotate_left
 ·skip
  have HX10 : Hid _ := za2 rfl HX6.out
  have HR10 : Hid (Rdr T W10 g st cap ts (q6 + 1)) := r1
  clear r1 HX6
  go_wp2_with fail
  refine (zef ⟨#[105, 102]⟩ HR10.out).mono ?_
  rintro e W12 ⟨he, b1⟩
  obtain ⟨bb, hb⟩ : ∃ bb, isT ts (q6 + 1) [105, 102] = bb := ⟨_, rfl⟩
  rw [show isT ts (q6 + 1) (⟨#[105, 102]⟩ : ByteArray).data.toList = bb from hb] at he
  subst he
  rw [hb] at HX10
  have g1 : W10.grownBy W12 (some g) := zad b1
  have HR12 : Hid (Rdr T W12 g st cap ts (q6 + 1)) := HR10.out.low b1
  have HG13 : Hid (w.grownBy W12 (some g)) := zaa HG11.out g1
  have HM13 : Hid (Mk w.heap.size W12 bk1 14 ⟨#[]⟩ 0 (herI ts p) (herI ts p) 0 v8 ([] ++ [t4, t6])) := HM11.out.grow (Nat.lt_of_lt_of_le hgT hT) g1
  clear g1 b1 hb HR10 HG11 HM11
  cases bb
  rotate_left
  ·skip
   rw [if_pos rfl] at HX10
   have HL14 : Hid ((bk1 < W12.heap.size ∧ ∀ q, (v8 : Value).ownBlock = some q -> q < W12.heap.size) ∧ w.heap.size <= W12.heap.size ∧ g < W12.heap.size) := ⟨HM13.out.at, HG13.out.size, HR12.out.lt⟩
   go_wp2_with fail
   refine ((HH.out n (Nat.le_refl _)).bran _ _ HR12.out (zap HX10.out HO.out)).mono ?_
   rintro e W14 ⟨g1, hm⟩
   rcases hx : (fns ts n).bran (q6 + 1) with ⟨t14, q14⟩ | s14 | _
   rotate_left
   ·rw [hx] at hm
    have hm' : e = wroE s14 := hm
    subst hm'
    have HP : Hid (PtP T w g st cap ts r (wroE (s14)) W14) := zaf (zaa HG13.out g1) (zah hx HX10.out)
    clear HG13 HR12 HX10 HM13 HL14
    unfold wroE
    go_wp2
    exact ⟨rfl, HP.out⟩
   ·rw [hx] at hm
    exact hm.elim
   rw [hx] at hm
   obtain ⟨bk14, rfl, hpt, r1⟩ := hm
   have HX14 : Hid _ := zav hx HX10.out
   have hsz14 := g1.size
   have HG15 : Hid (w.grownBy W14 (some g)) := zaa HG13.out g1
   have HM15 : Hid (Mk w.heap.size W14 bk1 14 ⟨#[]⟩ 0 (herI ts p) (herI ts p) 0 v8 ([] ++ [t4, t6])) := HM13.out.grow (Nat.lt_of_lt_of_le hgT hT) g1
   have HK14 : Hid (PtAt W14 (fun j => W12.heap.size <= j ∧ j < W14.heap.size) bk14 t14) := hpt
   have HR14 : Hid (Rdr T W14 g st cap ts q14) := r1
   clear g1 r1 hpt hx HX10 HR12 HG13 HM13
   go_wp2_with fail
   refine zae (fun W => Below W14.heap.size W14 W ∧ W.heap[W14.heap.size]? = some (.cells #[.pointer (some ⟨bk14, 0, none⟩)] 102 (0, 0))) ⟨(Below.refl _ _).alloc (Nat.le_refl _) _, heap_alloc_new _ _⟩ ?_
   rintro Wa16 ⟨ba, ra⟩
   refine (zci (bs2 := [bk14]) (l2 := [t14]) (S2 := fun j => W12.heap.size <= j ∧ j < W14.heap.size) (HM15.out.below ba) (zai ra) (fun h => by cases h) (PsAt.one (HK14.out.low (Nat.le_refl _) ba)) (zbz HL14.out.1 HL14.out.2.1 ba.size) (by simp)).mono ?_
   rintro e W16 ⟨rfl, ⟨v16, hM⟩, b1⟩
   have HM16 : Hid (Mk w.heap.size W16 bk1 14 ⟨#[]⟩ 0 (herI ts p) (herI ts p) 0 v16 (([] ++ [t4, t6]) ++ [t14])) := hM
   have HGa16 : Hid (w.grownBy Wa16 (some g)) := zaa HG15.out (zad ba)
   have HRa16 : Hid (Rdr T Wa16 g st cap ts q14) := HR14.out.low ba
   have HG17 : Hid (w.grownBy W16 (some g)) := zax HGa16.out b1
   have HR17 : Hid (Rdr T W16 g st cap ts q14) := HRa16.out.below hT b1
   clear hM b1 ba ra HM15 HL14 HG15 HR14 HGa16 HRa16 HK14
   go_wp2_with fail
   refine (zay (bs2 := []) (l2 := []) (S2 := fun _ => False) HR17.out hT HM16.out RowsAt.none (fun _ => ⟨rfl, rfl⟩) (PsAt.nil _ _) (fun _ h => h.elim) (by simp)).mono ?_
   rintro e W18 ⟨rfl, ⟨v18, hM⟩, b1⟩
   have HM18 : Hid (Mk w.heap.size W18 bk1 14 ⟨#[]⟩ 0 (herI ts p) (herI ts p) (behI ts q14) v18 ((([] ++ [t4, t6]) ++ [t14]) ++ [])) := hM
   have HG19 : Hid (w.grownBy W18 (some g)) := zax HG17.out b1
   have HR19 : Hid (Rdr T W18 g st cap ts q14) := HR17.out.below hT b1
   clear hM b1 HM16 HG17 HR17
   go_wp2
   go_ret
   exact zbb HG19.out HX14.out HM18.out.fin HR19.out
  rw [if_neg (by decide)] at HX10
  have HL20 : Hid ((bk1 < W12.heap.size ∧ ∀ q, (v8 : Value).ownBlock = some q -> q < W12.heap.size) ∧ w.heap.size <= W12.heap.size ∧ g < W12.heap.size) := ⟨HM13.out.at, HG13.out.size, HR12.out.lt⟩
  go_wp2_with fail
  refine (zdk HH.out HR12.out (zap HX10.out HO.out)).mono ?_
  rintro e W20 ⟨g1, hm⟩
  rcases hx : bloP ts (fns ts n) (q6 + 1) with ⟨t20, q20⟩ | s20 | _
  rotate_left
  ·rw [hx] at hm
   have hm' : e = wroE s20 := hm
   subst hm'
   have HP : Hid (PtP T w g st cap ts r (wroE (s20)) W20) := zaf (zaa HG13.out g1) (zah hx HX10.out)
   clear HG13 HR12 HX10 HM13 HL20
   unfold wroE
   go_wp2
   exact ⟨rfl, HP.out⟩
  ·rw [hx] at hm
   exact hm.elim
  rw [hx] at hm
  obtain ⟨bk20, rfl, hpt, r1⟩ := hm
  have HX20 : Hid _ := zav hx HX10.out
  have hsz20 := g1.size
  have HG21 : Hid (w.grownBy W20 (some g)) := zaa HG13.out g1
  have HM21 : Hid (Mk w.heap.size W20 bk1 14 ⟨#[]⟩ 0 (herI ts p) (herI ts p) 0 v8 ([] ++ [t4, t6])) := HM13.out.grow (Nat.lt_of_lt_of_le hgT hT) g1
  have HK20 : Hid (PtAt W20 (fun j => W12.heap.size <= j ∧ j < W20.heap.size) bk20 t20) := hpt
  have HR20 : Hid (Rdr T W20 g st cap ts q20) := r1
  clear g1 r1 hpt hx HX10 HR12 HG13 HM13
  go_wp2_with fail
  refine zae (fun W => Below W20.heap.size W20 W ∧ W.heap[W20.heap.size]? = some (.cells #[.pointer (some ⟨bk20, 0, none⟩)] 102 (0, 0))) ⟨(Below.refl _ _).alloc (Nat.le_refl _) _, heap_alloc_new _ _⟩ ?_
  rintro Wa22 ⟨ba, ra⟩
  refine (zci (bs2 := [bk20]) (l2 := [t20]) (S2 := fun j => W12.heap.size <= j ∧ j < W20.heap.size) (HM21.out.below ba) (zai ra) (fun h => by cases h) (PsAt.one (HK20.out.low (Nat.le_refl _) ba)) (zbz HL20.out.1 HL20.out.2.1 ba.size) (by simp)).mono ?_
  rintro e W22 ⟨rfl, ⟨v22, hM⟩, b1⟩
  have HM22 : Hid (Mk w.heap.size W22 bk1 14 ⟨#[]⟩ 0 (herI ts p) (herI ts p) 0 v22 (([] ++ [t4, t6]) ++ [t20])) := hM
  have HGa22 : Hid (w.grownBy Wa22 (some g)) := zaa HG21.out (zad ba)
  have HRa22 : Hid (Rdr T Wa22 g st cap ts q20) := HR20.out.low ba
  have HG23 : Hid (w.grownBy W22 (some g)) := zax HGa22.out b1
  have HR23 : Hid (Rdr T W22 g st cap ts q20) := HRa22.out.below hT b1
  clear hM b1 ba ra HM21 HL20 HG21 HR20 HGa22 HRa22 HK20
  go_wp2_with fail
  refine (zay (bs2 := []) (l2 := []) (S2 := fun _ => False) HR23.out hT HM22.out RowsAt.none (fun _ => ⟨rfl, rfl⟩) (PsAt.nil _ _) (fun _ h => h.elim) (by simp)).mono ?_
  rintro e W24 ⟨rfl, ⟨v24, hM⟩, b1⟩
  have HM24 : Hid (Mk w.heap.size W24 bk1 14 ⟨#[]⟩ 0 (herI ts p) (herI ts p) (behI ts q20) v24 ((([] ++ [t4, t6]) ++ [t20]) ++ [])) := hM
  have HG25 : Hid (w.grownBy W24 (some g)) := zax HG23.out b1
  have HR25 : Hid (Rdr T W24 g st cap ts q20) := HR23.out.below hT b1
  clear hM b1 HM22 HG23 HR23
  go_wp2
  go_ret
  exact zbb HG25.out HX20.out HM24.out.fin HR25.out
 have HX10 : Hid _ := zbh rfl HX6.out
 have HR10 : Hid (Rdr T W10 g st cap ts q6) := r1
 clear r1 HX6
 go_wp2_with fail
 refine (zay (bs2 := []) (l2 := []) (S2 := fun _ => False) HR10.out hT HM11.out RowsAt.none (fun _ => ⟨rfl, rfl⟩) (PsAt.nil _ _) (fun _ h => h.elim) (by simp)).mono ?_
 rintro e W26 ⟨rfl, ⟨v26, hM⟩, b1⟩
 have HM26 : Hid (Mk w.heap.size W26 bk1 14 ⟨#[]⟩ 0 (herI ts p) (herI ts p) (behI ts q6) v26 (([] ++ [t4, t6]) ++ [])) := hM
 have HG27 : Hid (w.grownBy W26 (some g)) := zax HG11.out b1
 have HR27 : Hid (Rdr T W26 g st cap ts q6) := HR10.out.below hT b1
 clear hM b1 HM11 HG11 HR10
 go_wp2
 go_ret
 exact zbb HG27.out HX10.out HM26.out.fin HR27.out
theorem zq3 {n : Nat} (h : ∀ m, m <= n -> StmC ts T g st cap m) (hR : Rdr T w g st cap ts p) (ho : (fns ts (n + 1)).stmt p ≠ .out) : Calls Tryz.prog 155 #[.pointer (some ⟨g, 0, none⟩)] w (PtP T w g st cap ts ((fns ts (n + 1)).stmt p)) := by
 have HR0 : Hid (Rdr T w g st cap ts p) := hR
 have hT := hR.hT
 have hgT := hR.hg
 have HG0 : Hid (w.grownBy w (some g)) := zbs _ _
 clear hR
 obtain ⟨r, hX⟩ : ∃ r, (fns ts (n + 1)).stmt p = r := ⟨_, rfl⟩
 rw [hX] at ho ⊢
 have HX0 : Hid ((fns ts (n + 1)).stmt p = r) := hX
 have HO : Hid (r ≠ .out) := ho
 have HX1 : Hid ((if isT ts p [123] then bloP ts (fns ts n) p else if isT ts p [118, 97, 114] then varP ts (fns ts n) p else if isT ts p [105, 102] then (fns ts n).bran p
   else if isT ts p [102, 111, 114] then looP ts (fns ts n) p else if isT ts p [114, 101, 116, 117, 114, 110] then resP ts (fns ts n) p
   else if namB ts p && isT ts (p + 1) [58, 61] then shoP ts (fns ts n) p else simP ts (fns ts n) p) = r) := hX
 clear hX ho HX0
 have HH : Hid (∀ m, m <= n -> StmC ts T g st cap m) := h
 clear h
 have hmf : ∀ (fn : Fn) (first cap : Array Value) (w : World), (Instr.makeFunc fn first cap).run Tryz.prog w = .ok (.func fn first cap) w := fun _ _ _ _ => rfl
 go_enter Tryz.func155, Tryz.ntmps155
 have hfd : ∀ (a b c : Value) (W : World), (Instr.field 60 (.agg #[a, b, c]) 1).run Tryz.prog W = .ok b W := fun _ _ _ _ => rfl
 have HE : Hid (∀ q (s : List UInt8), ((nxT ts q).text.toList == s) = isT ts q s) := fun q s => by unfold isT; rw [ByteArray.toList_eq]
 go_wp2_with fail
 refine (zc4 HR0.out).mono ?_
 rintro e W1 ⟨rfl, b1⟩
 have HR1 : Hid (Rdr T W1 g st cap ts p) := HR0.out.low b1
 have HG1 : Hid (w.grownBy W1 (some g)) := zad b1
 clear b1 HR0 HG0
 have HE0 : Hid _ := HE.out p [123]
 obtain ⟨bb, hb⟩ : ∃ bb, isT ts p [123] = bb := ⟨_, rfl⟩
 rw [hb] at HE0 HX1
 cases bb
 rotate_left
 ·have he0 : ((nxT ts p).text.toList == [123]) = true := HE0.out
  have HXa : Hid _ := za2 rfl HX1.out
  clear hb HE0 HX1 HE
  unfold Tok.cells
  go_wp2_with fail
  refine ((zdk HH.out HR1.out (by rw [HXa.out]; exact HO.out)).mono fun e W h => PtP.from HG1.out h).mono ?_
  rintro e W2 hP
  rw [HXa.out] at hP
  have HP : Hid (PtP T w g st cap ts r e W2) := hP
  clear HXa HG1 HR1 HO HH
  rcases r with ⟨t9, q9⟩ | s9 | _
  ·obtain ⟨-, b9, rfl, -⟩ := hP
   go_wp2
   go_ret
   exact HP.out
  ·obtain ⟨-, hm'⟩ := hP
   have hm2 : e = wroE s9 := hm'
   subst hm2
   clear hm'
   unfold wroE at HP ⊢
   go_wp2
   exact ⟨rfl, HP.out⟩
  ·exact hP.2.elim
 have he0 : ((nxT ts p).text.toList == [123]) = false := HE0.out
 have HXb0 : Hid _ := zbh rfl HX1.out
 clear hb HE0 HX1
 have HE1 : Hid _ := HE.out p [118, 97, 114]
 obtain ⟨bb, hb⟩ : ∃ bb, isT ts p [118, 97, 114] = bb := ⟨_, rfl⟩
 rw [hb] at HE1 HXb0
 cases bb
 rotate_left
 ·have he1 : ((nxT ts p).text.toList == [118, 97, 114]) = true := HE1.out
  have HXa : Hid _ := za2 rfl HXb0.out
  clear hb HE1 HXb0 HE
  unfold Tok.cells
  go_wp2_with fail
  refine ((zgl n HR1.out (by rw [HXa.out]; exact HO.out)).mono fun e W h => PtP.from HG1.out h).mono ?_
  rintro e W2 hP
  rw [HXa.out] at hP
  have HP : Hid (PtP T w g st cap ts r e W2) := hP
  clear HXa HG1 HR1 HO HH
  rcases r with ⟨t9, q9⟩ | s9 | _
  ·obtain ⟨-, b9, rfl, -⟩ := hP
   go_wp2
   go_ret
   exact HP.out
  ·obtain ⟨-, hm'⟩ := hP
   have hm2 : e = wroE s9 := hm'
   subst hm2
   clear hm'
   unfold wroE at HP ⊢
   go_wp2
   exact ⟨rfl, HP.out⟩
  ·exact hP.2.elim
 have he1 : ((nxT ts p).text.toList == [118, 97, 114]) = false := HE1.out
 have HXb1 : Hid _ := zbh rfl HXb0.out
 clear hb HE1 HXb0
 have HE2 : Hid _ := HE.out p [105, 102]
 obtain ⟨bb, hb⟩ : ∃ bb, isT ts p [105, 102] = bb := ⟨_, rfl⟩
 rw [hb] at HE2 HXb1
 cases bb
 rotate_left
 ·have he2 : ((nxT ts p).text.toList == [105, 102]) = true := HE2.out
  have HXa : Hid _ := za2 rfl HXb1.out
  clear hb HE2 HXb1 HE
  unfold Tok.cells
  go_wp2_with fail
  refine (((HH.out n (Nat.le_refl _)).bran _ _ HR1.out (by rw [HXa.out]; exact HO.out)).mono fun e W h => PtP.from HG1.out h).mono ?_
  rintro e W2 hP
  rw [HXa.out] at hP
  have HP : Hid (PtP T w g st cap ts r e W2) := hP
  clear HXa HG1 HR1 HO HH
  rcases r with ⟨t9, q9⟩ | s9 | _
  ·obtain ⟨-, b9, rfl, -⟩ := hP
   go_wp2
   go_ret
   exact HP.out
  ·obtain ⟨-, hm'⟩ := hP
   have hm2 : e = wroE s9 := hm'
   subst hm2
   clear hm'
   unfold wroE at HP ⊢
   go_wp2
   exact ⟨rfl, HP.out⟩
  ·exact hP.2.elim
 have he2 : ((nxT ts p).text.toList == [105, 102]) = false := HE2.out
 have HXb2 : Hid _ := zbh rfl HXb1.out
 clear hb HE2 HXb1
 have HE3 : Hid _ := HE.out p [102, 111, 114]
 obtain ⟨bb, hb⟩ : ∃ bb, isT ts p [102, 111, 114] = bb := ⟨_, rfl⟩
 rw [hb] at HE3 HXb2
 cases bb
 rotate_left
 ·have he3 : ((nxT ts p).text.toList == [102, 111, 114]) = true := HE3.out
  have HXa : Hid _ := za2 rfl HXb2.out
  clear hb HE3 HXb2 HE
  unfold Tok.cells
  go_wp2_with fail
  refine ((zux HH.out HR1.out (by rw [HXa.out]; exact HO.out)).mono fun e W h => PtP.from HG1.out h).mono ?_
  rintro e W2 hP
  rw [HXa.out] at hP
  have HP : Hid (PtP T w g st cap ts r e W2) := hP
  clear HXa HG1 HR1 HO HH
  rcases r with ⟨t9, q9⟩ | s9 | _
  ·obtain ⟨-, b9, rfl, -⟩ := hP
   go_wp2
   go_ret
   exact HP.out
  ·obtain ⟨-, hm'⟩ := hP
   have hm2 : e = wroE s9 := hm'
   subst hm2
   clear hm'
   unfold wroE at HP ⊢
   go_wp2
   exact ⟨rfl, HP.out⟩
  ·exact hP.2.elim
 have he3 : ((nxT ts p).text.toList == [102, 111, 114]) = false := HE3.out
 have HXb3 : Hid _ := zbh rfl HXb2.out
 clear hb HE3 HXb2
 have HE4 : Hid _ := HE.out p [114, 101, 116, 117, 114, 110]
 obtain ⟨bb, hb⟩ : ∃ bb, isT ts p [114, 101, 116, 117, 114, 110] = bb := ⟨_, rfl⟩
 rw [hb] at HE4 HXb3
 cases bb
 rotate_left
 ·have he4 : ((nxT ts p).text.toList == [114, 101, 116, 117, 114, 110]) = true := HE4.out
  have HXa : Hid _ := za2 rfl HXb3.out
  clear hb HE4 HXb3 HE
  unfold Tok.cells
  go_wp2_with fail
  refine ((zol n HR1.out (by rw [HXa.out]; exact HO.out)).mono fun e W h => PtP.from HG1.out h).mono ?_
  rintro e W2 hP
  rw [HXa.out] at hP
  have HP : Hid (PtP T w g st cap ts r e W2) := hP
  clear HXa HG1 HR1 HO HH
  rcases r with ⟨t9, q9⟩ | s9 | _
  ·obtain ⟨-, b9, rfl, -⟩ := hP
   go_wp2
   go_ret
   exact HP.out
  ·obtain ⟨-, hm'⟩ := hP
   have hm2 : e = wroE s9 := hm'
   subst hm2
   clear hm'
   unfold wroE at HP ⊢
   go_wp2
   exact ⟨rfl, HP.out⟩
  ·exact hP.2.elim
 have he4 : ((nxT ts p).text.toList == [114, 101, 116, 117, 114, 110]) = false := HE4.out
 have HXb4 : Hid _ := zbh rfl HXb3.out
 clear hb HE4 HXb3
 unfold Tok.cells
 go_wp2_with fail
 clear he0 he1 he2 he3 he4
 refine (zfs HR1.out).mono ?_
 rintro e W2 ⟨rfl, b2⟩
 have HR2 : Hid (Rdr T W2 g st cap ts p) := HR1.out.low b2
 have HG2 : Hid (w.grownBy W2 (some g)) := zaa HG1.out (zad b2)
 clear b2 HR1 HG1
 obtain ⟨bn, hbn⟩ : ∃ bn, namB ts p = bn := ⟨_, rfl⟩
 rw [hbn] at HXb4 ⊢
 clear hbn
 cases bn
 ·have HXa : Hid _ := zbh (by rfl) HXb4.out
  clear HXb4 HE
  go_wp2_with fail
  refine ((zib n HR2.out (by rw [HXa.out]; exact HO.out)).mono fun e W h => PtP.from HG2.out h).mono ?_
  rintro e W3 hP
  rw [HXa.out] at hP
  have HP : Hid (PtP T w g st cap ts r e W3) := hP
  clear HXa HG2 HR2 HO HH
  rcases r with ⟨t9, q9⟩ | s9 | _
  ·obtain ⟨-, b9, rfl, -⟩ := hP
   go_wp2
   go_ret
   exact HP.out
  ·obtain ⟨-, hm'⟩ := hP
   have hm2 : e = wroE s9 := hm'
   subst hm2
   clear hm'
   unfold wroE at HP ⊢
   go_wp2
   exact ⟨rfl, HP.out⟩
  ·exact hP.2.elim
 go_wp2_with fail
 refine (zi4 1 (Nat.le_refl _) HR2.out).mono ?_
 rintro e W3 ⟨rfl, b3⟩
 have HR3 : Hid (Rdr T W3 g st cap ts p) := HR2.out.low b3
 have HG3 : Hid (w.grownBy W3 (some g)) := zaa HG2.out (zad b3)
 have HE1 : Hid _ := HE.out (p + 1) [58, 61]
 clear b3 HR2 HG2 HE
 obtain ⟨bb, hb⟩ : ∃ bb, isT ts (p + 1) [58, 61] = bb := ⟨_, rfl⟩
 rw [hb] at HXb4 HE1
 unfold Tok.cells
 cases bb
 ·have he5 : ((nxT ts (p + 1)).text.toList == [58, 61]) = false := HE1.out
  have HXa : Hid _ := zbh (by rfl) HXb4.out
  clear HXb4 hb
  go_wp2_with fail
  refine ((zib n HR3.out (by rw [HXa.out]; exact HO.out)).mono fun e W h => PtP.from HG3.out h).mono ?_
  rintro e W4 hP
  rw [HXa.out] at hP
  have HP : Hid (PtP T w g st cap ts r e W4) := hP
  clear HXa HG3 HR3 HO HH
  rcases r with ⟨t9, q9⟩ | s9 | _
  ·obtain ⟨-, b9, rfl, -⟩ := hP
   go_wp2
   go_ret
   exact HP.out
  ·obtain ⟨-, hm'⟩ := hP
   have hm2 : e = wroE s9 := hm'
   subst hm2
   clear hm'
   unfold wroE at HP ⊢
   go_wp2
   exact ⟨rfl, HP.out⟩
  ·exact hP.2.elim
 have he5 : ((nxT ts (p + 1)).text.toList == [58, 61]) = true := HE1.out
 have HXa : Hid _ := za2 (by rfl) HXb4.out
 clear HXb4 hb
 go_wp2_with fail
 refine ((zqh n HR3.out (by rw [HXa.out]; exact HO.out)).mono fun e W h => PtP.from HG3.out h).mono ?_
 rintro e W4 hP
 rw [HXa.out] at hP
 have HP : Hid (PtP T w g st cap ts r e W4) := hP
 clear HXa HG3 HR3 HO HH
 rcases r with ⟨t9, q9⟩ | s9 | _
 ·obtain ⟨-, b9, rfl, -⟩ := hP
  go_wp2
  go_ret
  exact HP.out
 ·obtain ⟨-, hm'⟩ := hP
  have hm2 : e = wroE s9 := hm'
  subst hm2
  clear hm'
  unfold wroE at HP ⊢
  go_wp2
  exact ⟨rfl, HP.out⟩
 ·exact hP.2.elim
theorem zjj (n : Nat) : StmC ts T g st cap n := by
 induction n using Nat.strongRecOn with
 | ind n ih =>
  cases n with
  | zero => exact ⟨fun _ _ _ h => absurd rfl h, fun _ _ _ h => absurd rfl h⟩
  | succ n =>
   have h : ∀ m, m <= n -> StmC ts T g st cap m := fun m hm => ih m (by omega)
   exact ⟨fun w p hR ho => zq3 h hR ho, fun w p hR ho => zq2 h hR ho⟩
end
end Go.Proofs.YtbadafkfjfbnlaaGreatDoor
