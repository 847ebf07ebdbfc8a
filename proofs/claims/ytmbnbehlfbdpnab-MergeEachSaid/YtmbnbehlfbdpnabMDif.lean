/- The contract of tree's Diff. -/
import Derived.Test.YtmbnbehlfbdpnabMDel
import Derived.Test.YtmbnbehlfbdpnabMFdr
namespace Go.Proofs.Ytmbnbehlfbdpnab
open Go.RowKit

def pathsOf (xs : List Fi) : List (List UInt8) := xs.map fun f => f.path.data.toList
/-- All paths of two, rising, each once. -/
def diffPs (a b : List Fi) : List (List UInt8) := Lib.compact (sortS (pathsOf (a ++ b)))
def deltaOf (a b : List Fi) (p : List UInt8) : De := ⟨⟨p.toArray⟩, (findB a ⟨p.toArray⟩).2, (findB b ⟨p.toArray⟩).2, (findB a ⟨p.toArray⟩).1, (findB b ⟨p.toArray⟩).1⟩
def deltaB (d : De) : Bool := (d.was != d.is) || (d.old.toList != d.new.toList)
def diffL (a b : List Fi) : List De := ((diffPs a b).map (deltaOf a b)).filter deltaB
/-- What Diff tells. -/
def DiffP (w : World) (x y : Sl) (e : Ending) (w' : World) : Prop :=
  (if repoB x.fs && repoB y.fs then ∃ v, e = .returned (.tuple #[v, .int .i64 0]) ∧ OwnD w.heap.size w' v (diffL x.fs y.fs) else e = .returned (.tuple #[.slice none 0 0, .int .i64 170])) ∧ Below w.heap.size w w'
theorem pathsOf_len (xs : List Fi) : (pathsOf xs).length = xs.length := by simp [pathsOf]
theorem sortS_len (ss : List (List UInt8)) : (sortS ss).length = ss.length := by simp [sortS]
theorem diffPs_len (a b : List Fi) : (diffPs a b).length ≤ a.length + b.length := by
  have := compact_le (sortS (pathsOf (a ++ b)))
  rw [sortS_len, pathsOf_len, List.length_append] at this
  exact this

theorem list_append {P : Program} {ops : Array Oper} {rest : List Oper} {Q : Exit → Act → World → Prop} {a : Act} {w w' : World} {o : Oper} {v' vs vx : Value} (hgd : o.guard = none) (s x : Operand) (t : TypeId)
    (ho : o.op = .call { callee := .builtin .append, args := #[s, x], argTypes := #[t, t] }) (hs : a.eval s = vs) (hx : a.eval x = vx) (hr : (Builtin.append_ #[t, t] o.type #[vs, vx]).run P w = .ok v' w') (h : wpList P ops Q rest (a.put o.dst v') w') : wpList P ops Q (o :: rest) a w :=
  wpList_plain hgd fun _ hK => op_append s x t ho hs hx hr (hK _ _ h)
set_option maxRecDepth 100000 in
set_option maxHeartbeats 4000000 in
theorem diff_any (x y : Sl) (w : World) (hx : SlS w x) (hy : SlS w y) (nx : x.sp = none → x.fs.length = 0 ∧ x.cap = 0) (ny : y.sp = none → y.fs.length = 0 ∧ y.cap = 0) :
    Calls Try.prog 14 #[.agg #[.slice x.sp x.fs.length x.cap], .agg #[.slice y.sp y.fs.length y.cap]] w (DiffP w x y) := by
  have HX : Hid (SlS w x ∧ (x.sp = none → x.fs.length = 0 ∧ x.cap = 0)) := ⟨hx, nx⟩
  have HY : Hid (SlS w y ∧ (y.sp = none → y.fs.length = 0 ∧ y.cap = 0)) := ⟨hy, ny⟩
  clear hx hy nx ny
  go_enter Try.func14, Try.ntmps14
  go_wp2_with fail
  refine calls_gen (fun W1 => Below w.heap.size w W1 ∧ W1.heap[w.heap.size]? = some (.cells #[.slice x.sp x.fs.length x.cap] 24 (0, 0)) ∧ W1.heap[w.heap.size + 1]? = some (.cells #[.slice y.sp y.fs.length y.cap] 24 (0, 0))) ⟨((Below.refl _ _).alloc (Nat.le_refl _) _).alloc (by simp) _, (Below.heap_alloc _ _ _ (by simp)).trans (heap_alloc_new _ _), ?_⟩ ?_
  · have := heap_alloc_new (w.alloc (.cells #[.slice x.sp x.fs.length x.cap] 24)) (.cells #[.slice y.sp y.fs.length y.cap] 24)
    rw [World.size_alloc] at this
    exact this
  rintro W1 ⟨hB1, r1, r2⟩
  have HR : Hid (∀ W, Below W1.heap.size W1 W → W.heap[w.heap.size]? = some (.cells #[.slice x.sp x.fs.length x.cap] 24 (0, 0)) ∧ W.heap[w.heap.size + 1]? = some (.cells #[.slice y.sp y.fs.length y.cap] 24 (0, 0)) ∧ Below w.heap.size w W ∧ SlS W x ∧ SlS W y) := fun W h =>
    have hb := hB1.trans (h.mono hB1.size)
    ⟨(h.block _ (lt_of_row r1)).trans r1, (h.block _ (lt_of_row r2)).trans r2, hb, ⟨HX.out.1.1.below hb, HX.out.1.2⟩, ⟨HY.out.1.1.below hb, HY.out.1.2⟩⟩
  obtain ⟨-, -, -, sx, sy⟩ := HR.out W1 (Below.refl _ _)
  refine (tcheck_any x.sp x.cap x.fs W1 sx.1.1 sx.2.1 sx.2.2).mono ?_
  clear sx sy r1 r2
  rintro e W2 ⟨rfl, b2⟩
  obtain ⟨q1, q2, hb2, -, -⟩ := HR.out W2 b2
  have c1 : W2.cell? ⟨w.heap.size, 0, none⟩ = some (.slice x.sp x.fs.length x.cap) := (cell_of_row _ _ _ _ _ _ q1).trans rfl
  have c2 : W2.cell? ⟨w.heap.size + 1, 0, none⟩ = some (.slice y.sp y.fs.length y.cap) := (cell_of_row _ _ _ _ _ _ q2).trans rfl
  clear q1 q2
  have HBAD : Hid ((repoB x.fs && repoB y.fs) = false → ∀ W, Below w.heap.size w W → DiffP w x y (.returned (.tuple #[.slice none 0 0, .int .i64 170])) W) := fun h W hW => ⟨by rw [h]; rfl, hW⟩
  cases hra : repoB x.fs with
  | false =>
    rw [show checkR x.fs = 170 by unfold checkR; rw [hra]; rfl]
    have HP : Hid (DiffP w x y (.returned (.tuple #[.slice none 0 0, .int .i64 170])) W2) := HBAD.out (by rw [hra]; rfl) W2 hb2
    clear hra
    go_wp2
    refine bodyPost_ret (v := .tuple #[.slice none 0 0, .int .i64 170]) (results_two Try.results14 _ _ _ _ rfl rfl) rfl HP.out
  | true =>
    rw [show checkR x.fs = 0 by unfold checkR; rw [hra]; rfl]
    go_wp2_with fail
    obtain ⟨-, -, -, sx, sy⟩ := HR.out W2 b2
    refine (tcheck_any y.sp y.cap y.fs W2 sy.1.1 sy.2.1 sy.2.2).mono ?_
    clear sx sy
    rintro e W3 ⟨rfl, b23⟩
    have b3 : Below W1.heap.size W1 W3 := b2.trans (b23.mono b2.size)
    obtain ⟨q1, q2, hb3, -, -⟩ := HR.out W3 b3
    have d1 : W3.cell? ⟨w.heap.size, 0, none⟩ = some (.slice x.sp x.fs.length x.cap) := (cell_of_row _ _ _ _ _ _ q1).trans rfl
    have d2 : W3.cell? ⟨w.heap.size + 1, 0, none⟩ = some (.slice y.sp y.fs.length y.cap) := (cell_of_row _ _ _ _ _ _ q2).trans rfl
    clear q1 q2 b23 c1 c2
    cases hrb : repoB y.fs with
    | false =>
      rw [show checkR y.fs = 170 by unfold checkR; rw [hrb]; rfl]
      have HP : Hid (DiffP w x y (.returned (.tuple #[.slice none 0 0, .int .i64 170])) W3) := HBAD.out (by rw [hra, hrb]; rfl) W3 hb3
      clear hra hrb
      go_wp2
      refine bodyPost_ret (v := .tuple #[.slice none 0 0, .int .i64 170]) (results_two Try.results14 _ _ _ _ rfl rfl) rfl HP.out
    | true =>
      rw [show checkR y.fs = 0 by unfold checkR; rw [hrb]; rfl]
      have HGOOD : Hid (∀ v W, OwnD w.heap.size W v (diffL x.fs y.fs) → Below w.heap.size w W → DiffP w x y (.returned (.tuple #[v, .int .i64 0])) W) := fun v W ho hW => ⟨by rw [hra, hrb]; exact ⟨v, rfl, ho⟩, hW⟩
      have hlx : x.fs.length ≤ 16 := by unfold repoB at hra; simp only [Bool.and_eq_true, decide_eq_true_eq] at hra; exact hra.1
      have hly : y.fs.length ≤ 16 := by unfold repoB at hrb; simp only [Bool.and_eq_true, decide_eq_true_eq] at hrb; exact hrb.1
      clear hra hrb HBAD
      go_wp2_with fail
      have b34 : Below W3.heap.size W3 (W3.alloc (.cells #[.slice x.sp x.fs.length x.cap, .slice y.sp y.fs.length y.cap] 22)) := (Below.refl _ _).alloc (Nat.le_refl _) _
      have b4 : Below W1.heap.size W1 (W3.alloc (.cells #[.slice x.sp x.fs.length x.cap, .slice y.sp y.fs.length y.cap] 22)) := b3.trans (b34.mono b3.size)
      have g4 := heap_alloc_new W3 (.cells #[.slice x.sp x.fs.length x.cap, .slice y.sp y.fs.length y.cap] 22)
      obtain ⟨-, -, hb4, sx, sy⟩ := HR.out _ b4
      generalize W3.alloc (.cells #[.slice x.sp x.fs.length x.cap, .slice y.sp y.fs.length y.cap] 22) = W4 at b34 b4 g4 sx sy hb4 ⊢
      have hR4 : RowsAt W4 1 Pt.cells (some ⟨W3.heap.size, 0, none⟩) [⟨x.sp, x.fs, x.cap⟩, ⟨y.sp, y.fs, y.cap⟩] := fun _ => by
        refine ⟨W3.heap.size, 0, rfl, fun i z hz j u hu => ?_⟩
        rw [cell_of_row _ _ _ _ _ _ g4]
        match i with
        | 0 =>
          obtain rfl : _ = z := by simpa using hz
          match j with
          | 0 => simpa [Pt.cells] using hu
          | j + 1 => simp [Pt.cells] at hu
        | 1 =>
          obtain rfl : _ = z := by simpa using hz
          match j with
          | 0 => simpa [Pt.cells] using hu
          | j + 1 => simp [Pt.cells] at hu
        | i + 2 => simp at hz
      have hP4 : PtsAt W4 [⟨x.sp, x.fs, x.cap⟩, ⟨y.sp, y.fs, y.cap⟩] := fun p hp => by
        rcases List.mem_cons.1 hp with rfl | hp
        · exact ⟨sx.1.1, HX.out.2⟩
        · obtain rfl : p = _ := by simpa using hp
          exact ⟨sy.1.1, HY.out.2⟩
      refine (concatF_any (some ⟨W3.heap.size, 0, none⟩) 2 _ W4 hR4 hP4 (by simp) (by simp [sizeP]; omega)).mono ?_
      clear hR4 hP4 sx sy g4 b34 d1 d2 hb3 hb2 b3
      rintro e W5 ⟨⟨v5, rfl, ho5⟩, b45⟩
      have b5 : Below W1.heap.size W1 W5 := b4.trans (b45.mono b4.size)
      obtain ⟨sv, cv, hv5, hr5, -⟩ := ho5.rows
      have efl : flatP [⟨x.sp, x.fs, x.cap⟩, ⟨y.sp, y.fs, y.cap⟩] = x.fs ++ y.fs := by simp [flatP]
      rw [efl] at hv5 hr5
      subst hv5
      have HR5 : Hid (RowsAt W5 2 Fi.cells sv (x.fs ++ y.fs)) := hr5
      obtain ⟨-, -, hb5, -, -⟩ := HR.out W5 b5
      have hlz : (x.fs ++ y.fs).length ≤ 32 := by rw [List.length_append]; omega
      have HDL : Hid (diffPs x.fs y.fs = Lib.compact (sortS (pathsOf (x.fs ++ y.fs)))) := rfl
      generalize x.fs ++ y.fs = zs at hlz HR5 HDL ⊢
      clear ho5 efl hr5 b45 b4 hb4
      go_wp2
      go_loopw [6, 30] (fun l i wr => ∃ t : Nat, t ≤ zs.length ∧ i = .int .i64 t ∧ OwnS W5.heap.size wr l (pathsOf (zs.take t)) ∧ Below W5.heap.size W5 wr) (fun _ i _ => zs.length - (intOf i).toNat)
      case atStart => exact ⟨0, Nat.zero_le _, rfl, ownS_nil _ _, Below.refl _ _⟩
      case round =>
        obtain ⟨t, ht, rfl, hos, hB⟩ := hrel
        have HOS : Hid (OwnS W5.heap.size wr _ (pathsOf (zs.take t))) := hos
        clear hos
        by_cases hlt : t < zs.length
        · have hd : decide ((t : Int) < zs.length) = true := by simp; omega
          obtain ⟨b, off, rfl, -⟩ := HR5.out (by omega)
          obtain ⟨f, hf⟩ : ∃ f, zs[t]? = some f := ⟨_, List.getElem?_eq_getElem hlt⟩
          have hc := fi_cell (RowsAt.below HR5.out hB) hf
          have c0 := hc.1
          have c1 := hc.2
          have HST : Hid (pathsOf (zs.take (t + 1)) = pathsOf (zs.take t) ++ [f.path.data.toList]) := by
            show pathsOf (zs.take (t + 1)) = _
            rw [List.take_add_one, hf]
            simp [pathsOf]
          have HLN : Hid ((pathsOf (zs.take t)).length + 1 ≤ 100000) := by
            show (pathsOf (zs.take t)).length + 1 ≤ 100000
            rw [pathsOf_len, List.length_take]
            omega
          have B2 : Below wr.heap.size wr ((wr.alloc (.cells #[.string f.path, .string f.text] 46)).alloc (.cells #[.string f.path] 9)) := ((Below.refl _ _).alloc (Nat.le_refl _) _).alloc (by simp) _
          have g2 := heap_alloc_new (wr.alloc (.cells #[.string f.path, .string f.text] 46)) (.cells #[.string f.path] 9)
          rw [World.size_alloc] at g2
          obtain ⟨v9, W9, hr9, ho9, hg9⟩ := text_run 33 (HOS.out.below B2) g2 HLN.out (Nat.le_trans hB.size B2.size)
          have HB9 : Hid (Below W5.heap.size W5 W9) := OwnS.grown (HOS.out.below B2) (Nat.le_refl _) (Nat.le_trans hB.size B2.size) (hB.trans (B2.mono hB.size)) hg9
          have HO9 : Hid (OwnS W5.heap.size W9 v9 (pathsOf (zs.take t) ++ [f.path.data.toList])) := ho9
          clear hc hf g2 B2 ho9 hg9
          go_wp2_with (refine list_append (by rfl) (.tmp 34) (.tmp 37) 33 (by rfl) (by rfl) (by rfl) hr9 ?_)
          go_roundw
          case rel => exact ⟨t + 1, by omega, by go_num, by rw [HST.out]; exact HO9.out, HB9.out⟩
          case measure => simp [intOf]; omega
        · have hd : decide ((t : Int) < zs.length) = false := by simp; omega
          obtain rfl : t = zs.length := by omega
          rw [List.take_length] at HOS
          have hlp : (pathsOf zs).length ≤ 32 := by rw [pathsOf_len]; exact hlz
          generalize pathsOf zs = ps at HOS HDL hlp
          clear HR5
          go_wp2_with fail
          refine (sort_own HOS.out (by omega)).mono ?_
          rintro e W6 ⟨rfl, ho6, hg6⟩
          have HO6 : Hid (OwnS W5.heap.size W6 _ (sortS ps)) := ho6
          have b56 : Below W5.heap.size W5 W6 := OwnS.grown HOS.out (Nat.le_refl _) hB.size hB hg6
          have b6 : Below W1.heap.size W1 W6 := b5.trans (b56.mono b5.size)
          obtain ⟨q1, q2, hb6, -, -⟩ := HR.out W6 b6
          clear ho6 hg6 HOS
          go_wp2
          refine wp_mono (Q := fun e a' W' => e = .normal ∧ ∃ g1 g2 : Nat, a' = { tmps := #[.agg #[.slice x.sp x.fs.length x.cap], .agg #[.slice y.sp y.fs.length y.cap], .pointer (some ⟨w.heap.size, 0, none⟩), .pointer (some ⟨w.heap.size + 1, 0, none⟩), .slice none 0 0, .int .i64 0, u6, undef, u8, .func (.func 24) #[] #[.pointer (some ⟨g1, 0, none⟩)], .func (.func 24) #[] #[.pointer (some ⟨g2, 0, none⟩)], undef, undef, undef, undef, .agg #[.slice x.sp x.fs.length x.cap], .int .i64 0, .bool false, .bool false, .agg #[.slice y.sp y.fs.length y.cap], .int .i64 0, .bool false, .bool false, .pointer (some ⟨w.heap.size, 0, none⟩), .slice x.sp x.fs.length x.cap, .pointer (some ⟨w.heap.size + 1, 0, none⟩), .slice y.sp y.fs.length y.cap, .slice (some ⟨W3.heap.size, 0, none⟩) 2 2, .slice sv zs.length cv, .int .i64 zs.length, .int .i64 zs.length, .bool false, u32, u33, u34, u35, u36, u37, u38, u39, u6, .tuple #[], .agg #[.slice x.sp x.fs.length x.cap], .func (.func 24) #[] #[.pointer (some ⟨g1, 0, none⟩)], .agg #[.slice y.sp y.fs.length y.cap], .func (.func 24) #[] #[.pointer (some ⟨g2, 0, none⟩)], undef, undef, undef, undef, undef, undef, undef, undef, undef, undef, undef, undef, undef, undef, undef, undef, undef, undef, undef, undef, undef, undef, undef, undef, undef, undef, undef, undef, undef, undef, undef, undef, undef, undef, undef, undef, undef, undef, undef, undef, undef, undef, undef], defers := [] } ∧ W'.heap[g1]? = some (.cells #[.slice x.sp x.fs.length x.cap] 24 (0, 0)) ∧ W'.heap[g2]? = some (.cells #[.slice y.sp y.fs.length y.cap] 24 (0, 0)) ∧ Below W6.heap.size W6 W') ?_ ?_
          · refine wp_frm 89 rfl ?_
            refine two_finders 89 2 3 42 43 44 45 9 10 _ w.heap.size W6 (.slice x.sp x.fs.length x.cap) (.slice y.sp y.fs.length y.cap) rfl (by kernel_rfl) rfl rfl rfl rfl rfl rfl ⟨rfl, rfl, rfl⟩ ⟨rfl, rfl, rfl⟩ ⟨rfl, rfl, rfl⟩ ⟨rfl, rfl, rfl⟩ ⟨rfl, rfl, rfl⟩ ⟨rfl, rfl, rfl⟩ ⟨by kernel_rfl, by kernel_rfl, by kernel_rfl, by kernel_rfl⟩ (by decide) rfl rfl q1 q2 ?_
            intro g1 g2 W' e1 e2 hb
            exact ⟨rfl, g1, g2, congrArg (fun t => Act.mk t []) (by kernel_rfl), e1, e2, hb⟩
          rintro e a' W7 ⟨rfl, g1, g2, rfl, r1, r2, b67⟩
          dsimp only
          have b7 : Below W1.heap.size W1 W7 := b6.trans (b67.mono b6.size)
          have b57 : Below W5.heap.size W5 W7 := b56.trans (b67.mono b56.size)
          have HO7 : Hid (OwnS W5.heap.size W7 _ (sortS ps)) := HO6.out.below b67
          have hl7 : (sortS ps).length ≤ 32 := by rw [sortS_len]; exact hlp
          clear q1 q2 HO6 hb6 b6 b67 b56
          go_wp2_with fail
          refine (compact_own HO7.out (by omega)).mono ?_
          rintro e W8 ⟨v8, rfl, ho8, hg8⟩
          have hnr : ∀ (g : Nat) (v : Value), W7.heap[g]? = some (.cells #[v] 24 (0, 0)) → W8.heap[g]? = some (.cells #[v] 24 (0, 0)) := fun g v hg => (hg8.block g (lt_of_row hg) fun e => by
            obtain ⟨cs, hcs⟩ := HO7.out.row e.symm
            rw [hg] at hcs
            injection hcs with hcs
            injection hcs with _ hcs
            exact absurd hcs (by decide)).trans hg
          have t1 := hnr _ _ r1
          have t2 := hnr _ _ r2
          have b58 : Below W5.heap.size W5 W8 := OwnS.grown HO7.out (Nat.le_refl _) b57.size b57 hg8
          have b8 : Below W1.heap.size W1 W8 := b5.trans (b58.mono b5.size)
          obtain ⟨-, -, hb8, sx8, sy8⟩ := HR.out W8 b8
          rw [← HDL.out] at ho8
          have hlq := diffPs_len x.fs y.fs
          have HDF : Hid (diffL x.fs y.fs = ((diffPs x.fs y.fs).map (deltaOf x.fs y.fs)).filter deltaB) := rfl
          generalize diffPs x.fs y.fs = qs at ho8 hlq HDF
          obtain ⟨sq, cq, rfl, hcq⟩ := ho8.shape
          have HCQ : Hid (∀ W, Below W8.heap.size W8 W → ∀ i q, qs[i]? = some q → ∃ b, sq = some ⟨b, 0, none⟩ ∧ W.cell? ⟨b, i, none⟩ = some (.string ⟨q.toArray⟩)) := fun W h i q hq => by
            obtain ⟨b, e, hc⟩ := hcq i q hq
            exact ⟨b, e, (h.cell (p := ⟨b, i, none⟩) (block_lt_of_cell hc)).trans hc⟩
          have HT : Hid (∀ W, Below W8.heap.size W8 W → W.cell? ⟨g1, 0, none⟩ = some (.slice x.sp x.fs.length x.cap) ∧ W.cell? ⟨g2, 0, none⟩ = some (.slice y.sp y.fs.length y.cap) ∧ RowsAt W 2 Fi.cells x.sp x.fs ∧ RowsAt W 2 Fi.cells y.sp y.fs ∧ Below w.heap.size w W) := fun W h =>
            ⟨(cell_of_row _ _ _ _ _ _ ((h.block _ (lt_of_row t1)).trans t1)).trans rfl, (cell_of_row _ _ _ _ _ _ ((h.block _ (lt_of_row t2)).trans t2)).trans rfl, RowsAt.below sx8.1.1 h, RowsAt.below sy8.1.1 h, hb8.trans (h.mono hb8.size)⟩
          clear ho8 hcq t1 t2 hnr r1 r2 hg8 HO7 sx8 sy8 b7 b57 b58 hl7
          go_wp2
          go_loopw [11, 49] (fun l i wr => ∃ t : Nat, t ≤ qs.length ∧ i = .int .i64 t ∧ OwnD W8.heap.size wr l (((qs.take t).map (deltaOf x.fs y.fs)).filter deltaB) ∧ Below W8.heap.size W8 wr) (fun _ i _ => qs.length - (intOf i).toNat)
          case atStart => exact ⟨0, Nat.zero_le _, rfl, ownD_nil _ _, Below.refl _ _⟩
          case round =>
            obtain ⟨t, ht, rfl, hod, hB⟩ := hrel
            have HOD : Hid (OwnD W8.heap.size wr _ (((qs.take t).map (deltaOf x.fs y.fs)).filter deltaB)) := hod
            clear hod
            by_cases hlt : t < qs.length
            · have hd : decide ((t : Int) < qs.length) = true := by simp; omega
              obtain ⟨q, hq⟩ : ∃ q, qs[t]? = some q := ⟨_, List.getElem?_eq_getElem hlt⟩
              obtain ⟨bq, rfl, cq0⟩ := HCQ.out wr hB t q hq
              have HST : Hid (((qs.take (t + 1)).map (deltaOf x.fs y.fs)).filter deltaB = ((qs.take t).map (deltaOf x.fs y.fs)).filter deltaB ++ (if deltaB (deltaOf x.fs y.fs q) then [deltaOf x.fs y.fs q] else [])) := by
                show _ = _
                rw [List.take_add_one, hq, Option.toList_some, List.map_append, List.filter_append]
                congr 1
                simp only [List.map_cons, List.map_nil, List.filter_cons, List.filter_nil]
              have HLN : Hid ((((qs.take t).map (deltaOf x.fs y.fs)).filter deltaB).length + 1 ≤ 100000) := by
                have h1 := List.length_filter_le deltaB ((qs.take t).map (deltaOf x.fs y.fs))
                rw [List.length_map, List.length_take] at h1
                show (((qs.take t).map (deltaOf x.fs y.fs)).filter deltaB).length + 1 ≤ 100000
                omega
              have HDE : Hid (deltaOf x.fs y.fs q = ⟨⟨q.toArray⟩, (findB x.fs ⟨q.toArray⟩).2, (findB y.fs ⟨q.toArray⟩).2, (findB x.fs ⟨q.toArray⟩).1, (findB y.fs ⟨q.toArray⟩).1⟩) := rfl
              clear hq
              go_wp2_with fail
              refine calls_gen (fun Wa => Below wr.heap.size wr Wa ∧ Wa.heap[wr.heap.size]? = some (.cells (De.cells ⟨⟨q.toArray⟩, false, false, ⟨#[]⟩, ⟨#[]⟩⟩) 57 (0, 0))) ⟨(Below.refl _ _).alloc (Nat.le_refl _) _, heap_alloc_new _ _⟩ ?_
              rintro Wa ⟨ba, ra⟩
              obtain ⟨u1, -, ux, -, -⟩ := HT.out Wa (hB.trans (ba.mono hB.size))
              refine (finder1_any x.sp x.cap x.fs ⟨q.toArray⟩ g1 Wa ux (by omega) u1).mono ?_
              rintro e Wb ⟨rfl, bb⟩
              generalize findB x.fs ⟨q.toArray⟩ = fa at HDE ⊢
              obtain ⟨o, ws⟩ := fa
              dsimp only at HDE ⊢
              have rb := (bb.block _ (lt_of_row ra)).trans ra
              have bwb : Below wr.heap.size wr Wb := ba.trans (bb.mono ba.size)
              have k3 : Wb.cell? ⟨wr.heap.size, 3, none⟩ = some (.string ⟨#[]⟩) := (cell_of_row _ _ _ _ _ _ rb).trans rfl
              have k1 : Wb.cell? ⟨wr.heap.size, 1, none⟩ = some (.bool false) := (cell_of_row _ _ _ _ _ _ rb).trans rfl
              have z3 : Wb.frozen? ⟨wr.heap.size, 3, none⟩ = false := frozen_of_row _ _ _ _ _ rb
              have z1 : Wb.frozen? ⟨wr.heap.size, 1, none⟩ = false := frozen_of_row _ _ _ _ _ rb
              clear u1 ux ra ba bb
              go_wp2_with fail
              refine calls_gen (fun Wc => Below wr.heap.size wr Wc ∧ Wc.heap[wr.heap.size]? = some (.cells (De.cells ⟨⟨q.toArray⟩, ws, false, o, ⟨#[]⟩⟩) 57 (0, 0))) ⟨(bwb.setCell (p := ⟨wr.heap.size, 3, none⟩) (Nat.le_refl _) _).setCell (p := ⟨wr.heap.size, 1, none⟩) (Nat.le_refl _) _, heap_setCell_same _ _ 1 _ _ _ (heap_setCell_same _ _ 3 _ _ _ rb)⟩ ?_
              rintro Wc ⟨bc, rc⟩
              clear k3 k1 z3 z1 rb bwb
              obtain ⟨-, u2, -, uy, -⟩ := HT.out Wc (hB.trans (bc.mono hB.size))
              refine (finder1_any y.sp y.cap y.fs ⟨q.toArray⟩ g2 Wc uy (by omega) u2).mono ?_
              rintro e Wd ⟨rfl, bd⟩
              generalize findB y.fs ⟨q.toArray⟩ = fb at HDE ⊢
              obtain ⟨nw, is⟩ := fb
              dsimp only at HDE ⊢
              have rd := (bd.block _ (lt_of_row rc)).trans rc
              have bwd : Below wr.heap.size wr Wd := bc.trans (bd.mono bc.size)
              have k1 : Wd.cell? ⟨wr.heap.size, 1, none⟩ = some (.bool ws) := (cell_of_row _ _ _ _ _ _ rd).trans rfl
              have k2 : Wd.cell? ⟨wr.heap.size, 2, none⟩ = some (.bool false) := (cell_of_row _ _ _ _ _ _ rd).trans rfl
              have k3 : Wd.cell? ⟨wr.heap.size, 3, none⟩ = some (.string o) := (cell_of_row _ _ _ _ _ _ rd).trans rfl
              have k4 : Wd.cell? ⟨wr.heap.size, 4, none⟩ = some (.string ⟨#[]⟩) := (cell_of_row _ _ _ _ _ _ rd).trans rfl
              have k0 : Wd.cell? ⟨wr.heap.size, 0, none⟩ = some (.string ⟨q.toArray⟩) := (cell_of_row _ _ _ _ _ _ rd).trans rfl
              have z4 : Wd.frozen? ⟨wr.heap.size, 4, none⟩ = false := frozen_of_row _ _ _ _ _ rd
              have z2 : Wd.frozen? ⟨wr.heap.size, 2, none⟩ = false := frozen_of_row _ _ _ _ _ rd
              have bE : Below wr.heap.size wr ((Wd.setCell ⟨wr.heap.size, 4, none⟩ (.string nw)).setCell ⟨wr.heap.size, 2, none⟩ (.bool is)) := (bwd.setCell (p := ⟨wr.heap.size, 4, none⟩) (Nat.le_refl _) _).setCell (p := ⟨wr.heap.size, 2, none⟩) (Nat.le_refl _) _
              have hzE : ((Wd.setCell ⟨wr.heap.size, 4, none⟩ (.string nw)).setCell ⟨wr.heap.size, 2, none⟩ (.bool is)).heap.size = Wd.heap.size := by simp [World.setCell]
              have BE : Hid (Below wr.heap.size wr ((Wd.setCell ⟨wr.heap.size, 4, none⟩ (.string nw)).setCell ⟨wr.heap.size, 2, none⟩ (.bool is))) := bE
              have bA : Below wr.heap.size wr (((Wd.setCell ⟨wr.heap.size, 4, none⟩ (.string nw)).setCell ⟨wr.heap.size, 2, none⟩ (.bool is)).alloc (.cells (De.cells ⟨⟨q.toArray⟩, ws, is, o, nw⟩) 57)) := bE.alloc bE.size _
              have gA := heap_alloc_new ((Wd.setCell ⟨wr.heap.size, 4, none⟩ (.string nw)).setCell ⟨wr.heap.size, 2, none⟩ (.bool is)) (.cells (De.cells ⟨⟨q.toArray⟩, ws, is, o, nw⟩) 57)
              obtain ⟨v9, W9, hr9, ho9, hg9⟩ := delta_run 53 (HOD.out.below bA) gA HLN.out (Nat.le_trans hB.size bA.size)
              have HB9 : Hid (Below W8.heap.size W8 W9) := OwnD.grown (HOD.out.below bA) (Nat.le_refl _) (Nat.le_trans hB.size bA.size) (hB.trans (bA.mono hB.size)) hg9
              have HO9 : Hid (OwnD W8.heap.size W9 v9 _) := ho9
              rw [hzE] at hr9
              have hlw := lt_of_row rd
              clear bA gA ho9 hg9 bE hzE rd rc bc bd uy u2 bwd
              have HDB : Hid (deltaB (deltaOf x.fs y.fs q) = ((ws != is) || !(o.toList == nw.toList))) := by show deltaB (deltaOf x.fs y.fs q) = _; rw [HDE.out]; rfl
              cases ws <;> cases is
              case false.true =>
                have HST2 : Hid (((qs.take (t + 1)).map (deltaOf x.fs y.fs)).filter deltaB = ((qs.take t).map (deltaOf x.fs y.fs)).filter deltaB ++ [⟨⟨q.toArray⟩, false, true, o, nw⟩]) := by show _ = _; rw [HST.out, HDB.out, HDE.out]; rfl
                go_wp2_with (refine list_append (by rfl) (.tmp 83) (.tmp 85) 53 (by rfl) (by rfl) (by rfl) hr9 ?_)
                go_roundw
                case rel => exact ⟨t + 1, by omega, by go_num, by rw [HST2.out]; exact HO9.out, HB9.out⟩
                case measure => simp [intOf]; omega
              case true.false =>
                have HST2 : Hid (((qs.take (t + 1)).map (deltaOf x.fs y.fs)).filter deltaB = ((qs.take t).map (deltaOf x.fs y.fs)).filter deltaB ++ [⟨⟨q.toArray⟩, true, false, o, nw⟩]) := by show _ = _; rw [HST.out, HDB.out, HDE.out]; rfl
                go_wp2_with (refine list_append (by rfl) (.tmp 83) (.tmp 85) 53 (by rfl) (by rfl) (by rfl) hr9 ?_)
                go_roundw
                case rel => exact ⟨t + 1, by omega, by go_num, by rw [HST2.out]; exact HO9.out, HB9.out⟩
                case measure => simp [intOf]; omega
              case false.false =>
                cases hon : (o.toList == nw.toList) with
                | false =>
                  rw [hon] at HDB
                  have HST2 : Hid (((qs.take (t + 1)).map (deltaOf x.fs y.fs)).filter deltaB = ((qs.take t).map (deltaOf x.fs y.fs)).filter deltaB ++ [⟨⟨q.toArray⟩, false, false, o, nw⟩]) := by show _ = _; rw [HST.out, HDB.out, HDE.out]; rfl
                  go_wp2_with (refine list_append (by rfl) (.tmp 83) (.tmp 85) 53 (by rfl) (by rfl) (by rfl) hr9 ?_)
                  go_roundw
                  case rel => exact ⟨t + 1, by omega, by go_num, by rw [HST2.out]; exact HO9.out, HB9.out⟩
                  case measure => simp [intOf]; omega
                | true =>
                  rw [hon] at HDB
                  have HST2 : Hid (((qs.take (t + 1)).map (deltaOf x.fs y.fs)).filter deltaB = ((qs.take t).map (deltaOf x.fs y.fs)).filter deltaB) := by show _ = _; rw [HST.out, HDB.out]; simp
                  clear hr9
                  go_wp2
                  go_roundw
                  case rel => exact ⟨t + 1, by omega, by go_num, by rw [HST2.out]; exact HOD.out.below BE.out, hB.trans (BE.out.mono hB.size)⟩
                  case measure => simp [intOf]; omega
              case true.true =>
                cases hon : (o.toList == nw.toList) with
                | false =>
                  rw [hon] at HDB
                  have HST2 : Hid (((qs.take (t + 1)).map (deltaOf x.fs y.fs)).filter deltaB = ((qs.take t).map (deltaOf x.fs y.fs)).filter deltaB ++ [⟨⟨q.toArray⟩, true, true, o, nw⟩]) := by show _ = _; rw [HST.out, HDB.out, HDE.out]; rfl
                  go_wp2_with (refine list_append (by rfl) (.tmp 83) (.tmp 85) 53 (by rfl) (by rfl) (by rfl) hr9 ?_)
                  go_roundw
                  case rel => exact ⟨t + 1, by omega, by go_num, by rw [HST2.out]; exact HO9.out, HB9.out⟩
                  case measure => simp [intOf]; omega
                | true =>
                  rw [hon] at HDB
                  have HST2 : Hid (((qs.take (t + 1)).map (deltaOf x.fs y.fs)).filter deltaB = ((qs.take t).map (deltaOf x.fs y.fs)).filter deltaB) := by show _ = _; rw [HST.out, HDB.out]; simp
                  clear hr9
                  go_wp2
                  go_roundw
                  case rel => exact ⟨t + 1, by omega, by go_num, by rw [HST2.out]; exact HOD.out.below BE.out, hB.trans (BE.out.mono hB.size)⟩
                  case measure => simp [intOf]; omega
            · have hd : decide ((t : Int) < qs.length) = false := by simp; omega
              obtain rfl : t = qs.length := by omega
              rw [List.take_length, ← HDF.out] at HOD
              have HFIN : Hid (DiffP w x y (.returned (.tuple #[_, .int .i64 0])) wr) := HGOOD.out _ wr (by
                refine ⟨HOD.out.1, ?_⟩
                rcases HOD.out.2 with h | ⟨g, cap, cur, h1, h2, h3⟩
                · exact .inl h
                · exact .inr ⟨g, cap, cur, h1, Nat.le_trans hb8.size h2, h3⟩) (hb8.trans (hB.mono hb8.size))
              go_wp2
              refine bodyPost_ret (results_two Try.results14 _ _ _ _ rfl rfl) rfl HFIN.out
end Go.Proofs.Ytmbnbehlfbdpnab
