/- The law MergeEach answers true. -/
import Derived.Test.YtmbnbehlfbdpnabREaP
import Derived.Test.YtmbnbehlfbdpnabRMap
import Derived.Test.YtmbnbehlfbdpnabTGeN
import Derived.Test.YtmbnbehlfbdpnabMFwC
namespace Go.Proofs.Ytmbnbehlfbdpnab
open Go.RowKit

theorem fi_str {f : Fi} {j : Nat} {u : Value} (h : f.cells[j]? = some u) : ∃ s, u = .string s := by
  match j with
  | 0 => exact ⟨f.path, by simpa [Fi.cells] using h.symm⟩
  | 1 => exact ⟨f.text, by simpa [Fi.cells] using h.symm⟩
  | j + 2 => simp [Fi.cells] at h
/-- Files lie as they lay when a row without texts is written. -/
theorem rows_setRow {w : World} {sp : Option Addr} {xs : List Fi} {g : Nat} {cs : Array Value} {t : TypeId} {fr : Nat × Nat} (h : RowsAt w 2 Fi.cells sp xs) (hg : w.heap[g]? = some (.cells cs t fr)) (hn : ∀ (i : Nat) s, cs[i]? ≠ some (.string s)) (x : Array Value) : RowsAt (w.setRow g x) 2 Fi.cells sp xs := fun hl => by
  obtain ⟨b, off, e, hc⟩ := h hl
  refine ⟨b, off, e, fun i y hy j u hu => ?_⟩
  have h1 := hc i y hy j u hu
  obtain ⟨s, rfl⟩ := fi_str hu
  by_cases hb : b = g
  · subst hb
    rw [cell_of_row _ _ _ _ _ _ hg] at h1
    exact absurd h1 (hn _ _)
  · exact (World.cell?_of_block (a := ⟨b, off + i * 2 + j, none⟩) (setRow_other _ _ _ _ hb)).trans h1
theorem row3_str (x y z : Sl) (i : Nat) (s : ByteArray) : (row3 x y z)[i]? ≠ some (.string s) := by
  match i with
  | 0 => simp [row3]
  | 1 => simp [row3]
  | 2 => simp [row3]
  | i + 3 => simp [row3]

/-- What Merge tells, in one shape. -/
def MShape (w : World) (x y z : Sl) (w' : World) (sf : Option Addr) (nf df : Nat) (sc : Option Addr) (nc dc : Nat) (er : Int) : Prop :=
  (right3 x.fs y.fs z.fs = false → nf = 0 ∧ nc = 0 ∧ er = 170) ∧
  (right3 x.fs y.fs z.fs = true → joinC (pathsA x.fs y.fs z.fs) ≠ [] → nf = 0 ∧ er = 0 ∧ OwnC w.heap.size w' (.slice sc nc dc) (joinC (pathsA x.fs y.fs z.fs))) ∧
  (right3 x.fs y.fs z.fs = true → joinC (pathsA x.fs y.fs z.fs) = [] → nc = 0 ∧ (repoB (joinF (pathsA x.fs y.fs z.fs)) = true → er = 0 ∧ OwnF w.heap.size w' (.slice sf nf df) (joinF (pathsA x.fs y.fs z.fs))) ∧ (repoB (joinF (pathsA x.fs y.fs z.fs)) = false → nf = 0 ∧ er = 6))
theorem merge_shape {w : World} {x y z : Sl} {e : Ending} {w' : World} (h : MergeP w x y z e w') : (∃ sf nf df sc nc dc er, e = .returned (.tuple #[.agg #[.slice sf nf df], .slice sc nc dc, .int .i64 er]) ∧ MShape w x y z w' sf nf df sc nc dc er) ∧ Below w.heap.size w w' := by
  refine ⟨?_, h.2⟩
  obtain ⟨h, -⟩ := h
  unfold MShape
  cases hr : right3 x.fs y.fs z.fs with
  | false =>
    rw [hr] at h
    exact ⟨none, 0, 0, none, 0, 0, 170, h, fun _ => ⟨rfl, rfl, rfl⟩, (fun e => by cases e), fun e => by cases e⟩
  | true =>
    rw [hr, if_pos rfl] at h
    by_cases hc : joinC (pathsA x.fs y.fs z.fs) = []
    · rw [if_pos hc] at h
      cases hp : repoB (joinF (pathsA x.fs y.fs z.fs)) with
      | true =>
        rw [hp, if_pos rfl] at h
        obtain ⟨vf, he, ho⟩ := h
        obtain ⟨sf, df, rfl, -⟩ := ho.rows
        exact ⟨sf, _, df, none, 0, 0, 0, he, (fun e => by cases e), (fun _ e => absurd hc e), fun _ _ => ⟨rfl, fun _ => ⟨rfl, ho⟩, fun e => by cases e⟩⟩
      | false =>
        rw [hp, if_neg (by decide)] at h
        exact ⟨none, 0, 0, none, 0, 0, 6, h, (fun e => by cases e), (fun _ e => absurd hc e), fun _ _ => ⟨rfl, (fun e => by cases e), fun _ => ⟨rfl, rfl⟩⟩⟩
    · rw [if_neg hc] at h
      obtain ⟨vc, he, ho⟩ := h
      obtain ⟨sc, dc, rfl, -⟩ := ho.rows
      exact ⟨none, 0, 0, sc, _, dc, 0, he, (fun e => by cases e), (fun _ _ => ⟨rfl, rfl, ho⟩), fun _ e => absurd e hc⟩
theorem inF_setRow {W : World} {s : Sl} {g : Nat} {cs : Array Value} {t : TypeId} {fr : Nat × Nat} (h : InF W s) (hg : W.heap[g]? = some (.cells cs t fr)) (hn : ∀ (i : Nat) s, cs[i]? ≠ some (.string s)) (x : Array Value) : InF (W.setRow g x) s := ⟨rows_setRow h.1 hg hn x, h.2⟩
theorem changed_small {a x : List Fi} (ha : FiS a) (hx : FiS x) {q : List UInt8} (h : q ∈ changedL a x) : q.length ≤ 1000000 := by
  rw [chg_filter, List.mem_filter, (diffPs_up a x).2 q] at h
  obtain ⟨f, hf, e⟩ := List.mem_map.1 h.1
  rw [← e]
  rcases List.mem_append.1 hf with hf | hf
  · exact (ha f hf).1
  · exact (hx f hf).1
def geN (m : May) : Int := if m.there then 0 else 4
theorem get_two (s : Sl) (path : ByteArray) (w : World) (hs : SlS w s) (hp : repoB s.fs = true) :
    Calls Try.prog 8 #[.agg #[.slice s.sp s.fs.length s.cap], .string path] w fun e w' => e = .returned (.tuple #[.string (atM s.fs path).value, .int .i64 (geN (atM s.fs path))]) ∧ Below w.heap.size w w' := by
  refine (get_any s.sp s.cap s.fs path w hs.1.1 hs.2.1 hs.2.2).mono ?_
  rintro e w' ⟨h | ⟨-, h2, h3⟩ | ⟨-, h2, h3⟩, hb⟩
  · rw [hp] at h; cases h.1
  · refine ⟨?_, hb⟩
    have e1 : atM s.fs path = no := atM_no h2
    rw [e1, h3]
    rfl
  · refine ⟨?_, hb⟩
    have e1 : (atM s.fs path).there = true := h2
    unfold geN
    rw [e1, h3]
    rfl
theorem grown_none {w w' : World} (h : Below w.heap.size w w') : w.grownBy w' none := ⟨h.os, h.tape, h.output, h.size, fun k hk _ => h.block k hk⟩
/-- What stays behind the merge. -/
structure KeepE (w : World) (X Y Z R : Sl) (gr : Nat) (W : World) : Prop where
  b : Below w.heap.size w W
  q : W.heap[w.heap.size]? = some (.cells (row3 X Y Z) 26 (0, 0))
  g : W.heap[gr]? = some (.cells #[.slice R.sp R.fs.length R.cap] 24 (0, 0))
  s : SlS W X ∧ SlS W Y ∧ SlS W Z ∧ SlS W R
theorem KeepE.below {w : World} {X Y Z R : Sl} {gr : Nat} {W W' : World} (h : KeepE w X Y Z R gr W) (hb : Below W.heap.size W W') : KeepE w X Y Z R gr W' :=
  ⟨h.b.trans (hb.mono h.b.size), (hb.block _ (lt_of_row h.q)).trans h.q, (hb.block _ (lt_of_row h.g)).trans h.g, ⟨h.s.1.1.below hb, h.s.1.2⟩, ⟨h.s.2.1.1.below hb, h.s.2.1.2⟩, ⟨h.s.2.2.1.1.below hb, h.s.2.2.1.2⟩, ⟨h.s.2.2.2.1.below hb, h.s.2.2.2.2⟩⟩
/-- Paths of the law's own. -/
structure PathsE (ss : List (List UInt8)) (sp : Option Addr) (W : World) : Prop where
  c : ∀ i q, ss[i]? = some q → ∃ b, sp = some ⟨b, 0, none⟩ ∧ W.cell? ⟨b, i, none⟩ = some (.string ⟨q.toArray⟩)
theorem PathsE.below {ss : List (List UInt8)} {sp : Option Addr} {W W' : World} (h : PathsE ss sp W) (hb : Below W.heap.size W W') : PathsE ss sp W' := ⟨fun i q hq => by
  obtain ⟨b, e, hc⟩ := h.c i q hq
  exact ⟨b, e, (hb.cell (p := ⟨b, i, none⟩) (block_lt_of_cell hc)).trans hc⟩⟩
def f1 (os : List (List UInt8)) (q : List UInt8) : Int := if q ∈ os then 1 else 0
def f2 (os ts : List (List UInt8)) (q : List UInt8) : Int := (if q ∈ os then 1 else 0) + (if q ∈ ts then 2 else 0)
theorem nodup_take {l : List (List UInt8)} (h : l.Nodup) {k : Nat} {q : List UInt8} (hq : l[k]? = some q) : q ∉ l.take k := fun hm => by
  have hk := (List.getElem?_eq_some_iff.1 hq).1
  rw [← List.take_append_drop k l] at h
  have hd : q ∈ l.drop k := by
    rw [List.drop_eq_getElem_cons hk]
    obtain ⟨_, e⟩ := List.getElem?_eq_some_iff.1 hq
    rw [e]
    exact List.mem_cons_self
  exact (List.nodup_append.1 h).2.2 q hm q hd rfl
theorem map_start (os : List (List UInt8)) : MapS (f1 (os.take 0)) (os.take 0) (.map []) := by
  have e : f1 (os.take 0) = fun _ => 0 := funext fun q => by simp [f1]
  rw [e, List.take_zero]
  exact mapS_nil
theorem map_one {os : List (List UInt8)} {k : Nat} {q : List UInt8} {D : DataW Unit} (h : MapS (f1 (os.take k)) (os.take k) D) (hn : os.Nodup) (hq : os[k]? = some q) : D.atKey (.string q) (i64L 0) = i64L 0 ∧ MapS (f1 (os.take (k + 1))) (os.take (k + 1)) (D.put (.string q) (i64L 1)) := by
  have hni := nodup_take hn hq
  have et : os.take (k + 1) = os.take k ++ [q] := by rw [List.take_add_one, hq]; rfl
  refine ⟨?_, h.put q 1 (fun x => ?_) ?_⟩
  · rw [h.val q]
    simp [f1, hni]
  · rw [et]
    unfold f1
    by_cases e : x = q
    · simp [e]
    · simp [e]
  · rw [et, if_neg hni]
def kb (os ts : List (List UInt8)) : List (List UInt8) := os ++ ts.filter fun q => !(os.contains q)
theorem map_turn {os : List (List UInt8)} (ts : List (List UInt8)) {D : DataW Unit} (h : MapS (f1 os) os D) : MapS (f2 os (ts.take 0)) (kb os (ts.take 0)) D := by
  have e : f2 os (ts.take 0) = f1 os := funext fun q => by simp [f2, f1]
  rw [e]
  unfold kb
  rw [List.take_zero, List.filter_nil, List.append_nil]
  exact h
theorem map_two {os ts : List (List UInt8)} {k : Nat} {q : List UInt8} {D : DataW Unit} (h : MapS (f2 os (ts.take k)) (kb os (ts.take k)) D) (hn : ts.Nodup) (hq : ts[k]? = some q) : D.atKey (.string q) (i64L 0) = i64L (f1 os q) ∧ MapS (f2 os (ts.take (k + 1))) (kb os (ts.take (k + 1))) (D.put (.string q) (i64L (f1 os q + 2))) := by
  have hni := nodup_take hn hq
  have et : ts.take (k + 1) = ts.take k ++ [q] := by rw [List.take_add_one, hq]; rfl
  refine ⟨?_, h.put q _ (fun x => ?_) ?_⟩
  · rw [h.val q]
    simp [f2, f1, hni]
  · rw [et]
    unfold f2 f1
    by_cases e : x = q
    · simp [e]
    · simp [e]
  · rw [et]
    unfold kb
    rw [List.filter_append]
    by_cases ho : q ∈ os
    · have hc : os.contains q = true := List.contains_iff_mem.2 ho
      rw [if_pos (List.mem_append.2 (.inl ho))]
      simp [ho]
    · rw [if_neg (by
        rw [List.mem_append, List.mem_filter]
        rintro (h | h)
        · exact ho h
        · exact hni h.1)]
      simp [ho]
set_option maxRecDepth 100000 in
set_option maxHeartbeats 8000000 in
theorem mergeEach_all (a b c : Sl) (w : World) (ha : InF w a) (hb : InF w b) (hc : InF w c) :
    Calls Try.prog 3 #[.agg #[.slice a.sp a.fs.length a.cap, .slice b.sp b.fs.length b.cap, .slice c.sp c.fs.length c.cap]] w fun e w' => e = .returned (.bool true) ∧ Below w.heap.size w w' := by
  have HA : Hid (InF w a) := ha
  have HB : Hid (InF w b) := hb
  have HC : Hid (InF w c) := hc
  clear ha hb hc
  have hmm := @run_makeMap Try.prog
  go_enter Try.func3, Try.ntmps3
  go_wp2_with fail
  refine calls_gen (fun W1 => Below w.heap.size w W1 ∧ W1.heap[w.heap.size]? = some (.cells (row3 a b c) 26 (0, 0))) ⟨(Below.refl _ _).alloc (Nat.le_refl _) _, heap_alloc_new _ _⟩ ?_
  rintro W1 ⟨hB1, r1⟩
  refine (wakes8_any W1).mono ?_
  rintro e W2 ⟨rfl, b2⟩
  have hB2 : Below w.heap.size w W2 := hB1.trans (b2.mono hB1.size)
  have q1 := (b2.block _ (lt_of_row r1)).trans r1
  clear r1 hB1 b2
  have c0 : W2.cell? ⟨w.heap.size, 0, none⟩ = some (.slice a.sp a.fs.length a.cap) := (cell_of_row _ _ _ _ _ _ q1).trans rfl
  have c1 : W2.cell? ⟨w.heap.size, 1, none⟩ = some (.slice b.sp b.fs.length b.cap) := (cell_of_row _ _ _ _ _ _ q1).trans rfl
  have c2 : W2.cell? ⟨w.heap.size, 2, none⟩ = some (.slice c.sp c.fs.length c.cap) := (cell_of_row _ _ _ _ _ _ q1).trans rfl
  go_wp2_with fail
  refine (few_any a b c W2 (HA.out.below hB2) (HB.out.below hB2) (HC.out.below hB2)).mono ?_
  rintro e W3 ⟨⟨X, Y, Z, he, ⟨fX, fY, fZ⟩, ⟨sX, sY, sZ⟩, ⟨iX, iY, iZ⟩⟩, b3⟩
  unfold row3 at he
  subst he
  have hB3 : Below w.heap.size w W3 := hB2.trans (b3.mono hB2.size)
  have q3 := (b3.block _ (lt_of_row q1)).trans q1
  have z0 : W3.frozen? ⟨w.heap.size, 0, none⟩ = false := frozen_of_row _ _ _ _ _ q3
  have z1 : W3.frozen? ⟨w.heap.size, 1, none⟩ = false := frozen_of_row _ _ _ _ _ q3
  have z2 : W3.frozen? ⟨w.heap.size, 2, none⟩ = false := frozen_of_row _ _ _ _ _ q3
  have hone : (row3 X Y Z).all (·.oneCell') = true := by simp [row3, Value.oneCell']
  have HXF : Hid (shortL X.fs = X.fs ∧ shortL Y.fs = Y.fs ∧ shortL Z.fs = Z.fs) := by
    show _ ∧ _ ∧ _
    rw [fX, fY, fZ, shortL_idem, shortL_idem, shortL_idem]
    exact ⟨rfl, rfl, rfl⟩
  have fx : Hid (Below w.heap.size w (W3.setRow w.heap.size (row3 X Y Z)) ∧ (W3.setRow w.heap.size (row3 X Y Z)).heap[w.heap.size]? = some (.cells (row3 X Y Z) 26 (0, 0)) ∧ (SlS (W3.setRow w.heap.size (row3 X Y Z)) X ∧ SlS (W3.setRow w.heap.size (row3 X Y Z)) Y ∧ SlS (W3.setRow w.heap.size (row3 X Y Z)) Z) ∧ (InF (W3.setRow w.heap.size (row3 X Y Z)) X ∧ InF (W3.setRow w.heap.size (row3 X Y Z)) Y ∧ InF (W3.setRow w.heap.size (row3 X Y Z)) Z)) :=
    have k : ∀ s : Sl, SlS W3 s → SlS (W3.setRow w.heap.size (row3 X Y Z)) s := fun s h => ⟨⟨rows_setRow h.1.1 q3 (row3_str a b c) _, h.1.2⟩, h.2⟩
    ⟨below_setRow' hB3 (Nat.le_refl _) _, heap_setRow_same q3, ⟨k X sX, k Y sY, k Z sZ⟩, inF_setRow iX q3 (row3_str a b c) _, inF_setRow iY q3 (row3_str a b c) _, inF_setRow iZ q3 (row3_str a b c) _⟩
  clear c0 c1 c2 q1 b3 hB2 sX sY sZ iX iY iZ fX fY fZ HA HB HC
  go_wp2_with (refine wpList_store_row (by rfl) 26 (.tmp 1) (.tmp 27) (by rfl) w.heap.size (row3 X Y Z) (by rfl) (by rfl) 26 _ q3 (by kernel_rfl) rfl hone ?_; refine wpList_gen (fun W => Below w.heap.size w W ∧ W.heap[w.heap.size]? = some (.cells (row3 X Y Z) 26 (0, 0)) ∧ (SlS W X ∧ SlS W Y ∧ SlS W Z) ∧ (InF W X ∧ InF W Y ∧ InF W Z)) fx.out ?_; intro W4 hW4; have hB4 := hW4.1; have q4 := hW4.2.1; have S4 : Hid (SlS W4 X ∧ SlS W4 Y ∧ SlS W4 Z) := hW4.2.2.1; have I4 : Hid (InF W4 X ∧ InF W4 Y ∧ InF W4 Z) := hW4.2.2.2; have c0 : W4.cell? ⟨w.heap.size, 0, none⟩ = some (.slice X.sp X.fs.length X.cap) := (cell_of_row _ _ _ _ _ _ q4).trans rfl; have c1 : W4.cell? ⟨w.heap.size, 1, none⟩ = some (.slice Y.sp Y.fs.length Y.cap) := (cell_of_row _ _ _ _ _ _ q4).trans rfl; have c2 : W4.cell? ⟨w.heap.size, 2, none⟩ = some (.slice Z.sp Z.fs.length Z.cap) := (cell_of_row _ _ _ _ _ _ q4).trans rfl; clear hW4 fx z0 z1 z2 q3 hB3)
  have HXN : Hid ((X.sp = none → X.fs.length = 0 ∧ X.cap = 0) ∧ (Y.sp = none → Y.fs.length = 0 ∧ Y.cap = 0) ∧ (Z.sp = none → Z.fs.length = 0 ∧ Z.cap = 0)) := ⟨I4.out.1.2.2.2, I4.out.2.1.2.2.2, I4.out.2.2.2.2.2⟩
  have HFSS : Hid (FiS X.fs ∧ FiS Y.fs ∧ FiS Z.fs) := ⟨S4.out.1.2.2, S4.out.2.1.2.2, S4.out.2.2.2.2⟩
  refine (merge_any X Y Z W4 S4.out.1 S4.out.2.1 S4.out.2.2).mono ?_
  intro e W5 hm
  obtain ⟨⟨sf, nf, df, sc, nc, dc, er, rfl, hms⟩, b5⟩ := merge_shape hm
  have HMS : Hid (MShape W4 X Y Z W5 sf nf df sc nc dc er) := hms
  have hB5 : Below w.heap.size w W5 := hB4.trans (b5.mono hB4.size)
  have q5 := (b5.block _ (lt_of_row q4)).trans q4
  have S5 : Hid (SlS W5 X ∧ SlS W5 Y ∧ SlS W5 Z) := ⟨⟨S4.out.1.1.below b5, S4.out.1.2⟩, ⟨S4.out.2.1.1.below b5, S4.out.2.1.2⟩, ⟨S4.out.2.2.1.below b5, S4.out.2.2.2⟩⟩
  have l5 := lt_of_row q5
  clear hm hms c0 c1 c2 q4 S4 I4 HXF hone
  cases hr : right3 X.fs Y.fs Z.fs with
  | false =>
    obtain ⟨rfl, rfl, rfl⟩ := HMS.out.1 hr
    have HFIN : Hid (Below w.heap.size w (W5.alloc (.cells #[.slice sf 0 df] 24))) := hB5.alloc hB5.size _
    clear HMS hr q5 b5 hB4 hmm
    go_wp2
    go_ret
    exact ⟨rfl, HFIN.out⟩
  | true =>
    by_cases hc0 : joinC (pathsA X.fs Y.fs Z.fs) = []
    · obtain ⟨rfl, hA, hN⟩ := HMS.out.2.2 hr hc0
      cases hp : repoB (joinF (pathsA X.fs Y.fs Z.fs)) with
      | false =>
        obtain ⟨rfl, rfl⟩ := hN hp
        have HFIN : Hid (Below w.heap.size w (W5.alloc (.cells #[.slice sf 0 df] 24))) := hB5.alloc hB5.size _
        clear HMS hr q5 b5 hB4 hmm hc0 hp hA hN
        go_wp2
        go_ret
        exact ⟨rfl, HFIN.out⟩
      | true =>
        obtain ⟨rfl, hof⟩ := hA hp
        have hjl : (joinF (pathsA X.fs Y.fs Z.fs)).length ≤ 48 := by
          have h1 := joinF_len (pathsA X.fs Y.fs Z.fs)
          have h2 := pathsA_len X.fs Y.fs Z.fs
          have h3 := right3_len hr
          omega
        obtain ⟨R, eR, fR, sR, iR⟩ := own_in hof (by omega) (joinF_small HFSS.out.1 HFSS.out.2.1 HFSS.out.2.2)
        injection eR with e1 e2 e3
        subst e1 e2 e3
        have HEA : Hid (∀ q, (q ∈ changedL X.fs R.fs ↔ q ∈ changedL X.fs Y.fs ∨ q ∈ changedL X.fs Z.fs) ∧ (q ∈ changedL X.fs Y.fs → atM R.fs ⟨q.toArray⟩ = atM Y.fs ⟨q.toArray⟩) ∧ (q ∈ changedL X.fs Z.fs → atM R.fs ⟨q.toArray⟩ = atM Z.fs ⟨q.toArray⟩)) := fun q => by rw [fR]; exact each_at hr hc0 q
        have HBL : Hid ((bothL X.fs Y.fs Z.fs).length = (changedL X.fs R.fs).length) := by
          show _ = _
          rw [fR]
          exact both_len hr hc0
        have HRN : Hid (R.sp = none → R.fs.length = 0 ∧ R.cap = 0) := iR.2.2.2
        have HRF : Hid (FiS R.fs ∧ R.fs.length ≤ 48) := by
          show FiS R.fs ∧ R.fs.length ≤ 48
          rw [fR]
          exact ⟨joinF_small HFSS.out.1 HFSS.out.2.1 HFSS.out.2.2, hjl⟩
        have HRB : Hid (repoB X.fs = true ∧ repoB Y.fs = true ∧ repoB Z.fs = true ∧ repoB R.fs = true) := by
          show _ ∧ _ ∧ _ ∧ _
          simp only [right3, Bool.and_eq_true] at hr
          rw [fR]
          exact ⟨hr.1, hr.2.1, hr.2.2, hp⟩
        have k6 : KeepE w X Y Z R W5.heap.size (W5.alloc (.cells #[.slice R.sp R.fs.length R.cap] 24)) :=
          have b6 : Below W5.heap.size W5 (W5.alloc (.cells #[.slice R.sp R.fs.length R.cap] 24)) := (Below.refl _ _).alloc (Nat.le_refl _) _
          ⟨hB5.trans (b6.mono hB5.size), (b6.block _ (lt_of_row q5)).trans q5, heap_alloc_new _ _, ⟨S5.out.1.1.below b6, S5.out.1.2⟩, ⟨S5.out.2.1.1.below b6, S5.out.2.1.2⟩, ⟨S5.out.2.2.1.below b6, S5.out.2.2.2⟩, ⟨sR.1.below b6, sR.2⟩⟩
        have HK6 : Hid _ := k6
        have c0 : W5.cell? ⟨w.heap.size, 0, none⟩ = some (.slice X.sp X.fs.length X.cap) := (cell_of_row _ _ _ _ _ _ q5).trans rfl
        have c1 : W5.cell? ⟨w.heap.size, 1, none⟩ = some (.slice Y.sp Y.fs.length Y.cap) := (cell_of_row _ _ _ _ _ _ q5).trans rfl
        have c2 : W5.cell? ⟨w.heap.size, 2, none⟩ = some (.slice Z.sp Z.fs.length Z.cap) := (cell_of_row _ _ _ _ _ _ q5).trans rfl
        clear HMS hr hc0 hp hA hN hof fR sR iR hjl k6 q5 S5 hB5 b5 hB4
        go_wp2_with fail
        refine calls_gen (fun W6 => KeepE w X Y Z R W5.heap.size W6) HK6.out ?_
        intro W6 k6
        have HK6 : Hid (KeepE w X Y Z R W5.heap.size W6) := k6
        clear k6 c0 c1 c2 l5
        refine (changed_any X Y W6 HK6.out.s.1 HK6.out.s.2.1 HXN.out.1 HXN.out.2.1).mono ?_
        rintro e W7 ⟨hch, b7⟩
        rw [HRB.out.1, HRB.out.2.1] at hch
        obtain ⟨v, rfl, hov⟩ := hch
        obtain ⟨so, do', rfl, hpo⟩ := hov.shape
        have HPO : Hid (PathsE (changedL X.fs Y.fs) so W7) := ⟨hpo⟩
        have HK7 : Hid (KeepE w X Y Z R W5.heap.size W7) := HK6.out.below b7
        clear hov hpo b7 HK6
        have c0 : W7.cell? ⟨w.heap.size, 0, none⟩ = some (.slice X.sp X.fs.length X.cap) := (cell_of_row _ _ _ _ _ _ HK7.out.q).trans rfl
        have c2 : W7.cell? ⟨w.heap.size, 2, none⟩ = some (.slice Z.sp Z.fs.length Z.cap) := (cell_of_row _ _ _ _ _ _ HK7.out.q).trans rfl
        go_wp2_with fail
        refine (changed_any X Z W7 HK7.out.s.1 HK7.out.s.2.2.1 HXN.out.1 HXN.out.2.2).mono ?_
        rintro e W8 ⟨hch, b8⟩
        rw [HRB.out.1, HRB.out.2.2.1] at hch
        obtain ⟨v, rfl, hov⟩ := hch
        obtain ⟨st, dt, rfl, hpt⟩ := hov.shape
        have HPT : Hid (PathsE (changedL X.fs Z.fs) st W8) := ⟨hpt⟩
        have HPO : Hid (PathsE (changedL X.fs Y.fs) so W8) := HPO.out.below b8
        have HK8 : Hid (KeepE w X Y Z R W5.heap.size W8) := HK7.out.below b8
        clear hov hpt b8 HK7 c0 c2
        have c0 : W8.cell? ⟨w.heap.size, 0, none⟩ = some (.slice X.sp X.fs.length X.cap) := (cell_of_row _ _ _ _ _ _ HK8.out.q).trans rfl
        have d0 : W8.cell? ⟨W5.heap.size, 0, none⟩ = some (.slice R.sp R.fs.length R.cap) := (cell_of_row _ _ _ _ _ _ HK8.out.g).trans rfl
        go_wp2_with fail
        refine (changed_any X R W8 HK8.out.s.1 HK8.out.s.2.2.2 HXN.out.1 HRN.out).mono ?_
        rintro e W9 ⟨hch, b9⟩
        rw [HRB.out.1, HRB.out.2.2.2] at hch
        obtain ⟨v, rfl, hov⟩ := hch
        obtain ⟨sn, dn, rfl, hpn⟩ := hov.shape
        have HPN : Hid (PathsE (changedL X.fs R.fs) sn W9) := ⟨hpn⟩
        have HPT : Hid (PathsE (changedL X.fs Z.fs) st W9) := HPT.out.below b9
        have HPO : Hid (PathsE (changedL X.fs Y.fs) so W9) := HPO.out.below b9
        have HK9 : Hid (KeepE w X Y Z R W5.heap.size W9) := HK8.out.below b9
        have hlo : (changedL X.fs Y.fs).length ≤ 1000 := by
          have h1 := diffL_len X.fs Y.fs
          have h2 : X.fs.length ≤ 16 := by have := HRB.out.1; simp only [repoB, Bool.and_eq_true, decide_eq_true_eq] at this; exact this.1
          have h3 : Y.fs.length ≤ 16 := by have := HRB.out.2.1; simp only [repoB, Bool.and_eq_true, decide_eq_true_eq] at this; exact this.1
          unfold changedL
          rw [List.length_map]
          omega
        have hlt : (changedL X.fs Z.fs).length ≤ 1000 := by
          have h1 := diffL_len X.fs Z.fs
          have h2 : X.fs.length ≤ 16 := by have := HRB.out.1; simp only [repoB, Bool.and_eq_true, decide_eq_true_eq] at this; exact this.1
          have h3 : Z.fs.length ≤ 16 := by have := HRB.out.2.2.1; simp only [repoB, Bool.and_eq_true, decide_eq_true_eq] at this; exact this.1
          unfold changedL
          rw [List.length_map]
          omega
        have hln : (changedL X.fs R.fs).length ≤ 1000 := by
          have h1 := diffL_len X.fs R.fs
          have h2 : X.fs.length ≤ 16 := by have := HRB.out.1; simp only [repoB, Bool.and_eq_true, decide_eq_true_eq] at this; exact this.1
          have h3 := HRF.out.2
          unfold changedL
          rw [List.length_map]
          omega
        have HSM : Hid (∀ q, q ∈ changedL X.fs Y.fs ∨ q ∈ changedL X.fs Z.fs ∨ q ∈ changedL X.fs R.fs → q.length ≤ 1000000) := fun q h => by
          rcases h with h | h | h
          · exact changed_small HFSS.out.1 HFSS.out.2.1 h
          · exact changed_small HFSS.out.1 HFSS.out.2.2 h
          · exact changed_small HFSS.out.1 HRF.out.1 h
        have HND : Hid ((changedL X.fs Y.fs).Nodup ∧ (changedL X.fs Z.fs).Nodup) := ⟨up_nodup (changed_up _ _), up_nodup (changed_up _ _)⟩
        have HBO : Hid (bothL X.fs Y.fs Z.fs = changedL X.fs Y.fs ++ (changedL X.fs Z.fs).filter fun q => !((changedL X.fs Y.fs).contains q)) := rfl
        rw [HBO.out] at HBL
        clear hov hpn b9 HK8 c0 d0 HBO
        generalize changedL X.fs Y.fs = os at *
        generalize changedL X.fs Z.fs = ts at *
        generalize changedL X.fs R.fs = ns at *
        go_wp2
        clear hmm
        have HM0 : Hid ((W9.alloc (.map #[] 0)).ownsMap Try.prog 9 (plainElem (H := Unit) Try.prog 3) W9.heap.size 0 (.map [])) := World.ownsMap_made _ _ _ _
        go_loopw [86] (fun i wr => ∃ (k : Nat) (D : DataW Unit), k ≤ os.length ∧ i = .int .i64 k ∧ wr.ownsMap Try.prog 9 (plainElem (H := Unit) Try.prog 3) W9.heap.size k D ∧ MapS (f1 (os.take k)) (os.take k) D ∧ Below W9.heap.size W9 wr) (fun i _ => os.length - (intOf i).toNat)
        case atStart => exact ⟨0, .map [], Nat.zero_le _, rfl, HM0.out, map_start os, (Below.refl _ _).alloc (Nat.le_refl _) _⟩
        case round =>
          obtain ⟨k, D, hk, rfl, hown, hms, hB⟩ := hrel
          have HO : Hid (wr.ownsMap Try.prog 9 (plainElem (H := Unit) Try.prog 3) W9.heap.size k D) := hown
          have HS : Hid (MapS (f1 (os.take k)) (os.take k) D) := hms
          clear hown hms
          by_cases hlk : k < os.length
          · have hd : decide ((k : Int) < os.length) = true := by simp; omega
            obtain ⟨q, hq⟩ : ∃ q, os[k]? = some q := ⟨_, List.getElem?_eq_getElem hlk⟩
            obtain ⟨bq, rfl, k0⟩ := (HPO.out.below (hB)).c k q hq
            have HV : Hid _ := map_one HS.out HND.out.1 hq
            obtain ⟨P, hP⟩ : ∃ P : ByteArray, P = ⟨q.toArray⟩ := ⟨_, rfl⟩
            rw [← hP] at k0
            have HKEY : Hid (keyOf Try.prog 9 (.string P) = some (.string q)) := by
              have h1 : P.size ≤ maxLen := by
                have h2 := HSM.out q (.inl (List.mem_of_getElem? hq))
                rw [hP]
                show q.toArray.size ≤ maxLen
                rw [List.size_toArray]
                unfold maxLen
                omega
              have := WideMaps.keyOf_string_mk (P := Try.prog) Try.underlying9 h1
              rw [hP] at this ⊢
              exact this
            clear hP hq
            go_wp2_with (first
              | (at_lookup; refine wpList_lookup_own_int _ rfl _ _ 36 rfl 9 3 .i64 mapLaw Try.underlying36 Try.underlying3 (zeroI _) W9.heap.size k _ rfl HO.out _ _ rfl HKEY.out ?_; intro c hat hwc; obtain rfl : c = 0 := by (rw [HV.out.1] at hat; injection hat with hat; injection hat with _ hat; exact hat.symm))
              | (at_mapUpdate; refine wpList_mapUpdate_own _ rfl _ _ _ 36 rfl 9 3 mapLaw Try.underlying36 _ W9.heap.size k _ rfl HO.out (by unfold maxLen; omega) _ _ _ rfl rfl HKEY.out _ [] (plainElem_int (a := 1) Try.underlying3 (by decide)) ?_; intro w1 hown1 hgrow1))
            have HB1 : Hid (Below W9.heap.size W9 w1) := ⟨hgrow1.os.trans hB.os, hgrow1.tape.trans hB.tape, hgrow1.output.trans hB.output, Nat.le_trans hB.size hgrow1.size, fun j hj => (hgrow1.block j (Nat.lt_of_lt_of_le hj hB.size) (fun e => by injection e with e; omega)).trans (hB.block j hj)⟩
            have HO1 : Hid _ := hown1
            clear hown1 hgrow1
            go_roundw
            case rel => exact ⟨k + 1, _, by omega, by go_num, HO1.out, HV.out.2, HB1.out⟩
            case measure => simp [intOf]; omega
          · have hd : decide ((k : Int) < os.length) = false := by simp; omega
            obtain rfl : k = os.length := by omega
            rw [List.take_length] at HS
            go_wp2
            go_loopw [97] (fun i wr => ∃ (k : Nat) (D : DataW Unit), k ≤ ts.length ∧ i = .int .i64 k ∧ wr.ownsMap Try.prog 9 (plainElem (H := Unit) Try.prog 3) W9.heap.size (os.length + k) D ∧ MapS (f2 os (ts.take k)) (kb os (ts.take k)) D ∧ Below W9.heap.size W9 wr) (fun i _ => ts.length - (intOf i).toNat)
            case atStart => exact ⟨0, D, Nat.zero_le _, rfl, HO.out, map_turn ts HS.out, hB⟩
            case round =>
              obtain ⟨k, D, hk, rfl, hown, hms, hB⟩ := hrel
              have HO : Hid (wr.ownsMap Try.prog 9 (plainElem (H := Unit) Try.prog 3) W9.heap.size (os.length + k) D) := hown
              have HS : Hid (MapS (f2 os (ts.take k)) (kb os (ts.take k)) D) := hms
              clear hown hms
              by_cases hlk : k < ts.length
              · have hd : decide ((k : Int) < ts.length) = true := by simp; omega
                obtain ⟨q, hq⟩ : ∃ q, ts[k]? = some q := ⟨_, List.getElem?_eq_getElem hlk⟩
                obtain ⟨bq, rfl, k0⟩ := (HPT.out.below hB).c k q hq
                have HV := map_two HS.out HND.out.2 hq
                obtain ⟨P, hP⟩ : ∃ P : ByteArray, P = ⟨q.toArray⟩ := ⟨_, rfl⟩
                rw [← hP] at k0
                have HKEY : Hid (keyOf Try.prog 9 (.string P) = some (.string q)) := by
                  have h1 : P.size ≤ maxLen := by
                    have h2 := HSM.out q (.inr (.inl (List.mem_of_getElem? hq)))
                    rw [hP]
                    show q.toArray.size ≤ maxLen
                    rw [List.size_toArray]
                    unfold maxLen
                    omega
                  have := WideMaps.keyOf_string_mk (P := Try.prog) Try.underlying9 h1
                  rw [hP] at this ⊢
                  exact this
                clear hP hq
                by_cases hqo : q ∈ os
                · rw [show f1 os q = 1 from if_pos hqo] at HV
                  have HV : Hid (D.atKey (.string q) (i64L 0) = i64L 1 ∧ MapS (f2 os (ts.take (k + 1))) (kb os (ts.take (k + 1))) (D.put (.string q) (i64L (1 + 2)))) := HV
                  clear hqo
                  go_wp2_with (first
                    | (at_lookup; refine wpList_lookup_own_int _ rfl _ _ 36 rfl 9 3 .i64 mapLaw Try.underlying36 Try.underlying3 (zeroI _) W9.heap.size (os.length + k) _ rfl HO.out _ _ rfl HKEY.out ?_; intro c hat hwc; obtain rfl : c = 1 := by (rw [HV.out.1] at hat; injection hat with hat; injection hat with _ hat; exact hat.symm))
                    | (at_mapUpdate; refine wpList_mapUpdate_own _ rfl _ _ _ 36 rfl 9 3 mapLaw Try.underlying36 _ W9.heap.size (os.length + k) _ rfl HO.out (by unfold maxLen; omega) _ _ _ rfl rfl HKEY.out _ [] (plainElem_int (a := 3) Try.underlying3 (by decide)) ?_; intro w1 hown1 hgrow1))
                  have HB1 : Hid (Below W9.heap.size W9 w1) := ⟨hgrow1.os.trans hB.os, hgrow1.tape.trans hB.tape, hgrow1.output.trans hB.output, Nat.le_trans hB.size hgrow1.size, fun j hj => (hgrow1.block j (Nat.lt_of_lt_of_le hj hB.size) (fun e => by injection e with e; omega)).trans (hB.block j hj)⟩
                  have HO1 : Hid _ := hown1
                  clear hown1 hgrow1
                  go_roundw
                  case rel => exact ⟨k + 1, _, by omega, by go_num, HO1.out, HV.out.2, HB1.out⟩
                  case measure => simp [intOf]; omega
                · rw [show f1 os q = 0 from if_neg hqo] at HV
                  have HV : Hid (D.atKey (.string q) (i64L 0) = i64L 0 ∧ MapS (f2 os (ts.take (k + 1))) (kb os (ts.take (k + 1))) (D.put (.string q) (i64L (0 + 2)))) := HV
                  clear hqo
                  go_wp2_with (first
                    | (at_lookup; refine wpList_lookup_own_int _ rfl _ _ 36 rfl 9 3 .i64 mapLaw Try.underlying36 Try.underlying3 (zeroI _) W9.heap.size (os.length + k) _ rfl HO.out _ _ rfl HKEY.out ?_; intro c hat hwc; obtain rfl : c = 0 := by (rw [HV.out.1] at hat; injection hat with hat; injection hat with _ hat; exact hat.symm))
                    | (at_mapUpdate; refine wpList_mapUpdate_own _ rfl _ _ _ 36 rfl 9 3 mapLaw Try.underlying36 _ W9.heap.size (os.length + k) _ rfl HO.out (by unfold maxLen; omega) _ _ _ rfl rfl HKEY.out _ [] (plainElem_int (a := 2) Try.underlying3 (by decide)) ?_; intro w1 hown1 hgrow1))
                  have HB1 : Hid (Below W9.heap.size W9 w1) := ⟨hgrow1.os.trans hB.os, hgrow1.tape.trans hB.tape, hgrow1.output.trans hB.output, Nat.le_trans hB.size hgrow1.size, fun j hj => (hgrow1.block j (Nat.lt_of_lt_of_le hj hB.size) (fun e => by injection e with e; omega)).trans (hB.block j hj)⟩
                  have HO1 : Hid _ := hown1
                  clear hown1 hgrow1
                  go_roundw
                  case rel => exact ⟨k + 1, _, by omega, by go_num, HO1.out, HV.out.2, HB1.out⟩
                  case measure => simp [intOf]; omega
              · have hd : decide ((k : Int) < ts.length) = false := by simp; omega
                obtain rfl : k = ts.length := by omega
                rw [List.take_length] at HS
                have HSZ : Hid (Maps.size D = ns.length) := HS.out.len.trans HBL.out
                have HVAL : Hid (∀ q, D.atKey (.string q) (i64L 0) = i64L (f2 os ts q)) := HS.out.val
                have hne : ((ns.length : Int) != (ns.length : Int)) = false := by simp
                clear HS
                have hlen : (Builtin.len_ #[36] 3 #[.map (some W9.heap.size)]).run Try.prog wr = .ok (.int .i64 ns.length) wr := by
                  have h := HO.out.len Try.underlying36 3
                  rw [HSZ.out] at h
                  exact h
                go_wp2
                clear hlen
                have HOL : Hid (wr.ownsMap Try.prog 9 (plainElem (H := Unit) Try.prog 3) W9.heap.size (os.length + ts.length) D) := HO.out
                have hBL := hB
                clear HO hB
                go_loopw [113] (fun i wx => ∃ k : Nat, k ≤ ns.length ∧ i = .int .i64 k ∧ wx.ownsMap Try.prog 9 (plainElem (H := Unit) Try.prog 3) W9.heap.size (os.length + ts.length) D ∧ Below W9.heap.size W9 wx) (fun i _ => ns.length - (intOf i).toNat)
                case atStart => exact ⟨0, Nat.zero_le _, rfl, HOL.out, hBL⟩
                case round =>
                  obtain ⟨k, hk, rfl, hown, hB⟩ := hrel
                  have HO : Hid (wr.ownsMap Try.prog 9 (plainElem (H := Unit) Try.prog 3) W9.heap.size (os.length + ts.length) D) := hown
                  have HK : Hid (KeepE w X Y Z R W5.heap.size wr) := HK9.out.below hB
                  clear hown HOL hBL
                  have d0 : wr.cell? ⟨W5.heap.size, 0, none⟩ = some (.slice R.sp R.fs.length R.cap) := (cell_of_row _ _ _ _ _ _ HK.out.g).trans rfl
                  by_cases hlk3 : k < ns.length
                  · have hd3 : decide ((k : Int) < ns.length) = true := by simp; omega
                    obtain ⟨q, hq⟩ : ∃ q, ns[k]? = some q := ⟨_, List.getElem?_eq_getElem hlk3⟩
                    obtain ⟨bq, rfl, k0⟩ := (HPN.out.below hB).c k q hq
                    have HEQ := HEA.out q
                    have hin := HEQ.1.1 (List.mem_of_getElem? hq)
                    have HVQ := HVAL.out q
                    obtain ⟨P, hP⟩ : ∃ P : ByteArray, P = ⟨q.toArray⟩ := ⟨_, rfl⟩
                    rw [← hP] at k0 HEQ
                    have HKEY : Hid (keyOf Try.prog 9 (.string P) = some (.string q)) := by
                      have h1 : P.size ≤ maxLen := by
                        have h2 := HSM.out q (.inr (.inr (List.mem_of_getElem? hq)))
                        rw [hP]
                        show q.toArray.size ≤ maxLen
                        rw [List.size_toArray]
                        unfold maxLen
                        omega
                      have := WideMaps.keyOf_string_mk (P := Try.prog) Try.underlying9 h1
                      rw [hP] at this ⊢
                      exact this
                    clear hP hq
                    obtain ⟨m, hm⟩ : ∃ m, atM R.fs P = m := ⟨_, rfl⟩
                    have HMQ : Hid ((q ∈ os → m = atM Y.fs P) ∧ (q ∈ ts → m = atM Z.fs P)) := by rw [← hm]; exact HEQ.2
                    have HM : Hid (atM R.fs P = m) := hm
                    have HIN : Hid (q ∈ os ∨ q ∈ ts) := hin
                    have HVQ : Hid (D.atKey (.string q) (i64L 0) = i64L (f2 os ts q)) := HVQ
                    clear hm hin HEQ
                    go_wp2_with fail
                    refine (get_two R P wr HK.out.s.2.2.2 HRB.out.2.2.2).mono ?_
                    rintro e Wa ⟨rfl, ba⟩
                    rw [HM.out]
                    have HKA : Hid (KeepE w X Y Z R W5.heap.size Wa) := HK.out.below ba
                    have HOA : Hid (Wa.ownsMap Try.prog 9 (plainElem (H := Unit) Try.prog 3) W9.heap.size (os.length + ts.length) D) := HO.out.kept (grown_none ba) (by simp)
                    have hBA : Below W9.heap.size W9 Wa := hB.trans (ba.mono hB.size)
                    clear ba d0 k0 HK HO hB HM
                    have c1 : Wa.cell? ⟨w.heap.size, 1, none⟩ = some (.slice Y.sp Y.fs.length Y.cap) := (cell_of_row _ _ _ _ _ _ HKA.out.q).trans rfl
                    have c2 : Wa.cell? ⟨w.heap.size, 2, none⟩ = some (.slice Z.sp Z.fs.length Z.cap) := (cell_of_row _ _ _ _ _ _ HKA.out.q).trans rfl
                    go_wp2
                    have bb : Below Wa.heap.size Wa (Wa.alloc (.cells #[.slice Y.sp Y.fs.length Y.cap, .slice Z.sp Z.fs.length Z.cap] 24)) := (Below.refl _ _).alloc (Nat.le_refl _) _
                    have gb := heap_alloc_new Wa (.cells #[.slice Y.sp Y.fs.length Y.cap, .slice Z.sp Z.fs.length Z.cap] 24)
                    generalize Wa.alloc (.cells #[.slice Y.sp Y.fs.length Y.cap, .slice Z.sp Z.fs.length Z.cap] 24) = Wb at bb gb ⊢
                    have HKB : Hid (KeepE w X Y Z R W5.heap.size Wb) := HKA.out.below bb
                    have HOB : Hid (Wb.ownsMap Try.prog 9 (plainElem (H := Unit) Try.prog 3) W9.heap.size (os.length + ts.length) D) := HOA.out.kept (grown_none bb) (by simp)
                    have hBB : Below W9.heap.size W9 Wb := hBA.trans (bb.mono hBA.size)
                    have HGB : Hid _ := gb
                    clear bb gb HKA HOA hBA c1 c2
                    have hxx : (m.value.toList != m.value.toList) = false := by simp
                    have hxe : (m.value.toList == m.value.toList) = true := by simp
                    have hgg : (geN m != geN m) = false := by simp
                    obtain ⟨gm, hgm⟩ : ∃ gm, geN m = gm := ⟨_, rfl⟩
                    rw [hgm] at hgg ⊢
                    have HGE : Hid (geN m = gm) := hgm
                    clear hgm
                    by_cases hqo : q ∈ os
                    · by_cases hqt : q ∈ ts
                      · have HV : Hid (D.atKey (.string q) (i64L 0) = i64L 3) := by show _ = _; rw [HVQ.out]; simp [f2, hqo, hqt]
                        have HMY : Hid (m = atM Y.fs P) := HMQ.out.1 hqo
                        have HMZ : Hid (m = atM Z.fs P) := HMQ.out.2 hqt
                        clear hqo hqt HMQ HVQ HIN
                        go_loopw [129] (fun i wx => ∃ j : Nat, j ≤ 2 ∧ i = .int .i64 j ∧ wx.ownsMap Try.prog 9 (plainElem (H := Unit) Try.prog 3) W9.heap.size (os.length + ts.length) D ∧ Below Wb.heap.size Wb wx) (fun i _ => 2 - (intOf i).toNat)
                        case atStart => exact ⟨0, Nat.zero_le _, rfl, HOB.out, Below.refl _ _⟩
                        case round =>
                          obtain ⟨j, hj, rfl, hown, hB⟩ := hrel
                          have HO : Hid (wr.ownsMap Try.prog 9 (plainElem (H := Unit) Try.prog 3) W9.heap.size (os.length + ts.length) D) := hown
                          have HK : Hid (KeepE w X Y Z R W5.heap.size wr) := HKB.out.below hB
                          have HG : Hid (wr.heap[Wa.heap.size]? = some (.cells #[.slice Y.sp Y.fs.length Y.cap, .slice Z.sp Z.fs.length Z.cap] 24 (0, 0))) := (hB.block _ (lt_of_row HGB.out)).trans HGB.out
                          clear hown
                          by_cases hj2 : j < 2
                          · by_cases hj0 : j = 0
                            · subst hj0
                              have c1 : wr.cell? ⟨Wa.heap.size, 0, none⟩ = some (.slice Y.sp Y.fs.length Y.cap) := (cell_of_row _ _ _ _ _ _ HG.out).trans rfl
                              go_wp2_with fail
                              refine calls_gen (fun W => Below wr.heap.size wr W) ((Below.refl _ _).alloc (Nat.le_refl _) _) ?_
                              intro Wc bc
                              refine (get_two Y P Wc (HK.out.below bc).s.2.1 HRB.out.2.1).mono ?_
                              rintro e Wd ⟨rfl, bd⟩
                              have bcd : Below wr.heap.size wr Wd := bc.trans (bd.mono bc.size)
                              have HOD : Hid (Wd.ownsMap Try.prog 9 (plainElem (H := Unit) Try.prog 3) W9.heap.size (os.length + ts.length) D) := HO.out.kept (grown_none bcd) (by simp)
                              have HBD : Hid (Below Wb.heap.size Wb Wd) := hB.trans (bcd.mono hB.size)
                              rw [← HMY.out, HGE.out]
                              clear bc bd bcd c1 hB HK HG HO
                              go_wp2_with (at_lookup; refine wpList_lookup_own_int _ rfl _ _ 36 rfl 9 3 .i64 mapLaw Try.underlying36 Try.underlying3 (zeroI _) W9.heap.size (os.length + ts.length) _ rfl HOD.out _ _ rfl HKEY.out ?_; intro c hat hwc; obtain rfl : c = 3 := by (rw [HV.out] at hat; injection hat with hat; injection hat with _ hat; exact hat.symm))
                              go_roundw
                              case rel => exact ⟨0+1, by omega, by go_num, HOD.out, HBD.out⟩
                              case measure => simp [intOf]
                            · obtain rfl : j = 1 := by omega
                              have c1 : wr.cell? ⟨Wa.heap.size, 1, none⟩ = some (.slice Z.sp Z.fs.length Z.cap) := (cell_of_row _ _ _ _ _ _ HG.out).trans rfl
                              go_wp2_with fail
                              refine calls_gen (fun W => Below wr.heap.size wr W) ((Below.refl _ _).alloc (Nat.le_refl _) _) ?_
                              intro Wc bc
                              refine (get_two Z P Wc (HK.out.below bc).s.2.2.1 HRB.out.2.2.1).mono ?_
                              rintro e Wd ⟨rfl, bd⟩
                              have bcd : Below wr.heap.size wr Wd := bc.trans (bd.mono bc.size)
                              have HOD : Hid (Wd.ownsMap Try.prog 9 (plainElem (H := Unit) Try.prog 3) W9.heap.size (os.length + ts.length) D) := HO.out.kept (grown_none bcd) (by simp)
                              have HBD : Hid (Below Wb.heap.size Wb Wd) := hB.trans (bcd.mono hB.size)
                              rw [← HMZ.out, HGE.out]
                              clear bc bd bcd c1 hB HK HG HO
                              go_wp2_with (at_lookup; refine wpList_lookup_own_int _ rfl _ _ 36 rfl 9 3 .i64 mapLaw Try.underlying36 Try.underlying3 (zeroI _) W9.heap.size (os.length + ts.length) _ rfl HOD.out _ _ rfl HKEY.out ?_; intro c hat hwc; obtain rfl : c = 3 := by (rw [HV.out] at hat; injection hat with hat; injection hat with _ hat; exact hat.symm))
                              go_roundw
                              case rel => exact ⟨1+1, by omega, by go_num, HOD.out, HBD.out⟩
                              case measure => simp [intOf]
                          · obtain rfl : j = 2 := by omega
                            have HB9 : Hid (Below W9.heap.size W9 wr) := hBB.trans (hB.mono hBB.size)
                            clear HK HG hB
                            go_wp2
                            go_roundw
                            case rel => exact ⟨k + 1, by omega, by go_num, HO.out, HB9.out⟩
                            case measure => simp [intOf]; omega
                      · have HV : Hid (D.atKey (.string q) (i64L 0) = i64L 1) := by show _ = _; rw [HVQ.out]; simp [f2, hqo, hqt]
                        have HMY : Hid (m = atM Y.fs P) := HMQ.out.1 hqo
                        clear hqo hqt HMQ HVQ HIN
                        go_loopw [129] (fun i wx => ∃ j : Nat, j ≤ 2 ∧ i = .int .i64 j ∧ wx.ownsMap Try.prog 9 (plainElem (H := Unit) Try.prog 3) W9.heap.size (os.length + ts.length) D ∧ Below Wb.heap.size Wb wx) (fun i _ => 2 - (intOf i).toNat)
                        case atStart => exact ⟨0, Nat.zero_le _, rfl, HOB.out, Below.refl _ _⟩
                        case round =>
                          obtain ⟨j, hj, rfl, hown, hB⟩ := hrel
                          have HO : Hid (wr.ownsMap Try.prog 9 (plainElem (H := Unit) Try.prog 3) W9.heap.size (os.length + ts.length) D) := hown
                          have HK : Hid (KeepE w X Y Z R W5.heap.size wr) := HKB.out.below hB
                          have HG : Hid (wr.heap[Wa.heap.size]? = some (.cells #[.slice Y.sp Y.fs.length Y.cap, .slice Z.sp Z.fs.length Z.cap] 24 (0, 0))) := (hB.block _ (lt_of_row HGB.out)).trans HGB.out
                          clear hown
                          by_cases hj2 : j < 2
                          · by_cases hj0 : j = 0
                            · subst hj0
                              have c1 : wr.cell? ⟨Wa.heap.size, 0, none⟩ = some (.slice Y.sp Y.fs.length Y.cap) := (cell_of_row _ _ _ _ _ _ HG.out).trans rfl
                              go_wp2_with fail
                              refine calls_gen (fun W => Below wr.heap.size wr W) ((Below.refl _ _).alloc (Nat.le_refl _) _) ?_
                              intro Wc bc
                              refine (get_two Y P Wc (HK.out.below bc).s.2.1 HRB.out.2.1).mono ?_
                              rintro e Wd ⟨rfl, bd⟩
                              have bcd : Below wr.heap.size wr Wd := bc.trans (bd.mono bc.size)
                              have HOD : Hid (Wd.ownsMap Try.prog 9 (plainElem (H := Unit) Try.prog 3) W9.heap.size (os.length + ts.length) D) := HO.out.kept (grown_none bcd) (by simp)
                              have HBD : Hid (Below Wb.heap.size Wb Wd) := hB.trans (bcd.mono hB.size)
                              rw [← HMY.out, HGE.out]
                              clear bc bd bcd c1 hB HK HG HO
                              go_wp2_with (at_lookup; refine wpList_lookup_own_int _ rfl _ _ 36 rfl 9 3 .i64 mapLaw Try.underlying36 Try.underlying3 (zeroI _) W9.heap.size (os.length + ts.length) _ rfl HOD.out _ _ rfl HKEY.out ?_; intro c hat hwc; obtain rfl : c = 1 := by (rw [HV.out] at hat; injection hat with hat; injection hat with _ hat; exact hat.symm))
                              go_roundw
                              case rel => exact ⟨0+1, by omega, by go_num, HOD.out, HBD.out⟩
                              case measure => simp [intOf]
                            · obtain rfl : j = 1 := by omega
                              have c1 : wr.cell? ⟨Wa.heap.size, 1, none⟩ = some (.slice Z.sp Z.fs.length Z.cap) := (cell_of_row _ _ _ _ _ _ HG.out).trans rfl
                              go_wp2_with fail
                              refine calls_gen (fun W => Below wr.heap.size wr W) ((Below.refl _ _).alloc (Nat.le_refl _) _) ?_
                              intro Wc bc
                              refine (get_two Z P Wc (HK.out.below bc).s.2.2.1 HRB.out.2.2.1).mono ?_
                              rintro e Wd ⟨rfl, bd⟩
                              have bcd : Below wr.heap.size wr Wd := bc.trans (bd.mono bc.size)
                              have HOD : Hid (Wd.ownsMap Try.prog 9 (plainElem (H := Unit) Try.prog 3) W9.heap.size (os.length + ts.length) D) := HO.out.kept (grown_none bcd) (by simp)
                              have HBD : Hid (Below Wb.heap.size Wb Wd) := hB.trans (bcd.mono hB.size)
                              generalize geN (atM Z.fs P) = gy
                              generalize (atM Z.fs P).value = vy
                              clear bc bd bcd c1 hB HK HG HO
                              go_wp2_with (at_lookup; refine wpList_lookup_own_int _ rfl _ _ 36 rfl 9 3 .i64 mapLaw Try.underlying36 Try.underlying3 (zeroI _) W9.heap.size (os.length + ts.length) _ rfl HOD.out _ _ rfl HKEY.out ?_; intro c hat hwc; obtain rfl : c = 1 := by (rw [HV.out] at hat; injection hat with hat; injection hat with _ hat; exact hat.symm))
                              go_roundw
                              case rel => exact ⟨1+1, by omega, by go_num, HOD.out, HBD.out⟩
                              case measure => simp [intOf]
                          · obtain rfl : j = 2 := by omega
                            have HB9 : Hid (Below W9.heap.size W9 wr) := hBB.trans (hB.mono hBB.size)
                            clear HK HG hB
                            go_wp2
                            go_roundw
                            case rel => exact ⟨k + 1, by omega, by go_num, HO.out, HB9.out⟩
                            case measure => simp [intOf]; omega
                    · have hqt : q ∈ ts := HIN.out.resolve_left hqo
                      have HV : Hid (D.atKey (.string q) (i64L 0) = i64L 2) := by show _ = _; rw [HVQ.out]; simp [f2, hqo, hqt]
                      have HMZ : Hid (m = atM Z.fs P) := HMQ.out.2 hqt
                      clear hqo hqt HMQ HVQ HIN
                      go_loopw [129] (fun i wx => ∃ j : Nat, j ≤ 2 ∧ i = .int .i64 j ∧ wx.ownsMap Try.prog 9 (plainElem (H := Unit) Try.prog 3) W9.heap.size (os.length + ts.length) D ∧ Below Wb.heap.size Wb wx) (fun i _ => 2 - (intOf i).toNat)
                      case atStart => exact ⟨0, Nat.zero_le _, rfl, HOB.out, Below.refl _ _⟩
                      case round =>
                        obtain ⟨j, hj, rfl, hown, hB⟩ := hrel
                        have HO : Hid (wr.ownsMap Try.prog 9 (plainElem (H := Unit) Try.prog 3) W9.heap.size (os.length + ts.length) D) := hown
                        have HK : Hid (KeepE w X Y Z R W5.heap.size wr) := HKB.out.below hB
                        have HG : Hid (wr.heap[Wa.heap.size]? = some (.cells #[.slice Y.sp Y.fs.length Y.cap, .slice Z.sp Z.fs.length Z.cap] 24 (0, 0))) := (hB.block _ (lt_of_row HGB.out)).trans HGB.out
                        clear hown
                        by_cases hj2 : j < 2
                        · by_cases hj0 : j = 0
                          · subst hj0
                            have c1 : wr.cell? ⟨Wa.heap.size, 0, none⟩ = some (.slice Y.sp Y.fs.length Y.cap) := (cell_of_row _ _ _ _ _ _ HG.out).trans rfl
                            go_wp2_with fail
                            refine calls_gen (fun W => Below wr.heap.size wr W) ((Below.refl _ _).alloc (Nat.le_refl _) _) ?_
                            intro Wc bc
                            refine (get_two Y P Wc (HK.out.below bc).s.2.1 HRB.out.2.1).mono ?_
                            rintro e Wd ⟨rfl, bd⟩
                            have bcd : Below wr.heap.size wr Wd := bc.trans (bd.mono bc.size)
                            have HOD : Hid (Wd.ownsMap Try.prog 9 (plainElem (H := Unit) Try.prog 3) W9.heap.size (os.length + ts.length) D) := HO.out.kept (grown_none bcd) (by simp)
                            have HBD : Hid (Below Wb.heap.size Wb Wd) := hB.trans (bcd.mono hB.size)
                            generalize geN (atM Y.fs P) = gy
                            generalize (atM Y.fs P).value = vy
                            clear bc bd bcd c1 hB HK HG HO
                            go_wp2_with (at_lookup; refine wpList_lookup_own_int _ rfl _ _ 36 rfl 9 3 .i64 mapLaw Try.underlying36 Try.underlying3 (zeroI _) W9.heap.size (os.length + ts.length) _ rfl HOD.out _ _ rfl HKEY.out ?_; intro c hat hwc; obtain rfl : c = 2 := by (rw [HV.out] at hat; injection hat with hat; injection hat with _ hat; exact hat.symm))
                            go_roundw
                            case rel => exact ⟨0+1, by omega, by go_num, HOD.out, HBD.out⟩
                            case measure => simp [intOf]
                          · obtain rfl : j = 1 := by omega
                            have c1 : wr.cell? ⟨Wa.heap.size, 1, none⟩ = some (.slice Z.sp Z.fs.length Z.cap) := (cell_of_row _ _ _ _ _ _ HG.out).trans rfl
                            go_wp2_with fail
                            refine calls_gen (fun W => Below wr.heap.size wr W) ((Below.refl _ _).alloc (Nat.le_refl _) _) ?_
                            intro Wc bc
                            refine (get_two Z P Wc (HK.out.below bc).s.2.2.1 HRB.out.2.2.1).mono ?_
                            rintro e Wd ⟨rfl, bd⟩
                            have bcd : Below wr.heap.size wr Wd := bc.trans (bd.mono bc.size)
                            have HOD : Hid (Wd.ownsMap Try.prog 9 (plainElem (H := Unit) Try.prog 3) W9.heap.size (os.length + ts.length) D) := HO.out.kept (grown_none bcd) (by simp)
                            have HBD : Hid (Below Wb.heap.size Wb Wd) := hB.trans (bcd.mono hB.size)
                            rw [← HMZ.out, HGE.out]
                            clear bc bd bcd c1 hB HK HG HO
                            go_wp2_with (at_lookup; refine wpList_lookup_own_int _ rfl _ _ 36 rfl 9 3 .i64 mapLaw Try.underlying36 Try.underlying3 (zeroI _) W9.heap.size (os.length + ts.length) _ rfl HOD.out _ _ rfl HKEY.out ?_; intro c hat hwc; obtain rfl : c = 2 := by (rw [HV.out] at hat; injection hat with hat; injection hat with _ hat; exact hat.symm))
                            go_roundw
                            case rel => exact ⟨1+1, by omega, by go_num, HOD.out, HBD.out⟩
                            case measure => simp [intOf]
                        · obtain rfl : j = 2 := by omega
                          have HB9 : Hid (Below W9.heap.size W9 wr) := hBB.trans (hB.mono hBB.size)
                          clear HK HG hB
                          go_wp2
                          go_roundw
                          case rel => exact ⟨k + 1, by omega, by go_num, HO.out, HB9.out⟩
                          case measure => simp [intOf]; omega
                  · have hd3 : decide ((k : Int) < ns.length) = false := by simp; omega
                    go_wp2_with fail
                    refine (tcheck_any R.sp R.cap R.fs wr HK.out.s.2.2.2.1.1 HK.out.s.2.2.2.2.1 HK.out.s.2.2.2.2.2).mono ?_
                    rintro e Wz ⟨rfl, bz⟩
                    rw [show checkR R.fs = 0 from if_pos HRB.out.2.2.2]
                    have HFIN : Hid (Below w.heap.size w Wz) := (HK.out.below bz).b
                    clear bz d0
                    go_wp2
                    go_ret
                    exact ⟨rfl, HFIN.out⟩
    · obtain ⟨rfl, rfl, hoc⟩ := HMS.out.2.1 hr hc0
      obtain ⟨sc2, dc2, e, -, -⟩ := hoc.rows
      injection e with e1 e2 e3
      subst e1 e2 e3
      have hpos : 0 < (joinC (pathsA X.fs Y.fs Z.fs)).length := List.length_pos_iff.2 hc0
      have HFIN : Hid (Below w.heap.size w (W5.alloc (.cells #[.slice sf 0 df] 24))) := hB5.alloc hB5.size _
      clear HMS hr q5 b5 hB4 hmm hc0 hoc
      generalize (joinC (pathsA X.fs Y.fs Z.fs)).length = nl at *
      have hg : decide ((0 : Int) < (nl : Int)) = true := by simp; omega
      go_wp2
      go_ret
      exact ⟨rfl, HFIN.out⟩
end Go.Proofs.Ytmbnbehlfbdpnab
