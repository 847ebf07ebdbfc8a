/- A text of a file of one's own is written. -/
/- The law MergeMerges answers true. -/
/- The law MergeSettles answers true. -/
import Derived.Test.YtmbnbehlfbdpnaaMOwC
import Derived.Test.YtmbnbehlfbdpnaaMrgC
import Derived.Test.YtmbnbehlfbdpnaaMrgH
import Derived.Test.YtmbnbehlfbdpnaaMrgB
import Derived.Test.YtmbnbehlfbdpnaaMrgG
import Derived.Test.YtmbnbehlfbdpnaaMTuC
namespace Go.Proofs.Ytmbnbehlfbdpnaa
open Go.RowKit

theorem flat_set : ∀ (xs : List Fi) (i : Nat) (f : Fi) (s : ByteArray), xs[i]? = some f → (xs.flatMap fiC).set (i * 2 + 1) (.string s) = (xs.set i ⟨f.path, s⟩).flatMap fiC
  | [], i, f, s, h => by simp at h
  | a :: r, 0, f, s, h => by
    obtain rfl : a = f := by simpa using h
    rfl
  | a :: r, i + 1, f, s, h => by
    have ih := flat_set r i f s (by simpa using h)
    rw [List.flatMap_cons, List.set_cons_succ, List.flatMap_cons, ← ih]
    have hl : (fiC a).length = 2 := fiC_len a
    rw [List.set_append_right _ _ (by omega), hl]
    congr 2
    omega
theorem OwnF.set {B : Nat} {w : World} {sp : Option Addr} {n cap : Nat} {xs : List Fi} (h : OwnF B w (.slice sp n cap) xs) {i : Nat} {f : Fi} (hi : xs[i]? = some f) (s : ByteArray) :
    ∃ g, sp = some ⟨g, 0, none⟩ ∧ B ≤ g ∧ g < w.heap.size ∧ w.cell? ⟨g, i * 2 + 1, none⟩ = some (.string f.text) ∧ w.frozen? ⟨g, i * 2 + 1, none⟩ = false ∧ (∃ cs, w.heap[g]? = some (.cells cs 46 (0, 0))) ∧ OwnF B (w.setCell ⟨g, i * 2 + 1, none⟩ (.string s)) (.slice sp n cap) (xs.set i ⟨f.path, s⟩) := by
  have hil := (List.getElem?_eq_some_iff.1 hi).1
  rcases h.2 with ⟨e, h0⟩ | ⟨g, cap', cur, e, h1, h2, h3, h4, h5, h6⟩
  · omega
  · injection e with e1 e2 e3
    subst e1 e2 e3
    refine ⟨g, rfl, h1, lt_of_row h2, ?_, frozen_of_row _ _ _ _ _ h2, ⟨cur, h2⟩, ?_, .inr ⟨g, cap, cur.setIfInBounds (i * 2 + 1) (.string s), by rw [List.length_set], h1, heap_setCell_same _ _ _ _ _ _ h2, by rw [List.length_set]; exact h3, h4, by rw [Array.size_setIfInBounds]; exact h5, ?_⟩⟩
    · rw [cell_of_row _ _ _ _ _ _ h2, ← Array.getElem?_toList]
      have : (cur.toList.take (xs.length * 2))[i * 2 + 1]? = (xs.flatMap fiC)[i * 2 + 1]? := by rw [h6]
      rw [List.getElem?_take, if_pos (by omega), flatF_at xs i 1 f hi (by omega)] at this
      rw [this]
      rfl
    · rw [List.length_set, flatF_length, List.length_set]
    · rw [List.length_set, Array.toList_setIfInBounds, List.take_set, h6]
      exact flat_set xs i f s hi
end Go.Proofs.Ytmbnbehlfbdpnaa

namespace Go.Proofs.Ytmbnbehlfbdpnaa
open Go.RowKit

/-- What Merge tells, in one shape. -/
def MShape (w : World) (x y z : Sl) (w' : World) (sf : Option Addr) (nf df : Nat) (sc : Option Addr) (nc dc : Nat) (er : Int) : Prop :=
  (right3 x.fs y.fs z.fs = false → nf = 0 ∧ nc = 0 ∧ er = 170) ∧
  (right3 x.fs y.fs z.fs = true → joinC (pathsA x.fs y.fs z.fs) ≠ [] → nf = 0 ∧ er = 0 ∧ OwnC w.heap.size w' (.slice sc nc dc) (joinC (pathsA x.fs y.fs z.fs))) ∧
  (right3 x.fs y.fs z.fs = true → joinC (pathsA x.fs y.fs z.fs) = [] → nc = 0 ∧ (repoB (joinF (pathsA x.fs y.fs z.fs)) = true → er = 0 ∧ OwnF w.heap.size w' (.slice sf nf df) (joinF (pathsA x.fs y.fs z.fs))) ∧ (repoB (joinF (pathsA x.fs y.fs z.fs)) = false → nf = 0 ∧ er = 6))
theorem merge_shape {w : World} {x y z : Sl} {e : Ending} {w' : World} (h : MergeP w x y z e w') : (∃ sf nf df sc nc dc er, e = .returned (.tuple #[.agg #[.slice sf nf df], .slice sc nc dc, .int .i64 er]) ∧ MShape w x y z w' sf nf df sc nc dc er) ∧ Below w.heap.size w w' := by
  refine ⟨?_, h.2⟩
  obtain ⟨h, -⟩ := h
  unfold MShape
  cases hr : right3 x.fs y.fs z.fs with
  | false =>
    rw [hr] at h
    exact ⟨none, 0, 0, none, 0, 0, 170, h, fun _ => ⟨rfl, rfl, rfl⟩, (fun e => by cases e), fun e => by cases e⟩
  | true =>
    rw [hr, if_pos rfl] at h
    by_cases hc : joinC (pathsA x.fs y.fs z.fs) = []
    · rw [if_pos hc] at h
      cases hp : repoB (joinF (pathsA x.fs y.fs z.fs)) with
      | true =>
        rw [hp, if_pos rfl] at h
        obtain ⟨vf, he, ho⟩ := h
        obtain ⟨sf, df, rfl, -⟩ := ho.rows
        exact ⟨sf, _, df, none, 0, 0, 0, he, (fun e => by cases e), (fun _ e => absurd hc e), fun _ _ => ⟨rfl, fun _ => ⟨rfl, ho⟩, fun e => by cases e⟩⟩
      | false =>
        rw [hp, if_neg (by decide)] at h
        exact ⟨none, 0, 0, none, 0, 0, 6, h, (fun e => by cases e), (fun _ e => absurd hc e), fun _ _ => ⟨rfl, (fun e => by cases e), fun _ => ⟨rfl, rfl⟩⟩⟩
    · rw [if_neg hc] at h
      obtain ⟨vc, he, ho⟩ := h
      obtain ⟨sc, dc, rfl, -⟩ := ho.rows
      exact ⟨none, 0, 0, sc, _, dc, 0, he, (fun e => by cases e), (fun _ _ => ⟨rfl, rfl, ho⟩), fun _ e => absurd e hc⟩
theorem clashes_shape {w : World} {x y z : Sl} {e : Ending} {w' : World} (h : ClashesP w x y z e w') : (∃ sp np dp ef, e = .returned (.tuple #[.slice sp np dp, .int .i64 ef]) ∧ (right3 x.fs y.fs z.fs = false → np = 0 ∧ ef = 170) ∧ (right3 x.fs y.fs z.fs = true → ef = 0 ∧ OwnS w.heap.size w' (.slice sp np dp) (clashPs x.fs y.fs z.fs))) ∧ Below w.heap.size w w' := by
  refine ⟨?_, h.2⟩
  obtain ⟨h, -⟩ := h
  cases hr : right3 x.fs y.fs z.fs with
  | false =>
    rw [hr] at h
    exact ⟨none, 0, 0, 170, h, (fun _ => ⟨rfl, rfl⟩), fun e => by cases e⟩
  | true =>
    rw [hr, if_pos rfl] at h
    obtain ⟨v, he, ho⟩ := h
    obtain ⟨sp, dp, rfl, -⟩ := ho.shape
    exact ⟨sp, _, dp, 0, he, (fun e => by cases e), fun _ => ⟨rfl, ho⟩⟩
/-- What stays while the law goes on behind Merge. -/
structure Keep (w W6 : World) (X Y Z X' Y' Z' : Sl) (gw : Nat) (W : World) : Prop where
  b : Below w.heap.size w W
  q : W.heap[w.heap.size]? = some (.cells (row3 X Y Z) 26 (0, 0))
  g : W.heap[gw]? = some (.cells (row3 X' Y' Z') 26 (0, 0))
  s : SlS W X ∧ SlS W Y ∧ SlS W Z
  t : Trio W X' Y' Z'
theorem Keep.below {w W6 : World} {X Y Z X' Y' Z' : Sl} {gw : Nat} {W W' : World} (h : Keep w W6 X Y Z X' Y' Z' gw W) {n : Nat} (hn : W.heap.size ≤ n) (hb0 : Below n W W') : Keep w W6 X Y Z X' Y' Z' gw W' := by
  have hb : Below W.heap.size W W' := hb0.mono hn
  exact ⟨h.b.trans (hb.mono h.b.size), (hb.block _ (lt_of_row h.q)).trans h.q, (hb.block _ (lt_of_row h.g)).trans h.g, ⟨⟨h.s.1.1.below hb, h.s.1.2⟩, ⟨h.s.2.1.1.below hb, h.s.2.1.2⟩, ⟨h.s.2.2.1.below hb, h.s.2.2.2⟩⟩, h.t.below (Nat.le_refl _) hb⟩
theorem inF_setRow {W : World} {s : Sl} {g : Nat} {cs : Array Value} {t : TypeId} {fr : Nat × Nat} (h : InF W s) (hg : W.heap[g]? = some (.cells cs t fr)) (hn : ∀ (i : Nat) s, cs[i]? ≠ some (.string s)) (x : Array Value) : InF (W.setRow g x) s := ⟨rows_setRow h.1 hg hn x, h.2⟩
set_option maxRecDepth 100000 in
set_option maxHeartbeats 8000000 in
theorem mergeMerges_all (a b c : Sl) (w : World) (ha : InF w a) (hb : InF w b) (hc : InF w c) :
    Calls Try.prog 3 #[.agg #[.slice a.sp a.fs.length a.cap, .slice b.sp b.fs.length b.cap, .slice c.sp c.fs.length c.cap]] w fun e w' => e = .returned (.bool true) ∧ Below w.heap.size w w' := by
  have HA : Hid (InF w a) := ha
  have HB : Hid (InF w b) := hb
  have HC : Hid (InF w c) := hc
  clear ha hb hc
  go_enter Try.func3, Try.ntmps3
  go_wp2_with fail
  refine calls_gen (fun W1 => Below w.heap.size w W1 ∧ W1.heap[w.heap.size]? = some (.cells (row3 a b c) 26 (0, 0))) ⟨(Below.refl _ _).alloc (Nat.le_refl _) _, heap_alloc_new _ _⟩ ?_
  rintro W1 ⟨hB1, r1⟩
  refine (wakes8_any W1).mono ?_
  rintro e W2 ⟨rfl, b2⟩
  have hB2 : Below w.heap.size w W2 := hB1.trans (b2.mono hB1.size)
  have q1 := (b2.block _ (lt_of_row r1)).trans r1
  clear r1 hB1 b2
  have c0 : W2.cell? ⟨w.heap.size, 0, none⟩ = some (.slice a.sp a.fs.length a.cap) := (cell_of_row _ _ _ _ _ _ q1).trans rfl
  have c1 : W2.cell? ⟨w.heap.size, 1, none⟩ = some (.slice b.sp b.fs.length b.cap) := (cell_of_row _ _ _ _ _ _ q1).trans rfl
  have c2 : W2.cell? ⟨w.heap.size, 2, none⟩ = some (.slice c.sp c.fs.length c.cap) := (cell_of_row _ _ _ _ _ _ q1).trans rfl
  go_wp2_with fail
  refine (few_any a b c W2 (HA.out.below hB2) (HB.out.below hB2) (HC.out.below hB2)).mono ?_
  rintro e W3 ⟨⟨X, Y, Z, he, ⟨fX, fY, fZ⟩, ⟨sX, sY, sZ⟩, ⟨iX, iY, iZ⟩⟩, b3⟩
  unfold row3 at he
  subst he
  have hB3 : Below w.heap.size w W3 := hB2.trans (b3.mono hB2.size)
  have q3 := (b3.block _ (lt_of_row q1)).trans q1
  have z0 : W3.frozen? ⟨w.heap.size, 0, none⟩ = false := frozen_of_row _ _ _ _ _ q3
  have z1 : W3.frozen? ⟨w.heap.size, 1, none⟩ = false := frozen_of_row _ _ _ _ _ q3
  have z2 : W3.frozen? ⟨w.heap.size, 2, none⟩ = false := frozen_of_row _ _ _ _ _ q3
  have hone : (row3 X Y Z).all (·.oneCell') = true := by simp [row3, Value.oneCell']
  have HXF : Hid (shortL X.fs = X.fs ∧ shortL Y.fs = Y.fs ∧ shortL Z.fs = Z.fs) := by
    show _ ∧ _ ∧ _
    rw [fX, fY, fZ, shortL_idem, shortL_idem, shortL_idem]
    exact ⟨rfl, rfl, rfl⟩
  have fx : Hid (Below w.heap.size w (W3.setRow w.heap.size (row3 X Y Z)) ∧ (W3.setRow w.heap.size (row3 X Y Z)).heap[w.heap.size]? = some (.cells (row3 X Y Z) 26 (0, 0)) ∧ (SlS (W3.setRow w.heap.size (row3 X Y Z)) X ∧ SlS (W3.setRow w.heap.size (row3 X Y Z)) Y ∧ SlS (W3.setRow w.heap.size (row3 X Y Z)) Z) ∧ (InF (W3.setRow w.heap.size (row3 X Y Z)) X ∧ InF (W3.setRow w.heap.size (row3 X Y Z)) Y ∧ InF (W3.setRow w.heap.size (row3 X Y Z)) Z)) :=
    have k : ∀ s : Sl, SlS W3 s → SlS (W3.setRow w.heap.size (row3 X Y Z)) s := fun s h => ⟨⟨rows_setRow h.1.1 q3 (row3_str a b c) _, h.1.2⟩, h.2⟩
    ⟨below_setRow' hB3 (Nat.le_refl _) _, heap_setRow_same q3, ⟨k X sX, k Y sY, k Z sZ⟩, inF_setRow iX q3 (row3_str a b c) _, inF_setRow iY q3 (row3_str a b c) _, inF_setRow iZ q3 (row3_str a b c) _⟩
  clear c0 c1 c2 q1 b3 hB2 sX sY sZ iX iY iZ fX fY fZ HA HB HC
  go_wp2_with (refine wpList_store_row (by rfl) 26 (.tmp 1) (.tmp 16) (by rfl) w.heap.size (row3 X Y Z) (by rfl) (by rfl) 26 _ q3 (by kernel_rfl) rfl hone ?_; refine wpList_gen (fun W => Below w.heap.size w W ∧ W.heap[w.heap.size]? = some (.cells (row3 X Y Z) 26 (0, 0)) ∧ (SlS W X ∧ SlS W Y ∧ SlS W Z) ∧ (InF W X ∧ InF W Y ∧ InF W Z)) fx.out ?_; intro W4 hW4; have hB4 := hW4.1; have q4 := hW4.2.1; have S4 : Hid (SlS W4 X ∧ SlS W4 Y ∧ SlS W4 Z) := hW4.2.2.1; have I4 : Hid (InF W4 X ∧ InF W4 Y ∧ InF W4 Z) := hW4.2.2.2; have c0 : W4.cell? ⟨w.heap.size, 0, none⟩ = some (.slice X.sp X.fs.length X.cap) := (cell_of_row _ _ _ _ _ _ q4).trans rfl; have c1 : W4.cell? ⟨w.heap.size, 1, none⟩ = some (.slice Y.sp Y.fs.length Y.cap) := (cell_of_row _ _ _ _ _ _ q4).trans rfl; have c2 : W4.cell? ⟨w.heap.size, 2, none⟩ = some (.slice Z.sp Z.fs.length Z.cap) := (cell_of_row _ _ _ _ _ _ q4).trans rfl; clear hW4 fx z0 z1 z2 q3 hB3)
  refine (few_any X Y Z W4 I4.out.1 I4.out.2.1 I4.out.2.2).mono ?_
  rintro e W5 ⟨⟨X', Y', Z', he, ⟨fX, fY, fZ⟩, ⟨sX, sY, sZ⟩, ⟨iX, iY, iZ⟩⟩, b5⟩
  unfold row3 at he
  subst he
  rw [HXF.out.1] at fX
  rw [HXF.out.2.1] at fY
  rw [HXF.out.2.2] at fZ
  have HFS : Hid (X'.fs = X.fs ∧ Y'.fs = Y.fs ∧ Z'.fs = Z.fs) := ⟨fX, fY, fZ⟩
  have hl18 : ∀ l : List Fi, shortL l = l → l.length ≤ 18 := fun l h => by rw [← h]; exact shortL_len l
  have HTR : Hid (Trio W5 X' Y' Z') := ⟨⟨sX, sY, sZ⟩, ⟨iX.2.2.2, iY.2.2.2, iZ.2.2.2⟩, by rw [fX]; exact hl18 _ HXF.out.1, by rw [fY]; exact hl18 _ HXF.out.2.1, by rw [fZ]; exact hl18 _ HXF.out.2.2⟩
  have hB5 : Below w.heap.size w W5 := hB4.trans (b5.mono hB4.size)
  have q5 := (b5.block _ (lt_of_row q4)).trans q4
  have l5 := lt_of_row q5
  have S5 : Hid (SlS W5 X ∧ SlS W5 Y ∧ SlS W5 Z) := ⟨⟨S4.out.1.1.below b5, S4.out.1.2⟩, ⟨S4.out.2.1.1.below b5, S4.out.2.1.2⟩, ⟨S4.out.2.2.1.below b5, S4.out.2.2.2⟩⟩
  clear c0 c1 c2 q4 hB4 b5 S4 I4 sX sY sZ iX iY iZ fX fY fZ hl18 HXF hone
  have c0 : W5.cell? ⟨w.heap.size, 0, none⟩ = some (.slice X.sp X.fs.length X.cap) := (cell_of_row _ _ _ _ _ _ q5).trans rfl
  have c1 : W5.cell? ⟨w.heap.size, 1, none⟩ = some (.slice Y.sp Y.fs.length Y.cap) := (cell_of_row _ _ _ _ _ _ q5).trans rfl
  have c2 : W5.cell? ⟨w.heap.size, 2, none⟩ = some (.slice Z.sp Z.fs.length Z.cap) := (cell_of_row _ _ _ _ _ _ q5).trans rfl
  go_wp2_with fail
  refine calls_gen (fun W6 => Keep w W5 X Y Z X' Y' Z' W5.heap.size W6) ⟨hB5.alloc hB5.size _, (Below.heap_alloc _ _ _ l5).trans q5, heap_alloc_new _ _, ⟨⟨S5.out.1.1.below ((Below.refl _ _).alloc (Nat.le_refl _) _), S5.out.1.2⟩, ⟨S5.out.2.1.1.below ((Below.refl _ _).alloc (Nat.le_refl _) _), S5.out.2.1.2⟩, ⟨S5.out.2.2.1.below ((Below.refl _ _).alloc (Nat.le_refl _) _), S5.out.2.2.2⟩⟩, HTR.out.below (Nat.le_refl _) ((Below.refl _ _).alloc (Nat.le_refl _) _)⟩ ?_
  intro W6 k6
  have HK6 : Hid (Keep w W5 X Y Z X' Y' Z' W5.heap.size W6) := k6
  clear c0 c1 c2 q5 l5 hB5 S5 HTR k6
  refine (merge_any X Y Z W6 HK6.out.s.1 HK6.out.s.2.1 HK6.out.s.2.2).mono ?_
  intro e W7 hm
  obtain ⟨⟨sf, nf, df, sc, nc, dc, er, rfl, hms⟩, b7⟩ := merge_shape hm
  have HMS : Hid (MShape W6 X Y Z W7 sf nf df sc nc dc er) := hms
  have HK7 : Hid (Keep w W5 X Y Z X' Y' Z' W5.heap.size W7) := HK6.out.below (Nat.le_refl _) b7
  have HB67 : Hid (Below W6.heap.size W6 W7) := b7
  clear hm hms b7
  have l7 := lt_of_row HK7.out.g
  have l7' := lt_of_row HK7.out.q
  have c0 : W7.cell? ⟨w.heap.size, 0, none⟩ = some (.slice X.sp X.fs.length X.cap) := (cell_of_row _ _ _ _ _ _ HK7.out.q).trans rfl
  have c1 : W7.cell? ⟨w.heap.size, 1, none⟩ = some (.slice Y.sp Y.fs.length Y.cap) := (cell_of_row _ _ _ _ _ _ HK7.out.q).trans rfl
  have c2 : W7.cell? ⟨w.heap.size, 2, none⟩ = some (.slice Z.sp Z.fs.length Z.cap) := (cell_of_row _ _ _ _ _ _ HK7.out.q).trans rfl
  go_wp2_with fail
  refine calls_gen (fun W8 => Below W7.heap.size W7 W8 ∧ W8.heap[W7.heap.size]? = some (.cells #[.slice sf nf df] 24 (0, 0))) ⟨(Below.refl _ _).alloc (Nat.le_refl _) _, heap_alloc_new _ _⟩ ?_
  rintro W8 ⟨b8, g8⟩
  have HK8 : Hid (Keep w W5 X Y Z X' Y' Z' W5.heap.size W8) := HK7.out.below (Nat.le_refl _) b8
  clear c0 c1 c2 l7 l7'
  refine (clashes_any X Y Z W8 HK8.out.s.1 HK8.out.s.2.1 HK8.out.s.2.2).mono ?_
  intro e W9 hm
  obtain ⟨⟨sp, np, dp, ef, rfl, hp0, hp1⟩, b9⟩ := clashes_shape hm
  have HP0 : Hid _ := hp0
  have HP1 : Hid _ := hp1
  have HK9 : Hid (Keep w W5 X Y Z X' Y' Z' W5.heap.size W9) := HK8.out.below (Nat.le_refl _) b9
  have g9 := (b9.block _ (lt_of_row g8)).trans g8
  have HB79 : Hid (Below W7.heap.size W7 W9) := b8.trans (b9.mono b8.size)
  have HG9 : Hid _ := g9
  clear hm hp0 hp1 b8 b9 g8 g9
  have c0 : W9.cell? ⟨w.heap.size, 0, none⟩ = some (.slice X.sp X.fs.length X.cap) := (cell_of_row _ _ _ _ _ _ HK9.out.q).trans rfl
  have c1 : W9.cell? ⟨w.heap.size, 1, none⟩ = some (.slice Y.sp Y.fs.length Y.cap) := (cell_of_row _ _ _ _ _ _ HK9.out.q).trans rfl
  have c2 : W9.cell? ⟨w.heap.size, 2, none⟩ = some (.slice Z.sp Z.fs.length Z.cap) := (cell_of_row _ _ _ _ _ _ HK9.out.q).trans rfl
  have e0 : W9.cell? ⟨W5.heap.size, 0, none⟩ = some (.slice X'.sp X'.fs.length X'.cap) := (cell_of_row _ _ _ _ _ _ HK9.out.g).trans rfl
  have e1 : W9.cell? ⟨W5.heap.size, 1, none⟩ = some (.slice Y'.sp Y'.fs.length Y'.cap) := (cell_of_row _ _ _ _ _ _ HK9.out.g).trans rfl
  have e2 : W9.cell? ⟨W5.heap.size, 2, none⟩ = some (.slice Z'.sp Z'.fs.length Z'.cap) := (cell_of_row _ _ _ _ _ _ HK9.out.g).trans rfl
  go_wp2_with fail
  have HWH : Hid (∀ W, Keep w W5 X Y Z X' Y' Z' W5.heap.size W → Calls Try.prog 13 #[.agg #[.slice X.sp X.fs.length X.cap, .slice Y.sp Y.fs.length Y.cap, .slice Z.sp Z.fs.length Z.cap], .agg #[.slice X'.sp X'.fs.length X'.cap, .slice Y'.sp Y'.fs.length Y'.cap, .slice Z'.sp Z'.fs.length Z'.cap]] W fun e w' => e = .returned (.bool true) ∧ Below W.heap.size W w') := fun W h => by
    refine (whole8_any X Y Z X' Y' Z' W h.s.1 h.s.2.1 h.s.2.2 h.t.s.1 h.t.s.2.1 h.t.s.2.2).mono ?_
    rintro e w' ⟨he, hw⟩
    rw [HFS.out.1, HFS.out.2.1, HFS.out.2.2, eqAll_refl fiEq_refl, eqAll_refl fiEq_refl, eqAll_refl fiEq_refl] at he
    exact ⟨he, hw⟩
  refine (HWH.out W9 HK9.out).mono ?_
  rintro e W10 ⟨rfl, b10⟩
  have HK10 : Hid (Keep w W5 X Y Z X' Y' Z' W5.heap.size W10) := HK9.out.below (Nat.le_refl _) b10
  have HB710 : Hid (Below W7.heap.size W7 W10) := HB79.out.trans (b10.mono HB79.out.size)
  have HG10 : Hid _ := (b10.block _ (lt_of_row HG9.out)).trans HG9.out
  have HB910 : Hid (Below W9.heap.size W9 W10) := b10
  clear c0 c1 c2 e0 e1 e2 b10
  have e0 : W10.cell? ⟨W5.heap.size, 0, none⟩ = some (.slice X'.sp X'.fs.length X'.cap) := (cell_of_row _ _ _ _ _ _ HK10.out.g).trans rfl
  have e1 : W10.cell? ⟨W5.heap.size, 1, none⟩ = some (.slice Y'.sp Y'.fs.length Y'.cap) := (cell_of_row _ _ _ _ _ _ HK10.out.g).trans rfl
  have e2 : W10.cell? ⟨W5.heap.size, 2, none⟩ = some (.slice Z'.sp Z'.fs.length Z'.cap) := (cell_of_row _ _ _ _ _ _ HK10.out.g).trans rfl
  go_wp2_with fail
  refine (right8_any X' Y' Z' W10 HK10.out.t.s.1 HK10.out.t.s.2.1 HK10.out.t.s.2.2).mono ?_
  rintro e W11 ⟨rfl, b11⟩
  have HRR : Hid ((repoB X'.fs && repoB Y'.fs && repoB Z'.fs) = right3 X.fs Y.fs Z.fs) := by
    show _ = _
    rw [HFS.out.1, HFS.out.2.1, HFS.out.2.2]
    unfold right3
    cases repoB X.fs <;> cases repoB Y.fs <;> cases repoB Z.fs <;> rfl
  rw [HRR.out]
  have HK11 : Hid (Keep w W5 X Y Z X' Y' Z' W5.heap.size W11) := HK10.out.below (Nat.le_refl _) b11
  have HG11 : Hid (W11.heap[W7.heap.size]? = some (.cells #[.slice sf nf df] 24 (0, 0))) := (b11.block _ (lt_of_row HG10.out)).trans HG10.out
  have HB711 : Hid (Below W7.heap.size W7 W11) := HB710.out.trans (b11.mono HB710.out.size)
  have HB911 : Hid (Below W9.heap.size W9 W11) := HB910.out.trans (b11.mono HB910.out.size)
  clear e0 e1 e2 b11 HK7 HK8 HK9 HK10 HG9 HG10 HB79 HB710 HB910 HRR
  cases hr : right3 X.fs Y.fs Z.fs with
  | false =>
    obtain ⟨rfl, rfl, rfl⟩ := HMS.out.1 hr
    obtain ⟨rfl, rfl⟩ := HP0.out hr
    have d0 : W11.cell? ⟨W7.heap.size, 0, none⟩ = some (.slice sf 0 df) := (cell_of_row _ _ _ _ _ _ HG11.out).trans rfl
    have HFIN : Hid (Below w.heap.size w W11) := HK11.out.b
    clear HMS HP0 HP1 HK11 HG11 hr
    go_wp2
    go_ret
    exact ⟨rfl, HFIN.out⟩
  | true =>
    obtain ⟨rfl, hop⟩ := HP1.out hr
    have HJ : Hid (joinC (pathsA X.fs Y.fs Z.fs) = (allPs (X.fs ++ Y.fs ++ Z.fs)).flatMap (refC1 X.fs Y.fs Z.fs)) := joinC_ref hr
    have HJF : Hid (joinC (pathsA X.fs Y.fs Z.fs) = [] → joinF (pathsA X.fs Y.fs Z.fs) = (allPs (X.fs ++ Y.fs ++ Z.fs)).flatMap (refF1 X.fs Y.fs Z.fs)) := fun h => joinF_ref hr (HJ.out.symm.trans h)
    have hll : (joinC (pathsA X.fs Y.fs Z.fs)).length ≤ 48 := by
      have h1 := joinC_len (pathsA X.fs Y.fs Z.fs)
      have h2 := pathsA_len X.fs Y.fs Z.fs
      have h3 := right3_len hr
      omega
    have HM1 : Hid (joinC (pathsA X.fs Y.fs Z.fs) ≠ [] → nf = 0 ∧ er = 0 ∧ OwnC W6.heap.size W7 (.slice sc nc dc) (joinC (pathsA X.fs Y.fs Z.fs))) := HMS.out.2.1 hr
    have HM2 : Hid (joinC (pathsA X.fs Y.fs Z.fs) = [] → nc = 0 ∧ (repoB (joinF (pathsA X.fs Y.fs Z.fs)) = true → er = 0 ∧ OwnF W6.heap.size W7 (.slice sf nf df) (joinF (pathsA X.fs Y.fs Z.fs))) ∧ (repoB (joinF (pathsA X.fs Y.fs Z.fs)) = false → nf = 0 ∧ er = 6)) := HMS.out.2.2 hr
    have hjs : FiS (joinF (pathsA X.fs Y.fs Z.fs)) := joinF_small HK11.out.s.1.2.2 HK11.out.s.2.1.2.2 HK11.out.s.2.2.2.2
    have hjl : (joinF (pathsA X.fs Y.fs Z.fs)).length ≤ 48 := by
      have h1 := joinF_len (pathsA X.fs Y.fs Z.fs)
      have h2 := pathsA_len X.fs Y.fs Z.fs
      have h3 := right3_len hr
      omega
    have HJS : Hid (FiS (joinF (pathsA X.fs Y.fs Z.fs)) ∧ (joinF (pathsA X.fs Y.fs Z.fs)).length ≤ 48) := ⟨hjs, hjl⟩
    clear HMS HP0 HP1 hr hjs hjl
    unfold clashPs at hop
    have e0 : W11.cell? ⟨W5.heap.size, 0, none⟩ = some (.slice X'.sp X'.fs.length X'.cap) := (cell_of_row _ _ _ _ _ _ HK11.out.g).trans rfl
    have e1 : W11.cell? ⟨W5.heap.size, 1, none⟩ = some (.slice Y'.sp Y'.fs.length Y'.cap) := (cell_of_row _ _ _ _ _ _ HK11.out.g).trans rfl
    have e2 : W11.cell? ⟨W5.heap.size, 2, none⟩ = some (.slice Z'.sp Z'.fs.length Z'.cap) := (cell_of_row _ _ _ _ _ _ HK11.out.g).trans rfl
    go_wp2_with fail
    refine (r8clashes_any X' Y' Z' W11 HK11.out.t).mono ?_
    rintro e W12 ⟨⟨v, rfl, how⟩, b12⟩
    rw [HFS.out.1, HFS.out.2.1, HFS.out.2.2, ← HJ.out] at how
    clear e0 e1 e2 HJ
    generalize joinC (pathsA X.fs Y.fs Z.fs) = cls at how hop hll HJF HM1 HM2
    generalize joinF (pathsA X.fs Y.fs Z.fs) = js at HJF HM2 HJS
    obtain ⟨sw, dw, rfl, hrw, -⟩ := how.rows
    obtain ⟨sp2, dp2, e, hcp⟩ := hop.shape
    injection e with e1 e2 e3
    subst e1 e3
    rw [List.length_map] at e2
    subst e2
    have HRW : Hid (RowsAt W12 7 Cl.cells sw cls) := hrw
    have HCP : Hid (∀ W, Below W9.heap.size W9 W → ∀ i d, cls[i]? = some d → ∃ b, sp = some ⟨b, 0, none⟩ ∧ W.cell? ⟨b, i, none⟩ = some (.string d.path)) := fun W h i d hd => by
      obtain ⟨b, e, hc⟩ := hcp i d.path.data.toList (by rw [List.getElem?_map, hd]; rfl)
      exact ⟨b, e, (h.cell (p := ⟨b, i, none⟩) (block_lt_of_cell hc)).trans hc⟩
    have HB912 : Hid (Below W9.heap.size W9 W12) := HB911.out.trans (b12.mono HB911.out.size)
    have HB712 : Hid (Below W7.heap.size W7 W12) := HB711.out.trans (b12.mono HB711.out.size)
    have HG12 : Hid (W12.heap[W7.heap.size]? = some (.cells #[.slice sf nf df] 24 (0, 0))) := (b12.block _ (lt_of_row HG11.out)).trans HG11.out
    have HK12 : Hid (Keep w W5 X Y Z X' Y' Z' W5.heap.size W12) := HK11.out.below (Nat.le_refl _) b12
    have hln : ((cls.length : Int) != (cls.length : Int)) = false := by simp
    clear how hop hrw hcp b12 HB911 HB711 HG11 HK11
    go_wp2
    go_loopw [83] (fun i wr => ∃ k n : Nat, k ≤ cls.length ∧ i = .int .i64 k ∧ wr = W12.drewN n) (fun i _ => cls.length - (intOf i).toNat)
    case atStart => exact ⟨0, 0, Nat.zero_le _, rfl, rfl⟩
    case round =>
      obtain ⟨k, n, hk, rfl, rfl⟩ := hrel
      by_cases hlt : k < cls.length
      · have hd : decide ((k : Int) < cls.length) = true := by simp; omega
        obtain ⟨d, hq⟩ : ∃ d, cls[k]? = some d := ⟨_, List.getElem?_eq_getElem hlt⟩
        obtain ⟨b1, rfl, k1⟩ := HCP.out W12 HB912.out k d hq
        obtain ⟨b2, off, rfl, -⟩ := HRW.out (by omega)
        have k2 : W12.cell? ⟨b2, off + k * 7, none⟩ = some (.string d.path) := cl_cell HRW.out hq 0 _ rfl
        generalize d.path = P at k1 k2
        clear hq
        go_wp2
        go_quiet (fail)
        go_wp2
        go_roundw
        case rel => exact ⟨k + 1, n + nq, by omega, by go_num, rfl⟩
        case measure => simp [intOf]; omega
      · have hd : decide ((k : Int) < cls.length) = false := by simp; omega
        have b13 : Below W12.heap.size W12 (W12.drewN n) := below_drawn' _ _
        generalize W12.drewN n = W13 at b13 ⊢
        have HRW : Hid (RowsAt W13 7 Cl.cells sw cls) := HRW.out.below b13
        have HB713 : Hid (Below W7.heap.size W7 W13) := HB712.out.trans (b13.mono HB712.out.size)
        have HG13 : Hid (W13.heap[W7.heap.size]? = some (.cells #[.slice sf nf df] 24 (0, 0))) := (b13.block _ (lt_of_row HG12.out)).trans HG12.out
        have HK13 : Hid (Keep w W5 X Y Z X' Y' Z' W5.heap.size W13) := HK12.out.below (Nat.le_refl _) b13
        clear b13 HB712 HG12 HK12 HCP HB912
        by_cases hc0 : cls = []
        · subst hc0
          obtain ⟨rfl, hC, hD⟩ := HM2.out rfl
          have hjf := HJF.out rfl
          have HCD : Hid ((repoB js = true → er = 0 ∧ OwnF W6.heap.size W7 (.slice sf nf df) js) ∧ (repoB js = false → nf = 0 ∧ er = 6)) := ⟨hC, hD⟩
          have e0 : W13.cell? ⟨W5.heap.size, 0, none⟩ = some (.slice X'.sp X'.fs.length X'.cap) := (cell_of_row _ _ _ _ _ _ HK13.out.g).trans rfl
          have e1 : W13.cell? ⟨W5.heap.size, 1, none⟩ = some (.slice Y'.sp Y'.fs.length Y'.cap) := (cell_of_row _ _ _ _ _ _ HK13.out.g).trans rfl
          have e2 : W13.cell? ⟨W5.heap.size, 2, none⟩ = some (.slice Z'.sp Z'.fs.length Z'.cap) := (cell_of_row _ _ _ _ _ _ HK13.out.g).trans rfl
          have HJF2 : Hid _ := hjf
          clear hC hD HM1 HM2 HJF hjf HRW hln
          go_wp2_with fail
          refine (r8merged_any X' Y' Z' W13 HK13.out.t).mono ?_
          rintro e W14 ⟨⟨v, rfl, hom⟩, b14⟩
          rw [HFS.out.1, HFS.out.2.1, HFS.out.2.2, ← HJF2.out] at hom
          obtain ⟨sm, dm, rfl, hrm, -⟩ := hom.rows
          have HRM : Hid (RowsAt W14 2 Fi.cells sm js) := hrm
          have HB714 : Hid (Below W7.heap.size W7 W14) := HB713.out.trans (b14.mono HB713.out.size)
          have HG14 : Hid (W14.heap[W7.heap.size]? = some (.cells #[.slice sf nf df] 24 (0, 0))) := (b14.block _ (lt_of_row HG13.out)).trans HG13.out
          have HK14 : Hid (Keep w W5 X Y Z X' Y' Z' W5.heap.size W14) := HK13.out.below (Nat.le_refl _) b14
          clear hom hrm b14 HB713 HG13 HK13 e0 e1 e2 HJF2
          go_wp2_with fail
          refine calls_gen (fun W15 => Below W14.heap.size W14 W15 ∧ W15.heap[W14.heap.size]? = some (.cells #[.slice sm js.length dm] 24 (0, 0))) ⟨(Below.refl _ _).alloc (Nat.le_refl _) _, heap_alloc_new _ _⟩ ?_
          rintro W15 ⟨b15, g15⟩
          refine (r7right_any sm dm js W15 (HRM.out.below b15) HJS.out.1).mono ?_
          rintro e W16 ⟨rfl, b156⟩
          have b16 : Below W14.heap.size W14 W16 := b15.trans (b156.mono b15.size)
          have HRM : Hid (RowsAt W16 2 Fi.cells sm js) := HRM.out.below b16
          have HB716 : Hid (Below W7.heap.size W7 W16) := HB714.out.trans (b16.mono HB714.out.size)
          have HG16 : Hid (W16.heap[W7.heap.size]? = some (.cells #[.slice sf nf df] 24 (0, 0))) := (b16.block _ (lt_of_row HG14.out)).trans HG14.out
          have HM16 : Hid (W16.heap[W14.heap.size]? = some (.cells #[.slice sm js.length dm] 24 (0, 0))) := (b156.block _ (lt_of_row g15)).trans g15
          have HK16 : Hid (Keep w W5 X Y Z X' Y' Z' W5.heap.size W16) := HK14.out.below (Nat.le_refl _) b16
          clear b15 g15 b156 b16 HB714 HG14 HK14
          cases hp : repoB js with
          | false =>
            obtain ⟨rfl, rfl⟩ := HCD.out.2 hp
            have d0 : W16.cell? ⟨W7.heap.size, 0, none⟩ = some (.slice sf 0 df) := (cell_of_row _ _ _ _ _ _ HG16.out).trans rfl
            have HFIN : Hid (Below w.heap.size w W16) := HK16.out.b
            clear hp HCD HRM HM16 HG16
            go_wp2
            go_ret
            exact ⟨rfl, HFIN.out⟩
          | true =>
            obtain ⟨rfl, hof⟩ := HCD.out.1 hp
            obtain ⟨sf2, df2, e, hrf, -⟩ := hof.rows
            injection e with e1 e2 e3
            subst e1 e2 e3
            have HOF : Hid (OwnF W6.heap.size W7 (.slice sf js.length df) js) := hof
            have d0 : W16.cell? ⟨W7.heap.size, 0, none⟩ = some (.slice sf js.length df) := (cell_of_row _ _ _ _ _ _ HG16.out).trans rfl
            have d1 : W16.cell? ⟨W14.heap.size, 0, none⟩ = some (.slice sm js.length dm) := (cell_of_row _ _ _ _ _ _ HM16.out).trans rfl
            have HRF : Hid (RowsAt W16 2 Fi.cells sf js) := hrf.below HB716.out
            clear hp HCD hof hrf
            go_wp2_with fail
            refine (r7same_any sf sm df dm js js W16 HRF.out HRM.out (by have := HJS.out.2; omega)).mono ?_
            rintro e W17 ⟨rfl, b17⟩
            rw [eqAll_refl fiEq_refl]
            have HB717 : Hid (Below W7.heap.size W7 W17) := HB716.out.trans (b17.mono HB716.out.size)
            have HO17 : Hid (OwnF W6.heap.size W17 (.slice sf js.length df) js) := HOF.out.below HB717.out
            have HG17 : Hid (W17.heap[W7.heap.size]? = some (.cells #[.slice sf js.length df] 24 (0, 0))) := (b17.block _ (lt_of_row HG16.out)).trans HG16.out
            have HB617 : Hid (Below W6.heap.size W6 W17) := HB67.out.trans (HB717.out.mono HB67.out.size)
            clear d0 d1 b17 HRF HRM HOF HB716 HG16 HM16 HK16
            have d0 : W17.cell? ⟨W7.heap.size, 0, none⟩ = some (.slice sf js.length df) := (cell_of_row _ _ _ _ _ _ HG17.out).trans rfl
            have hjl := HJS.out.2
            go_wp2
            go_loopw [150] (fun i wr => ∃ (k : Nat) (xs : List Fi), k ≤ js.length ∧ i = .int .i64 k ∧ xs.length = js.length ∧ OwnF W6.heap.size wr (.slice sf js.length df) xs ∧ (∀ i f, k ≤ i → xs[i]? = some f → f.text.size ≤ 1000000) ∧ Below W6.heap.size W6 wr ∧ wr.heap[W7.heap.size]? = some (.cells #[.slice sf js.length df] 24 (0, 0))) (fun i _ => js.length - (intOf i).toNat)
            case atStart => exact ⟨0, js, Nat.zero_le _, rfl, rfl, HO17.out, fun i f _ hf => (HJS.out.1 f (List.mem_of_getElem? hf)).2, HB617.out, HG17.out⟩
            case round =>
              obtain ⟨k, xs, hk, rfl, hxl, hox, hsz, hB, hgr⟩ := hrel
              have HSZ : Hid (∀ i f, k ≤ i → xs[i]? = some f → f.text.size ≤ 1000000) := hsz
              have HGR : Hid _ := hgr
              have HBB : Hid (Below W6.heap.size W6 wr) := hB
              have HXL : Hid (xs.length = js.length) := hxl
              by_cases hlt : k < js.length
              · have hd : decide ((k : Int) < js.length) = true := by simp; omega
                obtain ⟨f, hf⟩ : ∃ f, xs[k]? = some f := ⟨_, List.getElem?_eq_getElem (by omega)⟩
                have hfs := HSZ.out k f (Nat.le_refl _) hf
                obtain ⟨g, rfl, hg1, hg2, u1, z1, hcs, ho2⟩ := hox.set hf (f.text ++ (⟨#[63]⟩ : ByteArray))
                have HO2 : Hid _ := ho2
                have d0 : wr.cell? ⟨W7.heap.size, 0, none⟩ = some (.slice (some ⟨g, 0, none⟩) js.length df) := (cell_of_row _ _ _ _ _ _ HGR.out).trans rfl
                have HNE : Hid (W7.heap.size ≠ g) := fun e => by
                  obtain ⟨cs, hcs⟩ := hcs
                  rw [← e, HGR.out] at hcs
                  injection hcs with hcs
                  injection hcs with _ hcs
                  exact absurd hcs (by decide)
                have HSZ2 : Hid (∀ i f', k + 1 ≤ i → (xs.set k ⟨f.path, f.text ++ (⟨#[63]⟩ : ByteArray)⟩)[i]? = some f' → f'.text.size ≤ 1000000) := fun i f' hi hf' => by
                  rw [List.getElem?_set_ne (by omega)] at hf'
                  exact HSZ.out i f' (by omega) hf'
                have HG1 : Hid (W6.heap.size ≤ g) := hg1
                clear hox hsz hB hgr hxl hcs ho2 hf
                go_wp2
                go_roundw
                case rel => exact ⟨k + 1, xs.set k ⟨f.path, f.text ++ (⟨#[63]⟩ : ByteArray)⟩, by omega, by go_num, by rw [List.length_set]; exact HXL.out, HO2.out, HSZ2.out, HBB.out.setCell (p := ⟨g, k * 2 + 1, none⟩) HG1.out _, (heap_setCell_other _ _ _ _ HNE.out).trans HGR.out⟩
                case measure => simp [intOf]; omega
              · have hd : decide ((k : Int) < js.length) = false := by simp; omega
                have kk : Hid (Keep w W5 X Y Z X' Y' Z' W5.heap.size wr) := HK6.out.below (Nat.le_refl _) HBB.out
                have c0 : wr.cell? ⟨w.heap.size, 0, none⟩ = some (.slice X.sp X.fs.length X.cap) := (cell_of_row _ _ _ _ _ _ kk.out.q).trans rfl
                have c1 : wr.cell? ⟨w.heap.size, 1, none⟩ = some (.slice Y.sp Y.fs.length Y.cap) := (cell_of_row _ _ _ _ _ _ kk.out.q).trans rfl
                have c2 : wr.cell? ⟨w.heap.size, 2, none⟩ = some (.slice Z.sp Z.fs.length Z.cap) := (cell_of_row _ _ _ _ _ _ kk.out.q).trans rfl
                have e0 : wr.cell? ⟨W5.heap.size, 0, none⟩ = some (.slice X'.sp X'.fs.length X'.cap) := (cell_of_row _ _ _ _ _ _ kk.out.g).trans rfl
                have e1 : wr.cell? ⟨W5.heap.size, 1, none⟩ = some (.slice Y'.sp Y'.fs.length Y'.cap) := (cell_of_row _ _ _ _ _ _ kk.out.g).trans rfl
                have e2 : wr.cell? ⟨W5.heap.size, 2, none⟩ = some (.slice Z'.sp Z'.fs.length Z'.cap) := (cell_of_row _ _ _ _ _ _ kk.out.g).trans rfl
                clear hox hsz hB hgr hxl
                go_wp2_with fail
                refine (HWH.out wr kk.out).mono ?_
                rintro e W18 ⟨rfl, b18⟩
                have HFIN : Hid (Below w.heap.size w W18) := (kk.out.below (Nat.le_refl _) b18).b
                clear c0 c1 c2 e0 e1 e2 b18
                go_wp2
                go_ret
                exact ⟨rfl, HFIN.out⟩
        · obtain ⟨rfl, rfl, hoc⟩ := HM1.out hc0
          obtain ⟨sc2, dc2, e, hrc, -⟩ := hoc.rows
          injection e with e1 e2 e3
          subst e1 e2 e3
          have hpos : 0 < cls.length := List.length_pos_iff.2 hc0
          have hg : decide ((0 : Int) < (cls.length : Int)) = true := by simp; omega
          have d0 : W13.cell? ⟨W7.heap.size, 0, none⟩ = some (.slice sf 0 df) := (cell_of_row _ _ _ _ _ _ HG13.out).trans rfl
          have HRC : Hid (RowsAt W13 7 Cl.cells sc cls) := hrc.below HB713.out
          clear hoc hrc HM1 HM2 HJF HJS hc0
          go_wp2_with fail
          refine (r8same_any sc sw dc dw cls cls W13 HRC.out HRW.out (by omega)).mono ?_
          rintro e W14 ⟨rfl, n14, rfl⟩
          rw [eqAll_refl clEq_refl]
          have HFIN : Hid (Below w.heap.size w (W13.drewN n14)) := HK13.out.b.trans (below_drawn' _ _)
          clear HRC HRW d0
          go_wp2
          go_ret
          exact ⟨rfl, HFIN.out⟩
end Go.Proofs.Ytmbnbehlfbdpnaa

namespace Go.Proofs.Ytmbnbehlfbdpnaa
open Go.RowKit

theorem field_repo (sp : Option Addr) (n cap : Nat) (W : World) : (Instr.field 24 (.agg #[.slice sp n cap]) 0).run Try.prog W = .ok (.slice sp n cap) W := by kernel_rfl
/-- What the document has behind a choice. -/
def settledL (a b c ch : List Fi) : List Fi := (allPs (a ++ b ++ c)).flatMap (refG1 a b c ch)
def clashL (a b c : List Fi) : List Cl := (allPs (a ++ b ++ c)).flatMap (refC1 a b c)
/-- What Settle tells, in one shape. -/
def SShape (x y z ch : Sl) (w' : World) (sr : Option Addr) (nr : Nat) (er : Int) : Prop :=
  (right3 x.fs y.fs z.fs = false → nr = 0 ∧ er = 170) ∧
  (right3 x.fs y.fs z.fs = true → ¬ RisesP ch.fs → nr = 0 ∧ er = 2) ∧
  (right3 x.fs y.fs z.fs = true → RisesP ch.fs → ¬ SetP ch.fs (clashL x.fs y.fs z.fs) → nr = 0 ∧ er = 4) ∧
  (right3 x.fs y.fs z.fs = true → RisesP ch.fs → SetP ch.fs (clashL x.fs y.fs z.fs) → FiS (settledL x.fs y.fs z.fs ch.fs) ∧ (repoB (settledL x.fs y.fs z.fs ch.fs) = true → nr = (settledL x.fs y.fs z.fs ch.fs).length ∧ er = 0 ∧ RowsAt w' 2 Fi.cells sr (settledL x.fs y.fs z.fs ch.fs)) ∧ (repoB (settledL x.fs y.fs z.fs ch.fs) = false → nr = 0 ∧ er = 6))
theorem settle_shape {x y z ch : Sl} {e : Ending} {w' : World} (h : SettleP x y z ch e w') (hx : FiS x.fs) (hy : FiS y.fs) (hz : FiS z.fs) (hc : FiS ch.fs) : ∃ sr nr dr er, e = .returned (.tuple #[.agg #[.slice sr nr dr], .int .i64 er]) ∧ SShape x y z ch w' sr nr er := by
  obtain ⟨h1, h2, h3, h4⟩ := h
  unfold SShape
  cases hr : right3 x.fs y.fs z.fs with
  | false => exact ⟨none, 0, 0, 170, h1 hr, fun _ => ⟨rfl, rfl⟩, (fun e => by cases e), (fun e => by cases e), fun e => by cases e⟩
  | true =>
    have ej : joinC (pathsA x.fs y.fs z.fs) = clashL x.fs y.fs z.fs := joinC_ref hr
    rw [ej] at h3 h4
    by_cases hri : RisesP ch.fs
    · by_cases hs : SetP ch.fs (clashL x.fs y.fs z.fs)
      · obtain ⟨ys, hp, hn, hA, hB⟩ := h4 hr hri hs
        have he : ys = settledL x.fs y.fs z.fs ch.fs := settled_eq hr hri (by rw [ej]; exact hs) hp hn
        have hF : FiS ys := fun f hf => by
          rcases List.mem_append.1 (hp.mem_iff.1 hf) with hf | hf
          · exact joinF_small hx hy hz f hf
          · exact hc f hf
        rw [he] at hA hB hF
        cases hrb : repoB (settledL x.fs y.fs z.fs ch.fs) with
        | true =>
          obtain ⟨sp, cap, e1, hr1⟩ := hA hrb
          exact ⟨sp, _, cap, 0, e1, (fun e => by cases e), (fun _ e => absurd hri e), (fun _ _ e => absurd hs e), fun _ _ _ => ⟨hF, (fun _ => ⟨rfl, rfl, hr1⟩), fun e => by cases e⟩⟩
        | false => exact ⟨none, 0, 0, 6, hB hrb, (fun e => by cases e), (fun _ e => absurd hri e), (fun _ _ e => absurd hs e), fun _ _ _ => ⟨hF, (fun e => by cases e), fun _ => ⟨rfl, rfl⟩⟩⟩
      · exact ⟨none, 0, 0, 4, h3 hr hri hs, (fun e => by cases e), (fun _ e => absurd hri e), (fun _ _ _ => ⟨rfl, rfl⟩), fun _ _ e => absurd e hs⟩
    · exact ⟨none, 0, 0, 2, h2 hr hri, (fun e => by cases e), (fun _ _ => ⟨rfl, rfl⟩), (fun _ e => absurd e hri), fun _ e => absurd e hri⟩
set_option maxRecDepth 100000 in
set_option maxHeartbeats 8000000 in
theorem mergeSettles_all (a b c d : Sl) (w : World) (ha : InF w a) (hb : InF w b) (hc : InF w c) (hd : InF w d) :
    Calls Try.prog 4 #[.agg #[.slice a.sp a.fs.length a.cap, .slice b.sp b.fs.length b.cap, .slice c.sp c.fs.length c.cap], .slice d.sp d.fs.length d.cap] w fun e w' => e = .returned (.bool true) ∧ Below w.heap.size w w' := by
  have HA : Hid (InF w a) := ha
  have HB : Hid (InF w b) := hb
  have HC : Hid (InF w c) := hc
  have HD : Hid (∀ W, Below w.heap.size w W → InF W d) := fun W h => hd.below h
  clear ha hb hc hd
  go_enter Try.func4, Try.ntmps4
  go_wp2_with fail
  refine calls_gen (fun W1 => Below w.heap.size w W1 ∧ W1.heap[w.heap.size]? = some (.cells (row3 a b c) 26 (0, 0))) ⟨(Below.refl _ _).alloc (Nat.le_refl _) _, heap_alloc_new _ _⟩ ?_
  rintro W1 ⟨hB1, r1⟩
  refine (wakes8_any W1).mono ?_
  rintro e W2 ⟨rfl, b2⟩
  have hB2 : Below w.heap.size w W2 := hB1.trans (b2.mono hB1.size)
  have q1 := (b2.block _ (lt_of_row r1)).trans r1
  clear r1 hB1 b2
  have c0 : W2.cell? ⟨w.heap.size, 0, none⟩ = some (.slice a.sp a.fs.length a.cap) := (cell_of_row _ _ _ _ _ _ q1).trans rfl
  have c1 : W2.cell? ⟨w.heap.size, 1, none⟩ = some (.slice b.sp b.fs.length b.cap) := (cell_of_row _ _ _ _ _ _ q1).trans rfl
  have c2 : W2.cell? ⟨w.heap.size, 2, none⟩ = some (.slice c.sp c.fs.length c.cap) := (cell_of_row _ _ _ _ _ _ q1).trans rfl
  go_wp2_with fail
  refine (few_any a b c W2 (HA.out.below hB2) (HB.out.below hB2) (HC.out.below hB2)).mono ?_
  rintro e W3 ⟨⟨X, Y, Z, he, ⟨fX, fY, fZ⟩, ⟨sX, sY, sZ⟩, ⟨iX, iY, iZ⟩⟩, b3⟩
  unfold row3 at he
  subst he
  have hB3 : Below w.heap.size w W3 := hB2.trans (b3.mono hB2.size)
  have q3 := (b3.block _ (lt_of_row q1)).trans q1
  have z0 : W3.frozen? ⟨w.heap.size, 0, none⟩ = false := frozen_of_row _ _ _ _ _ q3
  have z1 : W3.frozen? ⟨w.heap.size, 1, none⟩ = false := frozen_of_row _ _ _ _ _ q3
  have z2 : W3.frozen? ⟨w.heap.size, 2, none⟩ = false := frozen_of_row _ _ _ _ _ q3
  have hone : (row3 X Y Z).all (·.oneCell') = true := by simp [row3, Value.oneCell']
  have HXF : Hid (shortL X.fs = X.fs ∧ shortL Y.fs = Y.fs ∧ shortL Z.fs = Z.fs) := by
    show _ ∧ _ ∧ _
    rw [fX, fY, fZ, shortL_idem, shortL_idem, shortL_idem]
    exact ⟨rfl, rfl, rfl⟩
  have fx : Hid (Below w.heap.size w (W3.setRow w.heap.size (row3 X Y Z)) ∧ (W3.setRow w.heap.size (row3 X Y Z)).heap[w.heap.size]? = some (.cells (row3 X Y Z) 26 (0, 0)) ∧ (SlS (W3.setRow w.heap.size (row3 X Y Z)) X ∧ SlS (W3.setRow w.heap.size (row3 X Y Z)) Y ∧ SlS (W3.setRow w.heap.size (row3 X Y Z)) Z) ∧ (InF (W3.setRow w.heap.size (row3 X Y Z)) X ∧ InF (W3.setRow w.heap.size (row3 X Y Z)) Y ∧ InF (W3.setRow w.heap.size (row3 X Y Z)) Z)) :=
    have k : ∀ s : Sl, SlS W3 s → SlS (W3.setRow w.heap.size (row3 X Y Z)) s := fun s h => ⟨⟨rows_setRow h.1.1 q3 (row3_str a b c) _, h.1.2⟩, h.2⟩
    ⟨below_setRow' hB3 (Nat.le_refl _) _, heap_setRow_same q3, ⟨k X sX, k Y sY, k Z sZ⟩, inF_setRow iX q3 (row3_str a b c) _, inF_setRow iY q3 (row3_str a b c) _, inF_setRow iZ q3 (row3_str a b c) _⟩
  clear c0 c1 c2 q1 b3 hB2 sX sY sZ iX iY iZ fX fY fZ HA HB HC
  go_wp2_with (refine wpList_store_row (by rfl) 26 (.tmp 2) (.tmp 19) (by rfl) w.heap.size (row3 X Y Z) (by rfl) (by rfl) 26 _ q3 (by kernel_rfl) rfl hone ?_; refine wpList_gen (fun W => Below w.heap.size w W ∧ W.heap[w.heap.size]? = some (.cells (row3 X Y Z) 26 (0, 0)) ∧ (SlS W X ∧ SlS W Y ∧ SlS W Z) ∧ (InF W X ∧ InF W Y ∧ InF W Z)) fx.out ?_; intro W4 hW4; have hB4 := hW4.1; have q4 := hW4.2.1; have S4 : Hid (SlS W4 X ∧ SlS W4 Y ∧ SlS W4 Z) := hW4.2.2.1; have I4 : Hid (InF W4 X ∧ InF W4 Y ∧ InF W4 Z) := hW4.2.2.2; have c0 : W4.cell? ⟨w.heap.size, 0, none⟩ = some (.slice X.sp X.fs.length X.cap) := (cell_of_row _ _ _ _ _ _ q4).trans rfl; have c1 : W4.cell? ⟨w.heap.size, 1, none⟩ = some (.slice Y.sp Y.fs.length Y.cap) := (cell_of_row _ _ _ _ _ _ q4).trans rfl; have c2 : W4.cell? ⟨w.heap.size, 2, none⟩ = some (.slice Z.sp Z.fs.length Z.cap) := (cell_of_row _ _ _ _ _ _ q4).trans rfl; clear hW4 fx z0 z1 z2 q3 hB3)
  refine (few_any X Y Z W4 I4.out.1 I4.out.2.1 I4.out.2.2).mono ?_
  rintro e W5 ⟨⟨X', Y', Z', he, ⟨fX, fY, fZ⟩, ⟨sX, sY, sZ⟩, ⟨iX, iY, iZ⟩⟩, b5⟩
  unfold row3 at he
  subst he
  rw [HXF.out.1] at fX
  rw [HXF.out.2.1] at fY
  rw [HXF.out.2.2] at fZ
  have HFS : Hid (X'.fs = X.fs ∧ Y'.fs = Y.fs ∧ Z'.fs = Z.fs) := ⟨fX, fY, fZ⟩
  have hl18 : ∀ l : List Fi, shortL l = l → l.length ≤ 18 := fun l h => by rw [← h]; exact shortL_len l
  have HTR : Hid (Trio W5 X' Y' Z') := ⟨⟨sX, sY, sZ⟩, ⟨iX.2.2.2, iY.2.2.2, iZ.2.2.2⟩, by rw [fX]; exact hl18 _ HXF.out.1, by rw [fY]; exact hl18 _ HXF.out.2.1, by rw [fZ]; exact hl18 _ HXF.out.2.2⟩
  have hB5 : Below w.heap.size w W5 := hB4.trans (b5.mono hB4.size)
  have q5 := (b5.block _ (lt_of_row q4)).trans q4
  have l5 := lt_of_row q5
  have S5 : Hid (SlS W5 X ∧ SlS W5 Y ∧ SlS W5 Z) := ⟨⟨S4.out.1.1.below b5, S4.out.1.2⟩, ⟨S4.out.2.1.1.below b5, S4.out.2.1.2⟩, ⟨S4.out.2.2.1.below b5, S4.out.2.2.2⟩⟩
  clear c0 c1 c2 q4 hB4 b5 S4 I4 sX sY sZ iX iY iZ fX fY fZ hl18 HXF hone
  have c0 : W5.cell? ⟨w.heap.size, 0, none⟩ = some (.slice X.sp X.fs.length X.cap) := (cell_of_row _ _ _ _ _ _ q5).trans rfl
  have c1 : W5.cell? ⟨w.heap.size, 1, none⟩ = some (.slice Y.sp Y.fs.length Y.cap) := (cell_of_row _ _ _ _ _ _ q5).trans rfl
  have c2 : W5.cell? ⟨w.heap.size, 2, none⟩ = some (.slice Z.sp Z.fs.length Z.cap) := (cell_of_row _ _ _ _ _ _ q5).trans rfl
  go_wp2_with fail
  refine calls_gen (fun W6 => Keep w W5 X Y Z X' Y' Z' W5.heap.size W6) ⟨hB5.alloc hB5.size _, (Below.heap_alloc _ _ _ l5).trans q5, heap_alloc_new _ _, ⟨⟨S5.out.1.1.below ((Below.refl _ _).alloc (Nat.le_refl _) _), S5.out.1.2⟩, ⟨S5.out.2.1.1.below ((Below.refl _ _).alloc (Nat.le_refl _) _), S5.out.2.1.2⟩, ⟨S5.out.2.2.1.below ((Below.refl _ _).alloc (Nat.le_refl _) _), S5.out.2.2.2⟩⟩, HTR.out.below (Nat.le_refl _) ((Below.refl _ _).alloc (Nat.le_refl _) _)⟩ ?_
  intro W6 k6
  have HK6 : Hid (Keep w W5 X Y Z X' Y' Z' W5.heap.size W6) := k6
  clear c0 c1 c2 q5 l5 hB5 S5 HTR k6
  have HL18 : Hid (∀ l, (shortL l).length ≤ 18) := shortL_len
  refine (short_any d W6 (HD.out W6 HK6.out.b)).mono ?_
  rintro e W7 ⟨⟨vs, rfl, hos⟩, b7⟩
  obtain ⟨ch, rfl, hchf, hchs, hchi⟩ := own_in hos (by have := shortL_len d.fs; omega) (shortL_small _)
  have HCF : Hid (ch.fs = shortL d.fs) := hchf
  have HCS : Hid (∀ W, Below W7.heap.size W7 W → SlS W ch) := fun W h => ⟨hchs.1.below h, hchs.2⟩
  have HCN : Hid (ch.sp = none → ch.fs.length = 0 ∧ ch.cap = 0) := hchi.2.2.2
  have hcl : ch.fs.length ≤ 18 := by rw [hchf]; exact shortL_len _
  have HK7 : Hid (Keep w W5 X Y Z X' Y' Z' W5.heap.size W7) := HK6.out.below (Nat.le_refl _) b7
  clear hos hchf hchs hchi b7
  have c0 : W7.cell? ⟨w.heap.size, 0, none⟩ = some (.slice X.sp X.fs.length X.cap) := (cell_of_row _ _ _ _ _ _ HK7.out.q).trans rfl
  have c1 : W7.cell? ⟨w.heap.size, 1, none⟩ = some (.slice Y.sp Y.fs.length Y.cap) := (cell_of_row _ _ _ _ _ _ HK7.out.q).trans rfl
  have c2 : W7.cell? ⟨w.heap.size, 2, none⟩ = some (.slice Z.sp Z.fs.length Z.cap) := (cell_of_row _ _ _ _ _ _ HK7.out.q).trans rfl
  have hfr := field_repo ch.sp ch.fs.length ch.cap W7
  go_wp2_with fail
  clear hfr
  refine (settle_any X Y Z ch W7 HK7.out.s.1 HK7.out.s.2.1 HK7.out.s.2.2 (HCS.out W7 (Below.refl _ _)) (by omega) HCN.out).mono ?_
  rintro e W8 ⟨hst, b8⟩
  obtain ⟨sr, nr, dr, er, rfl, hss⟩ := settle_shape hst HK7.out.s.1.2.2 HK7.out.s.2.1.2.2 HK7.out.s.2.2.2.2 (HCS.out W7 (Below.refl _ _)).2.2
  have HSS : Hid (SShape X Y Z ch W8 sr nr er) := hss
  have HK8 : Hid (Keep w W5 X Y Z X' Y' Z' W5.heap.size W8) := HK7.out.below (Nat.le_refl _) b8
  have HB78 : Hid (Below W7.heap.size W7 W8) := b8
  clear hst hss b8 c0 c1 c2
  have l8 := lt_of_row HK8.out.g
  have l8' := lt_of_row HK8.out.q
  have c0 : W8.cell? ⟨w.heap.size, 0, none⟩ = some (.slice X.sp X.fs.length X.cap) := (cell_of_row _ _ _ _ _ _ HK8.out.q).trans rfl
  have c1 : W8.cell? ⟨w.heap.size, 1, none⟩ = some (.slice Y.sp Y.fs.length Y.cap) := (cell_of_row _ _ _ _ _ _ HK8.out.q).trans rfl
  have c2 : W8.cell? ⟨w.heap.size, 2, none⟩ = some (.slice Z.sp Z.fs.length Z.cap) := (cell_of_row _ _ _ _ _ _ HK8.out.q).trans rfl
  have e0 : W8.cell? ⟨W5.heap.size, 0, none⟩ = some (.slice X'.sp X'.fs.length X'.cap) := (cell_of_row _ _ _ _ _ _ HK8.out.g).trans rfl
  have e1 : W8.cell? ⟨W5.heap.size, 1, none⟩ = some (.slice Y'.sp Y'.fs.length Y'.cap) := (cell_of_row _ _ _ _ _ _ HK8.out.g).trans rfl
  have e2 : W8.cell? ⟨W5.heap.size, 2, none⟩ = some (.slice Z'.sp Z'.fs.length Z'.cap) := (cell_of_row _ _ _ _ _ _ HK8.out.g).trans rfl
  go_wp2_with fail
  refine calls_gen (fun W9 => Below W8.heap.size W8 W9 ∧ W9.heap[W8.heap.size]? = some (.cells #[.slice sr nr dr] 24 (0, 0))) ⟨(Below.refl _ _).alloc (Nat.le_refl _) _, heap_alloc_new _ _⟩ ?_
  rintro W9 ⟨b9, g9⟩
  have HK9 : Hid (Keep w W5 X Y Z X' Y' Z' W5.heap.size W9) := HK8.out.below (Nat.le_refl _) b9
  clear c0 c1 c2 e0 e1 e2 l8 l8'
  have HWH : Hid (∀ W, Keep w W5 X Y Z X' Y' Z' W5.heap.size W → Calls Try.prog 13 #[.agg #[.slice X.sp X.fs.length X.cap, .slice Y.sp Y.fs.length Y.cap, .slice Z.sp Z.fs.length Z.cap], .agg #[.slice X'.sp X'.fs.length X'.cap, .slice Y'.sp Y'.fs.length Y'.cap, .slice Z'.sp Z'.fs.length Z'.cap]] W fun e w' => e = .returned (.bool true) ∧ Below W.heap.size W w') := fun W h => by
    refine (whole8_any X Y Z X' Y' Z' W h.s.1 h.s.2.1 h.s.2.2 h.t.s.1 h.t.s.2.1 h.t.s.2.2).mono ?_
    rintro e w' ⟨he, hw⟩
    rw [HFS.out.1, HFS.out.2.1, HFS.out.2.2, eqAll_refl fiEq_refl, eqAll_refl fiEq_refl, eqAll_refl fiEq_refl] at he
    exact ⟨he, hw⟩
  refine (HWH.out W9 HK9.out).mono ?_
  rintro e W10 ⟨rfl, b10⟩
  have HB810 : Hid (Below W8.heap.size W8 W10) := b9.trans (b10.mono b9.size)
  have HG10 : Hid (W10.heap[W8.heap.size]? = some (.cells #[.slice sr nr dr] 24 (0, 0))) := (b10.block _ (lt_of_row g9)).trans g9
  have HK10 : Hid (Keep w W5 X Y Z X' Y' Z' W5.heap.size W10) := HK9.out.below (Nat.le_refl _) b10
  clear b9 g9 b10 HK8 HK9
  go_wp2_with fail
  refine (short_any d W10 (HD.out W10 HK10.out.b)).mono ?_
  rintro e W11 ⟨⟨vs, rfl, hos⟩, b11⟩
  obtain ⟨ch2, rfl, hchf, hchs, -⟩ := own_in hos (by have := shortL_len d.fs; omega) (shortL_small _)
  have HB811 : Hid (Below W8.heap.size W8 W11) := HB810.out.trans (b11.mono HB810.out.size)
  have HC2 : Hid (RowsAt W11 2 Fi.cells ch2.sp ch2.fs ∧ ch2.fs = ch.fs) := ⟨hchs.1.1, hchf.trans HCF.out.symm⟩
  have HG11 : Hid (W11.heap[W8.heap.size]? = some (.cells #[.slice sr nr dr] 24 (0, 0))) := (b11.block _ (lt_of_row HG10.out)).trans HG10.out
  have HK11 : Hid (Keep w W5 X Y Z X' Y' Z' W5.heap.size W11) := HK10.out.below (Nat.le_refl _) b11
  have HS11 : Hid (SlS W11 ch) := HCS.out W11 (HB78.out.trans (HB811.out.mono HB78.out.size))
  clear hos hchf hchs b11 HB810 HG10 HK10
  go_wp2_with fail
  refine (r7same_any ch.sp ch2.sp ch.cap ch2.cap ch.fs ch2.fs W11 HS11.out.1.1 HC2.out.1 (by omega)).mono ?_
  rintro e W12 ⟨rfl, b12⟩
  rw [HC2.out.2, eqAll_refl fiEq_refl]
  have HB812 : Hid (Below W8.heap.size W8 W12) := HB811.out.trans (b12.mono HB811.out.size)
  have HG12 : Hid (W12.heap[W8.heap.size]? = some (.cells #[.slice sr nr dr] 24 (0, 0))) := (b12.block _ (lt_of_row HG11.out)).trans HG11.out
  have HK12 : Hid (Keep w W5 X Y Z X' Y' Z' W5.heap.size W12) := HK11.out.below (Nat.le_refl _) b12
  clear b12 HB811 HG11 HK11 HS11 HC2
  have e0 : W12.cell? ⟨W5.heap.size, 0, none⟩ = some (.slice X'.sp X'.fs.length X'.cap) := (cell_of_row _ _ _ _ _ _ HK12.out.g).trans rfl
  have e1 : W12.cell? ⟨W5.heap.size, 1, none⟩ = some (.slice Y'.sp Y'.fs.length Y'.cap) := (cell_of_row _ _ _ _ _ _ HK12.out.g).trans rfl
  have e2 : W12.cell? ⟨W5.heap.size, 2, none⟩ = some (.slice Z'.sp Z'.fs.length Z'.cap) := (cell_of_row _ _ _ _ _ _ HK12.out.g).trans rfl
  go_wp2_with fail
  refine (r8clashes_any X' Y' Z' W12 HK12.out.t).mono ?_
  rintro e W13 ⟨⟨v, rfl, hol⟩, b13⟩
  rw [HFS.out.1, HFS.out.2.1, HFS.out.2.2] at hol
  have hol : OwnC W12.heap.size W13 v (clashL X.fs Y.fs Z.fs) := hol
  obtain ⟨sl, dl, rfl, hrl, -⟩ := hol.rows
  have HB813 : Hid (Below W8.heap.size W8 W13) := HB812.out.trans (b13.mono HB812.out.size)
  have HG13 : Hid (W13.heap[W8.heap.size]? = some (.cells #[.slice sr nr dr] 24 (0, 0))) := (b13.block _ (lt_of_row HG12.out)).trans HG12.out
  have HK13 : Hid (Keep w W5 X Y Z X' Y' Z' W5.heap.size W13) := HK12.out.below (Nat.le_refl _) b13
  have HRL : Hid (∀ W, Below W13.heap.size W13 W → RowsAt W 7 Cl.cells sl (clashL X.fs Y.fs Z.fs)) := fun W h => hrl.below h
  have hll : (clashL X.fs Y.fs Z.fs).length ≤ 54 := by
    have h1 := flat1_len (refC1_len X.fs Y.fs Z.fs) (allPs (X.fs ++ Y.fs ++ Z.fs))
    have h2 := HK12.out.t.plen
    rw [HFS.out.1, HFS.out.2.1, HFS.out.2.2] at h2
    unfold clashL
    omega
  have hml : (settledL X.fs Y.fs Z.fs ch.fs).length ≤ 54 := by
    have h1 := flat1_len (refG1_len X.fs Y.fs Z.fs ch.fs) (allPs (X.fs ++ Y.fs ++ Z.fs))
    have h2 := HK12.out.t.plen
    rw [HFS.out.1, HFS.out.2.1, HFS.out.2.2] at h2
    unfold settledL
    omega
  clear e0 e1 e2 hol hrl b13 HB812 HG12 HK12
  have e0 : W13.cell? ⟨W5.heap.size, 0, none⟩ = some (.slice X'.sp X'.fs.length X'.cap) := (cell_of_row _ _ _ _ _ _ HK13.out.g).trans rfl
  have e1 : W13.cell? ⟨W5.heap.size, 1, none⟩ = some (.slice Y'.sp Y'.fs.length Y'.cap) := (cell_of_row _ _ _ _ _ _ HK13.out.g).trans rfl
  have e2 : W13.cell? ⟨W5.heap.size, 2, none⟩ = some (.slice Z'.sp Z'.fs.length Z'.cap) := (cell_of_row _ _ _ _ _ _ HK13.out.g).trans rfl
  go_wp2_with fail
  refine (r8mergedG_any X' Y' Z' ch W13 HK13.out.t (HCS.out W13 (HB78.out.trans (HB813.out.mono HB78.out.size)))).mono ?_
  rintro e W14 ⟨⟨v, rfl, hom⟩, b14⟩
  rw [HFS.out.1, HFS.out.2.1, HFS.out.2.2] at hom
  have hom : OwnF W13.heap.size W14 v (settledL X.fs Y.fs Z.fs ch.fs) := hom
  obtain ⟨sm, dm, rfl, hrm, -⟩ := hom.rows
  have HRM : Hid (∀ W, Below W14.heap.size W14 W → RowsAt W 2 Fi.cells sm (settledL X.fs Y.fs Z.fs ch.fs)) := fun W h => hrm.below h
  have b15 : Below W14.heap.size W14 (W14.alloc (.cells #[.slice sm (settledL X.fs Y.fs Z.fs ch.fs).length dm] 24)) := (Below.refl _ _).alloc (Nat.le_refl _) _
  have HM15 : Hid ((W14.alloc (.cells #[.slice sm (settledL X.fs Y.fs Z.fs ch.fs).length dm] 24)).heap[W14.heap.size]? = some (.cells #[.slice sm (settledL X.fs Y.fs Z.fs ch.fs).length dm] 24 (0, 0))) := heap_alloc_new _ _
  have HB1315 : Hid (Below W13.heap.size W13 (W14.alloc (.cells #[.slice sm (settledL X.fs Y.fs Z.fs ch.fs).length dm] 24))) := b14.trans (b15.mono b14.size)
  have HB815 : Hid (Below W8.heap.size W8 (W14.alloc (.cells #[.slice sm (settledL X.fs Y.fs Z.fs ch.fs).length dm] 24))) := HB813.out.trans (HB1315.out.mono HB813.out.size)
  have HG15 : Hid ((W14.alloc (.cells #[.slice sm (settledL X.fs Y.fs Z.fs ch.fs).length dm] 24)).heap[W8.heap.size]? = some (.cells #[.slice sr nr dr] 24 (0, 0))) := (HB1315.out.block _ (lt_of_row HG13.out)).trans HG13.out
  have HK15 : Hid (Keep w W5 X Y Z X' Y' Z' W5.heap.size (W14.alloc (.cells #[.slice sm (settledL X.fs Y.fs Z.fs ch.fs).length dm] 24))) := HK13.out.below (Nat.le_refl _) HB1315.out
  have HR15 : Hid (RowsAt (W14.alloc (.cells #[.slice sm (settledL X.fs Y.fs Z.fs ch.fs).length dm] 24)) 2 Fi.cells sm (settledL X.fs Y.fs Z.fs ch.fs)) := HRM.out _ b15
  have HL15 : Hid (RowsAt (W14.alloc (.cells #[.slice sm (settledL X.fs Y.fs Z.fs ch.fs).length dm] 24)) 7 Cl.cells sl (clashL X.fs Y.fs Z.fs)) := HRL.out _ HB1315.out
  have HC15 : Hid (RowsAt (W14.alloc (.cells #[.slice sm (settledL X.fs Y.fs Z.fs ch.fs).length dm] 24)) 2 Fi.cells ch.sp ch.fs) := (HCS.out _ (HB78.out.trans (HB815.out.mono HB78.out.size))).1.1
  clear e0 e1 e2 hom hrm b14 b15 HB813 HG13 HK13 HRM HRL HB1315
  have HE1 : Hid (right3 X.fs Y.fs Z.fs = false → nr = 0 ∧ er = 170) := HSS.out.1
  have HE2 : Hid (right3 X.fs Y.fs Z.fs = true → ¬ RisesP ch.fs → nr = 0 ∧ er = 2) := HSS.out.2.1
  have HE3 : Hid (right3 X.fs Y.fs Z.fs = true → RisesP ch.fs → ¬ SetP ch.fs (clashL X.fs Y.fs Z.fs) → nr = 0 ∧ er = 4) := HSS.out.2.2.1
  have HE4 : Hid (right3 X.fs Y.fs Z.fs = true → RisesP ch.fs → SetP ch.fs (clashL X.fs Y.fs Z.fs) → FiS (settledL X.fs Y.fs Z.fs ch.fs) ∧ (repoB (settledL X.fs Y.fs Z.fs ch.fs) = true → nr = (settledL X.fs Y.fs Z.fs ch.fs).length ∧ er = 0 ∧ RowsAt W8 2 Fi.cells sr (settledL X.fs Y.fs Z.fs ch.fs)) ∧ (repoB (settledL X.fs Y.fs Z.fs ch.fs) = false → nr = 0 ∧ er = 6)) := HSS.out.2.2.2
  clear HSS
  generalize clashL X.fs Y.fs Z.fs = cls at *
  generalize settledL X.fs Y.fs Z.fs ch.fs = ms at *
  have HRR : Hid ((repoB X'.fs && repoB Y'.fs && repoB Z'.fs) = right3 X.fs Y.fs Z.fs) := by
    show _ = _
    rw [HFS.out.1, HFS.out.2.1, HFS.out.2.2]
    unfold right3
    cases repoB X.fs <;> cases repoB Y.fs <;> cases repoB Z.fs <;> rfl
  generalize right3 X.fs Y.fs Z.fs = r3 at *
  go_wp2
  generalize W14.alloc (.cells #[.slice sm ms.length dm] 24) = W15 at *
  go_loopw [12, 72] (fun al i wr => ∃ (k n : Nat) (bl : Bool), k ≤ ch.fs.length ∧ i = .int .i64 k ∧ al = .bool bl ∧ wr = W15.drewN n ∧ (bl = true ↔ cls.length = ch.fs.length ∧ ∀ (j : Nat) (f : Fi) (c : Cl), j < k → ch.fs[j]? = some f → cls[j]? = some c → (f.path.toList == c.path.toList) = true)) (fun _ i _ => ch.fs.length - (intOf i).toNat)
  case atStart => exact ⟨0, 0, _, Nat.zero_le _, rfl, rfl, rfl, ⟨fun h => ⟨by simp at h; omega, fun j f c hj => by omega⟩, fun h => by simp; omega⟩⟩
  case round =>
    obtain ⟨k, n, bl, hk, rfl, rfl, rfl, hif⟩ := hrel
    have HIF : Hid (bl = true ↔ cls.length = ch.fs.length ∧ ∀ (j : Nat) (f : Fi) (c : Cl), j < k → ch.fs[j]? = some f → cls[j]? = some c → (f.path.toList == c.path.toList) = true) := hif
    clear hif
    by_cases hlt : k < ch.fs.length
    · have hd : decide ((k : Int) < ch.fs.length) = true := by simp; omega
      cases bl
      · have HNX : Hid (false = true ↔ cls.length = ch.fs.length ∧ ∀ (j : Nat) (f : Fi) (c : Cl), j < k + 1 → ch.fs[j]? = some f → cls[j]? = some c → (f.path.toList == c.path.toList) = true) := ⟨fun h => by (cases h), fun h => HIF.out.2 ⟨h.1, fun j f c hj => h.2 j f c (by omega)⟩⟩
        go_wp2
        go_quiet (fail)
        go_wp2
        go_roundw
        case rel => exact ⟨k + 1, n + nq, false, by omega, by go_num, rfl, rfl, HNX.out⟩
        case measure => simp [intOf]; omega
      · have hcl2 : k < cls.length := by have := (HIF.out.1 rfl).1; omega
        have hd2 : decide ((k : Int) < cls.length) = true := by simp; omega
        obtain ⟨f, hf⟩ : ∃ f, ch.fs[k]? = some f := ⟨_, List.getElem?_eq_getElem hlt⟩
        obtain ⟨c, hc⟩ : ∃ c, cls[k]? = some c := ⟨_, List.getElem?_eq_getElem hcl2⟩
        have h15 := HC15.out
        obtain ⟨b1, f1, ec, -⟩ := h15 (by omega)
        rw [ec] at h15 ⊢
        have l15 := HL15.out
        obtain ⟨b2, f2, el, -⟩ := l15 (by omega)
        rw [el] at l15 ⊢
        obtain ⟨k0, -⟩ := fi_cell h15 hf
        have k1 : W15.cell? ⟨b2, f2 + k * 7, none⟩ = some (.string c.path) := cl_cell l15 hc 0 _ rfl
        have HNX : Hid (∀ bq, (f.path.toList == c.path.toList) = bq → (bq = true ↔ cls.length = ch.fs.length ∧ ∀ (j : Nat) (f : Fi) (c : Cl), j < k + 1 → ch.fs[j]? = some f → cls[j]? = some c → (f.path.toList == c.path.toList) = true)) := fun bq hbq => by
          rw [← hbq]
          refine ⟨fun h => ⟨(HIF.out.1 rfl).1, fun j f' c' hj hf' hc' => ?_⟩, fun h => h.2 k f c (by omega) hf hc⟩
          by_cases hjk : j < k
          · exact (HIF.out.1 rfl).2 j f' c' hjk hf' hc'
          · obtain rfl : j = k := by omega
            rw [hf] at hf'
            rw [hc] at hc'
            injection hf' with hf'
            injection hc' with hc'
            rw [← hf', ← hc']
            exact h
        have HEC : Hid (ch.sp = some ⟨b1, f1, none⟩) := ec
        have HEL : Hid (sl = some ⟨b2, f2, none⟩) := el
        clear hf hc h15 l15 ec el
        cases hq : (f.path.toList == c.path.toList)
        · go_wp2
          go_quiet (fail)
          go_wp2
          go_roundw
          case rel => exact ⟨k + 1, n + nq, false, by omega, by go_num, rfl, rfl, HNX.out _ hq⟩
          case measure => simp [intOf]; omega
        · go_wp2
          go_quiet (fail)
          go_wp2
          go_roundw
          case rel => exact ⟨k + 1, n + nq, true, by omega, by go_num, rfl, rfl, HNX.out _ hq⟩
          case measure => simp [intOf]; omega
    · have hd : decide ((k : Int) < ch.fs.length) = false := by simp; omega
      have HSET : Hid (bl = true ↔ SetP ch.fs cls) := by
        obtain rfl : k = ch.fs.length := by omega
        refine HIF.out.trans ⟨fun h => (setP_iff _ _ h.1.symm).2 fun j f c hf hc => h.2 j f c (List.getElem?_eq_some_iff.1 hf).1 hf hc, fun h => ?_⟩
        have hle : ch.fs.length = cls.length := by have := congrArg List.length h; simpa using this
        exact ⟨hle.symm, fun j f c _ hf hc => (setP_iff _ _ hle).1 h j f c hf hc⟩
      go_wp2
      go_loopw [14, 15] (fun rs i wr => ∃ (t m : Nat) (br : Bool), 1 ≤ t ∧ t ≤ ch.fs.length + 1 ∧ rs = .bool br ∧ i = .int .i64 t ∧ wr = W15.drewN m ∧ (br = true ↔ ∀ (j : Nat) (f g : Fi), j + 1 < t → ch.fs[j]? = some f → ch.fs[j + 1]? = some g → Op.bytesLess f.path.toList g.path.toList = true)) (fun _ i _ => ch.fs.length + 1 - (intOf i).toNat)
      case atStart => exact ⟨1, n, true, Nat.le_refl _, by omega, rfl, rfl, rfl, ⟨fun _ j f g hj => by omega, fun _ => rfl⟩⟩
      case round =>
        obtain ⟨t, m, br, ht1, ht, rfl, rfl, rfl, hif⟩ := hrel
        have HIR : Hid (br = true ↔ ∀ (j : Nat) (f g : Fi), j + 1 < t → ch.fs[j]? = some f → ch.fs[j + 1]? = some g → Op.bytesLess f.path.toList g.path.toList = true) := hif
        clear hif
        by_cases hlt2 : t < ch.fs.length
        · have hd3 : decide ((t : Int) < ch.fs.length) = true := by simp; omega
          cases br
          · have HNX : Hid (false = true ↔ ∀ (j : Nat) (f g : Fi), j + 1 < t + 1 → ch.fs[j]? = some f → ch.fs[j + 1]? = some g → Op.bytesLess f.path.toList g.path.toList = true) := ⟨fun h => by (cases h), fun h => HIR.out.2 fun j f g hj => h j f g (by omega)⟩
            go_wp2
            go_quiet (fail)
            go_wp2
            go_roundw
            case rel => exact ⟨t + 1, m + nq, false, by omega, by omega, rfl, by go_num, rfl, HNX.out⟩
            case measure => simp [intOf]; omega
          · obtain ⟨f, hf⟩ : ∃ f, ch.fs[t]? = some f := ⟨_, List.getElem?_eq_getElem hlt2⟩
            obtain ⟨pv, hpf⟩ : ∃ pv, ch.fs[t - 1]? = some pv := ⟨_, List.getElem?_eq_getElem (by omega)⟩
            have h15 := HC15.out
            obtain ⟨b1, f1, ec, -⟩ := h15 (by omega)
            rw [ec] at h15 ⊢
            obtain ⟨k0, -⟩ := fi_cell h15 hf
            obtain ⟨k1, -⟩ := fi_cell h15 hpf
            have HNX : Hid (∀ bq, Op.bytesLess pv.path.toList f.path.toList = bq → (bq = true ↔ ∀ (j : Nat) (f g : Fi), j + 1 < t + 1 → ch.fs[j]? = some f → ch.fs[j + 1]? = some g → Op.bytesLess f.path.toList g.path.toList = true)) := fun bq hbq => by
              rw [← hbq]
              refine ⟨fun h j f' g' hj hf' hg' => ?_, fun h => h (t - 1) pv f (by omega) hpf (by rw [show t - 1 + 1 = t by omega]; exact hf)⟩
              by_cases hjt : j + 1 < t
              · exact HIR.out.1 rfl j f' g' hjt hf' hg'
              · obtain rfl : j = t - 1 := by omega
                rw [hpf] at hf'
                rw [show t - 1 + 1 = t by omega, hf] at hg'
                injection hf' with hf'
                injection hg' with hg'
                rw [← hf', ← hg']
                exact h
            have HEC : Hid (ch.sp = some ⟨b1, f1, none⟩) := ec
            clear hf hpf h15 ec
            cases hq : Op.bytesLess pv.path.toList f.path.toList
            · go_wp2
              go_quiet (fail)
              go_wp2
              go_roundw
              case rel => exact ⟨t + 1, m + nq, false, by omega, by omega, rfl, by go_num, rfl, HNX.out _ hq⟩
              case measure => simp [intOf]; omega
            · go_wp2
              go_quiet (fail)
              go_wp2
              go_roundw
              case rel => exact ⟨t + 1, m + nq, true, by omega, by omega, rfl, by go_num, rfl, HNX.out _ hq⟩
              case measure => simp [intOf]; omega
        · have hd3 : decide ((t : Int) < ch.fs.length) = false := by simp; omega
          have HRIS : Hid (br = true ↔ RisesP ch.fs) := HIR.out.trans ⟨fun h j f g hf hg => h j f g (by have := (List.getElem?_eq_some_iff.1 hg).1; omega) hf hg, fun h j f g _ hf hg => h j f g hf hg⟩
          have b16 : Below W15.heap.size W15 (W15.drewN m) := below_drawn' _ _
          generalize W15.drewN m = W16 at b16 ⊢
          have HK16 : Hid (Keep w W5 X Y Z X' Y' Z' W5.heap.size W16) := HK15.out.below (Nat.le_refl _) b16
          have HG16 : Hid (W16.heap[W8.heap.size]? = some (.cells #[.slice sr nr dr] 24 (0, 0))) := (b16.block _ (lt_of_row HG15.out)).trans HG15.out
          have HM16 : Hid (W16.heap[W14.heap.size]? = some (.cells #[.slice sm ms.length dm] 24 (0, 0))) := (b16.block _ (lt_of_row HM15.out)).trans HM15.out
          have HR16 : Hid (RowsAt W16 2 Fi.cells sm ms) := HR15.out.below b16
          have HB816 : Hid (Below W8.heap.size W8 W16) := HB815.out.trans (b16.mono HB815.out.size)
          have e0 : W16.cell? ⟨W5.heap.size, 0, none⟩ = some (.slice X'.sp X'.fs.length X'.cap) := (cell_of_row _ _ _ _ _ _ HK16.out.g).trans rfl
          have e1 : W16.cell? ⟨W5.heap.size, 1, none⟩ = some (.slice Y'.sp Y'.fs.length Y'.cap) := (cell_of_row _ _ _ _ _ _ HK16.out.g).trans rfl
          have e2 : W16.cell? ⟨W5.heap.size, 2, none⟩ = some (.slice Z'.sp Z'.fs.length Z'.cap) := (cell_of_row _ _ _ _ _ _ HK16.out.g).trans rfl
          clear b16 HK15 HG15 HM15 HR15 HB815 HL15 HC15 HIF HIR
          go_wp2_with fail
          refine (right8_any X' Y' Z' W16 HK16.out.t.s.1 HK16.out.t.s.2.1 HK16.out.t.s.2.2).mono ?_
          rintro e W17 ⟨rfl, b17⟩
          rw [HRR.out]
          have HK17 : Hid (Keep w W5 X Y Z X' Y' Z' W5.heap.size W17) := HK16.out.below (Nat.le_refl _) b17
          have HG17 : Hid (W17.heap[W8.heap.size]? = some (.cells #[.slice sr nr dr] 24 (0, 0))) := (b17.block _ (lt_of_row HG16.out)).trans HG16.out
          have HM17 : Hid (W17.heap[W14.heap.size]? = some (.cells #[.slice sm ms.length dm] 24 (0, 0))) := (b17.block _ (lt_of_row HM16.out)).trans HM16.out
          have HR17 : Hid (RowsAt W17 2 Fi.cells sm ms) := HR16.out.below b17
          have HB817 : Hid (Below W8.heap.size W8 W17) := HB816.out.trans (b17.mono HB816.out.size)
          clear b17 HK16 HG16 HM16 HR16 HB816 e0 e1 e2 HRR
          cases r3
          · obtain ⟨rfl, rfl⟩ := HE1.out rfl
            have d0 : W17.cell? ⟨W8.heap.size, 0, none⟩ = some (.slice sr 0 dr) := (cell_of_row _ _ _ _ _ _ HG17.out).trans rfl
            have HFIN : Hid (Below w.heap.size w W17) := HK17.out.b
            clear HE1 HE2 HE3 HE4
            go_wp2
            go_ret
            exact ⟨rfl, HFIN.out⟩
          · cases br
            · obtain ⟨rfl, rfl⟩ := HE2.out rfl (fun h => by have := HRIS.out.2 h; cases this)
              have d0 : W17.cell? ⟨W8.heap.size, 0, none⟩ = some (.slice sr 0 dr) := (cell_of_row _ _ _ _ _ _ HG17.out).trans rfl
              have HFIN : Hid (Below w.heap.size w W17) := HK17.out.b
              clear HE1 HE2 HE3 HE4
              go_wp2
              go_ret
              exact ⟨rfl, HFIN.out⟩
            · cases bl
              · obtain ⟨rfl, rfl⟩ := HE3.out rfl (HRIS.out.1 rfl) (fun h => by have := HSET.out.2 h; cases this)
                have d0 : W17.cell? ⟨W8.heap.size, 0, none⟩ = some (.slice sr 0 dr) := (cell_of_row _ _ _ _ _ _ HG17.out).trans rfl
                have HFIN : Hid (Below w.heap.size w W17) := HK17.out.b
                clear HE1 HE2 HE3 HE4
                go_wp2
                go_ret
                exact ⟨rfl, HFIN.out⟩
              · obtain ⟨hfs, hA, hN⟩ := HE4.out rfl (HRIS.out.1 rfl) (HSET.out.1 rfl)
                have HA : Hid (repoB ms = true → nr = ms.length ∧ er = 0 ∧ RowsAt W8 2 Fi.cells sr ms) := hA
                have HN : Hid (repoB ms = false → nr = 0 ∧ er = 6) := hN
                have d1 : W17.cell? ⟨W14.heap.size, 0, none⟩ = some (.slice sm ms.length dm) := (cell_of_row _ _ _ _ _ _ HM17.out).trans rfl
                have HFS2 : Hid (FiS ms) := hfs
                clear HE1 HE2 HE3 HE4 hA hN hfs
                go_wp2_with fail
                refine (r7right_any sm dm ms W17 HR17.out HFS2.out).mono ?_
                rintro e W18 ⟨rfl, b18⟩
                have HK18 : Hid (Keep w W5 X Y Z X' Y' Z' W5.heap.size W18) := HK17.out.below (Nat.le_refl _) b18
                have HG18 : Hid (W18.heap[W8.heap.size]? = some (.cells #[.slice sr nr dr] 24 (0, 0))) := (b18.block _ (lt_of_row HG17.out)).trans HG17.out
                have HM18 : Hid (W18.heap[W14.heap.size]? = some (.cells #[.slice sm ms.length dm] 24 (0, 0))) := (b18.block _ (lt_of_row HM17.out)).trans HM17.out
                have HR18 : Hid (RowsAt W18 2 Fi.cells sm ms) := HR17.out.below b18
                have HB818 : Hid (Below W8.heap.size W8 W18) := HB817.out.trans (b18.mono HB817.out.size)
                clear b18 HK17 HG17 HM17 HR17 HB817 d1
                cases hp : repoB ms with
                | false =>
                  obtain ⟨rfl, rfl⟩ := HN.out hp
                  have d0 : W18.cell? ⟨W8.heap.size, 0, none⟩ = some (.slice sr 0 dr) := (cell_of_row _ _ _ _ _ _ HG18.out).trans rfl
                  have HFIN : Hid (Below w.heap.size w W18) := HK18.out.b
                  clear HA HN hp
                  go_wp2
                  go_ret
                  exact ⟨rfl, HFIN.out⟩
                | true =>
                  obtain ⟨rfl, rfl, hr8⟩ := HA.out hp
                  have d0 : W18.cell? ⟨W8.heap.size, 0, none⟩ = some (.slice sr ms.length dr) := (cell_of_row _ _ _ _ _ _ HG18.out).trans rfl
                  have d1 : W18.cell? ⟨W14.heap.size, 0, none⟩ = some (.slice sm ms.length dm) := (cell_of_row _ _ _ _ _ _ HM18.out).trans rfl
                  have HR8 : Hid (RowsAt W18 2 Fi.cells sr ms) := hr8.below HB818.out
                  clear HA HN hp hr8
                  go_wp2_with fail
                  refine (r7same_any sr sm dr dm ms ms W18 HR8.out HR18.out (by omega)).mono ?_
                  rintro e W19 ⟨rfl, b19⟩
                  rw [eqAll_refl fiEq_refl]
                  have HFIN : Hid (Below w.heap.size w W19) := (HK18.out.below (Nat.le_refl _) b19).b
                  clear d0 d1 b19
                  go_wp2
                  go_ret
                  exact ⟨rfl, HFIN.out⟩
end Go.Proofs.Ytmbnbehlfbdpnaa
