/- The contracts of the document's Same and of the law's whole. -/
/- The contracts of the law's right and whole. -/
/- The contract of Changed. -/
/- The contract of merge's Clashes. -/
import Derived.Test.YtmbnbehlfbdpnaaTSam
import Derived.Test.YtmbnbehlfbdpnaaMrgA
import Derived.Test.YtmbnbehlfbdpnaaMDif
import Derived.Test.YtmbnbehlfbdpnaaMrgE
namespace Go.Proofs.Ytmbnbehlfbdpnaa
open Go.RowKit

set_option maxRecDepth 100000 in
set_option maxHeartbeats 2000000 in
theorem r7same_any (sp tp : Option Addr) (c1 c2 : Nat) (xs ys : List Fi) (w : World) (h1 : RowsAt w 2 Fi.cells sp xs) (h2 : RowsAt w 2 Fi.cells tp ys) (hlen : xs.length ≤ 100000000) :
    Calls Try.prog 19 #[.agg #[.slice sp xs.length c1], .agg #[.slice tp ys.length c2]] w fun e w' => e = .returned (.bool (eqAll fiEq xs ys)) ∧ Below w.heap.size w w' := by
  have HR1 : Hid (RowsAt w 2 Fi.cells sp xs) := h1
  have HR2 : Hid (RowsAt w 2 Fi.cells tp ys) := h2
  clear h1 h2
  have g1 := heap_alloc_new w (.cells #[.slice sp xs.length c1] 24)
  have g2 := heap_alloc_new (w.alloc (.cells #[.slice sp xs.length c1] 24)) (.cells #[.slice tp ys.length c2] 24)
  have g3 := (Below.heap_alloc (w.alloc (.cells #[.slice sp xs.length c1] 24)) (.cells #[.slice tp ys.length c2] 24) w.heap.size (by simp)).trans g1
  have b0 : Below w.heap.size w ((w.alloc (.cells #[.slice sp xs.length c1] 24)).alloc (.cells #[.slice tp ys.length c2] 24)) := ((Below.refl _ _).alloc (Nat.le_refl _) _).alloc (by simp) _
  rw [World.size_alloc] at g2
  clear g1
  have HP : Hid (∀ b, b = eqAll fiEq xs ys → ∀ W, Below w.heap.size w W → (fun e w' => e = .returned (.bool (eqAll fiEq xs ys)) ∧ Below w.heap.size w w') (Ending.returned (.bool b)) W) := fun b h W hW => ⟨by rw [h], hW⟩
  by_cases hl : xs.length = ys.length
  · have hne : ((xs.length : Int) != (ys.length : Int)) = false := by simp [hl]
    have hall := eqAll_iff (eq := fiEq) hl
    have HALL : Hid _ := hall
    have HL : Hid (xs.length = ys.length) := hl
    clear hall hl
    go_enter Try.func19, Try.ntmps19
    go_wp2
    generalize (w.alloc (.cells #[.slice sp xs.length c1] 24)).alloc (.cells #[.slice tp ys.length c2] 24) = W0 at g2 g3 b0 ⊢
    have HW : Hid (∀ W, Below W0.heap.size W0 W → W.cell? ⟨w.heap.size, 0, none⟩ = some (.slice sp xs.length c1) ∧ W.cell? ⟨w.heap.size + 1, 0, none⟩ = some (.slice tp ys.length c2) ∧ RowsAt W 2 Fi.cells sp xs ∧ RowsAt W 2 Fi.cells tp ys ∧ Below w.heap.size w W) := fun W h =>
      have hb := b0.trans (h.mono b0.size)
      ⟨(cell_of_row _ _ _ _ _ _ ((h.block _ (lt_of_row g3)).trans g3)).trans rfl, (cell_of_row _ _ _ _ _ _ ((h.block _ (lt_of_row g2)).trans g2)).trans rfl, RowsAt.below HR1.out hb, RowsAt.below HR2.out hb, hb⟩
    clear g2 g3 b0
    go_loopw [5] (fun i wr => ∃ (t n : Nat), t ≤ xs.length ∧ i = .int .i64 t ∧ wr = W0.drewN n ∧ ∀ j, j < t → ∀ a b, xs[j]? = some a → ys[j]? = some b → fiEq a b = true) (fun i _ => xs.length - (intOf i).toNat)
    case atStart => exact ⟨0, 0, Nat.zero_le _, rfl, rfl, fun j hj => by omega⟩
    case round =>
      obtain ⟨t, n, ht, rfl, rfl, hz⟩ := hrel
      have HZ : Hid _ := hz
      clear hz
      obtain ⟨k1, k2, h1, h2, -⟩ := HW.out _ (Below.refl _ W0)
      by_cases hlt : t < xs.length
      · have hd : decide ((t : Int) < xs.length) = true := by simp; omega
        have hly : t < ys.length := by have := HL.out; omega
        obtain ⟨b1, o1, rfl, hc1⟩ := h1 (by omega)
        obtain ⟨b2, o2, rfl, hc2⟩ := h2 (by omega)
        have hx : xs[t]? = some (xs[t]'hlt) := List.getElem?_eq_getElem hlt
        have hy : ys[t]? = some (ys[t]'(by omega)) := List.getElem?_eq_getElem (by omega)
        generalize hX : xs[t]'hlt = x at hx
        generalize hY : ys[t]'(by omega) = y at hy
        have e1 : ∀ m, (loadVar 46 ⟨b1, o1 + t * 2, none⟩).run Try.prog ((W0.drewN n).drewN m) = .ok (.agg x.cells) ((W0.drewN n).drewN m) := fun m => run_mid (fun j u hu => hc1 t x hx j u hu) Try.underlying46 rfl (by rw [x.size]; kernel_rfl)
        have e2 : ∀ m, (loadVar 46 ⟨b2, o2 + t * 2, none⟩).run Try.prog ((W0.drewN n).drewN m) = .ok (.agg y.cells) ((W0.drewN n).drewN m) := fun m => run_mid (fun j u hu => hc2 t y hy j u hu) Try.underlying46 rfl (by rw [y.size]; kernel_rfl)
        have heq := equal_fi x y
        have HX : Hid _ := hx
        have HY : Hid _ := hy
        clear hc1 hc2 h1 h2 hX hY hx hy
        cases hb : fiEq x y with
        | true =>
          rw [hb] at heq
          have HB : Hid _ := hb
          clear hb
          go_wp2
          refine wp_region_quiet_lit (by kernel_rfl) (by kernel_rfl) ?_
          repeat (go_big_quiet_step (fail))
          refine quiet_load (.agg x.cells) 46 (.tmp 23) ⟨b1, o1 + t * 2, none⟩ (by rfl) (by rintro _ ⟨m, rfl⟩; exact e1 m) ?_
          simp only [List.setIfInBounds_toArray, List.set_cons_succ, List.set_cons_zero]
          repeat (go_big_quiet_step (fail))
          refine quiet_load (.agg y.cells) 46 (.tmp 28) ⟨b2, o2 + t * 2, none⟩ (by rfl) (by rintro _ ⟨m, rfl⟩; exact e2 m) ?_
          simp only [List.setIfInBounds_toArray, List.set_cons_succ, List.set_cons_zero]
          repeat (go_big_quiet_step (fail))
          refine wpQuiet_nil ?_
          rintro _ ⟨nq, rfl⟩
          clear e1 e2 heq
          go_wp2
          go_roundw
          case rel =>
            refine ⟨t + 1, n + nq, by omega, by go_num, rfl, fun j hj a b ha hb => ?_⟩
            by_cases hj' : j < t
            · exact HZ.out j hj' a b ha hb
            · obtain rfl : j = t := by omega
              have q1 := Option.some.inj (ha.symm.trans HX.out)
              have q2 := Option.some.inj (hb.symm.trans HY.out)
              rw [q1, q2]
              exact HB.out
          case measure => simp [intOf]; omega
        | false =>
          rw [hb] at heq
          have HB : Hid _ := hb
          clear hb
          go_wp2
          refine wp_region_quiet_lit (by kernel_rfl) (by kernel_rfl) ?_
          repeat (go_big_quiet_step (fail))
          refine quiet_load (.agg x.cells) 46 (.tmp 23) ⟨b1, o1 + t * 2, none⟩ (by rfl) (by rintro _ ⟨m, rfl⟩; exact e1 m) ?_
          simp only [List.setIfInBounds_toArray, List.set_cons_succ, List.set_cons_zero]
          repeat (go_big_quiet_step (fail))
          refine quiet_load (.agg y.cells) 46 (.tmp 28) ⟨b2, o2 + t * 2, none⟩ (by rfl) (by rintro _ ⟨m, rfl⟩; exact e2 m) ?_
          simp only [List.setIfInBounds_toArray, List.set_cons_succ, List.set_cons_zero]
          repeat (go_big_quiet_step (fail))
          refine wpQuiet_nil ?_
          rintro _ ⟨nq, rfl⟩
          clear e1 e2 heq
          go_wp2
          go_ret
          refine HP.out _ ?_ _ ((HW.out _ (below_drawn' W0 n)).2.2.2.2.trans (below_drawn' _ nq))
          cases h : eqAll fiEq xs ys with
          | false => rfl
          | true =>
            have := HALL.out.1 h t x y HX.out HY.out
            rw [HB.out] at this
            cases this
      · have hd : decide ((t : Int) < xs.length) = false := by simp; omega
        have htl : t = xs.length := by omega
        have HT : Hid _ := htl
        clear h1 h2 htl
        go_wp2
        go_ret
        refine HP.out _ ?_ _ (HW.out _ (below_drawn' W0 n)).2.2.2.2
        rw [eq_comm, HALL.out]
        intro i a b ha hb
        have hi : i < xs.length := by
          by_cases hi : i < xs.length
          · exact hi
          · rw [List.getElem?_eq_none (by omega)] at ha; cases ha
        exact HZ.out i (by rw [HT.out]; exact hi) a b ha hb
  · have hne : ((xs.length : Int) != (ys.length : Int)) = true := by simpa using fun h => hl (by omega)
    have HF : Hid (false = eqAll fiEq xs ys) := by
      show false = eqAll fiEq xs ys
      cases h : eqAll fiEq xs ys with
      | false => rfl
      | true => exact absurd (eqAll_len h) hl
    clear hl g2 g3
    go_enter Try.func19, Try.ntmps19
    go_wp2
    go_ret
    exact HP.out _ HF.out _ b0
end Go.Proofs.Ytmbnbehlfbdpnaa

namespace Go.Proofs.Ytmbnbehlfbdpnaa
open Go.RowKit

set_option maxRecDepth 100000 in
set_option maxHeartbeats 4000000 in
theorem right8_any (x y z : Sl) (w : World) (hx : SlS w x) (hy : SlS w y) (hz : SlS w z) :
    Calls Try.prog 14 #[.agg #[.slice x.sp x.fs.length x.cap, .slice y.sp y.fs.length y.cap, .slice z.sp z.fs.length z.cap]] w fun e w' => e = .returned (.bool (repoB x.fs && repoB y.fs && repoB z.fs)) ∧ Below w.heap.size w w' := by
  have HS : Hid (∀ W, Below w.heap.size w W → SlS W x ∧ SlS W y ∧ SlS W z) := fun W h => ⟨⟨hx.1.below h, hx.2⟩, ⟨hy.1.below h, hy.2⟩, ⟨hz.1.below h, hz.2⟩⟩
  have HP : Hid (∀ b, b = (repoB x.fs && repoB y.fs && repoB z.fs) → ∀ W, Below w.heap.size w W → (fun e w' => e = .returned (.bool (repoB x.fs && repoB y.fs && repoB z.fs)) ∧ Below w.heap.size w w') (Ending.returned (.bool b)) W) := fun b h W hW => ⟨by rw [h], hW⟩
  clear hx hy hz
  go_enter Try.func14, Try.ntmps14
  go_wp2_with fail
  refine calls_gen (fun W0 => Below w.heap.size w W0 ∧ W0.heap[w.heap.size]? = some (.cells #[.slice x.sp x.fs.length x.cap, .slice y.sp y.fs.length y.cap, .slice z.sp z.fs.length z.cap] 26 (0, 0))) ⟨(Below.refl _ _).alloc (Nat.le_refl _) _, heap_alloc_new _ _⟩ ?_
  rintro W0 ⟨b0, g0⟩
  have HC : Hid (∀ W, Below W0.heap.size W0 W → W.cell? ⟨w.heap.size, 1, none⟩ = some (.slice y.sp y.fs.length y.cap) ∧ W.cell? ⟨w.heap.size, 2, none⟩ = some (.slice z.sp z.fs.length z.cap) ∧ Below w.heap.size w W) := fun W h =>
    have hg := (h.block _ (lt_of_row g0)).trans g0
    ⟨(cell_of_row _ _ _ _ _ _ hg).trans rfl, (cell_of_row _ _ _ _ _ _ hg).trans rfl, b0.trans (h.mono b0.size)⟩
  obtain ⟨sx, -, -⟩ := HS.out W0 b0
  refine (r7right_any x.sp x.cap x.fs W0 sx.1.1 sx.2.2).mono ?_
  clear sx g0 b0
  rintro e W1 ⟨rfl, b1⟩
  obtain ⟨c1, c2, hb1⟩ := HC.out W1 b1
  cases h1 : repoB x.fs with
  | false =>
    go_wp2
    go_ret
    exact HP.out false (by rw [h1]; rfl) _ hb1
  | true =>
    go_wp2_with fail
    refine (r7right_any y.sp y.cap y.fs W1 (HS.out W1 hb1).2.1.1.1 (HS.out W1 hb1).2.1.2.2).mono ?_
    rintro e W2 ⟨rfl, b12⟩
    have b2 : Below W0.heap.size W0 W2 := b1.trans (b12.mono b1.size)
    clear c1 c2 b12
    obtain ⟨c1, c2, hb2⟩ := HC.out W2 b2
    cases h2 : repoB y.fs with
    | false =>
      go_wp2
      go_ret
      exact HP.out false (by rw [h1, h2]; rfl) _ hb2
    | true =>
      go_wp2_with fail
      refine (r7right_any z.sp z.cap z.fs W2 (HS.out W2 hb2).2.2.1.1 (HS.out W2 hb2).2.2.2.2).mono ?_
      rintro e W3 ⟨rfl, b23⟩
      have hb3 : Below w.heap.size w W3 := hb2.trans (b23.mono hb2.size)
      clear c1 c2 b23
      go_wp2
      go_ret
      exact HP.out (repoB z.fs) (by rw [h1, h2]; rfl) _ hb3
set_option maxRecDepth 100000 in
set_option maxHeartbeats 4000000 in
theorem whole8_any (x y z x' y' z' : Sl) (w : World) (hx : SlS w x) (hy : SlS w y) (hz : SlS w z) (hx' : SlS w x') (hy' : SlS w y') (hz' : SlS w z') :
    Calls Try.prog 13 #[.agg #[.slice x.sp x.fs.length x.cap, .slice y.sp y.fs.length y.cap, .slice z.sp z.fs.length z.cap], .agg #[.slice x'.sp x'.fs.length x'.cap, .slice y'.sp y'.fs.length y'.cap, .slice z'.sp z'.fs.length z'.cap]] w fun e w' => e = .returned (.bool (eqAll fiEq x.fs x'.fs && eqAll fiEq y.fs y'.fs && eqAll fiEq z.fs z'.fs)) ∧ Below w.heap.size w w' := by
  have HS : Hid (∀ W, Below w.heap.size w W → SlS W x ∧ SlS W y ∧ SlS W z ∧ SlS W x' ∧ SlS W y' ∧ SlS W z') := fun W h => ⟨⟨hx.1.below h, hx.2⟩, ⟨hy.1.below h, hy.2⟩, ⟨hz.1.below h, hz.2⟩, ⟨hx'.1.below h, hx'.2⟩, ⟨hy'.1.below h, hy'.2⟩, ⟨hz'.1.below h, hz'.2⟩⟩
  have HP : Hid (∀ b, b = (eqAll fiEq x.fs x'.fs && eqAll fiEq y.fs y'.fs && eqAll fiEq z.fs z'.fs) → ∀ W, Below w.heap.size w W → (fun e w' => e = .returned (.bool (eqAll fiEq x.fs x'.fs && eqAll fiEq y.fs y'.fs && eqAll fiEq z.fs z'.fs)) ∧ Below w.heap.size w w') (Ending.returned (.bool b)) W) := fun b h W hW => ⟨by rw [h], hW⟩
  have hxl := hx.2.1
  have hyl := hy.2.1
  have hzl := hz.2.1
  clear hx hy hz hx' hy' hz'
  go_enter Try.func13, Try.ntmps13
  go_wp2_with fail
  refine calls_gen (fun W0 => Below w.heap.size w W0 ∧ W0.heap[w.heap.size]? = some (.cells #[.slice x.sp x.fs.length x.cap, .slice y.sp y.fs.length y.cap, .slice z.sp z.fs.length z.cap] 26 (0, 0)) ∧ W0.heap[w.heap.size + 1]? = some (.cells #[.slice x'.sp x'.fs.length x'.cap, .slice y'.sp y'.fs.length y'.cap, .slice z'.sp z'.fs.length z'.cap] 26 (0, 0))) ⟨((Below.refl _ _).alloc (Nat.le_refl _) _).alloc (by simp) _, (Below.heap_alloc _ _ _ (by simp)).trans (heap_alloc_new _ _), ?_⟩ ?_
  · have := heap_alloc_new (w.alloc (.cells #[.slice x.sp x.fs.length x.cap, .slice y.sp y.fs.length y.cap, .slice z.sp z.fs.length z.cap] 26)) (.cells #[.slice x'.sp x'.fs.length x'.cap, .slice y'.sp y'.fs.length y'.cap, .slice z'.sp z'.fs.length z'.cap] 26)
    rw [World.size_alloc] at this
    exact this
  rintro W0 ⟨b0, g0, g1⟩
  have HC : Hid (∀ W, Below W0.heap.size W0 W → W.cell? ⟨w.heap.size, 1, none⟩ = some (.slice y.sp y.fs.length y.cap) ∧ W.cell? ⟨w.heap.size, 2, none⟩ = some (.slice z.sp z.fs.length z.cap) ∧ W.cell? ⟨w.heap.size + 1, 1, none⟩ = some (.slice y'.sp y'.fs.length y'.cap) ∧ W.cell? ⟨w.heap.size + 1, 2, none⟩ = some (.slice z'.sp z'.fs.length z'.cap) ∧ Below w.heap.size w W) := fun W h =>
    have hg := (h.block _ (lt_of_row g0)).trans g0
    have hg1 := (h.block _ (lt_of_row g1)).trans g1
    ⟨(cell_of_row _ _ _ _ _ _ hg).trans rfl, (cell_of_row _ _ _ _ _ _ hg).trans rfl, (cell_of_row _ _ _ _ _ _ hg1).trans rfl, (cell_of_row _ _ _ _ _ _ hg1).trans rfl, b0.trans (h.mono b0.size)⟩
  obtain ⟨sx, -, -, sx', -, -⟩ := HS.out W0 b0
  refine (r7same_any x.sp x'.sp x.cap x'.cap x.fs x'.fs W0 sx.1.1 sx'.1.1 (by omega)).mono ?_
  clear sx sx' g0 g1 b0
  rintro e W1 ⟨rfl, b1⟩
  obtain ⟨c1, c2, c3, c4, hb1⟩ := HC.out W1 b1
  cases h1 : eqAll fiEq x.fs x'.fs with
  | false =>
    go_wp2
    go_ret
    exact HP.out false (by rw [h1]; rfl) _ hb1
  | true =>
    go_wp2_with fail
    obtain ⟨-, sy, -, -, sy', -⟩ := HS.out W1 hb1
    refine (r7same_any y.sp y'.sp y.cap y'.cap y.fs y'.fs W1 sy.1.1 sy'.1.1 (by omega)).mono ?_
    rintro e W2 ⟨rfl, b12⟩
    have b2 : Below W0.heap.size W0 W2 := b1.trans (b12.mono b1.size)
    clear c1 c2 c3 c4 b12 sy sy'
    obtain ⟨c1, c2, c3, c4, hb2⟩ := HC.out W2 b2
    cases h2 : eqAll fiEq y.fs y'.fs with
    | false =>
      go_wp2
      go_ret
      exact HP.out false (by rw [h1, h2]; rfl) _ hb2
    | true =>
      go_wp2_with fail
      obtain ⟨-, -, sz, -, -, sz'⟩ := HS.out W2 hb2
      refine (r7same_any z.sp z'.sp z.cap z'.cap z.fs z'.fs W2 sz.1.1 sz'.1.1 (by omega)).mono ?_
      rintro e W3 ⟨rfl, b23⟩
      have hb3 : Below w.heap.size w W3 := hb2.trans (b23.mono hb2.size)
      clear c1 c2 c3 c4 b23 sz sz'
      go_wp2
      go_ret
      exact HP.out (eqAll fiEq z.fs z'.fs) (by rw [h1, h2]; rfl) _ hb3
end Go.Proofs.Ytmbnbehlfbdpnaa

namespace Go.Proofs.Ytmbnbehlfbdpnaa
open Go.RowKit

def changedL (a b : List Fi) : List (List UInt8) := (diffL a b).map fun d => d.path.data.toList
/-- What Changed tells. -/
def ChangedP (w : World) (x y : Sl) (e : Ending) (w' : World) : Prop :=
  (if repoB x.fs && repoB y.fs then ∃ v, e = .returned (.tuple #[v, .int .i64 0]) ∧ OwnS w.heap.size w' v (changedL x.fs y.fs) else e = .returned (.tuple #[.slice none 0 0, .int .i64 170])) ∧ Below w.heap.size w w'
theorem diffL_len (a b : List Fi) : (diffL a b).length ≤ a.length + b.length := by
  unfold diffL
  exact Nat.le_trans (List.length_filter_le _ _) (by rw [List.length_map]; exact diffPs_len a b)
theorem de_cell {w : World} {b off i : Nat} {fs : List De} (h : RowsAt w 5 De.cells (some ⟨b, off, none⟩) fs) {d : De} (hf : fs[i]? = some d) : w.cell? ⟨b, off + i * 5, none⟩ = some (.string d.path) ∧ w.cell? ⟨b, off + i * 5 + 1, none⟩ = some (.bool d.was) ∧ w.cell? ⟨b, off + i * 5 + 2, none⟩ = some (.bool d.is) ∧ w.cell? ⟨b, off + i * 5 + 3, none⟩ = some (.string d.old) ∧ w.cell? ⟨b, off + i * 5 + 4, none⟩ = some (.string d.new) := by
  obtain ⟨b', off', e, hc⟩ := h (by have := (List.getElem?_eq_some_iff.1 hf).1; omega)
  injection e with e
  injection e with e1 e2
  subst e1 e2
  exact ⟨hc i d hf 0 _ rfl, hc i d hf 1 _ rfl, hc i d hf 2 _ rfl, hc i d hf 3 _ rfl, hc i d hf 4 _ rfl⟩
set_option maxRecDepth 100000 in
set_option maxHeartbeats 4000000 in
theorem changed_any (x y : Sl) (w : World) (hx : SlS w x) (hy : SlS w y) (nx : x.sp = none → x.fs.length = 0 ∧ x.cap = 0) (ny : y.sp = none → y.fs.length = 0 ∧ y.cap = 0) :
    Calls Try.prog 22 #[.agg #[.slice x.sp x.fs.length x.cap], .agg #[.slice y.sp y.fs.length y.cap]] w (ChangedP w x y) := by
  go_enter Try.func22, Try.ntmps22
  go_wp2_with fail
  refine calls_gen (fun W0 => Below w.heap.size w W0) (((Below.refl _ _).alloc (Nat.le_refl _) _).alloc (by simp) _) ?_
  intro W0 hb0
  refine (diff_any x y W0 ⟨hx.1.below hb0, hx.2⟩ ⟨hy.1.below hb0, hy.2⟩ nx ny).mono ?_
  rintro e W1 ⟨hd, hb1⟩
  have hb : Below w.heap.size w W1 := hb0.trans (hb1.mono hb0.size)
  clear hx hy nx ny hb1
  cases hr : (repoB x.fs && repoB y.fs) with
  | false =>
    rw [hr] at hd
    obtain rfl : e = _ := hd
    have HP : Hid (ChangedP w x y (.returned (.tuple #[.slice none 0 0, .int .i64 170])) W1) := ⟨by rw [hr]; rfl, hb⟩
    clear hr
    go_wp2
    refine bodyPost_ret (v := .tuple #[.slice none 0 0, .int .i64 170]) (results_two Try.results22 _ _ _ _ rfl rfl) rfl HP.out
  | true =>
    rw [hr] at hd
    obtain ⟨v, rfl, ho⟩ := hd
    have HGOOD : Hid (∀ v W, OwnS w.heap.size W v (changedL x.fs y.fs) → Below w.heap.size w W → ChangedP w x y (.returned (.tuple #[v, .int .i64 0])) W) := fun v W ho hW => ⟨by rw [hr]; exact ⟨v, rfl, ho⟩, hW⟩
    have hll : (diffL x.fs y.fs).length ≤ 32 := by
      have h1 := diffL_len x.fs y.fs
      have h2 : x.fs.length ≤ 16 ∧ y.fs.length ≤ 16 := by
        rw [Bool.and_eq_true] at hr
        obtain ⟨ha, hb⟩ := hr
        unfold repoB at ha hb
        simp only [Bool.and_eq_true, decide_eq_true_eq] at ha hb
        exact ⟨ha.1, hb.1⟩
      omega
    have HCH : Hid (changedL x.fs y.fs = (diffL x.fs y.fs).map fun d => d.path.data.toList) := rfl
    obtain ⟨sv, cv, hv5, hr5, -⟩ := ho.rows
    subst hv5
    have HR5 : Hid (RowsAt W1 5 De.cells sv (diffL x.fs y.fs)) := hr5
    generalize diffL x.fs y.fs = zs at hll HCH HR5 ⊢
    clear ho hr5 hr
    go_wp2
    go_loopw [8, 22] (fun l i wr => ∃ t : Nat, t ≤ zs.length ∧ i = .int .i64 t ∧ OwnS W1.heap.size wr l ((zs.take t).map fun d => d.path.data.toList) ∧ Below W1.heap.size W1 wr) (fun _ i _ => zs.length - (intOf i).toNat)
    case atStart => exact ⟨0, Nat.zero_le _, rfl, ownS_nil _ _, Below.refl _ _⟩
    case round =>
      obtain ⟨t, ht, rfl, hos, hB⟩ := hrel
      have HOS : Hid (OwnS W1.heap.size wr _ ((zs.take t).map fun d => d.path.data.toList)) := hos
      clear hos
      by_cases hlt : t < zs.length
      · have hd : decide ((t : Int) < zs.length) = true := by simp; omega
        obtain ⟨b, off, rfl, -⟩ := HR5.out (by omega)
        obtain ⟨f, hf⟩ : ∃ f, zs[t]? = some f := ⟨_, List.getElem?_eq_getElem hlt⟩
        obtain ⟨c0, c1, c2, c3, c4⟩ := de_cell (RowsAt.below HR5.out hB) hf
        have HST : Hid (((zs.take (t + 1)).map fun d => d.path.data.toList) = ((zs.take t).map fun d => d.path.data.toList) ++ [f.path.data.toList]) := by
          show _ = _
          rw [List.take_add_one, hf]
          simp
        have HLN : Hid (((zs.take t).map fun d => d.path.data.toList).length + 1 ≤ 100000) := by
          show ((zs.take t).map fun d => d.path.data.toList).length + 1 ≤ 100000
          rw [List.length_map, List.length_take]
          omega
        have B2 : Below wr.heap.size wr ((wr.alloc (.cells #[.string f.path, .bool f.was, .bool f.is, .string f.old, .string f.new] 74)).alloc (.cells #[.string f.path] 9)) := ((Below.refl _ _).alloc (Nat.le_refl _) _).alloc (by simp) _
        have g2 := heap_alloc_new (wr.alloc (.cells #[.string f.path, .bool f.was, .bool f.is, .string f.old, .string f.new] 74)) (.cells #[.string f.path] 9)
        rw [World.size_alloc] at g2
        obtain ⟨v9, W9, hr9, ho9, hg9⟩ := text_run 33 (HOS.out.below B2) g2 HLN.out (Nat.le_trans hB.size B2.size)
        have HB9 : Hid (Below W1.heap.size W1 W9) := OwnS.grown (HOS.out.below B2) (Nat.le_refl _) (Nat.le_trans hB.size B2.size) (hB.trans (B2.mono hB.size)) hg9
        have HO9 : Hid (OwnS W1.heap.size W9 v9 _) := ho9
        clear hf g2 B2 ho9 hg9
        go_wp2_with (refine list_append (by rfl) (.tmp 26) (.tmp 29) 33 (by rfl) (by rfl) (by rfl) hr9 ?_)
        go_roundw
        case rel => exact ⟨t + 1, by omega, by go_num, by rw [HST.out]; exact HO9.out, HB9.out⟩
        case measure => simp [intOf]; omega
      · have hd : decide ((t : Int) < zs.length) = false := by simp; omega
        obtain rfl : t = zs.length := by omega
        rw [List.take_length, ← HCH.out] at HOS
        have HFIN : Hid (ChangedP w x y (.returned (.tuple #[_, .int .i64 0])) wr) := HGOOD.out _ wr (by
          refine ⟨HOS.out.1, ?_⟩
          rcases HOS.out.2 with h | ⟨g, cap, cur, h1, h2, h3⟩
          · exact .inl h
          · exact .inr ⟨g, cap, cur, h1, Nat.le_trans hb.size h2, h3⟩) (hb.trans (hB.mono hb.size))
        go_wp2
        refine bodyPost_ret (results_two Try.results22 _ _ _ _ rfl rfl) rfl HFIN.out
end Go.Proofs.Ytmbnbehlfbdpnaa

namespace Go.Proofs.Ytmbnbehlfbdpnaa
open Go.RowKit

def clashPs (a b c : List Fi) : List (List UInt8) := (joinC (pathsA a b c)).map fun d => d.path.data.toList
/-- What Clashes tells. -/
def ClashesP (w : World) (x y z : Sl) (e : Ending) (w' : World) : Prop :=
  (if right3 x.fs y.fs z.fs then ∃ v, e = .returned (.tuple #[v, .int .i64 0]) ∧ OwnS w.heap.size w' v (clashPs x.fs y.fs z.fs) else e = .returned (.tuple #[.slice none 0 0, .int .i64 170])) ∧ Below w.heap.size w w'
theorem cl_cell {w : World} {b off i : Nat} {fs : List Cl} (h : RowsAt w 7 Cl.cells (some ⟨b, off, none⟩) fs) {d : Cl} (hf : fs[i]? = some d) : ∀ j u, d.cells[j]? = some u → w.cell? ⟨b, off + i * 7 + j, none⟩ = some u := by
  obtain ⟨b', off', e, hc⟩ := h (by have := (List.getElem?_eq_some_iff.1 hf).1; omega)
  injection e with e
  injection e with e1 e2
  subst e1 e2
  exact hc i d hf
set_option maxRecDepth 100000 in
set_option maxHeartbeats 4000000 in
theorem clashes_any (x y z : Sl) (w : World) (hx : SlS w x) (hy : SlS w y) (hz : SlS w z) :
    Calls Try.prog 12 #[.agg #[.slice x.sp x.fs.length x.cap], .agg #[.slice y.sp y.fs.length y.cap], .agg #[.slice z.sp z.fs.length z.cap]] w (ClashesP w x y z) := by
  go_enter Try.func12, Try.ntmps12
  go_wp2_with fail
  refine calls_gen (fun W0 => Below w.heap.size w W0) ((((Below.refl _ _).alloc (Nat.le_refl _) _).alloc (by simp) _).alloc (by simp; omega) _) ?_
  intro W0 hb0
  refine (join_any x y z W0 ⟨hx.1.below hb0, hx.2⟩ ⟨hy.1.below hb0, hy.2⟩ ⟨hz.1.below hb0, hz.2⟩).mono ?_
  rintro e W1 ⟨hd, hb1⟩
  have hb : Below w.heap.size w W1 := hb0.trans (hb1.mono hb0.size)
  clear hx hy hz hb1
  cases hr : right3 x.fs y.fs z.fs with
  | false =>
    rw [hr] at hd
    obtain rfl : e = _ := hd
    have HP : Hid (ClashesP w x y z (.returned (.tuple #[.slice none 0 0, .int .i64 170])) W1) := ⟨by rw [hr]; rfl, hb⟩
    clear hr
    go_wp2
    refine bodyPost_ret (v := .tuple #[.slice none 0 0, .int .i64 170]) (results_two Try.results12 _ _ _ _ rfl rfl) rfl HP.out
  | true =>
    rw [hr] at hd
    obtain ⟨vf, vc, rfl, hof, ho⟩ := hd
    have HGOOD : Hid (∀ v W, OwnS w.heap.size W v (clashPs x.fs y.fs z.fs) → Below w.heap.size w W → ClashesP w x y z (.returned (.tuple #[v, .int .i64 0])) W) := fun v W ho hW => ⟨by rw [hr]; exact ⟨v, rfl, ho⟩, hW⟩
    have hll : (joinC (pathsA x.fs y.fs z.fs)).length ≤ 48 := by
      have h1 := joinC_len (pathsA x.fs y.fs z.fs)
      have h2 := pathsA_len x.fs y.fs z.fs
      have h3 := right3_len hr
      omega
    have HCH : Hid (clashPs x.fs y.fs z.fs = (joinC (pathsA x.fs y.fs z.fs)).map fun d => d.path.data.toList) := rfl
    obtain ⟨sf, cf, rfl, -, -⟩ := hof.rows
    obtain ⟨sv, cv, rfl, hr5, -⟩ := ho.rows
    have HR5 : Hid (RowsAt W1 7 Cl.cells sv (joinC (pathsA x.fs y.fs z.fs))) := hr5
    generalize joinC (pathsA x.fs y.fs z.fs) = zs at hll HCH HR5 ⊢
    generalize (joinF (pathsA x.fs y.fs z.fs)).length = nf
    clear ho hr5 hr hof
    go_wp2
    go_loopw [11, 28] (fun l i wr => ∃ t : Nat, t ≤ zs.length ∧ i = .int .i64 t ∧ OwnS W1.heap.size wr l ((zs.take t).map fun d => d.path.data.toList) ∧ Below W1.heap.size W1 wr) (fun _ i _ => zs.length - (intOf i).toNat)
    case atStart => exact ⟨0, Nat.zero_le _, rfl, ownS_nil _ _, Below.refl _ _⟩
    case round =>
      obtain ⟨t, ht, rfl, hos, hB⟩ := hrel
      have HOS : Hid (OwnS W1.heap.size wr _ ((zs.take t).map fun d => d.path.data.toList)) := hos
      clear hos
      by_cases hlt : t < zs.length
      · have hd : decide ((t : Int) < zs.length) = true := by simp; omega
        obtain ⟨b, off, rfl, -⟩ := HR5.out (by omega)
        obtain ⟨f, hf⟩ : ∃ f, zs[t]? = some f := ⟨_, List.getElem?_eq_getElem hlt⟩
        have hc := cl_cell (RowsAt.below HR5.out hB) hf
        have c0 : wr.cell? ⟨b, off + t * 7, none⟩ = some (.string f.path) := hc 0 _ rfl
        have c1 : wr.cell? ⟨b, off + t * 7 + 1, none⟩ = some (.string f.s.b.value) := hc 1 _ rfl
        have c2 : wr.cell? ⟨b, off + t * 7 + 2, none⟩ = some (.string f.s.o.value) := hc 2 _ rfl
        have c3 : wr.cell? ⟨b, off + t * 7 + 3, none⟩ = some (.string f.s.t.value) := hc 3 _ rfl
        have c4 : wr.cell? ⟨b, off + t * 7 + 4, none⟩ = some (.bool f.s.b.there) := hc 4 _ rfl
        have c5 : wr.cell? ⟨b, off + t * 7 + 5, none⟩ = some (.bool f.s.o.there) := hc 5 _ rfl
        have c6 : wr.cell? ⟨b, off + t * 7 + 6, none⟩ = some (.bool f.s.t.there) := hc 6 _ rfl
        have HST : Hid (((zs.take (t + 1)).map fun d => d.path.data.toList) = ((zs.take t).map fun d => d.path.data.toList) ++ [f.path.data.toList]) := by
          show _ = _
          rw [List.take_add_one, hf]
          simp
        have HLN : Hid (((zs.take t).map fun d => d.path.data.toList).length + 1 ≤ 100000) := by
          show ((zs.take t).map fun d => d.path.data.toList).length + 1 ≤ 100000
          rw [List.length_map, List.length_take]
          omega
        have B2 : Below wr.heap.size wr ((wr.alloc (.cells #[.string f.path, .string f.s.b.value, .string f.s.o.value, .string f.s.t.value, .bool f.s.b.there, .bool f.s.o.there, .bool f.s.t.there] 40)).alloc (.cells #[.string f.path] 9)) := ((Below.refl _ _).alloc (Nat.le_refl _) _).alloc (by simp) _
        have g2 := heap_alloc_new (wr.alloc (.cells #[.string f.path, .string f.s.b.value, .string f.s.o.value, .string f.s.t.value, .bool f.s.b.there, .bool f.s.o.there, .bool f.s.t.there] 40)) (.cells #[.string f.path] 9)
        rw [World.size_alloc] at g2
        obtain ⟨v9, W9, hr9, ho9, hg9⟩ := text_run 33 (HOS.out.below B2) g2 HLN.out (Nat.le_trans hB.size B2.size)
        have HB9 : Hid (Below W1.heap.size W1 W9) := OwnS.grown (HOS.out.below B2) (Nat.le_refl _) (Nat.le_trans hB.size B2.size) (hB.trans (B2.mono hB.size)) hg9
        have HO9 : Hid (OwnS W1.heap.size W9 v9 _) := ho9
        clear hf hc g2 B2 ho9 hg9
        go_wp2_with (refine list_append (by rfl) (.tmp 32) (.tmp 35) 33 (by rfl) (by rfl) (by rfl) hr9 ?_)
        go_roundw
        case rel => exact ⟨t + 1, by omega, by go_num, by rw [HST.out]; exact HO9.out, HB9.out⟩
        case measure => simp [intOf]; omega
      · have hd : decide ((t : Int) < zs.length) = false := by simp; omega
        obtain rfl : t = zs.length := by omega
        rw [List.take_length, ← HCH.out] at HOS
        have HFIN : Hid (ClashesP w x y z (.returned (.tuple #[_, .int .i64 0])) wr) := HGOOD.out _ wr (by
          refine ⟨HOS.out.1, ?_⟩
          rcases HOS.out.2 with h | ⟨g, cap, cur, h1, h2, h3⟩
          · exact .inl h
          · exact .inr ⟨g, cap, cur, h1, Nat.le_trans hb.size h2, h3⟩) (hb.trans (hB.mono hb.size))
        go_wp2
        refine bodyPost_ret (results_two Try.results12 _ _ _ _ rfl rfl) rfl HFIN.out
end Go.Proofs.Ytmbnbehlfbdpnaa
