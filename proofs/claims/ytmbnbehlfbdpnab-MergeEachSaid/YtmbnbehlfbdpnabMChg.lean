/- The contract of Changed. -/
import Derived.Test.YtmbnbehlfbdpnabMDif
namespace Go.Proofs.Ytmbnbehlfbdpnab
open Go.RowKit

def changedL (a b : List Fi) : List (List UInt8) := (diffL a b).map fun d => d.path.data.toList
/-- What Changed tells. -/
def ChangedP (w : World) (x y : Sl) (e : Ending) (w' : World) : Prop :=
  (if repoB x.fs && repoB y.fs then ∃ v, e = .returned (.tuple #[v, .int .i64 0]) ∧ OwnS w.heap.size w' v (changedL x.fs y.fs) else e = .returned (.tuple #[.slice none 0 0, .int .i64 170])) ∧ Below w.heap.size w w'
theorem diffL_len (a b : List Fi) : (diffL a b).length ≤ a.length + b.length := by
  unfold diffL
  exact Nat.le_trans (List.length_filter_le _ _) (by rw [List.length_map]; exact diffPs_len a b)
theorem de_cell {w : World} {b off i : Nat} {fs : List De} (h : RowsAt w 5 De.cells (some ⟨b, off, none⟩) fs) {d : De} (hf : fs[i]? = some d) : w.cell? ⟨b, off + i * 5, none⟩ = some (.string d.path) ∧ w.cell? ⟨b, off + i * 5 + 1, none⟩ = some (.bool d.was) ∧ w.cell? ⟨b, off + i * 5 + 2, none⟩ = some (.bool d.is) ∧ w.cell? ⟨b, off + i * 5 + 3, none⟩ = some (.string d.old) ∧ w.cell? ⟨b, off + i * 5 + 4, none⟩ = some (.string d.new) := by
  obtain ⟨b', off', e, hc⟩ := h (by have := (List.getElem?_eq_some_iff.1 hf).1; omega)
  injection e with e
  injection e with e1 e2
  subst e1 e2
  exact ⟨hc i d hf 0 _ rfl, hc i d hf 1 _ rfl, hc i d hf 2 _ rfl, hc i d hf 3 _ rfl, hc i d hf 4 _ rfl⟩
set_option maxRecDepth 100000 in
set_option maxHeartbeats 4000000 in
theorem changed_any (x y : Sl) (w : World) (hx : SlS w x) (hy : SlS w y) (nx : x.sp = none → x.fs.length = 0 ∧ x.cap = 0) (ny : y.sp = none → y.fs.length = 0 ∧ y.cap = 0) :
    Calls Try.prog 7 #[.agg #[.slice x.sp x.fs.length x.cap], .agg #[.slice y.sp y.fs.length y.cap]] w (ChangedP w x y) := by
  go_enter Try.func7, Try.ntmps7
  go_wp2_with fail
  refine calls_gen (fun W0 => Below w.heap.size w W0) (((Below.refl _ _).alloc (Nat.le_refl _) _).alloc (by simp) _) ?_
  intro W0 hb0
  refine (diff_any x y W0 ⟨hx.1.below hb0, hx.2⟩ ⟨hy.1.below hb0, hy.2⟩ nx ny).mono ?_
  rintro e W1 ⟨hd, hb1⟩
  have hb : Below w.heap.size w W1 := hb0.trans (hb1.mono hb0.size)
  clear hx hy nx ny hb1
  cases hr : (repoB x.fs && repoB y.fs) with
  | false =>
    rw [hr] at hd
    obtain rfl : e = _ := hd
    have HP : Hid (ChangedP w x y (.returned (.tuple #[.slice none 0 0, .int .i64 170])) W1) := ⟨by rw [hr]; rfl, hb⟩
    clear hr
    go_wp2
    refine bodyPost_ret (v := .tuple #[.slice none 0 0, .int .i64 170]) (results_two Try.results7 _ _ _ _ rfl rfl) rfl HP.out
  | true =>
    rw [hr] at hd
    obtain ⟨v, rfl, ho⟩ := hd
    have HGOOD : Hid (∀ v W, OwnS w.heap.size W v (changedL x.fs y.fs) → Below w.heap.size w W → ChangedP w x y (.returned (.tuple #[v, .int .i64 0])) W) := fun v W ho hW => ⟨by rw [hr]; exact ⟨v, rfl, ho⟩, hW⟩
    have hll : (diffL x.fs y.fs).length ≤ 32 := by
      have h1 := diffL_len x.fs y.fs
      have h2 : x.fs.length ≤ 16 ∧ y.fs.length ≤ 16 := by
        rw [Bool.and_eq_true] at hr
        obtain ⟨ha, hb⟩ := hr
        unfold repoB at ha hb
        simp only [Bool.and_eq_true, decide_eq_true_eq] at ha hb
        exact ⟨ha.1, hb.1⟩
      omega
    have HCH : Hid (changedL x.fs y.fs = (diffL x.fs y.fs).map fun d => d.path.data.toList) := rfl
    obtain ⟨sv, cv, hv5, hr5, -⟩ := ho.rows
    subst hv5
    have HR5 : Hid (RowsAt W1 5 De.cells sv (diffL x.fs y.fs)) := hr5
    generalize diffL x.fs y.fs = zs at hll HCH HR5 ⊢
    clear ho hr5 hr
    go_wp2
    go_loopw [8, 22] (fun l i wr => ∃ t : Nat, t ≤ zs.length ∧ i = .int .i64 t ∧ OwnS W1.heap.size wr l ((zs.take t).map fun d => d.path.data.toList) ∧ Below W1.heap.size W1 wr) (fun _ i _ => zs.length - (intOf i).toNat)
    case atStart => exact ⟨0, Nat.zero_le _, rfl, ownS_nil _ _, Below.refl _ _⟩
    case round =>
      obtain ⟨t, ht, rfl, hos, hB⟩ := hrel
      have HOS : Hid (OwnS W1.heap.size wr _ ((zs.take t).map fun d => d.path.data.toList)) := hos
      clear hos
      by_cases hlt : t < zs.length
      · have hd : decide ((t : Int) < zs.length) = true := by simp; omega
        obtain ⟨b, off, rfl, -⟩ := HR5.out (by omega)
        obtain ⟨f, hf⟩ : ∃ f, zs[t]? = some f := ⟨_, List.getElem?_eq_getElem hlt⟩
        obtain ⟨c0, c1, c2, c3, c4⟩ := de_cell (RowsAt.below HR5.out hB) hf
        have HST : Hid (((zs.take (t + 1)).map fun d => d.path.data.toList) = ((zs.take t).map fun d => d.path.data.toList) ++ [f.path.data.toList]) := by
          show _ = _
          rw [List.take_add_one, hf]
          simp
        have HLN : Hid (((zs.take t).map fun d => d.path.data.toList).length + 1 ≤ 100000) := by
          show ((zs.take t).map fun d => d.path.data.toList).length + 1 ≤ 100000
          rw [List.length_map, List.length_take]
          omega
        have B2 : Below wr.heap.size wr ((wr.alloc (.cells #[.string f.path, .bool f.was, .bool f.is, .string f.old, .string f.new] 57)).alloc (.cells #[.string f.path] 9)) := ((Below.refl _ _).alloc (Nat.le_refl _) _).alloc (by simp) _
        have g2 := heap_alloc_new (wr.alloc (.cells #[.string f.path, .bool f.was, .bool f.is, .string f.old, .string f.new] 57)) (.cells #[.string f.path] 9)
        rw [World.size_alloc] at g2
        obtain ⟨v9, W9, hr9, ho9, hg9⟩ := text_run 33 (HOS.out.below B2) g2 HLN.out (Nat.le_trans hB.size B2.size)
        have HB9 : Hid (Below W1.heap.size W1 W9) := OwnS.grown (HOS.out.below B2) (Nat.le_refl _) (Nat.le_trans hB.size B2.size) (hB.trans (B2.mono hB.size)) hg9
        have HO9 : Hid (OwnS W1.heap.size W9 v9 _) := ho9
        clear hf g2 B2 ho9 hg9
        go_wp2_with (refine list_append (by rfl) (.tmp 26) (.tmp 29) 33 (by rfl) (by rfl) (by rfl) hr9 ?_)
        go_roundw
        case rel => exact ⟨t + 1, by omega, by go_num, by rw [HST.out]; exact HO9.out, HB9.out⟩
        case measure => simp [intOf]; omega
      · have hd : decide ((t : Int) < zs.length) = false := by simp; omega
        obtain rfl : t = zs.length := by omega
        rw [List.take_length, ← HCH.out] at HOS
        have HFIN : Hid (ChangedP w x y (.returned (.tuple #[_, .int .i64 0])) wr) := HGOOD.out _ wr (by
          refine ⟨HOS.out.1, ?_⟩
          rcases HOS.out.2 with h | ⟨g, cap, cur, h1, h2, h3⟩
          · exact .inl h
          · exact .inr ⟨g, cap, cur, h1, Nat.le_trans hb.size h2, h3⟩) (hb.trans (hB.mono hb.size))
        go_wp2
        refine bodyPost_ret (results_two Try.results7 _ _ _ _ rfl rfl) rfl HFIN.out
end Go.Proofs.Ytmbnbehlfbdpnab
