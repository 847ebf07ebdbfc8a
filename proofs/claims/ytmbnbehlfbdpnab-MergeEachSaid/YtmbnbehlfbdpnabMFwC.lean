/- The contract of the laws' few. -/
import Derived.Test.YtmbnbehlfbdpnabMFew
namespace Go.Proofs.Ytmbnbehlfbdpnab
open Go.RowKit

/-- A slice of the call's own, as what came in. -/
theorem own_in {B : Nat} {w : World} {v : Value} {xs : List Fi} (h : OwnF B w v xs) (hl : xs.length ≤ 1000000) (hs : FiS xs) : ∃ s : Sl, v = .slice s.sp s.fs.length s.cap ∧ s.fs = xs ∧ SlS w s ∧ InF w s := by
  rcases h.2 with ⟨rfl, h0⟩ | ⟨g, cap, cur, rfl, h1, h2, h3, h4, h5, h6⟩
  · have e : xs = [] := List.eq_nil_of_length_eq_zero h0
    subst e
    exact ⟨⟨none, 0, []⟩, rfl, rfl, ⟨⟨RowsAt.none, Nat.le_refl _, Nat.zero_le _⟩, hl, hs⟩, RowsAt.none, (fun f hf => by cases hf), ⟨Nat.le_refl _, Nat.zero_le _⟩, fun _ => ⟨rfl, rfl⟩⟩
  · obtain ⟨sp, cap', e, hr, -⟩ := OwnF.rows (xs := xs) h
    injection e with e1 e2 e3
    subst e1 e3
    exact ⟨⟨some ⟨g, 0, none⟩, cap, xs⟩, rfl, rfl, ⟨⟨hr, h3, h4⟩, hl, hs⟩, hr, fun f hf => ⟨by have := (hs f hf).1; unfold maxLen; omega, by have := (hs f hf).2; unfold maxLen; omega⟩, ⟨h3, h4⟩, fun e => by cases e⟩
theorem cutS_idem (n : Nat) (s : ByteArray) : cutS n (cutS n s) = cutS n s := by
  have h := cutS_size n s
  generalize cutS n s = t at h ⊢
  unfold cutS
  rw [Nat.min_eq_left h]
  simp
theorem shortL_idem (fs : List Fi) : shortL (shortL fs) = shortL fs := by
  have h := shortL_len fs
  unfold shortL at h ⊢
  rw [List.take_of_length_le h, List.map_map]
  refine List.map_congr_left fun f _ => ?_
  simp [shortF, cutS_idem]

/-- What few tells. -/
def FewP (w : World) (x y z : Sl) (e : Ending) (w' : World) : Prop :=
  (∃ X Y Z : Sl, e = .returned (.agg (row3 X Y Z)) ∧ (X.fs = shortL x.fs ∧ Y.fs = shortL y.fs ∧ Z.fs = shortL z.fs) ∧ (SlS w' X ∧ SlS w' Y ∧ SlS w' Z) ∧ (InF w' X ∧ InF w' Y ∧ InF w' Z)) ∧ Below w.heap.size w w'
set_option maxRecDepth 100000 in
set_option maxHeartbeats 1000000 in
theorem few_any (x y z : Sl) (w : World) (hx : InF w x) (hy : InF w y) (hz : InF w z) : Calls Try.prog 5 #[.agg #[.slice x.sp x.fs.length x.cap, .slice y.sp y.fs.length y.cap, .slice z.sp z.fs.length z.cap]] w (FewP w x y z) := by
  have HX : Hid (InF w x) := hx
  have HY : Hid (InF w y) := hy
  have HZ : Hid (InF w z) := hz
  clear hx hy hz
  go_enter Try.func5, Try.ntmps5
  go_wp2
  refine wp_gen (fun W => Below w.heap.size w W ∧ W.heap[w.heap.size]? = some (.cells (row3 x y z) 26 (0, 0)) ∧ W.heap[w.heap.size + 1]? = some (.cells #[.slice none 0 0, .slice none 0 0, .slice none 0 0] 26 (0, 0))) ⟨((Below.refl _ _).alloc (Nat.le_refl _) _).alloc (by simp) _, (Below.heap_alloc _ _ _ (by simp)).trans (heap_alloc_new _ _), ?_⟩ ?_
  · have := heap_alloc_new (w.alloc (.cells (row3 x y z) 26)) (.cells #[.slice none 0 0, .slice none 0 0, .slice none 0 0] 26)
    rw [World.size_alloc] at this
    exact this
  rintro W2 ⟨hb2, r1, r2⟩
  refine wp_mono (Q := fun e a' W' => e = .normal ∧ ∃ (f : Nat → Value) (X Y Z : Sl), a' = ⟨frm 13 f, []⟩ ∧ f 2 = .pointer (some ⟨w.heap.size + 1, 0, none⟩) ∧ W'.heap[w.heap.size + 1]? = some (.cells (row3 X Y Z) 26 (0, 0)) ∧ (X.fs = shortL x.fs ∧ Y.fs = shortL y.fs ∧ Z.fs = shortL z.fs) ∧ (SlS W' X ∧ SlS W' Y ∧ SlS W' Z) ∧ (InF W' X ∧ InF W' Y ∧ InF W' Z) ∧ Below w.heap.size w W') ?_ ?_
  · refine wp_frm 13 rfl ?_
    refine three_shorts _ W2 w x y z rfl (by kernel_rfl) rfl rfl rfl rfl rfl rfl rfl rfl rfl rfl rfl ⟨rfl, rfl, rfl⟩ ⟨rfl, rfl, rfl⟩ ⟨rfl, rfl, rfl⟩ ⟨rfl, rfl, rfl⟩ ⟨rfl, rfl, rfl⟩ ⟨rfl, rfl, rfl⟩ ⟨rfl, rfl, rfl⟩ ⟨rfl, rfl, rfl⟩ ⟨rfl, rfl, rfl⟩ ⟨rfl, rfl, rfl⟩ ⟨rfl, rfl, rfl⟩
      ⟨by kernel_rfl, by kernel_rfl, by kernel_rfl, by kernel_rfl, by kernel_rfl, by kernel_rfl, by kernel_rfl, by kernel_rfl, by kernel_rfl, by kernel_rfl⟩ rfl rfl r1 r2 hb2 HX.out HY.out HZ.out ?_
    intro f s1 s2 s3 k1 k2 k3 d1 d2 d3 W' f2 o1 o2 o3 e1 hb
    obtain ⟨X, eX, fX, sX, iX⟩ := own_in o1 (by have := shortL_len x.fs; omega) (shortL_small _)
    obtain ⟨Y, eY, fY, sY, iY⟩ := own_in o2 (by have := shortL_len y.fs; omega) (shortL_small _)
    obtain ⟨Z, eZ, fZ, sZ, iZ⟩ := own_in o3 (by have := shortL_len z.fs; omega) (shortL_small _)
    rw [eX, eY, eZ] at e1
    exact ⟨rfl, f, X, Y, Z, rfl, f2, e1, ⟨fX, fY, fZ⟩, ⟨sX, sY, sZ⟩, ⟨iX, iY, iZ⟩, hb⟩
  · rintro e a' W3 ⟨rfl, f, X, Y, Z, rfl, f2, e1, hfs, hs, hi, hb⟩
    go_wp2
    refine bodyPost_ret (v := .agg (row3 X Y Z)) (results_cell Try.results5 _ _ (w.heap.size + 1) 26 _ (0, 0) _ ?_ e1 Try.underlying26 rfl (by kernel_rfl)) rfl ⟨⟨X, Y, Z, rfl, hfs, hs, hi⟩, hb⟩
    simpa [frm] using f2
end Go.Proofs.Ytmbnbehlfbdpnab
