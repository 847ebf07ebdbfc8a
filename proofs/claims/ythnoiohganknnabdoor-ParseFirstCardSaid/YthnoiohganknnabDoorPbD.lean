/- The contract of Parse. -/
import Derived.Test.YthnoiohganknnabDoorMrgH
import Derived.Test.YthnoiohganknnabDoorMrgD
namespace Go.Proofs.YthnoiohganknnabDoor
open Go.RowKit

/-- The facts that last while Parse runs. -/
structure PrF (w W : World) : Prop where
  b : Below w.heap.size w W
  z : W.heap[w.heap.size]? = some (.cells #[.slice none 0 0] 31 (0, 0))
  s : W.heap[w.heap.size + 1]? = some (.cells #[.int .i64 0, .int .i64 0] 26 (0, 0))
theorem PrF.below {w W W' : World} (h : PrF w W) (hb : Below W.heap.size W W') : PrF w W' := ⟨h.b.trans (hb.mono h.b.size), (hb.block _ (lt_of_row h.z)).trans h.z, (hb.block _ (lt_of_row h.s)).trans h.s⟩
/-- What Parse and Text answer. -/
def PrP (w : World) (r : (Int × Int) ⊕ Pt) (e : Ending) (w' : World) : Prop :=
  Below w.heap.size w w' ∧ match r with
  | .inl p => e = .returned (.tuple #[.agg #[.slice none 0 0], .agg #[.int .i64 p.1, .int .i64 p.2]])
  | .inr t => ∃ v, e = .returned (.tuple #[.agg #[v], .agg #[.int .i64 0, .int .i64 0]]) ∧ TrAt w.heap.size w' v (layP 0 t)
/-- The two results are written, and told. -/
theorem prf_done {w W : World} (h : PrF w W) (v : Value) (a b : Int) :
    Below w.heap.size w (((W.setCell ⟨w.heap.size, 0, none⟩ v).setCell ⟨w.heap.size + 1, 0, none⟩ (.int .i64 a)).setCell ⟨w.heap.size + 1, 1, none⟩ (.int .i64 b)) ∧
    (((W.setCell ⟨w.heap.size, 0, none⟩ v).setCell ⟨w.heap.size + 1, 0, none⟩ (.int .i64 a)).setCell ⟨w.heap.size + 1, 1, none⟩ (.int .i64 b)).heap[w.heap.size]? = some (.cells #[v] 31 (0, 0)) ∧
    (((W.setCell ⟨w.heap.size, 0, none⟩ v).setCell ⟨w.heap.size + 1, 0, none⟩ (.int .i64 a)).setCell ⟨w.heap.size + 1, 1, none⟩ (.int .i64 b)).heap[w.heap.size + 1]? = some (.cells #[.int .i64 a, .int .i64 b] 26 (0, 0)) :=
  ⟨((h.b.setCell (p := ⟨w.heap.size, 0, none⟩) (Nat.le_refl _) _).setCell (p := ⟨w.heap.size + 1, 0, none⟩) (Nat.le_succ _) _).setCell (p := ⟨w.heap.size + 1, 1, none⟩) (Nat.le_succ _) _,
   (heap_setCell_other _ _ _ _ (by simp)).trans ((heap_setCell_other _ _ _ _ (by simp)).trans (heap_setCell_same _ _ 0 _ _ _ h.z)),
   heap_setCell_same _ _ 1 _ _ _ (heap_setCell_same _ _ 0 _ _ _ ((heap_setCell_other _ _ _ _ (by simp)).trans h.s))⟩
theorem PrF.c {w W : World} (h : PrF w W) : W.cell? ⟨w.heap.size, 0, none⟩ = some (.slice none 0 0) ∧ W.cell? ⟨w.heap.size + 1, 0, none⟩ = some (.int .i64 0) ∧ W.cell? ⟨w.heap.size + 1, 1, none⟩ = some (.int .i64 0) :=
  ⟨(cell_of_row _ _ 0 _ _ _ h.z).trans rfl, (cell_of_row _ _ 0 _ _ _ h.s).trans rfl, (cell_of_row _ _ 1 _ _ _ h.s).trans rfl⟩
theorem PrF.f {w W : World} (h : PrF w W) : W.frozen? ⟨w.heap.size, 0, none⟩ = false ∧ W.frozen? ⟨w.heap.size + 1, 0, none⟩ = false ∧ W.frozen? ⟨w.heap.size + 1, 1, none⟩ = false :=
  ⟨frozen_of_row _ _ _ _ _ h.z, frozen_of_row _ _ _ _ _ h.s, frozen_of_row _ _ _ _ _ h.s⟩
set_option maxRecDepth 100000 in
set_option maxHeartbeats 1000000 in
theorem parse_any (w : World) (st : Option Addr) (cap : Nat) (ts : List Tok) (hr : RowsT w st ts) (hT : Tabl w) (few : ts.length ≤ 100000) (ok : ∀ t ∈ ts, -1000000000000000000 ≤ t.pos ∧ t.pos ≤ 1000000000000000000 ∧ t.text.size ≤ 100000) :
    Calls Tryd.prog 6 #[.slice st ts.length cap] w (PrP w (parO ts)) := by
  have HR : Hid (∀ W, Below w.heap.size w W → RowsT W st ts) := fun W hb => rows_agree hb.block hr
  have HT : Hid (∀ W, Below w.heap.size w W → Tabl W) := fun W hb => tabl_agree hb.block hT
  have HOK : Hid _ := ok
  clear hr hT ok
  go_enter Tryd.func6, Tryd.ntmps6
  go_wp2_with fail
  refine calls_gen (fun W => PrF w W) ?_ ?_
  · have n0 := heap_alloc_new w (.cells #[.slice none 0 0] 31)
    have n1 := heap_alloc_new (w.alloc (.cells #[.slice none 0 0] 31)) (.cells #[.int .i64 0, .int .i64 0] 26)
    simp only [World.size_alloc] at n1
    exact ⟨((Below.refl _ _).alloc (Nat.le_refl _) _).alloc (by simp) _, (Below.heap_alloc _ _ _ (by simp)).trans n0, n1⟩
  intro W f
  refine (check_any st cap ts W (HR.out W f.b) few).mono ?_
  rintro e W1 ⟨rfl, b1⟩
  have F1 : Hid (PrF w W1) := f.below b1
  clear f b1
  by_cases hc : chkO ts = 0
  · rw [hc]
    go_wp2_with fail
    refine (rising_any st cap ts W1 (HR.out W1 F1.out.b) few).mono ?_
    rintro e W2 ⟨rfl, b2⟩
    have F2 : Hid (PrF w W2) := F1.out.below b2
    clear F1 b2
    cases hri : risB (-1) ts
    · have HX : Hid (parO ts = .inl (2, 0)) := by show _ = _; unfold parO; simp [hc, hri]
      obtain ⟨c0, c1, c2⟩ := F2.out.c
      obtain ⟨f0, f1, f2⟩ := F2.out.f
      go_wp2
      exact bodyPost_ret (results_cc Tryd.results6 _ _ w.heap.size (w.heap.size + 1) _ _ _ _ (0, 0) (0, 0) _ _ rfl rfl (prf_done F2.out _ _ _).2.1 (prf_done F2.out _ _ _).2.2 Tryd.underlying31 rfl (by kernel_rfl) Tryd.underlying26 rfl (by kernel_rfl)) rfl (by rw [HX.out]; exact ⟨(prf_done F2.out _ _ _).1, rfl⟩)
    · go_wp2_with fail
      refine (read_any W2 st cap ts few HOK.out (fun W' hW' => ⟨rows_agree hW' (HR.out W2 F2.out.b), tabl_agree hW' (HT.out W2 F2.out.b)⟩)).mono ?_
      rintro e W3 ⟨b3, hm⟩
      have F3 : Hid (PrF w W3) := F2.out.below b3
      have hsz : w.heap.size + 2 ≤ W2.heap.size := lt_of_row F2.out.s
      obtain ⟨s, n, c, a, b, L, R, rfl, hTr, hn, hk, hR, hE⟩ : ∃ (s : Option Addr) (n c : Nat) (a b : Int) (L : List Nd) (R : (Int × Int) ⊕ Pt), e = .returned (.tuple #[.agg #[.slice s n c], .agg #[.int .i64 a, .int .i64 b]]) ∧ (n = L.length ∧ TrAt (w.heap.size + 2) W3 (.slice s n c) L) ∧ L.length ≤ 400000 ∧ (∀ d ∈ L, (∀ k ∈ d.kids, k < L.length) ∧ d.kids.length ≤ 400000) ∧
          (parO ts = if 2048 < L.length then .inl (3, 0) else if 24 < dpF (fun _ => 0) 0 0 L then .inl (3, 0) else R) ∧ ∀ w', Below w.heap.size w w' → TrAt w.heap.size w' (.slice s n c) L → PrP w R (.returned (.tuple #[.agg #[.slice s n c], .agg #[.int .i64 a, .int .i64 b]])) w' := by
        obtain ⟨r, hr⟩ : ∃ r, filO ts = r := ⟨_, rfl⟩
        rw [hr] at hm
        cases r with
        | out => exact hm.elim
        | bad s => exact ⟨none, 0, 0, 210, s, [], .inl (210, s), hm, ⟨rfl, TrAt.nil _ _⟩, by simp, by simp, by unfold parO; simp [hc, hri, hr, dpF], fun w' hb _ => ⟨hb, rfl⟩⟩
        | ok t q =>
          obtain ⟨hcn, v, rfl, hT⟩ := hm
          obtain ⟨s, c, rfl⟩ := hT.shape
          have hl := layP_len 0 t
          exact ⟨s, _, c, 0, 0, layP 0 t, .inr t, rfl, ⟨rfl, hT.mono hsz⟩, by omega, fun d hd => by
            have h := lay_bnd t 0 d hd
            exact ⟨fun k hk => by have := h.1 k hk; omega, by omega⟩, by unfold parO; rw [if_neg (by simp [hc]), if_neg (by simp [hri]), hr], fun w' hb ht => ⟨hb, _, rfl, ht⟩⟩
      obtain ⟨hnL, hTr⟩ := hTr
      subst hnL
      have HTR : Hid _ := hTr
      have HKB : Hid _ := hk
      have HPO : Hid _ := hR
      have HE : Hid _ := hE
      clear hTr hk hR hE hm b3 F2 hsz
      obtain ⟨c0, c1, c2⟩ := F3.out.c
      obtain ⟨f0, f1, f2⟩ := F3.out.f
      have hl1 := lt_of_row F3.out.s
      have hl0 := lt_of_row F3.out.z
      by_cases h2 : 2048 < L.length
      · have h2' : (L.length : Int) > 2048 := by omega
        have HX : Hid (parO ts = .inl (3, 0)) := by show _ = _; rw [HPO.out, if_pos h2]
        go_wp2
        have d := prf_done F3.out (.slice none 0 0) 3 0
        generalize (((W3.setCell ⟨w.heap.size, 0, none⟩ (.slice none 0 0)).setCell ⟨w.heap.size + 1, 0, none⟩ (.int .i64 3)).setCell ⟨w.heap.size + 1, 1, none⟩ (.int .i64 0)) = Y at d ⊢
        have e1 := (Below.heap_alloc Y (.cells #[.slice s L.length c] 31 (0, 0)) _ (lt_of_row d.2.1)).trans d.2.1
        have e2 := (Below.heap_alloc Y (.cells #[.slice s L.length c] 31 (0, 0)) _ (lt_of_row d.2.2)).trans d.2.2
        have e3 := (Below.heap_alloc _ (.cells #[.int .i64 a, .int .i64 b] 26 (0, 0)) _ (lt_of_row e1)).trans e1
        have e4 := (Below.heap_alloc _ (.cells #[.int .i64 a, .int .i64 b] 26 (0, 0)) _ (lt_of_row e2)).trans e2
        exact bodyPost_ret (results_cc Tryd.results6 _ _ w.heap.size (w.heap.size + 1) _ _ _ _ (0, 0) (0, 0) _ _ rfl rfl e3 e4 Tryd.underlying31 rfl (by kernel_rfl) Tryd.underlying26 rfl (by kernel_rfl)) rfl (by rw [HX.out]; exact ⟨(d.1.alloc d.1.size _).alloc (Nat.le_trans d.1.size (by simp)) _, rfl⟩)
      · have h2' : ¬ (L.length : Int) > 2048 := by omega
        go_wp2_with fail
        refine calls_gen (fun W => PrF w W ∧ W.heap[W3.heap.size]? = some (.cells #[.slice s L.length c] 31 (0, 0)) ∧ W.heap[W3.heap.size + 1]? = some (.cells #[.int .i64 a, .int .i64 b] 26 (0, 0)) ∧ TrAt (w.heap.size + 2) W (.slice s L.length c) L) ?_ ?_
        · have n0 := heap_alloc_new W3 (.cells #[.slice s L.length c] 31)
          have n1 := heap_alloc_new (W3.alloc (.cells #[.slice s L.length c] 31)) (.cells #[.int .i64 a, .int .i64 b] 26)
          simp only [World.size_alloc] at n1
          have hbb := ((Below.refl W3.heap.size W3).alloc (Nat.le_refl _) (.cells #[.slice s L.length c] 31)).alloc (by simp) (.cells #[.int .i64 a, .int .i64 b] 26)
          exact ⟨F3.out.below hbb, (Below.heap_alloc _ _ _ (by simp)).trans n0, n1, TrAt.below HTR.out hbb⟩
        rintro W4 ⟨f4, ht4, hs4, hT4⟩
        obtain ⟨N, S, hO, hRep, hSS⟩ := hT4
        obtain ⟨sp', cap', hv, hrows, -, -, -⟩ := OwnG.rows elN hO
        have hT4 : TrAt (w.heap.size + 2) W4 (.slice s L.length c) L := ⟨N, S, hO, hRep, hSS⟩
        injection hv with hv1 hv2 hv3
        subst hv1 hv3
        refine (deepest_any W4 s c N S L hrows hRep hn HKB.out).mono ?_
        rintro e W5 ⟨rfl, b5⟩
        have F5 : Hid (PrF w W5) := f4.below b5
        have HT5 : Hid (TrAt (w.heap.size + 2) W5 (.slice s L.length c) L) := hT4.below b5
        have ht5 := (b5.block _ (lt_of_row ht4)).trans ht4
        have hs5 := (b5.block _ (lt_of_row hs4)).trans hs4
        clear f4 ht4 hs4 hT4 b5 hO hRep hrows hv2 c0 c1 c2 f0 f1 f2
        obtain ⟨c0, c1, c2⟩ := F5.out.c
        obtain ⟨f0, f1, f2⟩ := F5.out.f
        have d0 : W5.cell? ⟨W3.heap.size, 0, none⟩ = some (.slice s L.length c) := (cell_of_row _ _ 0 _ _ _ ht5).trans rfl
        have d1 : W5.cell? ⟨W3.heap.size + 1, 0, none⟩ = some (.int .i64 a) := (cell_of_row _ _ 0 _ _ _ hs5).trans rfl
        have d2 : W5.cell? ⟨W3.heap.size + 1, 1, none⟩ = some (.int .i64 b) := (cell_of_row _ _ 1 _ _ _ hs5).trans rfl
        by_cases h3 : 24 < dpF (fun _ => 0) 0 0 L
        · have h3' : dpF (fun _ => 0) 0 0 L > 24 := h3
          have HX : Hid (parO ts = .inl (3, 0)) := by show _ = _; rw [HPO.out, if_neg h2, if_pos h3]
          go_wp2
          exact bodyPost_ret (results_cc Tryd.results6 _ _ w.heap.size (w.heap.size + 1) _ _ _ _ (0, 0) (0, 0) _ _ rfl rfl (prf_done F5.out _ _ _).2.1 (prf_done F5.out _ _ _).2.2 Tryd.underlying31 rfl (by kernel_rfl) Tryd.underlying26 rfl (by kernel_rfl)) rfl (by rw [HX.out]; exact ⟨(prf_done F5.out _ _ _).1, rfl⟩)
        · have h3' : ¬ dpF (fun _ => 0) 0 0 L > 24 := h3
          have HX : Hid (parO ts = R) := by show _ = _; rw [HPO.out, if_neg h2, if_neg h3]
          clear ht5 hs5
          go_wp2
          have HTF : Hid (TrAt w.heap.size (((W5.setCell ⟨w.heap.size, 0, none⟩ (.slice s L.length c)).setCell ⟨w.heap.size + 1, 0, none⟩ (.int .i64 a)).setCell ⟨w.heap.size + 1, 1, none⟩ (.int .i64 b)) (.slice s L.length c) L) := by
            have t1 := HT5.out.other F5.out.z (.inl rfl) (by omega) 0 (.slice s L.length c)
            have r1 := (heap_setCell_other W5 ⟨w.heap.size, 0, none⟩ (w.heap.size + 1) (.slice s L.length c) (by simp)).trans F5.out.s
            have t2 := t1.other r1 (.inr rfl) (by omega) 0 (.int .i64 a)
            exact (t2.other (heap_setCell_same _ _ 0 _ _ (.int .i64 a) r1) (.inr rfl) (by omega) 1 (.int .i64 b)).mono (by omega)
          have HDN : Hid _ := prf_done F5.out (.slice s L.length c) a b
          go_region
          go_wp2
          generalize (((W5.setCell ⟨w.heap.size, 0, none⟩ (.slice s L.length c)).setCell ⟨w.heap.size + 1, 0, none⟩ (.int .i64 a)).setCell ⟨w.heap.size + 1, 1, none⟩ (.int .i64 b)) = Y at HTF HDN ⊢
          exact bodyPost_ret (results_cc Tryd.results6 _ Y.drew w.heap.size (w.heap.size + 1) _ _ _ _ (0, 0) (0, 0) _ _ rfl rfl HDN.out.2.1 HDN.out.2.2 Tryd.underlying31 rfl (by kernel_rfl) Tryd.underlying26 rfl (by kernel_rfl)) rfl (by rw [HX.out]; exact HE.out _ HDN.out.1.drew (HTF.out.below (Below.refl _ _).drew))
  · have HX : Hid (parO ts = .inl (2, 0)) := by show _ = _; unfold parO; simp [hc]
    obtain ⟨c0, c1, c2⟩ := F1.out.c
    obtain ⟨f0, f1, f2⟩ := F1.out.f
    go_wp2
    exact bodyPost_ret (results_cc Tryd.results6 _ _ w.heap.size (w.heap.size + 1) _ _ _ _ (0, 0) (0, 0) _ _ rfl rfl (prf_done F1.out _ _ _).2.1 (prf_done F1.out _ _ _).2.2 Tryd.underlying31 rfl (by kernel_rfl) Tryd.underlying26 rfl (by kernel_rfl)) rfl (by rw [HX.out]; exact ⟨(prf_done F1.out _ _ _).1, rfl⟩)
end Go.Proofs.YthnoiohganknnabDoor
