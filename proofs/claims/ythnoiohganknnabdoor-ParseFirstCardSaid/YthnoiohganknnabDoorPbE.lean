/- The contract of parse's Text. -/
import Derived.Test.YthnoiohganknnabDoorPbD
import Derived.Test.YthnoiohganknnabDoorMrgC
namespace Go.Proofs.YthnoiohganknnabDoor
open Go.RowKit

/-- What Text tells of a text. -/
def txtO (s : List UInt8) : (Int × Int) ⊕ Pt := if (lexO s).2.1 = 0 then parO (lexO s).1 else .inl ((lexO s).2.1, (lexO s).2.2)
set_option maxRecDepth 100000 in
set_option maxHeartbeats 1000000 in
theorem text_any (w : World) (x : ByteArray) (hT : Tabl w) (few : (lexO x.data.toList).1.length ≤ 100000) (ok : ∀ t ∈ (lexO x.data.toList).1, -1000000000000000000 ≤ t.pos ∧ t.pos ≤ 1000000000000000000 ∧ t.text.size ≤ 100000) :
    Calls Tryd.prog 8 #[.string x] w (PrP w (txtO x.data.toList)) := by
  have HT : Hid (∀ W, Below w.heap.size w W → Tabl W) := fun W hb => tabl_agree hb.block hT
  obtain ⟨ts, er, p, hl⟩ : ∃ ts er p, lexO x.data.toList = (ts, er, p) := ⟨_, _, _, rfl⟩
  have HO : Hid (txtO x.data.toList = if er = 0 then parO ts else .inl (er, p)) := by show _ = _; unfold txtO; rw [hl]
  rw [hl] at few ok
  have HOK : Hid _ := ok
  have few' : ts.length ≤ 100000 := few
  clear hT ok few
  have HL : Hid _ := hl
  clear hl
  go_enter Tryd.func8, Tryd.ntmps8
  go_wp2_with fail
  refine calls_gen (fun W => PrF w W) ?_ ?_
  · have n0 := heap_alloc_new w (.cells #[.slice none 0 0] 31)
    have n1 := heap_alloc_new (w.alloc (.cells #[.slice none 0 0] 31)) (.cells #[.int .i64 0, .int .i64 0] 26)
    simp only [World.size_alloc] at n1
    exact ⟨((Below.refl _ _).alloc (Nat.le_refl _) _).alloc (by simp) _, (Below.heap_alloc _ _ _ (by simp)).trans n0, n1⟩
  intro W f
  refine (lex_any x W).mono ?_
  rintro e W1 ⟨⟨v, rfl, hv⟩, b1⟩
  rw [HL.out] at hv ⊢
  obtain ⟨st, cap, rfl, hrows, -, -, -⟩ := OwnG.rows elT hv
  have F1 : Hid (PrF w W1) := f.below b1
  have HRW : Hid (RowsT W1 st ts) := hrows
  clear f b1 hv hrows HL
  obtain ⟨c0, c1, c2⟩ := F1.out.c
  obtain ⟨f0, f1, f2⟩ := F1.out.f
  have hl1 := lt_of_row F1.out.s
  have hl0 := lt_of_row F1.out.z
  by_cases he : er = 0
  · have HX : Hid (txtO x.data.toList = parO ts) := by show _ = _; rw [HO.out, if_pos he]
    clear HO
    subst he
    go_wp2_with fail
    refine calls_gen (fun W => PrF w W ∧ RowsT W st ts) ?_ ?_
    · have hbb := (Below.refl W1.heap.size W1).alloc (Nat.le_refl _) (.cells #[.int .i64 0, .int .i64 p] 26)
      exact ⟨F1.out.below hbb, RowsAt.below HRW.out hbb⟩
    rintro W2 ⟨f2', hr2⟩
    refine (parse_any W2 st cap ts hr2 (HT.out W2 f2'.b) few' HOK.out).mono ?_
    rintro e W3 ⟨b3, hm⟩
    have F3 : Hid (PrF w W3) := f2'.below b3
    have hsz : w.heap.size + 2 ≤ W2.heap.size := lt_of_row f2'.s
    obtain ⟨s, n, c, a, b, rfl, hE⟩ : ∃ (s : Option Addr) (n c : Nat) (a b : Int), e = .returned (.tuple #[.agg #[.slice s n c], .agg #[.int .i64 a, .int .i64 b]]) ∧ PrP w (parO ts) (.returned (.tuple #[.agg #[.slice s n c], .agg #[.int .i64 a, .int .i64 b]])) (((W3.setCell ⟨w.heap.size, 0, none⟩ (.slice s n c)).setCell ⟨w.heap.size + 1, 0, none⟩ (.int .i64 a)).setCell ⟨w.heap.size + 1, 1, none⟩ (.int .i64 b)) := by
      cases hp : parO ts with
      | inl q =>
        rw [hp] at hm
        exact ⟨none, 0, 0, q.1, q.2, hm, (prf_done F3.out _ _ _).1, rfl⟩
      | inr t =>
        rw [hp] at hm
        obtain ⟨v, rfl, hT3⟩ := hm
        obtain ⟨s, c, rfl⟩ := hT3.shape
        refine ⟨s, _, c, 0, 0, rfl, (prf_done F3.out _ _ _).1, _, rfl, ?_⟩
        have t1 := (hT3.mono hsz).other F3.out.z (.inl rfl) (by omega) 0 (.slice s (layP 0 t).length c)
        have r1 := (heap_setCell_other W3 ⟨w.heap.size, 0, none⟩ (w.heap.size + 1) (.slice s (layP 0 t).length c) (by simp)).trans F3.out.s
        have t2 := t1.other r1 (.inr rfl) (by omega) 0 (.int .i64 0)
        exact (t2.other (heap_setCell_same _ _ 0 _ _ (.int .i64 0) r1) (.inr rfl) (by omega) 1 (.int .i64 0)).mono (by omega)
    have HE : Hid _ := hE
    clear hm hE b3 f2' hr2 c0 c1 c2 f0 f1 f2
    obtain ⟨c0, c1, c2⟩ := F3.out.c
    obtain ⟨f0, f1, f2⟩ := F3.out.f
    go_wp2
    exact bodyPost_ret (results_cc Tryd.results8 _ _ w.heap.size (w.heap.size + 1) _ _ _ _ (0, 0) (0, 0) _ _ rfl rfl (prf_done F3.out _ _ _).2.1 (prf_done F3.out _ _ _).2.2 Tryd.underlying31 rfl (by kernel_rfl) Tryd.underlying26 rfl (by kernel_rfl)) rfl (by rw [HX.out]; exact HE.out)
  · have HX : Hid (txtO x.data.toList = .inl (er, p)) := by show _ = _; rw [HO.out, if_neg he]
    clear HO
    go_wp2
    refine wp_gen (fun W => PrF w W ∧ W.heap[W1.heap.size]? = some (.cells #[.int .i64 er, .int .i64 p] 26 (0, 0))) ⟨F1.out.below ((Below.refl W1.heap.size W1).alloc (Nat.le_refl _) _), heap_alloc_new _ _⟩ ?_
    rintro W2 ⟨f2', h2⟩
    have F2 : Hid (PrF w W2) := f2'
    clear c0 c1 c2 f0 f1 f2 f2'
    obtain ⟨c0, c1, c2⟩ := F2.out.c
    obtain ⟨f0, f1, f2⟩ := F2.out.f
    have d0 : W2.cell? ⟨W1.heap.size, 0, none⟩ = some (.int .i64 er) := (cell_of_row _ _ 0 _ _ _ h2).trans rfl
    have d1 : W2.cell? ⟨W1.heap.size, 1, none⟩ = some (.int .i64 p) := (cell_of_row _ _ 1 _ _ _ h2).trans rfl
    have HDN : Hid _ := prf_done F2.out (.slice none 0 0) er p
    clear h2
    go_region
    go_wp2
    generalize (((W2.setCell ⟨w.heap.size, 0, none⟩ (.slice none 0 0)).setCell ⟨w.heap.size + 1, 0, none⟩ (.int .i64 er)).setCell ⟨w.heap.size + 1, 1, none⟩ (.int .i64 p)) = Y at HDN ⊢
    exact bodyPost_ret (results_cc Tryd.results8 _ Y.drew w.heap.size (w.heap.size + 1) _ _ _ _ (0, 0) (0, 0) _ _ rfl rfl HDN.out.2.1 HDN.out.2.2 Tryd.underlying31 rfl (by kernel_rfl) Tryd.underlying26 rfl (by kernel_rfl)) rfl (by rw [HX.out]; exact ⟨HDN.out.1.drew, rfl⟩)
end Go.Proofs.YthnoiohganknnabDoor
