/- The law LexTexts answers true. -/
import Derived.Test.YtcbpnmdphmdemaaSxD
import Derived.Test.YtcbpnmdphmdemaaLxE
namespace Go.Proofs.Ytcbpnmdphmdemaa
open Go.RowKit

set_option pp.deepTerms.threshold 2000 in
set_option maxRecDepth 100000 in
set_option maxHeartbeats 4000000 in
theorem places_same (sp tp : Option Addr) (c1 c2 : Nat) (xs : List Tok) (w : World) (h1 : RowsT w sp xs) (h2 : RowsT w tp xs) (hl : xs.length ≤ 1000000) :
    Calls Try.prog 12 #[.slice sp xs.length c1, .slice tp xs.length c2] w fun e w' => e = .returned (.bool true) ∧ ∃ n, w' = w.drewN n := by
  have H1 : Hid (RowsT w sp xs) := h1
  have H2 : Hid (RowsT w tp xs) := h2
  clear h1 h2
  go_enter Try.func12, Try.ntmps12
  go_wp2_with fail
  refine (ssame_any sp tp c1 c2 xs xs w H1.out H2.out hl hl).mono ?_
  rintro e W1 ⟨rfl, n1, rfl⟩
  rw [eqAll_refl tkEq_refl]
  go_wp2
  go_loopw [12] (fun i wr => ∃ t n : Nat, t ≤ xs.length ∧ i = .int .i64 t ∧ wr = w.drewN n) (fun i _ => xs.length - (intOf i).toNat)
  case atStart => exact ⟨0, n1, Nat.zero_le _, rfl, rfl⟩
  case round =>
    obtain ⟨t, n, ht, rfl, rfl⟩ := hrel
    by_cases hlt : t < xs.length
    · have hd : decide ((t : Int) < xs.length) = true := by simp; omega
      obtain ⟨b1, o1, rfl, -⟩ := H1.out (by omega)
      obtain ⟨b2, o2, rfl, -⟩ := H2.out (by omega)
      obtain ⟨x, hx⟩ : ∃ x, xs[t]? = some x := ⟨_, List.getElem?_eq_getElem hlt⟩
      obtain ⟨-, -, k1⟩ := tok_cell (RowsAt.below H1.out (below_drawn' w n)) hx
      obtain ⟨-, -, k2⟩ := tok_cell (RowsAt.below H2.out (below_drawn' w n)) hx
      obtain ⟨W, HW⟩ : ∃ W, Hid (w.drewN n = W) := ⟨_, rfl⟩
      rw [HW.out] at k1 k2 ⊢
      clear hx H1 H2
      go_wp2
      go_quiet (fail)
      go_wp2
      exact ⟨⟨t + 1, n + nq, by omega, by go_num, by rw [← HW.out]; exact drewN_two w n nq⟩, by simp [intOf]; omega⟩
    · have hd : decide ((t : Int) < xs.length) = false := by simp; omega
      go_wp2
      go_ret
      exact ⟨rfl, n, rfl⟩
/-- The block of a slice of one's own. -/
theorem own_block {B : Nat} {w : World} {sp : Option Addr} {n cap : Nat} {xs : List Tok} (h : OwnT B w (.slice sp n cap) xs) (hl : 0 < xs.length) : ∃ g cur, sp = some ⟨g, 0, none⟩ ∧ B ≤ g ∧ w.heap[g]? = some (.cells cur 32 (0, 0)) ∧ xs.length * 3 ≤ cur.size := by
  rcases h.2 with ⟨e, h0⟩ | ⟨g, cap', cur, e, h1, h2, h3, h4, h5, h6⟩
  · omega
  · injection e with e1 e2 e3
    subst e1 e2 e3
    refine ⟨g, cur, rfl, h1, h2, ?_⟩
    rw [h5]
    exact Nat.mul_le_mul_right 3 h3
theorem lexO_short {M : List UInt8} {ts : List Tok} {er : Int} {q : Nat} (h : lexO M = (ts, er, q)) : ts.length ≤ 1024 := by
  by_cases hM : M.length ≤ 4096
  · rcases lexO_stands hM with ⟨e, q', g, -⟩ | ⟨ms, g, -, -, hm⟩
    · rw [g] at h
      injection h with h1 h2
      rw [← h1]
      simp
    · rw [g] at h
      injection h with h1 h2
      rw [← h1]
      exact hm
  · unfold lexO at h
    rw [if_pos (by omega)] at h
    injection h with h1 h2
    rw [← h1]
    simp
set_option pp.deepTerms.threshold 2000 in
set_option maxRecDepth 100000 in
set_option maxHeartbeats 8000000 in
theorem lexTexts_all (sp : Option Addr) (cap : Nat) (xs : List ByteArray) (w : World) (h : RowsAt w 1 (fun s => #[Value.string s]) sp xs) (hxl : xs.length ≤ maxLen) : Calls Try.prog 3 #[.slice sp xs.length cap] w fun e w' => e = .returned (.bool true) ∧ Below w.heap.size w w' := by
  have hxl' : xs.length ≤ 9223372036854775807 := hxl
  have H0 : Hid (RowsAt w 1 (fun s => #[Value.string s]) sp xs) := h
  clear h hxl
  go_enter Try.func3, Try.ntmps3
  go_wp2_with fail
  refine (wakes_any w).mono ?_
  rintro e W1 ⟨rfl, b1⟩
  have B1 : Hid (Below w.heap.size w W1) := b1
  clear b1
  go_wp2
  go_loopw [15] (fun i wr => ∃ t : Nat, t ≤ xs.length ∧ t ≤ 16 ∧ i = .int .i64 t ∧ Below w.heap.size w wr) (fun i _ => xs.length - (intOf i).toNat)
  case atStart => exact ⟨0, Nat.zero_le _, by omega, rfl, B1.out⟩
  case round =>
    clear B1
    obtain ⟨t, ht, ht2, rfl, hb⟩ := hrel
    have HB : Hid (Below w.heap.size w wr) := hb
    clear hb
    by_cases hlt : t < xs.length
    · have hd : decide ((t : Int) < xs.length) = true := by simp; omega
      obtain ⟨b, o, rfl, hc⟩ := RowsAt.below H0.out HB.out (by omega)
      obtain ⟨s0, hs0⟩ : ∃ s0, xs[t]? = some s0 := ⟨_, List.getElem?_eq_getElem hlt⟩
      have k0 : wr.cell? ⟨b, o + t, none⟩ = some (.string s0) := by
        have := hc t s0 hs0 0 (.string s0) rfl
        simpa using this
      clear hc hs0
      by_cases h16 : t = 16
      · have h16' : ((t : Int) == 16) = true := by rw [beq_iff_eq]; omega
        clear h16
        go_wp2
        go_ret
        exact ⟨rfl, HB.out⟩
      · have h16' : ((t : Int) == 16) = false := by rw [beq_eq_false_iff_ne]; omega
        have hmn : 0 ≤ min (s0.size : Int) 4097 ∧ min (s0.size : Int) 4097 ≤ s0.size := by omega
        obtain ⟨hmn0, hmn1⟩ := hmn
        obtain ⟨s, hcs⟩ : ∃ s, s0.extract 0 (min (s0.size : Int) 4097).toNat = s := ⟨_, rfl⟩
        go_wp2_with fail
        refine (slex_any s wr).mono ?_
        rintro e W2 ⟨⟨v, rfl, o2⟩, b2⟩
        obtain ⟨O, HO⟩ : ∃ O, Hid (lexO s.data.toList = O) := ⟨_, rfl⟩
        rw [HO.out] at o2 ⊢
        obtain ⟨ts, er, q⟩ := O
        have HTS : Hid (ts.length ≤ 1024) := lexO_short HO.out
        simp only at o2 ⊢
        obtain ⟨s2, k2, rfl, R2, -, -, -⟩ := OwnG.rows elT o2
        have B2 : Hid (Below w.heap.size w W2) := HB.out.trans (b2.mono HB.out.size)
        have R2' : Hid (RowsT W2 s2 ts) := R2
        clear o2 b2 R2 k0 hcs hmn0 hmn1 HB
        go_wp2
        obtain ⟨g, HG⟩ : ∃ g, Hid (W2.heap.size = g) := ⟨_, rfl⟩
        refine wp_gen (fun W => Below w.heap.size w W ∧ RowsT W s2 ts ∧ W.heap[g]? = some (.cells #[.int .i64 er, .int .i64 q] 27 (0, 0))) ⟨B2.out.alloc B2.out.size _, RowsAt.below R2'.out ((Below.refl _ _).alloc (Nat.le_refl _) _), by rw [← HG.out]; exact heap_alloc_new _ _⟩ ?_
        rw [HG.out]
        clear HG B2 R2'
        rintro W3 ⟨bw3, R3, r3⟩
        have BW3 : Hid (Below w.heap.size w W3) := bw3
        have RT3 : Hid (RowsT W3 s2 ts) := R3
        have RW3 : Hid (W3.heap[g]? = some (.cells #[.int .i64 er, .int .i64 q] 27 (0, 0))) := r3
        clear bw3 R3 r3
        go_loopw [7] (fun i wr' => ∃ r : Nat, r ≤ 2 ∧ i = .int .i64 r ∧ Below W3.heap.size W3 wr') (fun i _ => 2 - (intOf i).toNat)
        case atStart => exact ⟨0, by omega, rfl, Below.refl _ _⟩
        case round =>
          rename_i wrO
          obtain ⟨r, hr2, rfl, hb⟩ := hrel
          have HB : Hid (Below W3.heap.size W3 wr) := hb
          clear hb
          by_cases hrt : r < 2
          · have hd2 : decide ((r : Int) < 2) = true := by simp; omega
            go_wp2_with fail
            refine (lex_any s wr).mono ?_
            rw [HO.out]
            rintro e W4 ⟨⟨v, rfl, o4⟩, b4⟩
            simp only at o4 ⊢
            obtain ⟨s4, k4, rfl, R4, -, -, -⟩ := OwnG.rows elT o4
            have hgg : g < W3.heap.size := lt_of_row RW3.out
            have r4 : W4.heap[g]? = some (.cells #[.int .i64 er, .int .i64 q] 27 (0, 0)) := (b4.block _ (by have := HB.out.size; omega)).trans ((HB.out.block _ hgg).trans RW3.out)
            have hg4 : g < W4.heap.size := lt_of_row r4
            have hgn : ¬ g = W4.heap.size := by omega
            have g0 : W4.cell? ⟨g, 0, none⟩ = some (.int .i64 er) := (cell_of_row _ _ 0 _ _ _ r4).trans rfl
            have g1 : W4.cell? ⟨g, 1, none⟩ = some (.int .i64 q) := (cell_of_row _ _ 1 _ _ _ r4).trans rfl
            have bA : Below W4.heap.size W4 (W4.alloc (.cells #[.int .i64 er, .int .i64 q] 27)) := (Below.refl _ _).alloc (Nat.le_refl _) _
            have HPL : Hid (Calls Try.prog 12 #[.slice s4 ts.length k4, .slice s2 ts.length k2] (W4.alloc (.cells #[.int .i64 er, .int .i64 q] 27)) fun e w' => e = .returned (.bool true) ∧ ∃ n, w' = (W4.alloc (.cells #[.int .i64 er, .int .i64 q] 27)).drewN n) := places_same s4 s2 k4 k2 ts _ (RowsAt.below R4 bA) (RowsAt.below RT3.out (HB.out.trans ((b4.mono HB.out.size).trans (bA.mono (by have := HB.out.size; have := b4.size; omega))))) (by have := HTS.out; omega)
            have BN : Hid (∀ n, Below W3.heap.size W3 ((W4.alloc (.cells #[.int .i64 er, .int .i64 q] 27)).drewN n)) := fun n => (HB.out.trans ((b4.mono HB.out.size).trans (bA.mono (by have := HB.out.size; have := b4.size; omega)))).trans (below_drawn' _ n)
            have O4 : Hid (∀ n, OwnT wr.heap.size ((W4.alloc (.cells #[.int .i64 er, .int .i64 q] 27)).drewN n) (.slice s4 ts.length k4) ts) := fun n => OwnG.below o4 (bA.trans (below_drawn' _ n))
            have hw3 : W3.heap.size ≤ wr.heap.size := HB.out.size
            clear o4 b4 R4 r4 bA HB
            go_wp2_with (go_at_call 12; refine HPL.out.mono ?_; rintro e W5 ⟨rfl, n5, hW5⟩)
            clear hW5 HPL g0 g1
            refine wp_gen (fun W => Below W3.heap.size W3 W ∧ OwnT wr.heap.size W (.slice s4 ts.length k4) ts) ⟨BN.out n5, O4.out n5⟩ ?_
            clear BN O4
            rintro W6 ⟨b6, o6⟩
            have B6 : Hid (Below W3.heap.size W3 W6) := b6
            have HC6 : Hid (0 < ts.length → ∃ g4 cur, s4 = some ⟨g4, 0, none⟩ ∧ W3.heap.size ≤ g4 ∧ W6.heap[g4]? = some (.cells cur 32 (0, 0)) ∧ ts.length * 3 ≤ cur.size) := fun hl => by
              obtain ⟨g4, cur, e1, e2, e3, e4⟩ := own_block o6 hl
              exact ⟨g4, cur, e1, by omega, e3, e4⟩
            clear b6 o6 hg4 hgn
            have hts9 : ts.length ≤ 1024 := HTS.out
            go_loopw [52] (fun i wr2 => ∃ u : Nat, u ≤ ts.length ∧ i = .int .i64 u ∧ Below W3.heap.size W3 wr2 ∧ (0 < ts.length → ∃ g4 cur, s4 = some ⟨g4, 0, none⟩ ∧ W3.heap.size ≤ g4 ∧ wr2.heap[g4]? = some (.cells cur 32 (0, 0)) ∧ ts.length * 3 ≤ cur.size)) (fun i _ => ts.length - (intOf i).toNat)
            case atStart => exact ⟨0, Nat.zero_le _, rfl, B6.out, HC6.out⟩
            case round =>
              clear B6 HC6
              obtain ⟨u, hu, rfl, hbb, hcc⟩ := hrel
              have HBB : Hid (Below W3.heap.size W3 wr) := hbb
              by_cases hul : u < ts.length
              · have hd3 : decide ((u : Int) < ts.length) = true := by simp; omega
                obtain ⟨g4, cur, rfl, e2, e3, e4⟩ := hcc (by omega)
                have z4 : ∀ j, wr.frozen? ⟨g4, j, none⟩ = false := fun j => frozen_of_row _ _ _ _ _ e3
                obtain ⟨y, hy⟩ : ∃ y, cur[u * 3]? = some y := ⟨_, Array.getElem?_eq_getElem (by omega)⟩
                have c4 : wr.cell? ⟨g4, u * 3, none⟩ = some y := (cell_of_row _ _ _ _ _ _ e3).trans hy
                have RR : Hid ((∃ u' : Nat, u' ≤ ts.length ∧ Value.int .i64 ((u : Int) + 1) = .int .i64 u' ∧ Below W3.heap.size W3 (wr.setCell ⟨g4, u * 3, none⟩ (.int .i64 (-9))) ∧ (0 < ts.length → ∃ g5 cur, (some ⟨g4, 0, none⟩ : Option Addr) = some ⟨g5, 0, none⟩ ∧ W3.heap.size ≤ g5 ∧ (wr.setCell ⟨g4, u * 3, none⟩ (.int .i64 (-9))).heap[g5]? = some (.cells cur 32 (0, 0)) ∧ ts.length * 3 ≤ cur.size)) ∧ ts.length - (intOf (.int .i64 ((u : Int) + 1))).toNat < ts.length - (intOf (.int .i64 (u : Int))).toNat) :=
                  ⟨⟨u + 1, by omega, by go_num, HBB.out.setCell (p := ⟨g4, u * 3, none⟩) e2 _, fun _ => ⟨g4, _, rfl, e2, heap_setCell_same _ _ _ _ _ _ e3, by rw [Array.size_setIfInBounds]; exact e4⟩⟩, by simp [intOf]; omega⟩
                clear hcc hbb HBB e3 hy
                go_wp2
                exact RR.out
              · have hd3 : decide ((u : Int) < ts.length) = false := by simp; omega
                clear hcc hbb
                go_wp2
                exact ⟨⟨r + 1, by omega, by go_num, HBB.out⟩, by simp [intOf]; omega⟩
          · have hd2 : decide ((r : Int) < 2) = false := by simp; omega
            go_wp2
            exact ⟨⟨t + 1, by omega, by omega, by go_num, BW3.out.trans (HB.out.mono BW3.out.size)⟩, by simp [intOf]; omega⟩
    · have hd : decide ((t : Int) < xs.length) = false := by simp; omega
      go_wp2
      go_ret
      exact ⟨rfl, HB.out⟩
end Go.Proofs.Ytcbpnmdphmdemaa
