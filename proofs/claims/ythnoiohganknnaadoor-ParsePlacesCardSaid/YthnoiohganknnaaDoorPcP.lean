/- The law ParsePlaces answers true. -/
import Derived.Test.YthnoiohganknnaaDoorMrgI
import Derived.Test.YthnoiohganknnaaDoorMrgJ
import Derived.Deep.DeepCutAuto
import Derived.Deep.Cut
import Derived.Deep.CutRange
import Derived.Deep.CutBlock
namespace Go.Proofs.YthnoiohganknnaaDoor
open Go.RowKit

/-- A node's places, and its word, in a text. -/
def ndTx (L : List Nd) (s : ByteArray) (d : Nd) : Prop :=
  (d.frm ≤ d.pos ∧ d.pos ≤ d.to ∧ 0 ≤ d.frm ∧ d.to ≤ s.size ∧ (wordK d.kind = true → ∃ a : Nat, d.pos = a ∧ a + d.text.size ≤ s.size ∧ s.extract a (a + d.text.size) = d.text)) ∧ kdOk L d.to d.frm d.kids
theorem extract_mid' (s : ByteArray) (a b : Nat) : s.extract a b = strU ((s.data.toList.drop a).take (b - a)) := by
  have h : (s.extract a b).data.toList = (s.data.toList.drop a).take (b - a) := by
    rw [ByteArray.data_extract]
    simp [List.extract_eq_take_drop]
  rw [← h, strU_of]
theorem txt_places {s : ByteArray} : ∀ d ∈ trO (txtO s.data.toList), ndTx (trO (txtO s.data.toList)) s d := by
  have hlen : s.data.toList.length = s.size := by rw [Array.length_toList]; rfl
  intro d hd
  cases hx : txtO s.data.toList with
  | inl p => rw [hx] at hd; simp [trO] at hd
  | inr t =>
    rw [hx] at hd
    unfold txtO at hx
    split at hx
    · rename_i h0
      have hL : s.data.toList.length ≤ 4096 := by
        apply Nat.le_of_not_lt
        intro h
        unfold lexO at h0
        rw [if_pos h] at h0
        simp at h0
      rcases lexO_stands hL with ⟨e, q, h1, h2, -⟩ | ⟨ms, h1, h2, -, -⟩
      · rw [h1] at h0; exact absurd h0 h2
      · rw [h1] at hx
        have hst := stl_of h2
        obtain ⟨hp, -⟩ := stl_std ms 0 h2
        rw [hlen] at hst hp
        have hf : ∃ q, filO ms = .ok t q := by
          have hx' : parO ms = .inr t := hx
          unfold parO at hx'
          split at hx'
          · cases hx'
          split at hx'
          · cases hx'
          split at hx'
          · rename_i t' q hq
            split at hx'
            · cases hx'
            split at hx'
            · cases hx'
            · injection hx' with hx'
              exact ⟨q, by rw [hq, hx']⟩
          · cases hx'
          · cases hx'
        obtain ⟨q, hf⟩ := hf
        obtain ⟨⟨a1, a2, a3, a4, a5⟩, a6⟩ := lay_places (fil_places hst hf) d hd
        refine ⟨⟨a1, a2, a3, a4, fun hw => ?_⟩, a6⟩
        obtain ⟨p, p1, p2, p3⟩ := a5 hw
        obtain ⟨a, e1, -, e3, e4⟩ := hp p p1
        refine ⟨a, by rw [p3, e1], by rw [p2]; exact e3, ?_⟩
        rw [extract_mid', show a + d.text.size - a = d.text.size by omega, p2, e4, strU_of]
    · cases hx
set_option maxRecDepth 100000 in
set_option maxHeartbeats 8000000 in
theorem parsePlaces_all (s : ByteArray) (w : World) (hT : Tabl w) : Calls Tryd.prog 4 #[.string s] w fun e w' => e = .returned (.bool true) ∧ Below w.heap.size w w' := by
  have HT : Hid (∀ W, Below w.heap.size w W → Tabl W) := fun W hb => tabl_agree hb.block hT
  clear hT
  go_enter Tryd.func4, Tryd.ntmps4
  go_wp2_with fail
  refine (wakes11_any w (HT.out w (Below.refl _ _))).mono ?_
  rintro e W1 ⟨rfl, b1⟩
  have HB1 : Hid (Below w.heap.size w W1) := b1
  clear b1
  cases z1 : decide ((6000 : Int) < s.size)
  rotate_left
  focus (
    go_wp2
    go_ret
    exact ⟨rfl, HB1.out⟩)
  have hsz : s.size ≤ 6000 := by have := of_decide_eq_false z1; omega
  go_wp2_with fail
  refine (text_all W1 s (HT.out W1 HB1.out)).mono ?_
  rintro e W2 h2
  obtain ⟨b2, v2, rfl, t2⟩ := prp_tr h2
  obtain ⟨s2, c2, rfl⟩ := t2.shape
  have HB2 : Hid (Below w.heap.size w W2) := HB1.out.trans (b2.mono HB1.out.size)
  have T2 : Hid (TrAt W1.heap.size W2 (.slice s2 (trO (txtO s.data.toList)).length c2) (trO (txtO s.data.toList))) := t2
  clear h2 b2 t2
  have hbnd := txt_bnd s.data.toList
  have HND : Hid ((spO (txtO s.data.toList)).1 = 0 → ∀ d ∈ trO (txtO s.data.toList), ndTx (trO (txtO s.data.toList)) s d) := fun _ => txt_places
  generalize hL : trO (txtO s.data.toList) = L at T2 hbnd HND
  generalize hS : spO (txtO s.data.toList) = sp0 at HND
  clear hL hS
  obtain ⟨er, pe⟩ := sp0
  have HBN : Hid _ := hbnd.2
  have hLn := hbnd.1
  clear hbnd
  by_cases he : er = 0
  · have HD : Hid (∀ d ∈ L, ndTx L s d) := HND.out he
    subst he
    clear HND
    go_wp2
    refine wp_gen (fun W => W.heap[W2.heap.size]? = some (.cells #[.slice s2 L.length c2] 25 (0, 0)) ∧ Below w.heap.size w W ∧ TrAt W1.heap.size W (.slice s2 L.length c2) L) ?_ ?_
    · have n0 := heap_alloc_new W2 (.cells #[.slice s2 L.length c2] 25)
      have hb := ((Below.refl W2.heap.size W2).alloc (Nat.le_refl _) (.cells #[.slice s2 L.length c2] 25)).alloc (by simp) (.cells #[.int .i64 0, .int .i64 pe] 28)
      exact ⟨(Below.heap_alloc _ _ _ (by simp)).trans n0, HB2.out.trans (hb.mono HB2.out.size), T2.out.below hb⟩
    rintro W3 ⟨hr3, hB3, N, S, hO3, hR3, -⟩
    obtain ⟨sp, cap, e0, hrw3, -⟩ := OwnG.rows elN hO3
    injection e0 with e1 e2 e3
    subst e1 e3
    clear e2
    have HR3 : Hid (∀ W, Below W3.heap.size W3 W → W.heap[W2.heap.size]? = some (.cells #[.slice s2 L.length c2] 25 (0, 0)) ∧ RowsAt W 7 NdM.cells s2 N ∧ Rep W S N L ∧ Below w.heap.size w W) := fun W hb => ⟨(hb.block _ (lt_of_row hr3)).trans hr3, hrw3.below hb, hR3.below hb, hB3.trans (hb.mono hB3.size)⟩
    clear hr3 hB3 hO3 hR3 hrw3 T2 HB2 HB1 HT
    go_loopw [27] (fun i wr => ∃ t : Nat, t ≤ L.length ∧ i = .int .i64 t ∧ Below W3.heap.size W3 wr) (fun i _ => L.length - (intOf i).toNat)
    case atStart => exact ⟨0, Nat.zero_le _, rfl, Below.refl _ _⟩
    case round =>
      obtain ⟨t, ht, rfl, hB⟩ := hrel
      have HB : Hid (Below W3.heap.size W3 wr) := hB
      obtain ⟨q0, q1, q2, q3⟩ := HR3.out wr hB
      clear hB
      by_cases hlt : t < L.length
      · have hd : decide ((t : Int) < L.length) = true := by simp; omega
        have hNl : N.length = L.length := q2.1
        obtain ⟨b, o, rfl, -⟩ := q1 (by omega)
        obtain ⟨m, hm⟩ : ∃ m, N[t]? = some m := ⟨_, List.getElem?_eq_getElem (by omega)⟩
        obtain ⟨d, hx⟩ : ∃ d, L[t]? = some d := ⟨_, List.getElem?_eq_getElem hlt⟩
        obtain ⟨k0, k1, k2, k3, k4, k5, k6⟩ := node_cells q1 hm
        obtain ⟨⟨e1, e2, e3, e4, e5, e6⟩, e7, g1⟩ := q2.at hm hx
        obtain ⟨xk, xx, xn, xs, xkn, xkc, xa, xf, xt⟩ := m
        dsimp only at e1 e2 e3 e4 e5 e6 e7 g1 k0 k1 k2 k3 k4 k5 k6
        subst e1 e2 e3 e4 e5 e6 e7
        have G1 : Hid (RowsAt wr 1 intC xs d.kids) := g1
        obtain ⟨⟨p1, p2, p3, p4, p5⟩, p6⟩ := HD.out d (List.mem_of_getElem? hx)
        have hkn := (HBN.out d (List.mem_of_getElem? hx)).2
        have HKS : Hid _ := (HBN.out d (List.mem_of_getElem? hx)).1
        clear hm hx
        obtain ⟨dk, dx, dn, dks, dp, df, dt⟩ := d
        dsimp only at p1 p2 p3 p4 p5 p6 k0 k1 k2 k3 k4 k5 k6 g1 hkn HKS
        obtain ⟨a, rfl⟩ := Int.eq_ofNat_of_zero_le (show 0 ≤ dp by omega)
        have G1 : Hid (RowsAt wr 1 intC xs dks) := g1
        have P5 : Hid _ := p5
        have P6 : Hid (kdOk L dt df dks) := p6
        have lt1 : b < wr.heap.size := block_lt_of_cell k0
        have HQ3 : Hid (Below w.heap.size w wr) := q3
        have z1 : decide (df < 0) = false := by simp; omega
        have z2 : decide ((s.size : Int) < dt) = false := by simp; omega
        have z3 : decide (dt < df) = false := by simp; omega
        have z4 : decide ((a : Int) < df) = false := by simp; omega
        have z5 : decide (dt < (a : Int)) = false := by simp; omega
        have HQ0 : Hid _ := q0
        clear g1 p5 p6 q0 q1 q2 q3 hNl
        go_upto_block 2 with fail
        go_cut [] (fun wc => ∃ n, wc = (wr.alloc (.cells #[.int .i64 dk, .string dx, .int .i64 dn, .slice xs dks.length xkc, .int .i64 a, .int .i64 df, .int .i64 dt] 36)).drewN n)
        case first =>
          cases hw : wordK dk
          · go_wp2
            all_goals first
              | (go_meet; case rel => exact ⟨0, rfl⟩)
              | (exfalso; revert hw; simp only [wordK, *]; decide)
          · have hq : ¬ dk = 13 ∧ ¬ dk = 14 ∧ ¬ dk = 15 ∧ ¬ dk = 16 ∧ ¬ dk = 18 ∧ ¬ dk = 19 ∧ ¬ dk = 25 ∧ ¬ dk = 20 ∧ ¬ dk = 21 ∧ ¬ dk = 2 := by simpa [wordK, and_assoc] using hw
            obtain ⟨f1, f2, f3, f4, f5, f6, f7, f8, f9, f0⟩ := hq
            obtain ⟨a', ea, ha1, ha2⟩ := P5.out hw
            obtain rfl : a = a' := Int.ofNat.inj ea
            have g1 := beq_eq_false_iff_ne.2 f1
            have g2 := beq_eq_false_iff_ne.2 f2
            have g3 := beq_eq_false_iff_ne.2 f3
            have g4 := beq_eq_false_iff_ne.2 f4
            have g5 := beq_eq_false_iff_ne.2 f5
            have g6 := beq_eq_false_iff_ne.2 f6
            have g7 := beq_eq_false_iff_ne.2 f7
            have g8 := beq_eq_false_iff_ne.2 f8
            have g9 := beq_eq_false_iff_ne.2 f9
            have g0 := beq_eq_false_iff_ne.2 f0
            have y1 : decide ((s.size : Int) - (a : Int) < (dx.size : Int)) = false := by simp; omega
            have y0 : IntKind.i64.wrap ((s.size : Int) - (a : Int)) = (s.size : Int) - (a : Int) := by rw [IntKind.wrap_i64]; omega
            have y3 : decide (s.size < dx.size + a) = false := by simp; omega
            have y4 : decide (s.size < a + dx.size) = false := by simp; omega
            have y5 : decide ((s.size : Int) < (dx.size : Int) + (a : Int)) = false := by simp; omega
            have y6 : decide ((s.size : Int) < (a : Int) + (dx.size : Int)) = false := by simp; omega
            have y7 : ¬ ((s.size : Int) - (a : Int) < (dx.size : Int)) := by omega
            have y8 : ¬ ((s.size : Int) < (dx.size : Int) + (a : Int)) := by omega
            have y9 : ¬ (s.size < dx.size + a) := by omega
            have y2 : s.extract a ((a : Int) + (dx.size : Int)).toNat = dx := by rw [show ((a : Int) + (dx.size : Int)).toNat = a + dx.size by omega]; exact ha2
            clear f1 f2 f3 f4 f5 f6 f7 f8 f9 f0 ea
            go_wp2
            go_quiet (fail)
            go_wp2
            go_meet
            case rel => exact ⟨nq, rfl⟩
        case rest =>
          have r4 : wc.heap[wr.heap.size]? = some (.cells #[.int .i64 dk, .string dx, .int .i64 dn, .slice xs dks.length xkc, .int .i64 a, .int .i64 df, .int .i64 dt] 36 (0, 0)) := by
            obtain ⟨n, rfl⟩ := hcut
            exact heap_alloc_new wr _
          have BW : Hid (Below wr.heap.size wr wc) := by
            obtain ⟨n, rfl⟩ := hcut
            exact ((Below.refl _ _).alloc (Nat.le_refl _) _).trans (below_dN _ _)
          have B4 : Hid (Below W3.heap.size W3 wc) := HB.out.trans (BW.out.mono HB.out.size)
          have G4 : Hid (RowsAt wc 1 intC xs dks) := G1.out.below BW.out
          have R4 : Hid (∀ W, Below wc.heap.size wc W → W.cell? ⟨wr.heap.size, 6, none⟩ = some (.int .i64 dt)) := fun W hb => (cell_of_row _ _ 6 _ _ _ ((hb.block _ (lt_of_row r4)).trans r4)).trans rfl
          have c3 : wc.cell? ⟨wr.heap.size, 3, none⟩ = some (.slice xs dks.length xkc) := (cell_of_row _ _ 3 _ _ _ r4).trans rfl
          have c5 : wc.cell? ⟨wr.heap.size, 5, none⟩ = some (.int .i64 df) := (cell_of_row _ _ 5 _ _ _ r4).trans rfl
          have lt4 : wr.heap.size < wc.heap.size := lt_of_row r4
          clear hcut r4 k0 k1 k2 k3 k4 k5 k6 z1 z2 z3 z4 z5 G1 BW HB HQ0 P5
          generalize wr.heap.size = M at lt1 lt4 R4 c3 c5 ⊢
          go_wp2
          go_loopw [7, 104] (fun la i wr => ∃ (q : Nat) (lo : Int), q ≤ dks.length ∧ la = .int .i64 lo ∧ i = .int .i64 q ∧ Below wc.heap.size wc wr ∧ kdOk L dt lo (dks.drop q)) (fun _ i _ => dks.length - (intOf i).toNat)
          case atStart => exact ⟨0, df, Nat.zero_le _, rfl, rfl, Below.refl _ _, P6.out⟩
          case round =>
            obtain ⟨q, lo, hq, rfl, rfl, hB5, hkd⟩ := hrel
            have B5 : Hid (Below W3.heap.size W3 wr) := B4.out.trans (hB5.mono B4.out.size)
            have HB5 : Hid (Below wc.heap.size wc wr) := hB5
            by_cases hlt2 : q < dks.length
            · have hd2 : decide ((q : Int) < dks.length) = true := by simp; omega
              obtain ⟨k, hk⟩ : ∃ k, dks[q]? = some k := ⟨_, List.getElem?_eq_getElem hlt2⟩
              have hdr : dks.drop q = k :: dks.drop (q + 1) := by
                rw [List.drop_eq_getElem_cons hlt2]
                congr 1
                have := List.getElem?_eq_getElem hlt2
                rw [hk] at this
                injection this with this
                exact this.symm
              rw [hdr, kdOk] at hkd
              obtain ⟨y, hy, l1, l2, l3⟩ := hkd
              have hkl : k < L.length := (List.getElem?_eq_some_iff.1 hy).1
              obtain ⟨q0, q1, q2, q3⟩ := HR3.out wr B5.out
              have hNl : N.length = L.length := q2.1
              obtain ⟨m, hm⟩ : ∃ m, N[k]? = some m := ⟨_, List.getElem?_eq_getElem (by omega)⟩
              obtain ⟨k0, k1, k2, k3, k4, k5, k6⟩ := node_cells q1 hm
              obtain ⟨⟨-, -, -, -, e5, e6⟩, -, -⟩ := q2.at hm hy
              have g5 := G4.out.below HB5.out
              obtain ⟨bx, ox, rfl, -⟩ := g5 (by omega)
              have zk := ints_cell g5 q (by simpa using hlt2)
              rw [List.getD_eq_getElem?_getD, List.getElem?_map, hk] at zk
              simp only [Option.map_some, Option.getD_some] at zk
              have cp : wr.cell? ⟨W2.heap.size, 0, none⟩ = some (.slice (some ⟨b, o, none⟩) L.length c2) := (cell_of_row _ _ 0 _ _ _ q0).trans rfl
              have c6 := R4.out wr HB5.out
              have ltb : b < wr.heap.size := block_lt_of_cell k0
              have ltM : M < wr.heap.size := block_lt_of_cell c6
              have lt2 : W2.heap.size < wr.heap.size := lt_of_row q0
              have L3 : Hid (kdOk L dt y.to (dks.drop (q + 1))) := l3
              have z1 : decide (m.f < lo) = false := by simp; omega
              have z2 : decide (dt < m.t) = false := by simp; omega
              have E6 : Hid (m.t = y.to) := e6
              have HB6 : Hid (Below wc.heap.size wc (wr.alloc (.cells m.cells 36))) := HB5.out.alloc HB5.out.size _
              have hkk : decide ((k : Int) < L.length) = true := by simp; omega
              clear hy l1 l2 l3 hdr hk g5 q0 q1 q2 q3 e5 e6 hm hB5 hNl
              go_wp2
              exact ⟨⟨q + 1, m.t, by omega, rfl, by go_num, HB6.out, by rw [E6.out]; exact L3.out⟩, by simp [intOf]; omega⟩
            · have hd2 : decide ((q : Int) < dks.length) = false := by simp; omega
              clear hB5 hkd
              go_wp2
              exact ⟨⟨t + 1, by omega, by go_num, B5.out⟩, by simp [intOf]; omega⟩
      · have hd : decide ((t : Int) < L.length) = false := by simp; omega
        have HQ3 : Hid (Below w.heap.size w wr) := q3
        clear q0 q1 q2 q3
        go_wp2
        go_ret
        exact ⟨rfl, HQ3.out⟩
  · have HB2' : Hid (Below w.heap.size w ((W2.alloc (.cells #[.slice s2 L.length c2] 25)).alloc (.cells #[.int .i64 er, .int .i64 pe] 28))) := (HB2.out.alloc HB2.out.size _).alloc (by simp; exact Nat.le_succ_of_le HB2.out.size) _
    clear HND T2
    go_wp2
    go_ret
    exact ⟨rfl, HB2'.out⟩
end Go.Proofs.YthnoiohganknnaaDoor
