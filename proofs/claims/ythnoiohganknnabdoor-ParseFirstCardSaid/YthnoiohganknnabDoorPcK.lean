/- The law ParseFirst answers true. -/
import Derived.Test.YthnoiohganknnabDoorPcN
import Derived.Test.YthnoiohganknnabDoorPcW
import Derived.Test.YthnoiohganknnabDoorPcJ
import Derived.Deep.DeepCutAuto
import Derived.Deep.Cut
import Derived.Deep.CutRange
import Derived.Deep.CutBlock
namespace Go.Proofs.YthnoiohganknnabDoor
open Go.RowKit

theorem rows_take {α : Type} {w : World} {m : Nat} {cs : α → Array Value} {sp : Option Addr} {xs : List α} (h : RowsAt w m cs sp xs) (n : Nat) : RowsAt w m cs sp (xs.take n) := fun hl => by
  obtain ⟨b, o, e, hc⟩ := h (by rw [List.length_take] at hl; omega)
  exact ⟨b, o, e, fun i x hx j u hu => hc i x (by
    rw [List.getElem?_take] at hx
    split at hx
    · exact hx
    · cases hx) j u hu⟩
set_option maxRecDepth 100000 in
set_option maxHeartbeats 8000000 in
theorem parseFirst_all (s : ByteArray) (sp : Option Addr) (cap : Nat) (xs : List Tok) (w : World) (hT : Tabl w) (hr : RowsT w sp xs) : Calls Tryd.prog 3 #[.string s, .slice sp xs.length cap] w fun e w' => e = .returned (.bool true) ∧ Below w.heap.size w w' := by
  have HT : Hid (∀ W, Below w.heap.size w W → Tabl W) := fun W hb => tabl_agree hb.block hT
  have HX : Hid (∀ W, Below w.heap.size w W → RowsT W sp xs) := fun W hb => rows_agree hb.block hr
  clear hT hr
  go_enter Tryd.func3, Tryd.ntmps3
  go_wp2_with fail
  refine (wakes11_any w (HT.out w (Below.refl _ _))).mono ?_
  rintro e W1 ⟨rfl, b1⟩
  have HB1 : Hid (Below w.heap.size w W1) := b1
  clear b1
  cases z1 : decide ((6000 : Int) < s.size)
  rotate_left
  focus (
    go_wp2
    go_ret
    exact ⟨rfl, HB1.out⟩)
  cases z2 : decide ((500 : Int) < xs.length)
  rotate_left
  focus (
    go_wp2
    go_ret
    exact ⟨rfl, HB1.out⟩)
  have hxl : xs.length ≤ 500 := by have := of_decide_eq_false z2; omega
  go_wp2_with fail
  have hbd := lexO_bnd s.data.toList
  refine (lex_any s W1).mono ?_
  rintro e W2 ⟨⟨v, rfl, hv⟩, b2⟩
  have HB2 : Hid (Below w.heap.size w W2) := HB1.out.trans (b2.mono HB1.out.size)
  generalize lexO s.data.toList = lx at hv hbd ⊢
  obtain ⟨ts, er0, p0⟩ := lx
  dsimp only at hv hbd ⊢
  obtain ⟨st, ct, rfl, hrows, -, hct0, -⟩ := OwnG.rows elT hv
  have HR2 : Hid (RowsT W2 st ts) := hrows
  have HBD : Hid _ := hbd.2
  have htl := hbd.1
  clear hv b2 hrows hbd HB1
  by_cases he : er0 = 0
  · subst he
    go_wp2_with fail
    refine calls_gen (fun W => W.heap[W2.heap.size]? = some (.cells #[.int .i64 0, .int .i64 p0] 26 (0, 0)) ∧ Below W2.heap.size W2 W) ⟨heap_alloc_new _ _, (Below.refl W2.heap.size W2).alloc (Nat.le_refl _) _⟩ ?_
    rintro W3 ⟨r3, b3⟩
    have b3w : Below w.heap.size w W3 := HB2.out.trans (b3.mono HB2.out.size)
    refine (parse_any W3 st ct ts (HR2.out.below b3) (HT.out W3 b3w) (by omega) (fun t ht => by have := HBD.out t ht; omega)).mono ?_
    rintro e W4 h4
    obtain ⟨b4, v4, rfl, -⟩ := prp_tr h4
    have R4 : Hid (W4.heap[W2.heap.size]? = some (.cells #[.int .i64 0, .int .i64 p0] 26 (0, 0))) := (b4.block _ (lt_of_row r3)).trans r3
    have B4 : Hid (Below W2.heap.size W2 W4) := b3.trans (b4.mono b3.size)
    clear h4 b4 r3 b3 b3w
    obtain ⟨er, pe, hsp⟩ : ∃ er pe, Hid (spO (parO ts) = (er, pe)) := ⟨_, _, rfl⟩
    rw [hsp.out]
    have c0 : W4.cell? ⟨W2.heap.size, 0, none⟩ = some (.int .i64 0) := (cell_of_row _ _ 0 _ _ _ R4.out).trans rfl
    have c1 : W4.cell? ⟨W2.heap.size, 1, none⟩ = some (.int .i64 p0) := (cell_of_row _ _ 1 _ _ _ R4.out).trans rfl
    have f0 : W4.frozen? ⟨W2.heap.size, 0, none⟩ = false := frozen_of_row _ _ _ _ _ R4.out
    have f1 : W4.frozen? ⟨W2.heap.size, 1, none⟩ = false := frozen_of_row _ _ _ _ _ R4.out
    go_wp2
    refine wp_gen (fun W => W.heap[W2.heap.size]? = some (.cells #[.int .i64 er, .int .i64 pe] 26 (0, 0)) ∧ Below W2.heap.size W2 W) ⟨heap_setCell_same _ _ 1 _ _ _ (heap_setCell_same _ _ 0 _ _ _ R4.out), (B4.out.setCell (p := ⟨W2.heap.size, 0, none⟩) (Nat.le_refl _) _).setCell (p := ⟨W2.heap.size, 1, none⟩) (Nat.le_refl _) _⟩ ?_
    rintro W5 ⟨r5, b5⟩
    have HR5 : Hid (∀ W, Below W5.heap.size W5 W → W.heap[W2.heap.size]? = some (.cells #[.int .i64 er, .int .i64 pe] 26 (0, 0)) ∧ RowsT W st ts ∧ Below w.heap.size w W) := fun W hb => ⟨(hb.block _ (lt_of_row r5)).trans r5, HR2.out.below (b5.trans (hb.mono b5.size)), HB2.out.trans ((b5.trans (hb.mono b5.size)).mono HB2.out.size)⟩
    clear c0 c1 f0 f1 R4 B4 r5 b5 HR2 HB2
    generalize W2.heap.size = gs at HR5 ⊢
    go_loopw [39] (fun i wr => ∃ t : Nat, t ≤ ts.length ∧ i = .int .i64 t ∧ Below W5.heap.size W5 wr) (fun i _ => ts.length - (intOf i).toNat)
    case atStart => exact ⟨0, Nat.zero_le _, rfl, Below.refl _ _⟩
    case round =>
      obtain ⟨t, ht, rfl, hB⟩ := hrel
      have HB : Hid (Below W5.heap.size W5 wr) := hB
      obtain ⟨q0, q1, q2⟩ := HR5.out wr hB
      have HQ2 : Hid (Below w.heap.size w wr) := q2
      clear hB q2
      by_cases hlt : t < ts.length
      · have hd : decide ((t : Int) < ts.length) = true := by simp; omega
        obtain ⟨b, o, rfl, -⟩ := q1 (by omega)
        obtain ⟨x, hx⟩ : ∃ x, ts[t]? = some x := ⟨_, List.getElem?_eq_getElem hlt⟩
        obtain ⟨k0, k1, k2⟩ := tok_cell q1 hx
        have g0 : wr.cell? ⟨gs, 0, none⟩ = some (.int .i64 er) := (cell_of_row _ _ 0 _ _ _ q0).trans rfl
        have g1 : wr.cell? ⟨gs, 1, none⟩ = some (.int .i64 pe) := (cell_of_row _ _ 1 _ _ _ q0).trans rfl
        have lt1 : b < wr.heap.size := block_lt_of_cell k0
        have ltg : gs < wr.heap.size := lt_of_row q0
        have hxb := HBD.out x (List.mem_of_getElem? hx)
        obtain ⟨hx1, hx2, hx3⟩ := hxb
        have HNX : Hid (nxT ts t = x) := by show _ = _; unfold nxT; rw [List.getD_eq_getElem?_getD, hx]; rfl
        have HRW : Hid (RowsT wr (some ⟨b, o, none⟩) ts) := q1
        clear hx q0 q1
        have HB6 : Hid (Below W5.heap.size W5 (wr.alloc (.cells x.cells 35))) := HB.out.alloc HB.out.size _
        cases m1 : (er != 210)
        rotate_left
        focus (
          go_wp2
          exact ⟨⟨t + 1, by omega, by go_num, HB6.out⟩, by simp [intOf]; omega⟩)
        cases m2 : (x.pos != pe)
        rotate_left
        focus (
          go_wp2
          exact ⟨⟨t + 1, by omega, by go_num, HB6.out⟩, by simp [intOf]; omega⟩)
        have e1 : er = 210 := by simpa using m1
        have e2 : x.pos = pe := by simpa using m2
        have HE1 : Hid (er = 210) := e1
        have HE2 : Hid (x.pos = pe) := e2
        clear e1 e2
        have y0 : IntKind.i64.wrap ((ts.length : Int) - 1) = (ts.length : Int) - 1 := by rw [IntKind.wrap_i64]; omega
        have HBW6 : Hid (Below w.heap.size w (wr.alloc (.cells x.cells 35))) := HQ2.out.alloc HQ2.out.size _
        by_cases hlast : t + 1 = ts.length ∧ x.text.size = 0
        · have m3 : ((t : Int) == (ts.length : Int) - 1) = true := by simp; omega
          have m5 : x.text.toList.isEmpty = true := by
            have h2 : x.text.data = #[] := Array.eq_empty_of_size_eq_zero hlast.2
            rw [ByteArray.toList_eq, h2]
            rfl
          clear hlast
          go_wp2
          go_ret
          exact ⟨rfl, HBW6.out⟩
        · have HLA : Hid (¬ (t + 1 = ts.length ∧ x.text.size = 0)) := hlast
          go_upto_region 13 with fail
          go_cut [63] (fun z W => W = wr.alloc (.cells x.cells 35) ∧ z = .bool false)
          case first =>
            cases m3 : ((t : Int) == (ts.length : Int) - 1)
            · go_wp2
              go_meet
              case rel => exact ⟨rfl, rfl⟩
            · have m5 : x.text.toList.isEmpty = false := by
                have h3 : (t : Int) = (ts.length : Int) - 1 := by simpa using m3
                rw [ByteArray.toList_eq, ← Bool.not_eq_true]
                intro h
                exact hlast ⟨by omega, by
                  have h4 : x.text.data.toList = [] := by simpa using h
                  have h5 := congrArg List.length h4
                  rw [Array.length_toList] at h5
                  exact h5⟩
              go_wp2
              go_meet
              case rel => exact ⟨rfl, rfl⟩
          case rest =>
            obtain ⟨hwc, rfl⟩ := hcut
            have R6 : Hid (wc.heap[wr.heap.size]? = some (.cells x.cells 35 (0, 0))) := by rw [hwc]; exact heap_alloc_new _ _
            have B6 : Hid (Below wr.heap.size wr wc) := by rw [hwc]; exact (Below.refl _ _).alloc (Nat.le_refl _) _
            have B6' : Hid (Below W5.heap.size W5 wc) := HB.out.trans (B6.out.mono HB.out.size)
            have BW6 : Hid (Below w.heap.size w wc) := HQ2.out.trans (B6.out.mono HQ2.out.size)
            have T6 : Hid (RowsT wc (some ⟨b, o, none⟩) ts) := HRW.out.below B6.out
            have ltM : wr.heap.size < wc.heap.size := lt_of_row R6.out
            clear hwc hlast k0 k1 k2 g0 g1 HB6 HBW6 HQ2 HRW HB
            generalize wr.heap.size = M at R6 lt1 ltg ltM B6 ⊢
            have ba : Below wc.heap.size wc (wc.alloc (.cells #[] 35)) := (Below.refl _ _).alloc (Nat.le_refl _) _
            have hO : OwnT wc.heap.size (wc.alloc (.cells #[] 35)) (.slice (some ⟨wc.heap.size, 0, none⟩) 0 0) [] := ⟨by simp [flatG], .inr ⟨wc.heap.size, 0, #[], rfl, Nat.le_refl _, heap_alloc_new _ _, by simp, Nat.zero_le _, by simp, by simp [flatG]⟩⟩
            have htk : (ts.take (t + 1)).length = t + 1 := by rw [List.length_take]; omega
            have hrt : RowsT (wc.alloc (.cells #[] 35)) (some ⟨b, o, none⟩) (ts.take (t + 1)) := rows_take (T6.out.below ba) _
            obtain ⟨v7, W7, hra, o7, gr7, -⟩ := own_run elT (ys := ts.take (t + 1)) (sp := some ⟨b, o, none⟩) (cap := ct) 22 hO (fun h => by cases h) hrt (by rw [htk]; simp; omega) (by simp)
            have B7 : Below wc.heap.size wc W7 := OwnG.grown hO (Nat.le_refl _) (by simp) ba gr7
            obtain ⟨s7, c7, rfl, -, -, hc7, hc7'⟩ := OwnG.rows elT o7
            rw [List.nil_append] at o7 hra hc7
            rw [htk] at hra o7 hc7
            have O7 : Hid (OwnT wc.heap.size W7 (.slice s7 (t + 1) c7) (ts.take (t + 1) ++ shf (x.pos + x.text.size) 0 (xs.take 0))) := by
              show OwnT _ _ _ _
              rw [List.take_zero, show shf (x.pos + x.text.size) 0 [] = [] from rfl, List.append_nil]
              exact o7
            have HB7 : Hid (Below wc.heap.size wc W7) := B7
            have hct : t + 1 ≤ ct := by omega
            clear ba hO hrt gr7 B7 o7 htk
            go_wp2_with (at_builtin; refine list_appendg (.tmp 64) (.tmp 68) 22 (by rfl) (by rfl) (by rfl) (by rfl) hra ?_)
            clear hra hc7 hc7'
            go_loopw [9, 72] (fun mv i wr => ∃ q : Nat, q ≤ xs.length ∧ i = .int .i64 q ∧ OwnT wc.heap.size wr mv (ts.take (t + 1) ++ shf (x.pos + x.text.size) 0 (xs.take q)) ∧ Below wc.heap.size wc wr) (fun _ i _ => xs.length - (intOf i).toNat)
            case atStart => exact ⟨0, Nat.zero_le _, rfl, O7.out, HB7.out⟩
            case round =>
              clear O7 HB7
              obtain ⟨q, hq, rfl, hO, hB8⟩ := hrel
              have HB8 : Hid (Below wc.heap.size wc wr) := hB8
              have HBw8 : Hid (Below w.heap.size w wr) := BW6.out.trans (hB8.mono BW6.out.size)
              have hln : (ts.take (t + 1) ++ shf (x.pos + x.text.size) 0 (xs.take q)).length = t + 1 + q := by rw [List.length_append, List.length_take, shf_len, List.length_take]; omega
              obtain ⟨s8, c8, rfl, hr8, -, hc8, hc8'⟩ := OwnG.rows elT hO
              rw [hln] at hO hc8 ⊢
              have HO8 : Hid _ := hO
              have HLN : Hid _ := hln
              have HR8 : Hid _ := hr8
              clear hln hr8
              have r8 : wr.heap[M]? = some (.cells x.cells 35 (0, 0)) := (hB8.block _ ltM).trans R6.out
              by_cases hlt2 : q < xs.length
              · have hd2 : decide ((q : Int) < xs.length) = true := by simp; omega
                have hrx := HX.out wr HBw8.out
                obtain ⟨bx, ox, rfl, -⟩ := hrx (by omega)
                obtain ⟨y, hy⟩ : ∃ y, xs[q]? = some y := ⟨_, List.getElem?_eq_getElem hlt2⟩
                obtain ⟨k0, k1, k2⟩ := tok_cell hrx hy
                have d0 : wr.cell? ⟨M, 1, none⟩ = some (.string x.text) := (cell_of_row _ _ 1 _ _ _ r8).trans rfl
                have d1 : wr.cell? ⟨M, 2, none⟩ = some (.int .i64 x.pos) := (cell_of_row _ _ 2 _ _ _ r8).trans rfl
                have ltx : bx < wr.heap.size := block_lt_of_cell k0
                have ltM8 : M < wr.heap.size := lt_of_row r8
                have HTK : Hid (xs.take (q + 1) = xs.take q ++ [y]) := by
                  show _ = _
                  rw [List.take_add_one, hy]
                  rfl
                clear hy hrx r8 hO hB8
                go_upto_region 20 with fail
                obtain ⟨z, hz⟩ : ∃ z : Tok, z = ⟨y.kind, y.text, x.pos + x.text.size + 100 * ((q : Int) + 1)⟩ := ⟨_, rfl⟩
                have hzc : #[Value.int .i64 y.kind, .string y.text, .int .i64 (x.pos + x.text.size + 100 * ((q : Int) + 1))] = z.cells := by rw [hz]; rfl
                rw [hzc]
                have HZ : Hid (z = ⟨y.kind, y.text, x.pos + x.text.size + 100 * ((q : Int) + 1)⟩) := hz
                refine wp_gen (fun W => W.heap[wr.heap.size]? = some (.cells z.cells 35 (0, 0)) ∧ Below wr.heap.size wr W) ⟨heap_alloc_new _ _, (Below.refl _ _).alloc (Nat.le_refl _) _⟩ ?_
                rintro W9 ⟨r9, b9⟩
                have n0 : W9.cell? ⟨wr.heap.size, 0, none⟩ = some (.int .i64 z.kind) := (cell_of_row _ _ 0 _ _ _ r9).trans rfl
                have n1 : W9.cell? ⟨wr.heap.size, 1, none⟩ = some (.string z.text) := (cell_of_row _ _ 1 _ _ _ r9).trans rfl
                have n2 : W9.cell? ⟨wr.heap.size, 2, none⟩ = some (.int .i64 z.pos) := (cell_of_row _ _ 2 _ _ _ r9).trans rfl
                have ba : Below W9.heap.size W9 (W9.alloc (.cells z.cells 35)) := (Below.refl _ _).alloc (Nat.le_refl _) _
                obtain ⟨v10, W10, hra, o10, gr10, -⟩ := own_run elT (ys := [z]) (sp := some ⟨W9.heap.size, 0, none⟩) (cap := 1) 22 (OwnG.below (OwnG.below HO8.out b9) ba) (fun h => by cases h) (oneG_rows (heap_alloc_new W9 _)) (by rw [HLN.out]; simp; omega) (by have h1 := HB8.out.size; have h2 := b9.size; simp; omega)
                have B10 : Hid (Below wc.heap.size wc W10) := OwnG.grown (OwnG.below (OwnG.below HO8.out b9) ba) (Nat.le_refl _) (by have h1 := HB8.out.size; have h2 := b9.size; simp; omega) ((HB8.out.trans (b9.mono HB8.out.size)).trans (ba.mono (by have h1 := HB8.out.size; have h2 := b9.size; omega))) gr10
                obtain ⟨s10, c10, rfl, -⟩ := OwnG.rows elT o10
                have hl10 : (ts.take (t + 1) ++ shf (x.pos + x.text.size) 0 (xs.take q) ++ [z]).length = t + 1 + q + 1 := by rw [List.length_append, HLN.out]; rfl
                rw [hl10] at o10 hra
                have O10 : Hid (OwnT wc.heap.size W10 (.slice s10 (t + 1 + q + 1) c10) (ts.take (t + 1) ++ shf (x.pos + x.text.size) 0 (xs.take (q + 1)))) := by
                  show OwnT _ _ _ _
                  rw [HTK.out, shf_snoc, List.length_take, show 0 + min q xs.length = q by omega, ← HZ.out, ← List.append_assoc]
                  exact o10
                clear hz hzc b9 r9 ba gr10 o10 k0 k1 k2 d0 d1 hl10
                go_wp2_with (at_builtin; refine list_appendg (.tmp 88) (.tmp 90) 22 (by rfl) (by rfl) (by rfl) (by rfl) hra ?_)
                exact ⟨⟨q + 1, by omega, by go_num, O10.out, B10.out⟩, by simp [intOf]; omega⟩
              · have hd2 : decide ((q : Int) < xs.length) = false := by simp; omega
                obtain rfl : q = xs.length := by omega
                obtain ⟨ms, hms⟩ : ∃ ms, ms = ts.take (t + 1) ++ shf (x.pos + x.text.size) 0 xs := ⟨_, rfl⟩
                have HMS : Hid (ms = ts.take (t + 1) ++ shf (x.pos + x.text.size) 0 xs) := hms
                have HRM : Hid (RowsT wr s8 ms) := by
                  have := HR8.out
                  rw [List.take_length, ← hms] at this
                  exact this
                have hlm : ms.length = t + 1 + xs.length := by
                  have := HLN.out
                  rw [List.take_length, ← hms] at this
                  exact this
                have hck := check_any s8 c8 ms wr HRM.out (by omega)
                rw [hlm] at hck
                have r8' : Hid (wr.heap[M]? = some (.cells x.cells 35 (0, 0))) := r8
                have HSG : Hid (∀ W, Below wr.heap.size wr W → W.heap[gs]? = some (.cells #[.int .i64 er, .int .i64 pe] 26 (0, 0))) := fun W hb => (HR5.out W (B6'.out.trans ((HB8.out.trans (hb.mono HB8.out.size)).mono B6'.out.size))).1
                clear hO hB8 hms HO8 HLN HR8 r8
                go_wp2_with fail
                refine hck.mono ?_
                rintro e W11 ⟨rfl, b11⟩
                have HB11 : Hid (Below wr.heap.size wr W11) := b11
                have HBw11 : Hid (Below w.heap.size w W11) := HBw8.out.trans (b11.mono HBw8.out.size)
                clear b11 hck
                by_cases hc : chkO ms = 0
                · rw [hc]
                  have hsm := chk_small hc
                  have hpr := parse_any W11 s8 c8 ms (HRM.out.below HB11.out) (HT.out W11 HBw11.out) (by omega) (fun u hu => by
                    refine ⟨?_, ?_, by have := hsm.2 u hu; omega⟩ <;> (rw [HMS.out] at hu; rcases List.mem_append.1 hu with hu | hu)
                    · have := HBD.out u (List.mem_of_mem_take hu); omega
                    · obtain ⟨y, -, j, hj, rfl⟩ := shf_mem _ _ u hu
                      show -1000000000000000000 ≤ x.pos + x.text.size + 100 * ((j : Int) + 1)
                      omega
                    · have := HBD.out u (List.mem_of_mem_take hu); omega
                    · obtain ⟨y, -, j, hj, rfl⟩ := shf_mem _ _ u hu
                      show x.pos + x.text.size + 100 * ((j : Int) + 1) ≤ 1000000000000000000
                      omega)
                  rw [hlm] at hpr
                  have HPA : Hid (parO ms = .inl (210, pe)) := by
                    show _ = _
                    have h0 : parO ts = .inl (210, pe) := by
                      have h1 := hsp.out
                      rw [HE1.out] at h1
                      cases hp : parO ts with
                      | inl p => rw [hp] at h1; exact congrArg Sum.inl h1
                      | inr t => rw [hp] at h1; cases h1
                    rw [HMS.out] at hc ⊢
                    rw [← HNX.out] at hc ⊢
                    exact par_again h0 hlt (by rw [HNX.out]; exact HE2.out) (by rw [HNX.out]; exact HLA.out) hc
                  clear hsm hc
                  go_wp2_with fail
                  refine hpr.mono ?_
                  rintro e W12 h12
                  obtain ⟨b12, v12, rfl, t12⟩ := prp_tr h12
                  obtain ⟨s12, c12, rfl⟩ := t12.shape
                  rw [HPA.out]
                  generalize (trO (.inl (210, pe))).length = n12
                  have HB12 : Hid (Below w.heap.size w W12) := HBw11.out.trans (b12.mono HBw11.out.size)
                  have rg : W12.heap[gs]? = some (.cells #[.int .i64 er, .int .i64 pe] 26 (0, 0)) := HSG.out W12 (HB11.out.trans (b12.mono HB11.out.size))
                  have j0 : W12.cell? ⟨gs, 0, none⟩ = some (.int .i64 er) := (cell_of_row _ _ 0 _ _ _ rg).trans rfl
                  have j1 : W12.cell? ⟨gs, 1, none⟩ = some (.int .i64 pe) := (cell_of_row _ _ 1 _ _ _ rg).trans rfl
                  have ltj : gs < W12.heap.size := lt_of_row rg
                  rw [HE1.out] at j0
                  have hB13 : Hid (Below w.heap.size w ((W12.alloc (.cells #[.slice s12 n12 c12] 31)).alloc (.cells #[.int .i64 210, .int .i64 pe] 26))) := (HB12.out.alloc HB12.out.size _).alloc (by simp; exact Nat.le_succ_of_le HB12.out.size) _
                  clear h12 b12 rg hpr t12
                  go_wp2
                  go_ret
                  exact ⟨rfl, hB13.out⟩
                · go_wp2
                  go_ret
                  exact ⟨rfl, HBw11.out⟩
      · have hd : decide ((t : Int) < ts.length) = false := by simp; omega
        clear q0 q1
        go_wp2
        go_ret
        exact ⟨rfl, HQ2.out⟩
  · have HB2' : Hid (Below w.heap.size w (W2.alloc (.cells #[.int .i64 er0, .int .i64 p0] 26))) := HB2.out.alloc HB2.out.size _
    go_wp2
    go_ret
    exact ⟨rfl, HB2'.out⟩
end Go.Proofs.YthnoiohganknnabDoor
