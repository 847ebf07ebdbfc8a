/- Which trees are the same: the contract of the document's Same. -/
import Derived.Test.YthnoiohganknnaaDoorPcS
import Derived.Deep.DeepCutAuto
import Derived.Deep.Cut
import Derived.Deep.CutRange
import Derived.Deep.CutBlock
namespace Go.Proofs.YthnoiohganknnaaDoor
open Go.RowKit

/-- Are two nodes the same, with their places or without? -/
def ndEqP (pl : Bool) (a b : Nd) : Bool := ndEq a b && (!pl || ((a.pos == b.pos) && (a.frm == b.frm) && (a.to == b.to)))
theorem ndEqP_no (a b : Nd) : ndEqP false a b = ndEq a b := by simp [ndEqP]
theorem eqAll_noP (L K : List Nd) : eqAll (ndEqP false) L K = eqAll ndEq L K := by
  congr 1
  funext a b
  exact ndEqP_no a b
/-- All but the kids themselves. -/
def ndHd (pl : Bool) (a b : Nd) : Bool := (a.kind == b.kind) && (a.text.toList == b.text.toList) && (a.num == b.num) && (a.kids.length == b.kids.length) && (!pl || ((a.pos == b.pos) && (a.frm == b.frm) && (a.to == b.to)))
section
variable {a b : Nd} (pl : Bool)
theorem ndEqP_hd : ndEqP pl a b = (ndHd pl a b && (a.kids == b.kids)) := by
  cases hk : (a.kids == b.kids)
  · simp [ndEqP, ndEq, hk]
  · have e : a.kids = b.kids := by simpa using hk
    simp [ndEqP, ndEq, ndHd, e]
theorem nq_d (h : ¬ a.kids = b.kids) : ndEqP pl a b = false := by simp [ndEqP, ndEq, (show (a.kids == b.kids) = false by simpa using h)]
theorem hd_k (h : (a.kind != b.kind) = true) : ndHd pl a b = false := by simp [ndHd, (show (a.kind == b.kind) = false by simpa using h)]
theorem hd_x (h : (a.text.toList != b.text.toList) = true) : ndHd pl a b = false := by simp [ndHd, (show (a.text.toList == b.text.toList) = false by simpa using h)]
theorem hd_n (h : (a.num != b.num) = true) : ndHd pl a b = false := by simp [ndHd, (show (a.num == b.num) = false by simpa using h)]
theorem hd_l (h : ((a.kids.length : Int) != b.kids.length) = true) : ndHd pl a b = false := by
  have h2 : (a.kids.length == b.kids.length) = false := beq_eq_false_iff_ne.2 fun e => by rw [e] at h; simp at h
  simp [ndHd, h2]
theorem hd_p (h : (a.pos != b.pos) = true) : ndHd true a b = false := by simp [ndHd, (show (a.pos == b.pos) = false by simpa using h)]
theorem hd_f (h : (a.frm != b.frm) = true) : ndHd true a b = false := by simp [ndHd, (show (a.frm == b.frm) = false by simpa using h)]
theorem hd_t (h : (a.to != b.to) = true) : ndHd true a b = false := by simp [ndHd, (show (a.to == b.to) = false by simpa using h)]
theorem hd_y (h1 : (a.kind != b.kind) = false) (h2 : (a.text.toList == b.text.toList) = true) (h3 : (a.num != b.num) = false) (h4 : ((a.kids.length : Int) != b.kids.length) = false) : ndHd false a b = true := by
  have e1 : (a.kind == b.kind) = true := by simpa using h1
  have e3 : (a.num == b.num) = true := by simpa using h3
  have e5 : (a.kids.length : Int) = b.kids.length := by simpa using h4
  have e4 : (a.kids.length == b.kids.length) = true := by rw [Int.ofNat.inj e5]; simp
  unfold ndHd
  rw [e1, h2, e3, e4]
  rfl
theorem hd_yp (h1 : (a.kind != b.kind) = false) (h2 : (a.text.toList == b.text.toList) = true) (h3 : (a.num != b.num) = false) (h4 : ((a.kids.length : Int) != b.kids.length) = false) (h5 : (a.pos != b.pos) = false) (h6 : (a.frm != b.frm) = false) (h7 : (a.to != b.to) = false) : ndHd true a b = true := by
  have e := hd_y h1 h2 h3 h4
  have e5 : (a.pos == b.pos) = true := by simpa using h5
  have e6 : (a.frm == b.frm) = true := by simpa using h6
  have e7 : (a.to == b.to) = true := by simpa using h7
  unfold ndHd at e ⊢
  rw [e5, e6, e7]
  simpa using e
variable {pl}
theorem hd_len (h : ndHd pl a b = true) : a.kids.length = b.kids.length := by
  unfold ndHd at h
  simp only [Bool.and_eq_true, beq_iff_eq] at h
  exact h.1.2
end
set_option maxRecDepth 100000 in
set_option maxHeartbeats 40000000 in
theorem rsame11_any (pl : Bool) (sp tp : Option Addr) (c1 c2 : Nat) (N M : List NdM) (S T : Nat → Prop) (L K : List Nd) (w : World) (h1 : RowsAt w 7 NdM.cells sp N) (r1 : Rep w S N L) (h2 : RowsAt w 7 NdM.cells tp M) (r2 : Rep w T M K)
    (hl : L.length ≤ 1000000) (hk : K.length ≤ 1000000) (kl : ∀ d ∈ L, d.kids.length ≤ 1000000) (kk : ∀ d ∈ K, d.kids.length ≤ 1000000) :
    Calls Tryd.prog 8 #[.agg #[.slice sp L.length c1], .agg #[.slice tp K.length c2], .bool pl] w fun e w' => e = .returned (.bool (eqAll (ndEqP pl) L K)) ∧ Below w.heap.size w w' := by
  have H1 : Hid (RowsAt w 7 NdM.cells sp N) := h1
  have H2 : Hid (RowsAt w 7 NdM.cells tp M) := h2
  have R1 : Hid (Rep w S N L) := r1
  have R2 : Hid (Rep w T M K) := r2
  have KL : Hid (∀ d ∈ L, d.kids.length ≤ 1000000) := kl
  have KK : Hid (∀ d ∈ K, d.kids.length ≤ 1000000) := kk
  clear h1 h2 r1 r2 kl kk
  by_cases hlen : L.length = K.length
  · have HIF : Hid (eqAll (ndEqP pl) L K = true ↔ ∀ (i : Nat) a b, L[i]? = some a → K[i]? = some b → ndEqP pl a b = true) := eqAll_iff hlen
    have hln : ((L.length : Int) != (K.length : Int)) = false := by simp; omega
    have HLEN : Hid (L.length = K.length) := hlen
    clear hlen
    go_enter Tryd.func8, Tryd.ntmps8
    go_wp2
    refine wp_gen (fun W => W.heap[w.heap.size]? = some (.cells #[.slice sp L.length c1] 25 (0, 0)) ∧ W.heap[w.heap.size + 1]? = some (.cells #[.slice tp K.length c2] 25 (0, 0)) ∧ Below w.heap.size w W) ?_ ?_
    · have n0 := heap_alloc_new w (.cells #[.slice sp L.length c1] 25)
      have n1 := heap_alloc_new (w.alloc (.cells #[.slice sp L.length c1] 25)) (.cells #[.slice tp K.length c2] 25)
      simp only [World.size_alloc] at n1
      exact ⟨(Below.heap_alloc _ _ _ (by simp)).trans n0, n1, ((Below.refl _ _).alloc (Nat.le_refl _) _).alloc (by simp) _⟩
    rintro W0 ⟨hr0, hr1, hB0⟩
    have HR0 : Hid (∀ W, Below W0.heap.size W0 W → W.heap[w.heap.size]? = some (.cells #[.slice sp L.length c1] 25 (0, 0)) ∧ W.heap[w.heap.size + 1]? = some (.cells #[.slice tp K.length c2] 25 (0, 0)) ∧ Below w.heap.size w W) := fun W hb => ⟨(hb.block _ (lt_of_row hr0)).trans hr0, (hb.block _ (lt_of_row hr1)).trans hr1, hB0.trans (hb.mono hB0.size)⟩
    clear hr0 hr1 hB0
    go_loopw [7] (fun i wr => ∃ t : Nat, t ≤ L.length ∧ i = .int .i64 t ∧ Below W0.heap.size W0 wr ∧ ∀ (j : Nat) (a b : Nd), j < t → L[j]? = some a → K[j]? = some b → ndEqP pl a b = true) (fun i _ => L.length - (intOf i).toNat)
    case atStart => exact ⟨0, Nat.zero_le _, rfl, Below.refl _ _, fun j a b hj => by omega⟩
    case round =>
      obtain ⟨t, ht, rfl, hB, hz⟩ := hrel
      have HZ : Hid (∀ (j : Nat) (a b : Nd), j < t → L[j]? = some a → K[j]? = some b → ndEqP pl a b = true) := hz
      obtain ⟨q0, q1, q2⟩ := HR0.out wr hB
      have HB : Hid (Below W0.heap.size W0 wr) := hB
      have p0 : wr.cell? ⟨w.heap.size, 0, none⟩ = some (.slice sp L.length c1) := (cell_of_row _ _ 0 _ _ _ q0).trans rfl
      have p1 : wr.cell? ⟨w.heap.size + 1, 0, none⟩ = some (.slice tp K.length c2) := (cell_of_row _ _ 0 _ _ _ q1).trans rfl
      have s0 : w.heap.size < wr.heap.size := lt_of_row q0
      have s1 : w.heap.size + 1 < wr.heap.size := lt_of_row q1
      have HQ2 : Hid (Below w.heap.size w wr) := q2
      clear hz hB q0 q1 q2
      by_cases hlt : t < L.length
      · have hlt2 : t < K.length := by have := HLEN.out; omega
        have hNl : N.length = L.length := R1.out.1
        have hMl : M.length = K.length := R2.out.1
        have hd : decide ((t : Int) < L.length) = true := by simp; omega
        have hd2 : decide ((t : Int) < K.length) = true := by simp; omega
        obtain ⟨b1, f1, rfl, -⟩ := H1.out (by omega)
        obtain ⟨b2, f2, rfl, -⟩ := H2.out (by omega)
        obtain ⟨x, hx⟩ : ∃ x, N[t]? = some x := ⟨_, List.getElem?_eq_getElem (by omega)⟩
        obtain ⟨y, hy⟩ : ∃ y, M[t]? = some y := ⟨_, List.getElem?_eq_getElem (by omega)⟩
        obtain ⟨a, ha⟩ : ∃ a, L[t]? = some a := ⟨_, List.getElem?_eq_getElem hlt⟩
        obtain ⟨b, hb⟩ : ∃ b, K[t]? = some b := ⟨_, List.getElem?_eq_getElem hlt2⟩
        obtain ⟨k0, k1, k2, k3, k4, k5, k6⟩ := node_cells (RowsAt.below H1.out HQ2.out) hx
        obtain ⟨l0, l1, l2, l3, l4, l5, l6⟩ := node_cells (RowsAt.below H2.out HQ2.out) hy
        have A1 : Hid (NdAt w x a) := R1.out.at hx ha
        have A2 : Hid (NdAt w y b) := R2.out.at hy hb
        have kx : a.kids.length ≤ 1000000 := KL.out a (List.mem_of_getElem? ha)
        have ky : b.kids.length ≤ 1000000 := KK.out b (List.mem_of_getElem? hb)
        have HX : Hid (L[t]? = some a) := ha
        have HY : Hid (K[t]? = some b) := hb
        have lt1 : b1 < wr.heap.size := block_lt_of_cell k0
        have lt2 : b2 < wr.heap.size := block_lt_of_cell l0
        clear ha hb hx hy
        obtain ⟨xk, xx, xn, xs, xkn, xkc, xa, xf, xt⟩ := x
        obtain ⟨yk, yx, yn, ys, ykn, ykc, ya, yf, yt⟩ := y
        obtain ⟨⟨e1, e2, e3, e4, e5, e6⟩, e7, g1⟩ := A1.out
        obtain ⟨⟨i1, i2, i3, i4, i5, i6⟩, i7, g2⟩ := A2.out
        dsimp only at e1 e2 e3 e4 e5 e6 e7 i1 i2 i3 i4 i5 i6 i7 g1 g2 k0 k1 k2 k3 k4 k5 k6 l0 l1 l2 l3 l4 l5 l6
        subst e1 e2 e3 e4 e5 e6 e7 i1 i2 i3 i4 i5 i6 i7
        have G1 : Hid (RowsAt w 1 intC xs a.kids) := g1
        have G2 : Hid (RowsAt w 1 intC ys b.kids) := g2
        clear g1 g2 A1 A2
        have HNO : Hid (ndEqP pl a b = false → eqAll (ndEqP pl) L K = false) := fun h => eqAll_no HX.out HY.out h
        have HNX : Hid (ndEqP pl a b = true → ∀ (j : Nat) (a b : Nd), j < t + 1 → L[j]? = some a → K[j]? = some b → ndEqP pl a b = true) := fun hq j a' b' hj ha hb => by
          by_cases hjt : j < t
          · exact HZ.out j a' b' hjt ha hb
          · obtain rfl : j = t := by omega
            rw [HX.out] at ha
            rw [HY.out] at hb
            injection ha with ha
            injection hb with hb
            rw [← ha, ← hb]
            exact hq
        go_upto_region 6 with fail
        go_cut [8, 9] (fun px py wc => ∃ gx gy : Nat, px = .pointer (some ⟨gx, 0, none⟩) ∧ py = .pointer (some ⟨gy, 0, none⟩) ∧ wc.heap[gx]? = some (.cells #[.int .i64 a.kind, .string a.text, .int .i64 a.num, .slice xs a.kids.length xkc, .int .i64 a.pos, .int .i64 a.frm, .int .i64 a.to] 36 (0, 0)) ∧ wc.heap[gy]? = some (.cells #[.int .i64 b.kind, .string b.text, .int .i64 b.num, .slice ys b.kids.length ykc, .int .i64 b.pos, .int .i64 b.frm, .int .i64 b.to] 36 (0, 0)) ∧ Below wr.heap.size wr wc)
        case first =>
          go_region
          focus (
            go_wp2_with fail
            go_meet
            case rel =>
              have n0 := heap_alloc_new wr (.cells #[.int .i64 a.kind, .string a.text, .int .i64 a.num, .slice xs a.kids.length xkc, .int .i64 a.pos, .int .i64 a.frm, .int .i64 a.to] 36)
              have n1 := heap_alloc_new (wr.alloc (.cells #[.int .i64 a.kind, .string a.text, .int .i64 a.num, .slice xs a.kids.length xkc, .int .i64 a.pos, .int .i64 a.frm, .int .i64 a.to] 36)) (.cells #[.int .i64 b.kind, .string b.text, .int .i64 b.num, .slice ys b.kids.length ykc, .int .i64 b.pos, .int .i64 b.frm, .int .i64 b.to] 36)
              simp only [World.size_alloc] at n1
              exact ⟨_, _, rfl, rfl, (Below.heap_alloc (wr.alloc (.cells #[.int .i64 a.kind, .string a.text, .int .i64 a.num, .slice xs a.kids.length xkc, .int .i64 a.pos, .int .i64 a.frm, .int .i64 a.to] 36)) (.cells #[.int .i64 b.kind, .string b.text, .int .i64 b.num, .slice ys b.kids.length ykc, .int .i64 b.pos, .int .i64 b.frm, .int .i64 b.to] 36) wr.heap.size (by simp)).trans n0, n1, (((Below.refl wr.heap.size wr).alloc (Nat.le_refl _) (.cells #[.int .i64 a.kind, .string a.text, .int .i64 a.num, .slice xs a.kids.length xkc, .int .i64 a.pos, .int .i64 a.frm, .int .i64 a.to] 36)).alloc (by simp) (.cells #[.int .i64 b.kind, .string b.text, .int .i64 b.num, .slice ys b.kids.length ykc, .int .i64 b.pos, .int .i64 b.frm, .int .i64 b.to] 36)).drew⟩)
          focus (
            go_wp2_with fail
            go_meet
            case rel =>
              have n0 := heap_alloc_new wr (.cells #[.int .i64 b.kind, .string b.text, .int .i64 b.num, .slice ys b.kids.length ykc, .int .i64 b.pos, .int .i64 b.frm, .int .i64 b.to] 36)
              have n1 := heap_alloc_new (wr.alloc (.cells #[.int .i64 b.kind, .string b.text, .int .i64 b.num, .slice ys b.kids.length ykc, .int .i64 b.pos, .int .i64 b.frm, .int .i64 b.to] 36)) (.cells #[.int .i64 a.kind, .string a.text, .int .i64 a.num, .slice xs a.kids.length xkc, .int .i64 a.pos, .int .i64 a.frm, .int .i64 a.to] 36)
              simp only [World.size_alloc] at n1
              exact ⟨_, _, rfl, rfl, n1, (Below.heap_alloc (wr.alloc (.cells #[.int .i64 b.kind, .string b.text, .int .i64 b.num, .slice ys b.kids.length ykc, .int .i64 b.pos, .int .i64 b.frm, .int .i64 b.to] 36)) (.cells #[.int .i64 a.kind, .string a.text, .int .i64 a.num, .slice xs a.kids.length xkc, .int .i64 a.pos, .int .i64 a.frm, .int .i64 a.to] 36) wr.heap.size (by simp)).trans n0, (((Below.refl wr.heap.size wr).alloc (Nat.le_refl _) (.cells #[.int .i64 b.kind, .string b.text, .int .i64 b.num, .slice ys b.kids.length ykc, .int .i64 b.pos, .int .i64 b.frm, .int .i64 b.to] 36)).alloc (by simp) (.cells #[.int .i64 a.kind, .string a.text, .int .i64 a.num, .slice xs a.kids.length xkc, .int .i64 a.pos, .int .i64 a.frm, .int .i64 a.to] 36)).drew⟩)
        case rest =>
          obtain ⟨gx, gy, rfl, rfl, hgx, hgy, hbw⟩ := hcut
          have HBW : Hid (Below W0.heap.size W0 wc) := HB.out.trans (hbw.mono HB.out.size)
          have HBWw : Hid (Below w.heap.size w wc) := (HR0.out _ HBW.out).2.2
          clear k0 k1 k2 k3 k4 k5 k6 l0 l1 l2 l3 l4 l5 l6 p0 p1 hbw
          have x0 : wc.cell? ⟨gx, 0, none⟩ = some (.int .i64 a.kind) := (cell_of_row _ _ 0 _ _ _ hgx).trans rfl
          have x1 : wc.cell? ⟨gx, 1, none⟩ = some (.string a.text) := (cell_of_row _ _ 1 _ _ _ hgx).trans rfl
          have x2 : wc.cell? ⟨gx, 2, none⟩ = some (.int .i64 a.num) := (cell_of_row _ _ 2 _ _ _ hgx).trans rfl
          have x3 : wc.cell? ⟨gx, 3, none⟩ = some (.slice xs a.kids.length xkc) := (cell_of_row _ _ 3 _ _ _ hgx).trans rfl
          have x4 : wc.cell? ⟨gx, 4, none⟩ = some (.int .i64 a.pos) := (cell_of_row _ _ 4 _ _ _ hgx).trans rfl
          have x5 : wc.cell? ⟨gx, 5, none⟩ = some (.int .i64 a.frm) := (cell_of_row _ _ 5 _ _ _ hgx).trans rfl
          have x6 : wc.cell? ⟨gx, 6, none⟩ = some (.int .i64 a.to) := (cell_of_row _ _ 6 _ _ _ hgx).trans rfl
          have y0 : wc.cell? ⟨gy, 0, none⟩ = some (.int .i64 b.kind) := (cell_of_row _ _ 0 _ _ _ hgy).trans rfl
          have y1 : wc.cell? ⟨gy, 1, none⟩ = some (.string b.text) := (cell_of_row _ _ 1 _ _ _ hgy).trans rfl
          have y2 : wc.cell? ⟨gy, 2, none⟩ = some (.int .i64 b.num) := (cell_of_row _ _ 2 _ _ _ hgy).trans rfl
          have y3 : wc.cell? ⟨gy, 3, none⟩ = some (.slice ys b.kids.length ykc) := (cell_of_row _ _ 3 _ _ _ hgy).trans rfl
          have y4 : wc.cell? ⟨gy, 4, none⟩ = some (.int .i64 b.pos) := (cell_of_row _ _ 4 _ _ _ hgy).trans rfl
          have y5 : wc.cell? ⟨gy, 5, none⟩ = some (.int .i64 b.frm) := (cell_of_row _ _ 5 _ _ _ hgy).trans rfl
          have y6 : wc.cell? ⟨gy, 6, none⟩ = some (.int .i64 b.to) := (cell_of_row _ _ 6 _ _ _ hgy).trans rfl
          clear hgx hgy
          go_upto_region 7 with fail
          go_cut [86] (fun z W => W = wc ∧ z = .bool (!ndHd pl a b))
          case first =>
            cases c1 : (a.kind != b.kind)
            rotate_left
            focus (
              have hz : (!ndHd pl a b) = true := by rw [hd_k pl c1]; rfl
              go_wp2
              go_meet
              case rel => exact ⟨rfl, by rw [hz]⟩)
            cases q2 : (a.text.toList == b.text.toList)
            focus (
              have c2 : (a.text.toList != b.text.toList) = true := by rw [bne, q2]; rfl
              have hz : (!ndHd pl a b) = true := by rw [hd_x pl c2]; rfl
              go_wp2
              go_meet
              case rel => exact ⟨rfl, by rw [hz]⟩)
            have c2 : (a.text.toList != b.text.toList) = false := by rw [bne, q2]; rfl
            cases c3 : (a.num != b.num)
            rotate_left
            focus (
              have hz : (!ndHd pl a b) = true := by rw [hd_n pl c3]; rfl
              go_wp2
              go_meet
              case rel => exact ⟨rfl, by rw [hz]⟩)
            cases c4 : ((a.kids.length : Int) != b.kids.length)
            rotate_left
            focus (
              have hz : (!ndHd pl a b) = true := by rw [hd_l pl c4]; rfl
              go_wp2
              go_meet
              case rel => exact ⟨rfl, by rw [hz]⟩)
            cases pl
            focus (
              have hz : (!ndHd false a b) = false := by rw [hd_y c1 q2 c3 c4]; rfl
              go_wp2
              go_meet
              case rel => exact ⟨rfl, by rw [hz]⟩)
            cases c5 : (a.pos != b.pos)
            rotate_left
            focus (
              have hz : (!ndHd true a b) = true := by rw [hd_p c5]; rfl
              go_wp2
              go_meet
              case rel => exact ⟨rfl, by rw [hz]⟩)
            cases c6 : (a.frm != b.frm)
            rotate_left
            focus (
              have hz : (!ndHd true a b) = true := by rw [hd_f c6]; rfl
              go_wp2
              go_meet
              case rel => exact ⟨rfl, by rw [hz]⟩)
            cases c7 : (a.to != b.to)
            rotate_left
            focus (
              have hz : (!ndHd true a b) = true := by rw [hd_t c7]; rfl
              go_wp2
              go_meet
              case rel => exact ⟨rfl, by rw [hz]⟩)
            have hz : (!ndHd true a b) = false := by rw [hd_yp c1 q2 c3 c4 c5 c6 c7]; rfl
            go_wp2
            go_meet
            case rel => exact ⟨rfl, by rw [hz]⟩
          case rest =>
            obtain ⟨rfl, rfl⟩ := hcut
            clear x0 x1 x2 x4 x5 x6 y0 y1 y2 y4 y5 y6
            cases hh : ndHd pl a b
            · have HN : Hid (eqAll (ndEqP pl) L K = false) := HNO.out (by rw [ndEqP_hd, hh]; rfl)
              go_wp2
              go_ret
              exact ⟨ret_bool HN.out.symm, HBWw.out⟩
            have HEQ : Hid (a.kids = b.kids → ndEqP pl a b = true) := fun e => by rw [ndEqP_hd, hh, e]; simp
            have HK4 : Hid (a.kids.length = b.kids.length) := hd_len hh
            go_wp2
            go_loopw [10] (fun k wr' => ∃ q n : Nat, q ≤ a.kids.length ∧ k = .int .i64 q ∧ wr' = wc.drewN n ∧ ∀ j, j < q → a.kids[j]? = b.kids[j]?) (fun k _ => a.kids.length - (intOf k).toNat)
            case atStart => exact ⟨0, 0, Nat.zero_le _, rfl, rfl, fun j hj => by omega⟩
            case round =>
              obtain ⟨q, n, hq, rfl, rfl, hz2⟩ := hrel
              have HZ2 : Hid (∀ j, j < q → a.kids[j]? = b.kids[j]?) := hz2
              clear hz2
              by_cases hlt3 : q < a.kids.length
              · have hlt4 : q < b.kids.length := by have := HK4.out; omega
                have hd3 : decide ((q : Int) < a.kids.length) = true := by simp; omega
                have hd4 : decide ((q : Int) < b.kids.length) = true := by simp; omega
                have g1 := G1.out.below HBWw.out
                have g2 := G2.out.below HBWw.out
                obtain ⟨bx, ox, rfl, -⟩ := g1 (by omega)
                obtain ⟨by', oy, rfl, -⟩ := g2 (by omega)
                have z1 := ints_cell g1 q (by simpa using hlt3)
                have z2 := ints_cell g2 q (by simpa using hlt4)
                obtain ⟨ka, hka⟩ : ∃ ka, a.kids[q]? = some ka := ⟨_, List.getElem?_eq_getElem hlt3⟩
                obtain ⟨kb, hkb⟩ : ∃ kb, b.kids[q]? = some kb := ⟨_, List.getElem?_eq_getElem hlt4⟩
                rw [List.getD_eq_getElem?_getD, List.getElem?_map, hka] at z1
                rw [List.getD_eq_getElem?_getD, List.getElem?_map, hkb] at z2
                simp only [Option.map_some, Option.getD_some] at z1 z2
                have HKA : Hid (a.kids[q]? = some ka) := hka
                have HKB : Hid (b.kids[q]? = some kb) := hkb
                clear hka hkb g1 g2
                cases c8 : ((ka : Int) != kb)
                · have HZ3 : Hid (∀ j, j < q + 1 → a.kids[j]? = b.kids[j]?) := fun j hj => by
                    by_cases hjq : j < q
                    · exact HZ2.out j hjq
                    · obtain rfl : j = q := by omega
                      have h8 : (ka : Int) = kb := by simpa using c8
                      have : ka = kb := Int.ofNat.inj h8
                      rw [HKA.out, HKB.out, this]
                  go_wp2
                  go_quiet (fail)
                  go_wp2
                  exact ⟨⟨q + 1, n + nq, by omega, by go_num, rfl, HZ3.out⟩, by simp [intOf]; omega⟩
                · have HN : Hid (eqAll (ndEqP pl) L K = false) := HNO.out (nq_d pl fun e => by
                    have h1 := HKA.out
                    rw [e, HKB.out] at h1
                    injection h1 with h1
                    rw [h1] at c8
                    simp at c8)
                  go_wp2
                  go_quiet (fail)
                  go_wp2
                  go_ret
                  exact ⟨ret_bool HN.out.symm, HBWw.out.trans (by first | exact below_dN _ _ | (rw [drewN_two]; exact below_dN _ _))⟩
              · have hd3 : decide ((q : Int) < a.kids.length) = false := by simp; omega
                have HE : Hid (a.kids = b.kids) := List.ext_getElem? fun j => by
                  by_cases hj : j < q
                  · exact HZ2.out j hj
                  · rw [List.getElem?_eq_none (by omega), List.getElem?_eq_none (by have := HK4.out; omega)]
                have HNX2 : Hid (∀ (j : Nat) (a b : Nd), j < t + 1 → L[j]? = some a → K[j]? = some b → ndEqP pl a b = true) := HNX.out (HEQ.out HE.out)
                go_wp2
                exact ⟨⟨t + 1, by omega, by go_num, HBW.out.trans (below_dN _ _), HNX2.out⟩, by simp [intOf]; omega⟩
      · have hd : decide ((t : Int) < L.length) = false := by simp; omega
        have HYES : Hid (eqAll (ndEqP pl) L K = true) := HIF.out.2 fun j a b ha hb => HZ.out j a b (by have := (List.getElem?_eq_some_iff.1 ha).1; omega) ha hb
        go_wp2
        go_ret
        exact ⟨ret_bool HYES.out.symm, HQ2.out⟩
  · have hln : ((L.length : Int) != (K.length : Int)) = true := by simp; omega
    have HNO : Hid (eqAll (ndEqP pl) L K = false) := eqAll_ne hlen
    go_enter Tryd.func8, Tryd.ntmps8
    go_wp2
    go_ret
    exact ⟨ret_bool HNO.out.symm, ((Below.refl _ _).alloc (Nat.le_refl _) _).alloc (by simp) _⟩
end Go.Proofs.YthnoiohganknnaaDoor
