/- Which trees are the same: the contract of parse's Same. -/
import Derived.Test.YthnoiohganknnaaDoorPbF
import Derived.Test.YthnoiohganknnaaDoorMrgD
namespace Go.Proofs.YthnoiohganknnaaDoor
open Go.RowKit

/-- Are two nodes the same, but for their places? -/
def ndEq (a b : Nd) : Bool := (a.kind == b.kind) && (a.text.toList == b.text.toList) && (a.num == b.num) && (a.kids == b.kids)
theorem ndEq_refl (a : Nd) : ndEq a a = true := by simp [ndEq]
theorem Rep.below {w w' : World} {S : Nat → Prop} {N : List NdM} {L : List Nd} (h : Rep w S N L) (hb : Below w.heap.size w w') : Rep w' S N L :=
  ⟨h.1, fun i m d h1 h2 => by
    obtain ⟨a, b, c, e, f⟩ := h.2 i m d h1 h2
    exact ⟨a, b, c.below hb, e, f⟩⟩
theorem map_cast : ∀ xs ys : List Nat, (xs.map fun k : Nat => (k : Int)) = ys.map (fun k : Nat => (k : Int)) → xs = ys
  | [], [], _ => rfl
  | [], _ :: _, h => by simp at h
  | _ :: _, [], h => by simp at h
  | a :: r, b :: q, h => by
    rw [List.map_cons, List.map_cons] at h
    injection h with h1 h2
    rw [map_cast r q h2, Int.ofNat.inj h1]
theorem cast_take {xs ys : List Nat} : ((xs.map fun k : Nat => (k : Int)).take xs.length == (ys.map fun k : Nat => (k : Int)).take ys.length) = (xs == ys) := by
  rw [List.take_of_length_le (by simp), List.take_of_length_le (by simp)]
  by_cases h : xs = ys
  · subst h; simp
  · have h2 : ¬ (xs.map fun k : Nat => (k : Int)) = ys.map fun k : Nat => (k : Int) := fun e => h (map_cast xs ys e)
    rw [beq_eq_false_iff_ne.2 h2, beq_eq_false_iff_ne.2 h]
theorem ints_cell {w : World} {b o : Nat} {xs : List Nat} (h : RowsAt w 1 intC (some ⟨b, o, none⟩) xs) : ∀ j, j < (xs.map fun k : Nat => (k : Int)).length → w.cell? ⟨b, o + j, none⟩ = some (.int .i64 ((xs.map fun k : Nat => (k : Int)).getD j 0)) := fun j hj => by
  have hj' : j < xs.length := by simpa using hj
  obtain ⟨b', o', e, hc⟩ := h (by omega)
  injection e with e
  injection e with e1 e2
  subst e1 e2
  have := hc j _ (List.getElem?_eq_getElem hj') 0 (.int .i64 (xs[j]'hj')) rfl
  rw [Nat.mul_one, Nat.add_zero] at this
  rw [this, List.getD_eq_getElem?_getD, List.getElem?_map, List.getElem?_eq_getElem hj']
  rfl
theorem equalK_any (sp tp : Option Addr) (c1 c2 : Nat) (xs ys : List Nat) (w : World) (h1 : RowsAt w 1 intC sp xs) (h2 : RowsAt w 1 intC tp ys) (l1 : xs.length ≤ 1000000) (l2 : ys.length ≤ 1000000) :
    Calls Tryd.prog 14 #[.slice sp xs.length c1, .slice tp ys.length c2] w fun e w' => e = .returned (.bool (xs == ys)) ∧ ∃ q, w' = w.drewN q := by
  by_cases hl : xs.length = ys.length
  · by_cases h0 : xs.length = 0
    · have e1 : xs = [] := List.eq_nil_of_length_eq_zero h0
      have e2 : ys = [] := List.eq_nil_of_length_eq_zero (by omega)
      subst e1 e2
      refine (Tryd.slices_Equal_int_empty sp tp c1 0 c2 w (by omega)).mono ?_
      rintro e w' ⟨rfl, rfl⟩
      exact ⟨rfl, 0, rfl⟩
    · obtain ⟨b1, o1, rfl, -⟩ := h1 (by omega)
      obtain ⟨b2, o2, rfl, -⟩ := h2 (by omega)
      refine (Tryd.slices_Equal_int b1 o1 xs.length c1 b2 o2 ys.length c2 (xs.map fun k : Nat => (k : Int)) (ys.map fun k : Nat => (k : Int)) w (by simp) (by simp) (by omega) (by omega) (ints_cell h1) (ints_cell h2)).mono ?_
      rintro e w' ⟨rfl, hq⟩
      exact ⟨by rw [cast_take], hq⟩
  · refine (Tryd.slices_Equal_int_lens sp tp xs.length c1 ys.length c2 w hl).mono ?_
    rintro e w' ⟨rfl, rfl⟩
    have h2 : (xs == ys) = false := by
      rw [← Bool.not_eq_true]
      intro h
      exact hl (by rw [eq_of_beq h])
    exact ⟨by rw [h2], 0, rfl⟩
theorem below_dN {B : Nat} (w : World) (n : Nat) : Below B w (w.drewN n) := ⟨rfl, rfl, rfl, Nat.le_refl _, fun _ _ => rfl⟩
/-- A node in memory is this one. -/
def NdAt (w : World) (m : NdM) (d : Nd) : Prop := (m.k = d.kind ∧ m.x = d.text ∧ m.n = d.num ∧ m.a = d.pos ∧ m.f = d.frm ∧ m.t = d.to) ∧ m.kn = d.kids.length ∧ RowsAt w 1 intC m.ks d.kids
set_option maxRecDepth 100000 in
set_option maxHeartbeats 2000000 in
theorem nsame1_any (m n : NdM) (a b : Nd) (w : World) (h1 : NdAt w m a) (h2 : NdAt w n b) (l1 : a.kids.length ≤ 1000000) (l2 : b.kids.length ≤ 1000000) :
    Calls Tryd.prog 13 #[.agg m.cells, .agg n.cells] w fun e w' => e = .returned (.bool (ndEq a b)) ∧ Below w.heap.size w w' := by
  obtain ⟨mk, mx, mn, ms, mkn, mkc, ma, mf, mt⟩ := m
  obtain ⟨nk, nx, nn, ns, nkn, nkc, na, nf, nt⟩ := n
  obtain ⟨⟨e1, e2, e3, -⟩, e4, r1⟩ := h1
  obtain ⟨⟨f1, f2, f3, -⟩, f4, r2⟩ := h2
  dsimp only at e1 e2 e3 e4 f1 f2 f3 f4 r1 r2
  subst e1 e2 e3 e4 f1 f2 f3 f4
  have R1 : Hid (RowsAt w 1 intC ms a.kids) := r1
  have R2 : Hid (RowsAt w 1 intC ns b.kids) := r2
  clear r1 r2
  have HQ : Hid (ndEq a b = ((a.kind == b.kind) && (a.text.toList == b.text.toList) && (a.num == b.num) && (a.kids == b.kids))) := rfl
  unfold NdM.cells
  have HB : Hid (Below w.heap.size w ((w.alloc (Obj.cells #[.int .i64 a.kind, .string a.text, .int .i64 a.num, .slice ms a.kids.length mkc, .int .i64 ma, .int .i64 mf, .int .i64 mt] 36)).alloc (Obj.cells #[.int .i64 b.kind, .string b.text, .int .i64 b.num, .slice ns b.kids.length nkc, .int .i64 na, .int .i64 nf, .int .i64 nt] 36))) := ((Below.refl _ _).alloc (Nat.le_refl _) _).alloc (by simp) _
  cases q1 : (a.kind == b.kind)
  · have HX : Hid (ndEq a b = false) := by show _ = _; rw [HQ.out, q1]; rfl
    go_enter Tryd.func13, Tryd.ntmps13
    go_wp2
    go_ret
    exact ⟨ret_bool HX.out.symm, HB.out⟩
  cases q2 : (a.text.toList == b.text.toList)
  · have HX : Hid (ndEq a b = false) := by show _ = _; rw [HQ.out, q1, q2]; rfl
    go_enter Tryd.func13, Tryd.ntmps13
    go_wp2
    go_ret
    exact ⟨ret_bool HX.out.symm, HB.out⟩
  cases q3 : (a.num == b.num)
  · have HX : Hid (ndEq a b = false) := by show _ = _; rw [HQ.out, q1, q2, q3]; rfl
    go_enter Tryd.func13, Tryd.ntmps13
    go_wp2
    go_ret
    exact ⟨ret_bool HX.out.symm, HB.out⟩
  have HX : Hid (ndEq a b = (a.kids == b.kids)) := by show _ = _; rw [HQ.out, q1, q2, q3]; rfl
  go_enter Tryd.func13, Tryd.ntmps13
  go_wp2_with (go_at_call 14; refine (equalK_any ms ns mkc nkc a.kids b.kids _ (R1.out.below HB.out) (R2.out.below HB.out) l1 l2).mono ?_; rintro e W1 ⟨rfl, q4, rfl⟩)
  go_ret
  exact ⟨ret_bool HX.out.symm, HB.out.trans (below_dN _ _)⟩
theorem NdAt.low {w w' : World} {m : NdM} {d : Nd} (h : NdAt w m d) (hb : Below w.heap.size w w') : NdAt w' m d := ⟨h.1, h.2.1, h.2.2.below hb⟩
theorem node_cells {w : World} {b o i : Nat} {N : List NdM} (h : RowsAt w 7 NdM.cells (some ⟨b, o, none⟩) N) {m : NdM} (hm : N[i]? = some m) : w.cell? ⟨b, o + i * 7, none⟩ = some (.int .i64 m.k) ∧ w.cell? ⟨b, o + i * 7 + 1, none⟩ = some (.string m.x) ∧ w.cell? ⟨b, o + i * 7 + 2, none⟩ = some (.int .i64 m.n) ∧ w.cell? ⟨b, o + i * 7 + 3, none⟩ = some (.slice m.ks m.kn m.kc) ∧ w.cell? ⟨b, o + i * 7 + 4, none⟩ = some (.int .i64 m.a) ∧ w.cell? ⟨b, o + i * 7 + 5, none⟩ = some (.int .i64 m.f) ∧ w.cell? ⟨b, o + i * 7 + 6, none⟩ = some (.int .i64 m.t) :=
  ⟨node_cell h hm 0 _ rfl, node_cell h hm 1 _ rfl, node_cell h hm 2 _ rfl, node_cell h hm 3 _ rfl, node_cell h hm 4 _ rfl, node_cell h hm 5 _ rfl, node_cell h hm 6 _ rfl⟩
theorem Rep.at {w : World} {S : Nat → Prop} {N : List NdM} {L : List Nd} (h : Rep w S N L) {i : Nat} {m : NdM} {d : Nd} (h1 : N[i]? = some m) (h2 : L[i]? = some d) : NdAt w m d := by
  obtain ⟨a, b, c, -⟩ := h.2 i m d h1 h2
  exact ⟨a, b, c⟩
set_option maxRecDepth 100000 in
set_option maxHeartbeats 4000000 in
theorem eqFN_any (sp tp : Option Addr) (c1 c2 : Nat) (N M : List NdM) (S T : Nat → Prop) (L K : List Nd) (w : World) (h1 : RowsAt w 7 NdM.cells sp N) (r1 : Rep w S N L) (h2 : RowsAt w 7 NdM.cells tp M) (r2 : Rep w T M K)
    (hl : L.length ≤ 1000000) (hk : K.length ≤ 1000000) (kl : ∀ d ∈ L, d.kids.length ≤ 1000000) (kk : ∀ d ∈ K, d.kids.length ≤ 1000000) :
    Calls Tryd.prog 12 #[.slice sp L.length c1, .slice tp K.length c2, .func (.func 13) #[] #[]] w fun e w' => e = .returned (.bool (eqAll ndEq L K)) ∧ Below w.heap.size w w' := by
  have H1 : Hid (RowsAt w 7 NdM.cells sp N) := h1
  have H2 : Hid (RowsAt w 7 NdM.cells tp M) := h2
  have R1 : Hid (Rep w S N L) := r1
  have R2 : Hid (Rep w T M K) := r2
  have KL : Hid (∀ d ∈ L, d.kids.length ≤ 1000000) := kl
  have KK : Hid (∀ d ∈ K, d.kids.length ≤ 1000000) := kk
  clear h1 h2 r1 r2 kl kk
  by_cases hlen : L.length = K.length
  · have HIF : Hid (eqAll ndEq L K = true ↔ ∀ (i : Nat) a b, L[i]? = some a → K[i]? = some b → ndEq a b = true) := eqAll_iff hlen
    have hln : ((L.length : Int) != (K.length : Int)) = false := by simp; omega
    have HLEN : Hid (L.length = K.length) := hlen
    clear hlen
    go_enter Tryd.func12, Tryd.ntmps12
    go_wp2
    go_loopw [17] (fun i wr => ∃ t : Nat, t ≤ L.length ∧ i = .int .i64 t ∧ Below w.heap.size w wr ∧ ∀ (j : Nat) (a b : Nd), j < t → L[j]? = some a → K[j]? = some b → ndEq a b = true) (fun i _ => L.length - (intOf i).toNat)
    case atStart => exact ⟨0, Nat.zero_le _, rfl, Below.refl _ _, fun j a b hj => by omega⟩
    case round =>
      obtain ⟨t, ht, rfl, hB, hz⟩ := hrel
      have HZ : Hid (∀ (j : Nat) (a b : Nd), j < t → L[j]? = some a → K[j]? = some b → ndEq a b = true) := hz
      clear hz
      by_cases hlt : t < L.length
      · have hlt2 : t < K.length := by have := HLEN.out; omega
        have hNl : N.length = L.length := R1.out.1
        have hMl : M.length = K.length := R2.out.1
        have hd : decide ((t : Int) < L.length) = true := by simp; omega
        have hd2 : decide ((t : Int) < K.length) = true := by simp; omega
        obtain ⟨b1, f1, rfl, -⟩ := H1.out (by omega)
        obtain ⟨b2, f2, rfl, -⟩ := H2.out (by omega)
        obtain ⟨x, hx⟩ : ∃ x, N[t]? = some x := ⟨_, List.getElem?_eq_getElem (by omega)⟩
        obtain ⟨y, hy⟩ : ∃ y, M[t]? = some y := ⟨_, List.getElem?_eq_getElem (by omega)⟩
        obtain ⟨a, ha⟩ : ∃ a, L[t]? = some a := ⟨_, List.getElem?_eq_getElem hlt⟩
        obtain ⟨b, hb⟩ : ∃ b, K[t]? = some b := ⟨_, List.getElem?_eq_getElem hlt2⟩
        obtain ⟨k0, k1, k2, k3, k4, k5, k6⟩ := node_cells (RowsAt.below H1.out hB) hx
        obtain ⟨l0, l1, l2, l3, l4, l5, l6⟩ := node_cells (RowsAt.below H2.out hB) hy
        have A1 : Hid (NdAt w x a) := R1.out.at hx ha
        have A2 : Hid (NdAt w y b) := R2.out.at hy hb
        have kx : a.kids.length ≤ 1000000 := KL.out a (List.mem_of_getElem? ha)
        have ky : b.kids.length ≤ 1000000 := KK.out b (List.mem_of_getElem? hb)
        have HX : Hid (L[t]? = some a) := ha
        have HY : Hid (K[t]? = some b) := hb
        have lt2 : b2 < wr.heap.size := block_lt_of_cell l0
        clear ha hb hx hy
        have HBB : Hid (Below w.heap.size w ((wr.alloc (.cells x.cells 36)).alloc (.cells y.cells 36))) := (hB.alloc hB.size _).alloc (by simp; exact Nat.le_succ_of_le hB.size) _
        have B1 : Hid (NdAt ((wr.alloc (.cells x.cells 36)).alloc (.cells y.cells 36)) x a) := A1.out.low HBB.out
        have B2 : Hid (NdAt ((wr.alloc (.cells x.cells 36)).alloc (.cells y.cells 36)) y b) := A2.out.low HBB.out
        cases hq : ndEq a b
        · have HNO : Hid (eqAll ndEq L K = false) := eqAll_no HX.out HY.out hq
          go_wp2_with (go_at_call 13; refine (nsame1_any x y a b _ B1.out B2.out kx ky).mono ?_; rintro e W10 ⟨rfl, b10⟩; rw [hq])
          go_ret
          exact ⟨ret_bool HNO.out.symm, HBB.out.trans (b10.mono HBB.out.size)⟩
        · have HNX : Hid (∀ (j : Nat) (a b : Nd), j < t + 1 → L[j]? = some a → K[j]? = some b → ndEq a b = true) := fun j a' b' hj ha hb => by
            by_cases hjt : j < t
            · exact HZ.out j a' b' hjt ha hb
            · obtain rfl : j = t := by omega
              rw [HX.out] at ha
              rw [HY.out] at hb
              injection ha with ha
              injection hb with hb
              rw [← ha, ← hb]
              exact hq
          go_wp2_with (go_at_call 13; refine (nsame1_any x y a b _ B1.out B2.out kx ky).mono ?_; rintro e W10 ⟨rfl, b10⟩; rw [hq])
          exact ⟨⟨t + 1, by omega, by go_num, HBB.out.trans (b10.mono HBB.out.size), HNX.out⟩, by simp [intOf]; omega⟩
      · have hd : decide ((t : Int) < L.length) = false := by simp; omega
        have HYES : Hid (eqAll ndEq L K = true) := HIF.out.2 fun j a b ha hb => HZ.out j a b (by have := (List.getElem?_eq_some_iff.1 ha).1; omega) ha hb
        go_wp2
        go_ret
        exact ⟨ret_bool HYES.out.symm, hB⟩
  · have hln : ((L.length : Int) != (K.length : Int)) = true := by simp; omega
    have HNO : Hid (eqAll ndEq L K = false) := eqAll_ne hlen
    go_enter Tryd.func12, Tryd.ntmps12
    go_wp2
    go_ret
    exact ⟨ret_bool HNO.out.symm, Below.refl _ _⟩
set_option maxRecDepth 100000 in
set_option maxHeartbeats 1000000 in
theorem tsame_any (sp tp : Option Addr) (c1 c2 : Nat) (N M : List NdM) (S T : Nat → Prop) (L K : List Nd) (w : World) (h1 : RowsAt w 7 NdM.cells sp N) (r1 : Rep w S N L) (h2 : RowsAt w 7 NdM.cells tp M) (r2 : Rep w T M K)
    (hl : L.length ≤ 1000000) (hk : K.length ≤ 1000000) (kl : ∀ d ∈ L, d.kids.length ≤ 1000000) (kk : ∀ d ∈ K, d.kids.length ≤ 1000000) :
    Calls Tryd.prog 7 #[.agg #[.slice sp L.length c1], .agg #[.slice tp K.length c2]] w fun e w' => e = .returned (.bool (eqAll ndEq L K)) ∧ Below w.heap.size w w' := by
  have H1 : Hid (RowsAt w 7 NdM.cells sp N) := h1
  have H2 : Hid (RowsAt w 7 NdM.cells tp M) := h2
  have R1 : Hid (Rep w S N L) := r1
  have R2 : Hid (Rep w T M K) := r2
  have KL : Hid (∀ d ∈ L, d.kids.length ≤ 1000000) := kl
  have KK : Hid (∀ d ∈ K, d.kids.length ≤ 1000000) := kk
  clear h1 h2 r1 r2 kl kk
  go_enter Tryd.func7, Tryd.ntmps7
  go_wp2_with fail
  refine calls_gen (fun W => Below w.heap.size w W) (((Below.refl _ _).alloc (Nat.le_refl _) _).alloc (by simp) _) ?_
  intro W hB
  refine (eqFN_any sp tp c1 c2 N M S T L K W (H1.out.below hB) (R1.out.below hB) (H2.out.below hB) (R2.out.below hB) hl hk KL.out KK.out).mono ?_
  rintro e W1 ⟨rfl, b1⟩
  have HB : Hid (Below w.heap.size w W1) := hB.trans (b1.mono hB.size)
  clear hB b1
  go_wp2
  go_ret
  exact ⟨rfl, HB.out⟩
end Go.Proofs.YthnoiohganknnaaDoor
