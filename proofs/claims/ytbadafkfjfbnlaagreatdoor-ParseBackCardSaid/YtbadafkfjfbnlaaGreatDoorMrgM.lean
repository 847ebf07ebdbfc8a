/- Which trees are the same: the contract of parse's Same. -/
/- What Text tells, as a tree that may be empty, and its bounds. No function of the program is walked here. -/
/- The writer in memory: what its methods keep. No function of the program is walked here. -/
/- What the writer writes, over trees. No function of the program is walked here. -/
/- What comes whatever the rounds, if they are enough; trees that are the same but for places. No function of the program is walked here. -/
/- What stands for an expression of a level is read. No function of the program is walked here. -/
/- Expressions, and where their kids stand in brackets. No function of the program is walked here. -/
/- An expression that was written is read as it was. No function of the program is walked here. -/
/- The contracts of the writer's put, words, sign and end. -/
import Derived.Test.YtbadafkfjfbnlaaGreatDoorMrgL
import Derived.Test.YtbadafkfjfbnlaaGreatDoorMrgD
import Derived.Test.YtbadafkfjfbnlaaGreatDoorMrgC
import Derived.Lib.ItoaNum
namespace Go.Proofs.YtbadafkfjfbnlaaGreatDoor
set_option maxRecDepth 100000
open Go.RowKit

/-- Are two nodes the same, but for their places? -/
def ndEq (a b : Nd) : Bool := (a.kind == b.kind) && (a.text.toList == b.text.toList) && (a.num == b.num) && (a.kids == b.kids)
theorem ndEq_refl (a : Nd) : ndEq a a = true := by simp [ndEq]
theorem Rep.below {w w' : World} {S : Nat → Prop} {N : List NdM} {L : List Nd} (h : Rep w S N L) (hb : Below w.heap.size w w') : Rep w' S N L :=
  ⟨h.1, fun i m d h1 h2 => by
    obtain ⟨a, b, c, e, f⟩ := h.2 i m d h1 h2
    exact ⟨a, b, c.below hb, e, f⟩⟩
theorem map_cast : ∀ xs ys : List Nat, (xs.map fun k : Nat => (k : Int)) = ys.map (fun k : Nat => (k : Int)) → xs = ys
  | [], [], _ => rfl
  | [], _ :: _, h => by simp at h
  | _ :: _, [], h => by simp at h
  | a :: r, b :: q, h => by
    rw [List.map_cons, List.map_cons] at h
    injection h with h1 h2
    rw [map_cast r q h2, Int.ofNat.inj h1]
theorem cast_take {xs ys : List Nat} : ((xs.map fun k : Nat => (k : Int)).take xs.length == (ys.map fun k : Nat => (k : Int)).take ys.length) = (xs == ys) := by
  rw [List.take_of_length_le (by simp), List.take_of_length_le (by simp)]
  by_cases h : xs = ys
  · subst h; simp
  · have h2 : ¬ (xs.map fun k : Nat => (k : Int)) = ys.map fun k : Nat => (k : Int) := fun e => h (map_cast xs ys e)
    rw [beq_eq_false_iff_ne.2 h2, beq_eq_false_iff_ne.2 h]
theorem ints_cell {w : World} {b o : Nat} {xs : List Nat} (h : RowsAt w 1 intC (some ⟨b, o, none⟩) xs) : ∀ j, j < (xs.map fun k : Nat => (k : Int)).length → w.cell? ⟨b, o + j, none⟩ = some (.int .i64 ((xs.map fun k : Nat => (k : Int)).getD j 0)) := fun j hj => by
  have hj' : j < xs.length := by simpa using hj
  obtain ⟨b', o', e, hc⟩ := h (by omega)
  injection e with e
  injection e with e1 e2
  subst e1 e2
  have := hc j _ (List.getElem?_eq_getElem hj') 0 (.int .i64 (xs[j]'hj')) rfl
  rw [Nat.mul_one, Nat.add_zero] at this
  rw [this, List.getD_eq_getElem?_getD, List.getElem?_map, List.getElem?_eq_getElem hj']
  rfl
theorem equalK_any (sp tp : Option Addr) (c1 c2 : Nat) (xs ys : List Nat) (w : World) (h1 : RowsAt w 1 intC sp xs) (h2 : RowsAt w 1 intC tp ys) (l1 : xs.length ≤ 1000000) (l2 : ys.length ≤ 1000000) :
    Calls Tryz.prog 32 #[.slice sp xs.length c1, .slice tp ys.length c2] w fun e w' => e = .returned (.bool (xs == ys)) ∧ ∃ q, w' = w.drewN q := by
  by_cases hl : xs.length = ys.length
  · by_cases h0 : xs.length = 0
    · have e1 : xs = [] := List.eq_nil_of_length_eq_zero h0
      have e2 : ys = [] := List.eq_nil_of_length_eq_zero (by omega)
      subst e1 e2
      refine (Tryz.slices_Equal_int_empty sp tp c1 0 c2 w (by omega)).mono ?_
      rintro e w' ⟨rfl, rfl⟩
      exact ⟨rfl, 0, rfl⟩
    · obtain ⟨b1, o1, rfl, -⟩ := h1 (by omega)
      obtain ⟨b2, o2, rfl, -⟩ := h2 (by omega)
      refine (Tryz.slices_Equal_int b1 o1 xs.length c1 b2 o2 ys.length c2 (xs.map fun k : Nat => (k : Int)) (ys.map fun k : Nat => (k : Int)) w (by simp) (by simp) (by omega) (by omega) (ints_cell h1) (ints_cell h2)).mono ?_
      rintro e w' ⟨rfl, hq⟩
      exact ⟨by rw [cast_take], hq⟩
  · refine (Tryz.slices_Equal_int_lens sp tp xs.length c1 ys.length c2 w hl).mono ?_
    rintro e w' ⟨rfl, rfl⟩
    have h2 : (xs == ys) = false := by
      rw [← Bool.not_eq_true]
      intro h
      exact hl (by rw [eq_of_beq h])
    exact ⟨by rw [h2], 0, rfl⟩
theorem below_dN {B : Nat} (w : World) (n : Nat) : Below B w (w.drewN n) := ⟨rfl, rfl, rfl, Nat.le_refl _, fun _ _ => rfl⟩
/-- A node in memory is this one. -/
def NdAt (w : World) (m : NdM) (d : Nd) : Prop := (m.k = d.kind ∧ m.x = d.text ∧ m.n = d.num ∧ m.a = d.pos ∧ m.f = d.frm ∧ m.t = d.to) ∧ m.kn = d.kids.length ∧ RowsAt w 1 intC m.ks d.kids
set_option maxRecDepth 100000 in
set_option maxHeartbeats 2000000 in
theorem nsame1_any (m n : NdM) (a b : Nd) (w : World) (h1 : NdAt w m a) (h2 : NdAt w n b) (l1 : a.kids.length ≤ 1000000) (l2 : b.kids.length ≤ 1000000) :
    Calls Tryz.prog 31 #[.agg m.cells, .agg n.cells] w fun e w' => e = .returned (.bool (ndEq a b)) ∧ Below w.heap.size w w' := by
  obtain ⟨mk, mx, mn, ms, mkn, mkc, ma, mf, mt⟩ := m
  obtain ⟨nk, nx, nn, ns, nkn, nkc, na, nf, nt⟩ := n
  obtain ⟨⟨e1, e2, e3, -⟩, e4, r1⟩ := h1
  obtain ⟨⟨f1, f2, f3, -⟩, f4, r2⟩ := h2
  dsimp only at e1 e2 e3 e4 f1 f2 f3 f4 r1 r2
  subst e1 e2 e3 e4 f1 f2 f3 f4
  have R1 : Hid (RowsAt w 1 intC ms a.kids) := r1
  have R2 : Hid (RowsAt w 1 intC ns b.kids) := r2
  clear r1 r2
  have HQ : Hid (ndEq a b = ((a.kind == b.kind) && (a.text.toList == b.text.toList) && (a.num == b.num) && (a.kids == b.kids))) := rfl
  unfold NdM.cells
  have HB : Hid (Below w.heap.size w ((w.alloc (Obj.cells #[.int .i64 a.kind, .string a.text, .int .i64 a.num, .slice ms a.kids.length mkc, .int .i64 ma, .int .i64 mf, .int .i64 mt] 49)).alloc (Obj.cells #[.int .i64 b.kind, .string b.text, .int .i64 b.num, .slice ns b.kids.length nkc, .int .i64 na, .int .i64 nf, .int .i64 nt] 49))) := ((Below.refl _ _).alloc (Nat.le_refl _) _).alloc (by simp) _
  cases q1 : (a.kind == b.kind)
  · have HX : Hid (ndEq a b = false) := by show _ = _; rw [HQ.out, q1]; rfl
    go_enter Tryz.func31, Tryz.ntmps31
    go_wp2
    go_ret
    exact ⟨ret_bool HX.out.symm, HB.out⟩
  cases q2 : (a.text.toList == b.text.toList)
  · have HX : Hid (ndEq a b = false) := by show _ = _; rw [HQ.out, q1, q2]; rfl
    go_enter Tryz.func31, Tryz.ntmps31
    go_wp2
    go_ret
    exact ⟨ret_bool HX.out.symm, HB.out⟩
  cases q3 : (a.num == b.num)
  · have HX : Hid (ndEq a b = false) := by show _ = _; rw [HQ.out, q1, q2, q3]; rfl
    go_enter Tryz.func31, Tryz.ntmps31
    go_wp2
    go_ret
    exact ⟨ret_bool HX.out.symm, HB.out⟩
  have HX : Hid (ndEq a b = (a.kids == b.kids)) := by show _ = _; rw [HQ.out, q1, q2, q3]; rfl
  go_enter Tryz.func31, Tryz.ntmps31
  go_wp2_with (go_at_call 32; refine (equalK_any ms ns mkc nkc a.kids b.kids _ (R1.out.below HB.out) (R2.out.below HB.out) l1 l2).mono ?_; rintro e W1 ⟨rfl, q4, rfl⟩)
  go_ret
  exact ⟨ret_bool HX.out.symm, HB.out.trans (below_dN _ _)⟩
theorem NdAt.low {w w' : World} {m : NdM} {d : Nd} (h : NdAt w m d) (hb : Below w.heap.size w w') : NdAt w' m d := ⟨h.1, h.2.1, h.2.2.below hb⟩
theorem node_cells {w : World} {b o i : Nat} {N : List NdM} (h : RowsAt w 7 NdM.cells (some ⟨b, o, none⟩) N) {m : NdM} (hm : N[i]? = some m) : w.cell? ⟨b, o + i * 7, none⟩ = some (.int .i64 m.k) ∧ w.cell? ⟨b, o + i * 7 + 1, none⟩ = some (.string m.x) ∧ w.cell? ⟨b, o + i * 7 + 2, none⟩ = some (.int .i64 m.n) ∧ w.cell? ⟨b, o + i * 7 + 3, none⟩ = some (.slice m.ks m.kn m.kc) ∧ w.cell? ⟨b, o + i * 7 + 4, none⟩ = some (.int .i64 m.a) ∧ w.cell? ⟨b, o + i * 7 + 5, none⟩ = some (.int .i64 m.f) ∧ w.cell? ⟨b, o + i * 7 + 6, none⟩ = some (.int .i64 m.t) :=
  ⟨node_cell h hm 0 _ rfl, node_cell h hm 1 _ rfl, node_cell h hm 2 _ rfl, node_cell h hm 3 _ rfl, node_cell h hm 4 _ rfl, node_cell h hm 5 _ rfl, node_cell h hm 6 _ rfl⟩
theorem Rep.at {w : World} {S : Nat → Prop} {N : List NdM} {L : List Nd} (h : Rep w S N L) {i : Nat} {m : NdM} {d : Nd} (h1 : N[i]? = some m) (h2 : L[i]? = some d) : NdAt w m d := by
  obtain ⟨a, b, c, -⟩ := h.2 i m d h1 h2
  exact ⟨a, b, c⟩
set_option maxRecDepth 100000 in
set_option maxHeartbeats 4000000 in
theorem eqFN_any (sp tp : Option Addr) (c1 c2 : Nat) (N M : List NdM) (S T : Nat → Prop) (L K : List Nd) (w : World) (h1 : RowsAt w 7 NdM.cells sp N) (r1 : Rep w S N L) (h2 : RowsAt w 7 NdM.cells tp M) (r2 : Rep w T M K)
    (hl : L.length ≤ 1000000) (hk : K.length ≤ 1000000) (kl : ∀ d ∈ L, d.kids.length ≤ 1000000) (kk : ∀ d ∈ K, d.kids.length ≤ 1000000) :
    Calls Tryz.prog 30 #[.slice sp L.length c1, .slice tp K.length c2, .func (.func 31) #[] #[]] w fun e w' => e = .returned (.bool (eqAll ndEq L K)) ∧ Below w.heap.size w w' := by
  have H1 : Hid (RowsAt w 7 NdM.cells sp N) := h1
  have H2 : Hid (RowsAt w 7 NdM.cells tp M) := h2
  have R1 : Hid (Rep w S N L) := r1
  have R2 : Hid (Rep w T M K) := r2
  have KL : Hid (∀ d ∈ L, d.kids.length ≤ 1000000) := kl
  have KK : Hid (∀ d ∈ K, d.kids.length ≤ 1000000) := kk
  clear h1 h2 r1 r2 kl kk
  by_cases hlen : L.length = K.length
  · have HIF : Hid (eqAll ndEq L K = true ↔ ∀ (i : Nat) a b, L[i]? = some a → K[i]? = some b → ndEq a b = true) := eqAll_iff hlen
    have hln : ((L.length : Int) != (K.length : Int)) = false := by simp; omega
    have HLEN : Hid (L.length = K.length) := hlen
    clear hlen
    go_enter Tryz.func30, Tryz.ntmps30
    go_wp2
    go_loopw [17] (fun i wr => ∃ t : Nat, t ≤ L.length ∧ i = .int .i64 t ∧ Below w.heap.size w wr ∧ ∀ (j : Nat) (a b : Nd), j < t → L[j]? = some a → K[j]? = some b → ndEq a b = true) (fun i _ => L.length - (intOf i).toNat)
    case atStart => exact ⟨0, Nat.zero_le _, rfl, Below.refl _ _, fun j a b hj => by omega⟩
    case round =>
      obtain ⟨t, ht, rfl, hB, hz⟩ := hrel
      have HZ : Hid (∀ (j : Nat) (a b : Nd), j < t → L[j]? = some a → K[j]? = some b → ndEq a b = true) := hz
      clear hz
      by_cases hlt : t < L.length
      · have hlt2 : t < K.length := by have := HLEN.out; omega
        have hNl : N.length = L.length := R1.out.1
        have hMl : M.length = K.length := R2.out.1
        have hd : decide ((t : Int) < L.length) = true := by simp; omega
        have hd2 : decide ((t : Int) < K.length) = true := by simp; omega
        obtain ⟨b1, f1, rfl, -⟩ := H1.out (by omega)
        obtain ⟨b2, f2, rfl, -⟩ := H2.out (by omega)
        obtain ⟨x, hx⟩ : ∃ x, N[t]? = some x := ⟨_, List.getElem?_eq_getElem (by omega)⟩
        obtain ⟨y, hy⟩ : ∃ y, M[t]? = some y := ⟨_, List.getElem?_eq_getElem (by omega)⟩
        obtain ⟨a, ha⟩ : ∃ a, L[t]? = some a := ⟨_, List.getElem?_eq_getElem hlt⟩
        obtain ⟨b, hb⟩ : ∃ b, K[t]? = some b := ⟨_, List.getElem?_eq_getElem hlt2⟩
        obtain ⟨k0, k1, k2, k3, k4, k5, k6⟩ := node_cells (RowsAt.below H1.out hB) hx
        obtain ⟨l0, l1, l2, l3, l4, l5, l6⟩ := node_cells (RowsAt.below H2.out hB) hy
        have A1 : Hid (NdAt w x a) := R1.out.at hx ha
        have A2 : Hid (NdAt w y b) := R2.out.at hy hb
        have kx : a.kids.length ≤ 1000000 := KL.out a (List.mem_of_getElem? ha)
        have ky : b.kids.length ≤ 1000000 := KK.out b (List.mem_of_getElem? hb)
        have HX : Hid (L[t]? = some a) := ha
        have HY : Hid (K[t]? = some b) := hb
        have lt2 : b2 < wr.heap.size := block_lt_of_cell l0
        clear ha hb hx hy
        have HBB : Hid (Below w.heap.size w ((wr.alloc (.cells x.cells 49)).alloc (.cells y.cells 49))) := (hB.alloc hB.size _).alloc (by simp; exact Nat.le_succ_of_le hB.size) _
        have B1 : Hid (NdAt ((wr.alloc (.cells x.cells 49)).alloc (.cells y.cells 49)) x a) := A1.out.low HBB.out
        have B2 : Hid (NdAt ((wr.alloc (.cells x.cells 49)).alloc (.cells y.cells 49)) y b) := A2.out.low HBB.out
        cases hq : ndEq a b
        · have HNO : Hid (eqAll ndEq L K = false) := eqAll_no HX.out HY.out hq
          go_wp2_with (go_at_call 31; refine (nsame1_any x y a b _ B1.out B2.out kx ky).mono ?_; rintro e W10 ⟨rfl, b10⟩; rw [hq])
          go_ret
          exact ⟨ret_bool HNO.out.symm, HBB.out.trans (b10.mono HBB.out.size)⟩
        · have HNX : Hid (∀ (j : Nat) (a b : Nd), j < t + 1 → L[j]? = some a → K[j]? = some b → ndEq a b = true) := fun j a' b' hj ha hb => by
            by_cases hjt : j < t
            · exact HZ.out j a' b' hjt ha hb
            · obtain rfl : j = t := by omega
              rw [HX.out] at ha
              rw [HY.out] at hb
              injection ha with ha
              injection hb with hb
              rw [← ha, ← hb]
              exact hq
          go_wp2_with (go_at_call 31; refine (nsame1_any x y a b _ B1.out B2.out kx ky).mono ?_; rintro e W10 ⟨rfl, b10⟩; rw [hq])
          exact ⟨⟨t + 1, by omega, by go_num, HBB.out.trans (b10.mono HBB.out.size), HNX.out⟩, by simp [intOf]; omega⟩
      · have hd : decide ((t : Int) < L.length) = false := by simp; omega
        have HYES : Hid (eqAll ndEq L K = true) := HIF.out.2 fun j a b ha hb => HZ.out j a b (by have := (List.getElem?_eq_some_iff.1 ha).1; omega) ha hb
        go_wp2
        go_ret
        exact ⟨ret_bool HYES.out.symm, hB⟩
  · have hln : ((L.length : Int) != (K.length : Int)) = true := by simp; omega
    have HNO : Hid (eqAll ndEq L K = false) := eqAll_ne hlen
    go_enter Tryz.func30, Tryz.ntmps30
    go_wp2
    go_ret
    exact ⟨ret_bool HNO.out.symm, Below.refl _ _⟩
set_option maxRecDepth 100000 in
set_option maxHeartbeats 1000000 in
theorem tsame_any (sp tp : Option Addr) (c1 c2 : Nat) (N M : List NdM) (S T : Nat → Prop) (L K : List Nd) (w : World) (h1 : RowsAt w 7 NdM.cells sp N) (r1 : Rep w S N L) (h2 : RowsAt w 7 NdM.cells tp M) (r2 : Rep w T M K)
    (hl : L.length ≤ 1000000) (hk : K.length ≤ 1000000) (kl : ∀ d ∈ L, d.kids.length ≤ 1000000) (kk : ∀ d ∈ K, d.kids.length ≤ 1000000) :
    Calls Tryz.prog 12 #[.agg #[.slice sp L.length c1], .agg #[.slice tp K.length c2]] w fun e w' => e = .returned (.bool (eqAll ndEq L K)) ∧ Below w.heap.size w w' := by
  have H1 : Hid (RowsAt w 7 NdM.cells sp N) := h1
  have H2 : Hid (RowsAt w 7 NdM.cells tp M) := h2
  have R1 : Hid (Rep w S N L) := r1
  have R2 : Hid (Rep w T M K) := r2
  have KL : Hid (∀ d ∈ L, d.kids.length ≤ 1000000) := kl
  have KK : Hid (∀ d ∈ K, d.kids.length ≤ 1000000) := kk
  clear h1 h2 r1 r2 kl kk
  go_enter Tryz.func12, Tryz.ntmps12
  go_wp2_with fail
  refine calls_gen (fun W => Below w.heap.size w W) (((Below.refl _ _).alloc (Nat.le_refl _) _).alloc (by simp) _) ?_
  intro W hB
  refine (eqFN_any sp tp c1 c2 N M S T L K W (H1.out.below hB) (R1.out.below hB) (H2.out.below hB) (R2.out.below hB) hl hk KL.out KK.out).mono ?_
  rintro e W1 ⟨rfl, b1⟩
  have HB : Hid (Below w.heap.size w W1) := hB.trans (b1.mono hB.size)
  clear hB b1
  go_wp2
  go_ret
  exact ⟨rfl, HB.out⟩
end Go.Proofs.YtbadafkfjfbnlaaGreatDoor

namespace Go.Proofs.YtbadafkfjfbnlaaGreatDoor
set_option maxRecDepth 100000
open Go.RowKit

/-- The nodes that are told. -/
def trO (r : (Int × Int) ⊕ Pt) : List Nd := match r with | .inl _ => [] | .inr t => layP 0 t
/-- The error that is told, and its place. -/
def spO (r : (Int × Int) ⊕ Pt) : Int × Int := match r with | .inl p => p | .inr _ => (0, 0)
theorem prp_tr {w w' : World} {r : (Int × Int) ⊕ Pt} {e : Ending} (h : PrP w r e w') : Below w.heap.size w w' ∧ ∃ v, e = .returned (.tuple #[.agg #[v], .agg #[.int .i64 (spO r).1, .int .i64 (spO r).2]]) ∧ TrAt w.heap.size w' v (trO r) := by
  obtain ⟨h1, h2⟩ := h
  refine ⟨h1, ?_⟩
  cases r with
  | inl p => exact ⟨_, h2, TrAt.nil _ _⟩
  | inr t => exact h2
theorem par_bnd (ts : List Tok) : (trO (parO ts)).length ≤ 2048 ∧ ∀ d ∈ trO (parO ts), (∀ k ∈ d.kids, k < (trO (parO ts)).length) ∧ d.kids.length ≤ 2048 := by
  unfold parO
  split
  · simp [trO]
  split
  · simp [trO]
  split
  · split
    · simp [trO]
    split
    · simp [trO]
    · rename_i t q _ h _
      have e := lay_cnt t 0
      refine ⟨by show (layP 0 t).length ≤ 2048; omega, fun d hd => ?_⟩
      have hb := lay_bnd t 0 d hd
      refine ⟨fun k hk => ?_, by omega⟩
      show k < (layP 0 t).length
      have := hb.1 k hk
      omega
  · simp [trO]
  · simp [trO]
theorem txt_bnd (s : List UInt8) : (trO (txtO s)).length ≤ 2048 ∧ ∀ d ∈ trO (txtO s), (∀ k ∈ d.kids, k < (trO (txtO s)).length) ∧ d.kids.length ≤ 2048 := by
  unfold txtO
  split
  · exact par_bnd _
  · simp [trO]
end Go.Proofs.YtbadafkfjfbnlaaGreatDoor

namespace Go.Proofs.YtbadafkfjfbnlaaGreatDoor
set_option maxRecDepth 100000
open Go.RowKit

/-- A written token. -/
def tkW (k : Int) (s : ByteArray) : Tok := ⟨k, s, 0⟩
/-- The writer stands at block g, its nodes' slice is nv; it has written these tokens. -/
structure Wr (w0 : World) (g : Nat) (nv : Value) (w : World) (v : Value) (out : List Tok) : Prop where
  b : Below w0.heap.size w0 w
  h : w0.heap.size ≤ g
  r : w.heap[g]? = some (.cells #[nv, v] 105 (0, 0))
  o : OwnT w0.heap.size w v out
/-- What a method of the writer leads to: these tokens; all else is as it was. -/
def Wp (w0 : World) (g : Nat) (nv : Value) (w : World) (v : Value) (out : List Tok) (w' : World) : Prop :=
  ∃ v', Wr w0 g nv w' v' out ∧ Oth g v w w' ∧ (v'.ownBlock = v.ownBlock ∨ ∃ q, v'.ownBlock = some q ∧ w.heap.size ≤ q)
section
variable {w0 w w1 w2 : World} {g : Nat} {nv v v1 : Value} {out out1 out2 : List Tok}
theorem oth_refl (g : Nat) (v : Value) (w : World) : Oth g v w w := ⟨rfl, rfl, rfl, Nat.le_refl _, fun _ _ _ _ => rfl⟩
theorem oth_below (g : Nat) (v : Value) (hb : Below w.heap.size w w1) : Oth g v w w1 := ⟨hb.os, hb.tape, hb.output, hb.size, fun j hj _ _ => hb.block j hj⟩
theorem Wr.lt (h : Wr w0 g nv w v out) : g < w.heap.size := lt_of_row h.r
theorem Wr.low (h : Wr w0 g nv w v out) (hb : Below w.heap.size w w1) : Wr w0 g nv w1 v out :=
  ⟨h.b.trans (hb.mono h.b.size), h.h, (hb.block _ h.lt).trans h.r, h.o.below hb⟩
theorem Wp.start (h : Wr w0 g nv w v out) : Wp w0 g nv w v out w := ⟨v, h, oth_refl g v w, .inl rfl⟩
/-- One method behind the other. -/
theorem Wp.trans (h : Oth g v w w1) (hv : v1.ownBlock = v.ownBlock ∨ ∃ q, v1.ownBlock = some q ∧ w.heap.size ≤ q) (h' : Wp w0 g nv w1 v1 out w2) : Wp w0 g nv w v out w2 := by
  obtain ⟨v2, r2, o2, q2⟩ := h'
  refine ⟨v2, r2, h.trans hv o2, ?_⟩
  rcases q2 with q2 | ⟨q, q2, q3⟩
  · rcases hv with hv | ⟨q, hv, hq⟩
    · exact .inl (q2.trans hv)
    · exact .inr ⟨q, q2.trans hv, hq⟩
  · exact .inr ⟨q, q2, Nat.le_trans h.size q3⟩
theorem Wp.pre (hb : Below w.heap.size w w1) (h' : Wp w0 g nv w1 v out w2) : Wp w0 g nv w v out w2 := Wp.trans (oth_below g v hb) (.inl rfl) h'
/-- A block of another type is as it was. -/
theorem Wp.row {cs : Array Value} {ty : TypeId} {fr : Nat × Nat} {j : Nat} (hw : Wr w0 g nv w v out1) (h : Oth g v w w1) (hr : w.heap[j]? = some (.cells cs ty fr)) (hj : j ≠ g) (ht : 60 ≠ ty) : w1.heap[j]? = some (.cells cs ty fr) :=
  (h.block j (lt_of_row hr) hj (hw.o.ne hr ht)).trans hr
/-- What lies below the writer is as it was. -/
theorem Wr.env (h : Wr w0 g nv w v out) {α : Type} {m : Nat} {cs : α → Array Value} {sp : Option Addr} {xs : List α} (hr : RowsAt w0 m cs sp xs) : RowsAt w m cs sp xs := hr.below h.b
theorem strs_row {b : Nat} {xs : List ByteArray} {fr : Nat × Nat} (h : w.heap[b]? = some (.cells (xs.map Value.string).toArray 9 fr)) : RowsAt w 1 strC (some ⟨b, 0, none⟩) xs := fun _ => by
  refine ⟨b, 0, rfl, fun i x hx j u hu => ?_⟩
  have hj0 : j = 0 := by have := (Array.getElem?_eq_some_iff.1 hu).1; simpa [strC] using this
  subst hj0
  obtain rfl : Value.string x = u := by simpa [strC] using hu
  rw [cell_of_row _ _ _ _ _ _ h, Nat.mul_one, Nat.zero_add, Nat.add_zero, List.getElem?_toArray, List.getElem?_map, hx]
  rfl
/-- A token more is written. -/
theorem Wr.one (h : Wr w0 g nv w v out) (t : Tok) (hl : out.length + 1 ≤ 1000000) : ∃ s0 c0 s1 c1 W, v = .slice s0 out.length c0 ∧ w.cell? ⟨g, 1, none⟩ = some v ∧ w.frozen? ⟨g, 1, none⟩ = false ∧
    (Builtin.append_ #[32, 32] 32 #[v, .slice (some ⟨w.heap.size, 0, none⟩) 1 1]).run Tryz.prog (w.alloc (.cells t.cells 60)) = .ok (.slice s1 (out.length + 1) c1) W ∧ W.cell? ⟨g, 1, none⟩ = some v ∧ W.frozen? ⟨g, 1, none⟩ = false ∧
    Wr w0 g nv (W.setCell ⟨g, 1, none⟩ (.slice s1 (out.length + 1) c1)) (.slice s1 (out.length + 1) c1) (out ++ [t]) ∧ Oth g v w (W.setCell ⟨g, 1, none⟩ (.slice s1 (out.length + 1) c1)) ∧
    ((Value.slice s1 (out.length + 1) c1).ownBlock = v.ownBlock ∨ ∃ q, (Value.slice s1 (out.length + 1) c1).ownBlock = some q ∧ w.heap.size ≤ q) := by
  have hg := h.lt
  have hne : v.ownBlock ≠ some g := h.o.ne h.r (by decide)
  obtain ⟨s0, c0, rfl⟩ := OwnG.shape h.o
  have hb : Below w.heap.size w (w.alloc (.cells t.cells 60)) := (Below.refl _ _).alloc (Nat.le_refl _) _
  have hrow := heap_alloc_new w (.cells t.cells 60)
  have hsz : (w.alloc (.cells t.cells 60)).heap.size = w.heap.size + 1 := by simp
  generalize w.alloc (.cells t.cells 60) = X at hb hrow hsz ⊢
  have hbs := h.b.size
  obtain ⟨v', W, hrun, ho, hgr, hq⟩ := own_run (ys := [t]) (cap := 1) elT 32 (h.o.below hb) (fun e => by cases e) (oneG_rows hrow) (by simpa using hl) (by omega)
  obtain ⟨s1, c1, rfl⟩ := OwnG.shape ho
  have e1 : (out ++ [t]).length = out.length + 1 := by simp
  rw [e1] at hrun ho hq
  have hle := hgr.size
  have hk : ∀ j, j < w.heap.size → (Value.slice s0 out.length c0).ownBlock ≠ some j → W.heap[j]? = w.heap[j]? := fun j hj hn => (hgr.block j (by omega) fun e => hn e.symm).trans (hb.block j hj)
  have hnew : (Value.slice s1 (out.length + 1) c1).ownBlock ≠ some g := fun e => by
    rcases hq with hq | hq
    · exact hne (hq.symm.trans e)
    · rw [hq] at e
      injection e with e
      omega
  have r2 := (hk g hg hne).trans h.r
  have hBW : Below w0.heap.size w0 W := ⟨hgr.os.trans (hb.os.trans h.b.os), hgr.tape.trans (hb.tape.trans h.b.tape), hgr.output.trans (hb.output.trans h.b.output), by omega, fun j hj => (hk j (by omega) fun e => by have := (h.o.lt e).1; omega).trans (h.b.block j hj)⟩
  refine ⟨s0, c0, s1, c1, W, rfl, (cell_of_row _ _ _ _ _ _ h.r).trans rfl, frozen_of_row _ _ _ _ _ h.r, hrun, (cell_of_row _ _ _ _ _ _ r2).trans rfl, frozen_of_row _ _ _ _ _ r2, ⟨hBW.setCell (p := ⟨g, 1, none⟩) h.h _, h.h, heap_setCell_same _ _ 1 _ _ _ r2, ho.keep fun q hq' => heap_setCell_other _ _ _ _ fun e => hnew (by rw [hq', show q = g from e])⟩, ?_, ?_⟩
  · have hq2 := (Below.refl 0 W).setCell (p := ⟨g, 1, none⟩) (Nat.zero_le _) (.slice s1 (out.length + 1) c1)
    exact ⟨hq2.os.trans (hgr.os.trans hb.os), hq2.tape.trans (hgr.tape.trans hb.tape), hq2.output.trans (hgr.output.trans hb.output), by have := hq2.size; omega, fun j hj hjt hjv => (heap_setCell_other _ _ _ _ hjt).trans (hk j hj hjv)⟩
  · rcases hq with hq | hq
    · exact .inl hq
    · exact .inr ⟨_, hq, by omega⟩
end
end Go.Proofs.YtbadafkfjfbnlaaGreatDoor

namespace Go.Proofs.YtbadafkfjfbnlaaGreatDoor
set_option maxRecDepth 100000
open Go.RowKit

def hdP : Pt → Int × ByteArray | .mk k x _ _ _ _ _ => (k, x)
def sgT (s : List UInt8) : Tok := tkW 4 (strU s)
def wdT (s : List UInt8) : Tok := tkW 1 (strU s)
def enT : Tok := tkW 5 (strU [59])
/-- The text that says s. -/
def quoT (s : ByteArray) : ByteArray := match quoO s.data.toList with | some q => strU q | none => ⟨#[]⟩
def nuT (n : Int) : Tok := tkW 2 ⟨(Lib.itoa n).toArray⟩
def wEnd (os : List (List Tok)) : List Tok := (os.map (· ++ [enT])).flatten
/-- With a sign between. -/
def wPar (s : List UInt8) (os : List (List Tok)) : List Tok := match os with | [] => [] | o :: r => o ++ (r.map (sgT s :: ·)).flatten
def wBrk (os : List (List Tok)) : List Tok := [sgT [40]] ++ wPar [44] os ++ [sgT [41]]
def wBra (os : List (List Tok)) : List Tok := [sgT [123]] ++ wEnd os ++ [sgT [125]]
def wIf (os : List (List Tok)) : List Tok := (os.take 2).flatten ++ (if 2 < os.length then [wdT [101, 108, 115, 101]] else []) ++ (os.drop 2).flatten
/-- Does a kid stand in brackets? -/
def nedB (k : Int) (x : ByteArray) (h : Int × ByteArray) (i : Nat) : Bool :=
  if k = 26 then h.1 == 27 else if k ≠ 27 then (h.1 == 26) || (h.1 == 27)
  else (h.1 == 27) && (decide (rowI h.2 < rowI x) || ((rowI h.2 == rowI x) && (decide (0 < i) || (rowI h.2 == 2))))
def wOpe (k : Int) (x : ByteArray) (hs : List (Int × ByteArray)) (os : List (List Tok)) (i : Nat) : List Tok :=
  match hs[i]?, os[i]? with
  | some h, some o => if nedB k x h i then wBrk [o] else o
  | _, _ => []
/-- How many ahead are of a kind. -/
def cutN (k : Int) : List (Int × ByteArray) → Nat | [] => 0 | h :: r => if h.1 == k then cutN k r + 1 else 0
def wFun (x : ByteArray) (hs : List (Int × ByteArray)) (os : List (List Tok)) : List Tok :=
  [wdT [102, 117, 110, 99]] ++ (if 0 < cutN 8 hs then wBrk (os.take (cutN 8 hs)) else []) ++ [tkW 1 x] ++ wBrk ((os.drop (cutN 8 hs)).take (cutN 9 (hs.drop (cutN 8 hs)))) ++ ((os.drop (cutN 8 hs)).drop (cutN 9 (hs.drop (cutN 8 hs)))).flatten
def wrX (k : Int) (x : ByteArray) (n : Int) (hs : List (Int × ByteArray)) (os : List (List Tok)) : List Tok :=
  if k = 20 then [nuT n] else if k = 21 then [tkW 3 (quoT x)] else if k = 22 ∨ k = 23 then [tkW 1 x]
  else if k = 24 then wOpe k x hs os 0 ++ [sgT [46]] ++ [tkW 1 x] else if k = 25 then wOpe k x hs os 0 ++ wBrk (os.drop 1)
  else if k = 26 then [tkW 4 x] ++ wOpe k x hs os 0 else if k = 27 then wOpe k x hs os 0 ++ [tkW 4 x] ++ wOpe k x hs os 1 else []
def wrS (k : Int) (x : ByteArray) (n : Int) (hs : List (Int × ByteArray)) (os : List (List Tok)) : List Tok :=
  if k = 13 then wBra os else if k = 14 then [wdT [105, 102]] ++ wIf os else if k = 15 then [wdT [102, 111, 114]] ++ os.flatten
  else if k = 16 then [wdT [114, 101, 116, 117, 114, 110]] ++ os.flatten else if k = 17 then [tkW 1 x] ++ [sgT [58, 61]] ++ os.flatten
  else if k = 18 then wPar [61] os else if k = 19 then os.flatten else wrX k x n hs os
def wrK (k : Int) (x : ByteArray) (n : Int) (hs : List (Int × ByteArray)) (os : List (List Tok)) : List Tok :=
  if k = 1 then [wdT [112, 97, 99, 107, 97, 103, 101], tkW 1 x] ++ [enT] ++ wEnd os else if k = 2 then [wdT [105, 109, 112, 111, 114, 116]] ++ [tkW 3 (quoT x)]
  else if k = 3 then [wdT [99, 111, 110, 115, 116], tkW 1 x] ++ [sgT [61]] ++ os.flatten else if k = 4 then [wdT [118, 97, 114], tkW 1 x] ++ wPar [61] os
  else if k = 5 then [wdT [116, 121, 112, 101], tkW 1 x, wdT [115, 116, 114, 117, 99, 116]] ++ wBra os else if k = 7 then wFun x hs os
  else if k = 6 ∨ k = 8 ∨ k = 9 then [tkW 1 x] ++ os.flatten else if k = 10 ∨ k = 11 then [tkW 1 x]
  else if k = 12 then os.flatten ++ [sgT [46]] ++ [tkW 1 x] else wrS k x n hs os
mutual
/-- The tokens of a tree. -/
def wrP : Pt → List Tok | .mk k x n _ _ _ l => wrK k x n (l.map hdP) (wrM l)
def wrM : List Pt → List (List Tok) | [] => [] | t :: r => wrP t :: wrM r
end
theorem wrM_map : ∀ l : List Pt, wrM l = l.map wrP
  | [] => by rw [wrM]; rfl
  | t :: r => by rw [wrM, wrM_map r]; rfl
end Go.Proofs.YtbadafkfjfbnlaaGreatDoor

namespace Go.Proofs.YtbadafkfjfbnlaaGreatDoor
set_option maxRecDepth 100000
open Go.RowKit

/-- Whatever the rounds, if they are enough: that is what comes. -/
def Ev {α : Type} (f : Nat → Rs α) (r : Rs α) : Prop := ∃ n, ∀ m, n ≤ m → f m = r
section
variable {α β : Type}
theorem ev_const (r : Rs α) : Ev (fun _ => r) r := ⟨0, fun _ _ => rfl⟩
theorem ev_succ {f : Nat → Rs α} {r : Rs α} (h : Ev (fun m => f (m + 1)) r) : Ev f r := by
  obtain ⟨n, hn⟩ := h
  refine ⟨n + 1, fun m hm => ?_⟩
  obtain ⟨k, rfl⟩ : ∃ k, m = k + 1 := ⟨m - 1, by omega⟩
  exact hn k (by omega)
theorem ev_bind {f : Nat → Rs α} {k : Nat → α → Nat → Rs β} {v : α} {q : Nat} {r : Rs β} (h : Ev f (.ok v q)) (hk : Ev (fun m => k m v q) r) : Ev (fun m => (f m).bind (k m)) r := by
  obtain ⟨n, hn⟩ := h
  obtain ⟨n', hn'⟩ := hk
  refine ⟨max n n', fun m hm => ?_⟩
  show (f m).bind (k m) = r
  rw [hn m (by omega)]
  exact hn' m (by omega)
theorem ev_pos {c : Prop} [Decidable c] {a b : Nat → Rs α} {r : Rs α} (hc : c) (h : Ev a r) : Ev (fun m => if c then a m else b m) r := by
  obtain ⟨n, hn⟩ := h
  exact ⟨n, fun m hm => by show (if c then a m else b m) = r; rw [if_pos hc]; exact hn m hm⟩
theorem ev_neg {c : Prop} [Decidable c] {a b : Nat → Rs α} {r : Rs α} (hc : ¬ c) (h : Ev b r) : Ev (fun m => if c then a m else b m) r := by
  obtain ⟨n, hn⟩ := h
  exact ⟨n, fun m hm => by show (if c then a m else b m) = r; rw [if_neg hc]; exact hn m hm⟩
theorem ev_need {b : Bool} {s : Int} {k : Nat → Rs α} {r : Rs α} (hb : b = true) (h : Ev k r) : Ev (fun m => Rs.need b s (k m)) r := by
  obtain ⟨n, hn⟩ := h
  exact ⟨n, fun m hm => by show Rs.need b s (k m) = r; unfold Rs.need; rw [if_pos hb]; exact hn m hm⟩
end
/-- These tokens stand there, but for their places. -/
def Hs (ts : List Tok) (p : Nat) (ws : List Tok) : Prop := ∀ (i : Nat) (t : Tok), ws[i]? = some t → (nxT ts (p + i)).kind = t.kind ∧ (nxT ts (p + i)).text = t.text
theorem Hs.left {ts : List Tok} {p : Nat} {a b : List Tok} (h : Hs ts p (a ++ b)) : Hs ts p a := fun i t hi => h i t (by rw [List.getElem?_append_left (List.getElem?_eq_some_iff.1 hi).1]; exact hi)
theorem Hs.right {ts : List Tok} {p : Nat} {a b : List Tok} (h : Hs ts p (a ++ b)) : Hs ts (p + a.length) b := fun i t hi => by
  have := h (a.length + i) t (by rw [List.getElem?_append_right (by omega), show a.length + i - a.length = i by omega]; exact hi)
  rw [Nat.add_assoc]
  exact this
theorem Hs.one {ts : List Tok} {p : Nat} {t : Tok} {r : List Tok} (h : Hs ts p (t :: r)) : (nxT ts p).kind = t.kind ∧ (nxT ts p).text = t.text := h 0 t rfl
theorem Hs.tail {ts : List Tok} {p : Nat} {t : Tok} {r : List Tok} (h : Hs ts p (t :: r)) : Hs ts (p + 1) r := Hs.right (a := [t]) h
theorem Hs.is {ts : List Tok} {p : Nat} {k : Int} {s : List UInt8} {r : List Tok} (h : Hs ts p (tkW k (strU s) :: r)) : isT ts p s = true := by
  unfold isT
  rw [h.one.2]
  simp [tkW, strU]
theorem Hs.not {ts : List Tok} {p : Nat} {k : Int} {s u : List UInt8} {r : List Tok} (h : Hs ts p (tkW k (strU s) :: r)) (hu : (s == u) = false) : isT ts p u = false := by
  unfold isT
  rw [h.one.2]
  show ((strU s).data.toList == u) = false
  simpa [strU] using hu
/-- Trees that are the same but for places. -/
def smP : Pt → Pt → Prop
  | .mk k x n _ _ _ l, .mk k' x' n' _ _ _ l' => k = k' ∧ x = x' ∧ n = n' ∧ go l l'
where go : List Pt → List Pt → Prop
  | [], [] => True
  | t :: r, t' :: r' => smP t t' ∧ go r r'
  | _, _ => False
abbrev smL := smP.go
theorem smP_mk {k n : Int} {x : ByteArray} {a f t a' f' t' : Int} {l l' : List Pt} (h : smL l l') : smP (.mk k x n a f t l) (.mk k x n a' f' t' l') := by
  unfold smP
  exact ⟨rfl, rfl, rfl, h⟩
theorem smL_nil : smL [] [] := by unfold smL smP.go; trivial
theorem smL_cons {t t' : Pt} {l l' : List Pt} (h : smP t t') (h' : smL l l') : smL (t :: l) (t' :: l') := by
  show smP.go _ _
  unfold smP.go
  exact ⟨h, h'⟩
theorem smL_one {t t' : Pt} (h : smP t t') : smL [t] [t'] := smL_cons h smL_nil
theorem smL_app : ∀ {a a' b b' : List Pt}, smL a a' → smL b b' → smL (a ++ b) (a' ++ b')
  | [], [], _, _, _, h => h
  | [], _ :: _, _, _, h, _ => by unfold smL smP.go at h; exact h.elim
  | _ :: _, [], _, _, h, _ => by unfold smL smP.go at h; exact h.elim
  | t :: r, t' :: r', b, b', h, h' => by
    unfold smL smP.go at h
    exact smL_cons h.1 (smL_app h.2 h')
end Go.Proofs.YtbadafkfjfbnlaaGreatDoor

namespace Go.Proofs.YtbadafkfjfbnlaaGreatDoor
set_option maxRecDepth 100000
open Go.RowKit

/-- No point and no bracket follow. -/
def stp (ts : List Tok) (q : Nat) : Prop := isT ts q [46] = false ∧ isT ts q [40] = false
def C4 (ws : List Tok) (e : Pt) (l : Nat) : Prop := ∀ ts p, Hs ts p ws → stp ts (p + ws.length) → rowI (nxT ts (p + ws.length)).text < (l : Int) → ∃ e', smP e e' ∧ Ev (fun m => (fns ts m).bin l p) (.ok e' (p + ws.length))
def C3 (ws : List Tok) (e : Pt) (l : Nat) : Prop := ∀ ts p, Hs ts p ws → stp ts (p + ws.length) → rowI (nxT ts (p + ws.length)).text ≤ (l : Int) → ∃ e', smP e e' ∧ ∀ r, Ev (fun m => (fns ts m).binL l (herI ts p) e' (p + ws.length)) r → Ev (fun m => (fns ts m).bin l p) r
def C2 (ws : List Tok) (e : Pt) : Prop := ∀ ts p, Hs ts p ws → stp ts (p + ws.length) → ∃ e', smP e e' ∧ Ev (fun m => (fns ts m).una p) (.ok e' (p + ws.length))
def C1 (ws : List Tok) (e : Pt) : Prop := ∀ ts p, Hs ts p ws → ∃ e', smP e e' ∧ ∀ r, Ev (fun m => (fns ts m).posL (herI ts p) e' (p + ws.length)) r → Ev (fun m => (fns ts m).post p) r
def C0 (ws : List Tok) : Prop := ∀ ts p, Hs ts p ws → isT ts p [45] = false ∧ isT ts p [33] = false
theorem c3_of {ws : List Tok} {e : Pt} {l : Nat} (hl : l ≤ 4) (h : C4 ws e (l + 1)) : C3 ws e l := fun ts p hh hs hr => by
  obtain ⟨e', h1, h2⟩ := h ts p hh hs (by omega)
  refine ⟨e', h1, fun r hr' => ev_succ ?_⟩
  show Ev (fun m => if l = 5 then (fns ts m).una p else ((fns ts m).bin (l + 1) p).bind fun t q => (fns ts m).binL l (herI ts p) t q) r
  exact ev_neg (by omega) (ev_bind h2 hr')
theorem c4_of {ws : List Tok} {e : Pt} {l : Nat} (h : C3 ws e l) : C4 ws e l := fun ts p hh hs hr => by
  obtain ⟨e', h1, h2⟩ := h ts p hh hs (by omega)
  refine ⟨e', h1, h2 _ (ev_succ ?_)⟩
  exact ev_neg (by omega) (ev_const _)
theorem c4_five {ws : List Tok} {e : Pt} (h : C2 ws e) : C4 ws e 5 := fun ts p hh hs _ => by
  obtain ⟨e', h1, h2⟩ := h ts p hh hs
  refine ⟨e', h1, ev_succ ?_⟩
  show Ev (fun m => if 5 = 5 then (fns ts m).una p else ((fns ts m).bin (5 + 1) p).bind fun t q => (fns ts m).binL 5 (herI ts p) t q) _
  exact ev_pos rfl h2
theorem c4_down {ws : List Tok} {e : Pt} {k : Nat} (hk : k ≤ 5) (h : C4 ws e k) : ∀ l, l ≤ k → C4 ws e l := by
  induction k with
  | zero => intro l hl; obtain rfl : l = 0 := by omega
            exact h
  | succ k ih =>
    intro l hl
    rcases Nat.lt_or_ge l (k + 1) with h1 | h1
    · exact ih (by omega) (c4_of (c3_of (by omega) h)) l (by omega)
    · obtain rfl : l = k + 1 := by omega
      exact h
/-- What stands for an expression, of that level. -/
structure It (e : Pt) (ws : List Tok) (lv : Nat) : Prop where
  c4 : ∀ l, l ≤ 5 → l ≤ lv → C4 ws e l
  c3 : ∀ l, l ≤ 4 → l ≤ lv → ¬ (l = 2 ∧ lv = 2) → C3 ws e l
  c2 : 5 ≤ lv → C2 ws e
  c1 : 6 ≤ lv → C1 ws e
  c0 : 6 ≤ lv → C0 ws
theorem it_una {e : Pt} {ws : List Tok} {lv : Nat} (_hlv : 5 ≤ lv) (h : C2 ws e) (h1 : 6 ≤ lv → C1 ws e) (h0 : 6 ≤ lv → C0 ws) : It e ws lv :=
  ⟨fun l hl _ => c4_down (Nat.le_refl _) (c4_five h) l hl, fun l hl _ _ => c3_of hl (c4_down (Nat.le_refl _) (c4_five h) (l + 1) (by omega)), fun _ => h, h1, h0⟩
theorem it_post {e : Pt} {ws : List Tok} {lv : Nat} (hlv : 6 ≤ lv) (h1 : C1 ws e) (h0 : C0 ws) : It e ws lv :=
  it_una (by omega) (fun ts p hh hs => by
    obtain ⟨e', a1, a2⟩ := h1 ts p hh
    obtain ⟨b1, b2⟩ := h0 ts p hh
    refine ⟨e', a1, ev_succ ?_⟩
    show Ev (fun m => if isT ts p [45] || isT ts p [33] then ((fns ts m).una (p + 1)).bind fun u q => .ok (.mk 26 (nxT ts p).text 0 (nxT ts p).pos (herI ts p) (behI ts q) [u]) q else (fns ts m).post p) _
    refine ev_neg (by rw [b1, b2]; simp) (a2 _ (ev_succ ?_))
    exact ev_neg (by rw [hs.1]; simp) (ev_neg (by rw [hs.2]; simp) (ev_const _))) (fun _ => h1) (fun _ => h0)
theorem it_bin {e : Pt} {ws : List Tok} {k : Nat} (hk : k ≤ 4) (h : k ≠ 2 → C3 ws e k) (h2 : k = 2 → C4 ws e 2) : It e ws k := by
  have h4 : C4 ws e k := by
    by_cases hk2 : k = 2
    · subst hk2; exact h2 rfl
    · exact c4_of (h hk2)
  refine ⟨fun l _ hl => c4_down (by omega) h4 l hl, fun l hl hlk hn => ?_, fun hh => by omega, fun hh => by omega, fun hh => by omega⟩
  rcases Nat.lt_or_ge l k with h1 | h1
  · exact c3_of hl (c4_down (by omega) h4 (l + 1) (by omega))
  · obtain rfl : l = k := by omega
    exact h fun e => hn ⟨e, e⟩
/-- What prim reads. -/
theorem c1_prim {ws : List Tok} {e : Pt} (h : ∀ ts p, Hs ts p ws → ∃ e', smP e e' ∧ Ev (fun m => (fns ts m).prim p) (.ok e' (p + ws.length))) : C1 ws e := fun ts p hh => by
  obtain ⟨e', h1, h2⟩ := h ts p hh
  exact ⟨e', h1, fun r hr => ev_succ (ev_bind h2 hr)⟩
theorem row_no {ts : List Tok} {p : Nat} {k : Int} {s : List UInt8} {r : List Tok} (h : Hs ts p (tkW k (strU s) :: r)) : rowI (nxT ts p).text = rowI (strU s) := by rw [h.one.2]; rfl
/-- In brackets. -/
theorem it_brk {e : Pt} {ws : List Tok} {lv : Nat} (h : It e ws lv) : It e (wBrk [ws]) 7 := by
  have hw : wBrk [ws] = tkW 4 (strU [40]) :: (ws ++ [tkW 4 (strU [41])]) := by simp [wBrk, wPar, sgT]
  rw [hw]
  refine it_post (by omega) (c1_prim fun ts p hh => ?_) fun ts p hh => ⟨hh.not (by decide), hh.not (by decide)⟩
  have ht := hh.tail
  have hc := ht.right
  obtain ⟨e', h1, h2⟩ := h.c4 0 (by omega) (by omega) ts (p + 1) ht.left ⟨hc.not (by decide), hc.not (by decide)⟩ (by rw [row_no hc]; decide)
  refine ⟨e', h1, ev_succ ?_⟩
  show Ev (fun m => if isT ts p [40] then ((fns ts m).bin 0 (p + 1)).bind fun t q => expP ts [41] q fun q => .ok t q else if namB ts p then leaP ts 23 p else va1P ts p) _
  refine ev_pos hh.is (ev_bind h2 (ev_need hc.is ?_))
  rw [show p + (tkW 4 (strU [40]) :: (ws ++ [tkW 4 (strU [41])])).length = p + 1 + ws.length + 1 by simp; omega]
  exact ev_const _
end Go.Proofs.YtbadafkfjfbnlaaGreatDoor

namespace Go.Proofs.YtbadafkfjfbnlaaGreatDoor
set_option maxRecDepth 100000
open Go.RowKit

def plB (c : UInt8) : Bool := (decide (65 ≤ c) && decide (c ≤ 90)) || (c == 95) || (decide (97 ≤ c) && decide (c ≤ 122)) || (decide (48 ≤ c) && decide (c ≤ 57)) || (c == 34)
/-- A text that begins as a word, a number or a text does. -/
def plF (x : ByteArray) : Prop := ∃ c r, x.data.toList = c :: r ∧ plB c = true
def sgB (s : List UInt8) : Bool := match s with | [] => true | c :: _ => !plB c
theorem pl_not {x : ByteArray} {s : List UInt8} (h : plF x) (hs : sgB s = true) : (x.data.toList == s) = false := by
  obtain ⟨c, r, e, hc⟩ := h
  rw [e]
  cases s with
  | nil => rfl
  | cons d u =>
    rw [← Bool.not_eq_true]
    intro h2
    have h3 : c :: r = d :: u := eq_of_beq h2
    injection h3 with h3 _
    subst h3
    have hs2 : (!plB c) = true := hs
    rw [hc] at hs2
    cases hs2
theorem Hs.pl {ts : List Tok} {p : Nat} {k : Int} {x : ByteArray} {r : List Tok} (h : Hs ts p (tkW k x :: r)) (hx : plF x) {s : List UInt8} (hs : sgB s = true) : isT ts p s = false := by
  unfold isT
  rw [h.one.2]
  exact pl_not hx hs
/-- Expressions that a reader reads. -/
inductive Ex : Pt → Prop
  | int {n a f t : Int} : (∀ u : Tok, u.kind = 2 → u.text = ⟨(Lib.itoa n).toArray⟩ → numT u = n) → plF ⟨(Lib.itoa n).toArray⟩ → Ex (.mk 20 ⟨#[]⟩ n a f t [])
  | text {x : ByteArray} {a f t : Int} : (∀ u : Tok, u.kind = 3 → u.text = quoT x → valT u = x) → plF (quoT x) → Ex (.mk 21 x 0 a f t [])
  | bool {x : ByteArray} {a f t : Int} : (x = strU [116, 114, 117, 101] ∨ x = strU [102, 97, 108, 115, 101]) → Ex (.mk 22 x 0 a f t [])
  | name {x : ByteArray} {a f t : Int} : kepB x = false → plF x → Ex (.mk 23 x 0 a f t [])
  | dot {x : ByteArray} {a f t : Int} {e : Pt} : kepB x = false → plF x → Ex e → Ex (.mk 24 x 0 a f t [e])
  | call {a f t : Int} {e : Pt} {l : List Pt} : Ex e → (∀ u ∈ l, Ex u) → Ex (.mk 25 ⟨#[]⟩ 0 a f t (e :: l))
  | una {x : ByteArray} {a f t : Int} {e : Pt} : (x = strU [45] ∨ x = strU [33]) → Ex e → Ex (.mk 26 x 0 a f t [e])
  | bin {x : ByteArray} {a f t : Int} {u v : Pt} : 0 ≤ rowI x → Ex u → Ex v → Ex (.mk 27 x 0 a f t [u, v])
def lev : Pt → Nat | .mk k x _ _ _ _ _ => if k = 27 then (rowI x).toNat else if k = 26 then 5 else if k = 24 ∨ k = 25 then 6 else 7
/-- A kid of an expression, in brackets where they are needed. -/
def opeT (k : Int) (x : ByteArray) (u : Pt) (i : Nat) : List Tok := if nedB k x (hdP u) i then wBrk [wrP u] else wrP u
def opeL (k : Int) (x : ByteArray) (u : Pt) (i : Nat) : Nat := if nedB k x (hdP u) i then 7 else lev u
theorem ope_it {k : Int} {x : ByteArray} {u : Pt} {i : Nat} (h : It u (wrP u) (lev u)) : It u (opeT k x u i) (opeL k x u i) := by
  unfold opeT opeL
  split
  · exact it_brk h
  · exact h
theorem lev_ge {u : Pt} (h : (hdP u).1 ≠ 27) : 5 ≤ lev u := by
  cases u with
  | mk k x n a f t l =>
    have h : k ≠ 27 := h
    show 5 ≤ lev (.mk k x n a f t l)
    rw [lev, if_neg h]
    split
    · omega
    · split <;> omega
theorem lev_six {u : Pt} (h : (hdP u).1 ≠ 27) (h' : (hdP u).1 ≠ 26) : 6 ≤ lev u := by
  cases u with
  | mk k x n a f t l =>
    have h : k ≠ 27 := h
    have h' : k ≠ 26 := h'
    show 6 ≤ lev (.mk k x n a f t l)
    rw [lev, if_neg h, if_neg h']
    split <;> omega
theorem lev_bin {u : Pt} (h : (hdP u).1 = 27) : lev u = (rowI (hdP u).2).toNat := by
  cases u with
  | mk k x n a f t l =>
    have h : k = 27 := h
    show lev (.mk k x n a f t l) = (rowI x).toNat
    rw [lev, if_pos h]
theorem ope_una {x : ByteArray} {u : Pt} : 5 ≤ opeL 26 x u 0 := by
  unfold opeL
  split
  · omega
  · rename_i h
    exact lev_ge fun e => h (by unfold nedB; rw [if_pos rfl, e]; rfl)
theorem ope_six {k : Int} {x : ByteArray} {u : Pt} {i : Nat} (hk : k ≠ 26) (hk' : k ≠ 27) : 6 ≤ opeL k x u i := by
  unfold opeL
  split
  · omega
  · rename_i h
    refine lev_six (fun e => h ?_) fun e => h ?_
    · unfold nedB; rw [if_neg hk, if_pos hk', e]; rfl
    · unfold nedB; rw [if_neg hk, if_pos hk', e]; rfl
theorem row_le (x : ByteArray) : rowI x ≤ 4 := by
  unfold rowI
  repeat' split
  all_goals omega
theorem ope_left {x : ByteArray} {u : Pt} (hx : 0 ≤ rowI x) : (rowI x).toNat ≤ opeL 27 x u 0 ∧ ¬ ((rowI x).toNat = 2 ∧ opeL 27 x u 0 = 2) := by
  have h4 := row_le x
  unfold opeL
  split
  · omega
  · rename_i h
    by_cases hk : (hdP u).1 = 27
    · rw [lev_bin hk]
      have h1 : ¬ rowI (hdP u).2 < rowI x := fun e => h (by unfold nedB; rw [if_neg (by decide), if_neg (by simp), hk]; simp [e])
      have h2 : ¬ (rowI (hdP u).2 = rowI x ∧ rowI (hdP u).2 = 2) := fun e => h (by unfold nedB; rw [if_neg (by decide), if_neg (by simp), hk, ← e.1, e.2]; simp)
      omega
    · have := lev_ge hk
      omega
theorem ope_right {x : ByteArray} {u : Pt} (hx : 0 ≤ rowI x) : (rowI x).toNat + 1 ≤ opeL 27 x u 1 := by
  have h4 := row_le x
  unfold opeL
  split
  · omega
  · rename_i h
    by_cases hk : (hdP u).1 = 27
    · rw [lev_bin hk]
      have h1 : ¬ rowI (hdP u).2 < rowI x := fun e => h (by unfold nedB; rw [if_neg (by decide), if_neg (by simp), hk]; simp [e])
      have h2 : ¬ rowI (hdP u).2 = rowI x := fun e => h (by unfold nedB; rw [if_neg (by decide), if_neg (by simp), hk, e]; simp)
      omega
    · have := lev_ge hk
      omega
theorem row_stp {ts : List Tok} {q : Nat} (h : 0 ≤ rowI (nxT ts q).text) : stp ts q := by
  constructor
  · rw [← Bool.not_eq_true]
    intro e
    have e2 : (nxT ts q).text.data.toList = [46] := eq_of_beq e
    unfold rowI at h
    rw [e2] at h
    revert h
    decide
  · rw [← Bool.not_eq_true]
    intro e
    have e2 : (nxT ts q).text.data.toList = [40] := eq_of_beq e
    unfold rowI at h
    rw [e2] at h
    revert h
    decide
theorem wr_int (n a f t : Int) (x : ByteArray) : wrP (.mk 20 x n a f t []) = [nuT n] := by simp [wrP, wrK, wrS, wrX]
theorem wr_text (n a f t : Int) (x : ByteArray) : wrP (.mk 21 x n a f t []) = [tkW 3 (quoT x)] := by simp [wrP, wrK, wrS, wrX]
theorem wr_bool (n a f t : Int) (x : ByteArray) : wrP (.mk 22 x n a f t []) = [tkW 1 x] := by simp [wrP, wrK, wrS, wrX]
theorem wr_name (n a f t : Int) (x : ByteArray) : wrP (.mk 23 x n a f t []) = [tkW 1 x] := by simp [wrP, wrK, wrS, wrX]
theorem wr_dot (n a f t : Int) (x : ByteArray) (e : Pt) : wrP (.mk 24 x n a f t [e]) = opeT 24 x e 0 ++ [sgT [46], tkW 1 x] := by simp [wrP, wrK, wrS, wrX, wrM, wOpe, opeT]
theorem wr_call (n a f t : Int) (x : ByteArray) (e : Pt) (l : List Pt) : wrP (.mk 25 x n a f t (e :: l)) = opeT 25 x e 0 ++ wBrk (l.map wrP) := by simp [wrP, wrK, wrS, wrX, wrM, wOpe, opeT, wrM_map]
theorem wr_una (n a f t : Int) (x : ByteArray) (e : Pt) : wrP (.mk 26 x n a f t [e]) = tkW 4 x :: opeT 26 x e 0 := by simp [wrP, wrK, wrS, wrX, wrM, wOpe, opeT]
theorem wr_bin (n a f t : Int) (x : ByteArray) (u v : Pt) : wrP (.mk 27 x n a f t [u, v]) = opeT 27 x u 0 ++ tkW 4 x :: opeT 27 x v 1 := by simp [wrP, wrK, wrS, wrX, wrM, wOpe, opeT]
end Go.Proofs.YtbadafkfjfbnlaaGreatDoor

namespace Go.Proofs.YtbadafkfjfbnlaaGreatDoor
set_option maxRecDepth 100000
open Go.RowKit

theorem ex_one {ws : List Tok} {e : Pt} {w : Tok} (hw : ws = [w]) (h0 : ∀ ts p, Hs ts p [w] → isT ts p [45] = false ∧ isT ts p [33] = false ∧ isT ts p [40] = false)
    (h : ∀ ts p, Hs ts p [w] → ∃ e', smP e e' ∧ (if namB ts p then leaP ts 23 p else va1P ts p) = .ok e' (p + 1)) : It e ws 7 := by
  subst hw
  refine it_post (by omega) (c1_prim fun ts p hh => ?_) fun ts p hh => ⟨(h0 ts p hh).1, (h0 ts p hh).2.1⟩
  obtain ⟨e', h1, h2⟩ := h ts p hh
  refine ⟨e', h1, ev_succ ?_⟩
  show Ev (fun m => if isT ts p [40] then ((fns ts m).bin 0 (p + 1)).bind fun t q => expP ts [41] q fun q => .ok t q else if namB ts p then leaP ts 23 p else va1P ts p) _
  exact ev_neg (by rw [(h0 ts p hh).2.2]; simp) (by rw [h2]; exact ev_const _)
/-- What is handed to a call, behind the first. -/
theorem args_ev : ∀ (l : List Pt), (∀ u ∈ l, It u (wrP u) (lev u)) → ∀ (ts : List Tok) (p : Nat) (acc : List Pt), Hs ts p (((l.map wrP).map (sgT [44] :: ·)).flatten ++ [sgT [41]]) →
    ∃ l', smL l l' ∧ Ev (fun m => (fns ts m).argL acc p) (.ok (acc ++ l') (p + ((l.map wrP).map (sgT [44] :: ·)).flatten.length))
  | [], _, ts, p, acc, hh => by
    refine ⟨[], smL_nil, ev_succ ?_⟩
    have h0 : Hs ts p (tkW 4 (strU [41]) :: []) := by simpa [sgT] using hh
    rw [List.append_nil]
    exact ev_neg (by rw [h0.not (by decide)]; simp) (ev_const _)
  | u :: r, hl, ts, p, acc, hh => by
    have hw : (((u :: r).map wrP).map (sgT [44] :: ·)).flatten ++ [sgT [41]] = tkW 4 (strU [44]) :: (wrP u ++ (((r.map wrP).map (sgT [44] :: ·)).flatten ++ [sgT [41]])) := by simp [sgT]
    rw [hw] at hh
    have ht := hh.tail
    have hc := ht.right
    have hn : ∃ s rest, (((r.map wrP).map (sgT [44] :: ·)).flatten ++ [sgT [41]]) = tkW 4 (strU s) :: rest ∧ (s = [44] ∨ s = [41]) := by
      cases r with
      | nil => exact ⟨[41], [], by simp [sgT], .inr rfl⟩
      | cons v r' => exact ⟨[44], _, by simp [sgT]; rfl, .inl rfl⟩
    obtain ⟨s, rest, e1, e2⟩ := hn
    have hc' := hc
    rw [e1] at hc'
    obtain ⟨u', h1, h2⟩ := (hl u (by simp)).c4 0 (by omega) (by omega) ts (p + 1) ht.left
      (by rcases e2 with rfl | rfl <;> exact ⟨hc'.not (by decide), hc'.not (by decide)⟩) (by rw [row_no hc']; rcases e2 with rfl | rfl <;> decide)
    obtain ⟨l', h3, h4⟩ := args_ev r (fun v hv => hl v (by simp [hv])) ts (p + 1 + (wrP u).length) (acc ++ [u']) hc
    refine ⟨u' :: l', smL_cons h1 h3, ev_succ ?_⟩
    refine ev_pos hh.is (ev_bind h2 ?_)
    have e3 : p + (((u :: r).map wrP).map (sgT [44] :: ·)).flatten.length = p + 1 + (wrP u).length + ((r.map wrP).map (sgT [44] :: ·)).flatten.length := by simp; omega
    rw [e3, show acc ++ u' :: l' = acc ++ [u'] ++ l' by simp]
    exact h4
theorem lis_ev (l : List Pt) (hl : ∀ u ∈ l, It u (wrP u) (lev u)) (hf : ∀ u ∈ l, ∀ ts p r, Hs ts p (wrP u ++ r) → isT ts p [41] = false) (ts : List Tok) (p : Nat) (hh : Hs ts p (wBrk (l.map wrP))) :
    ∃ l', smL l l' ∧ Ev (fun m => lisP ts ((fns ts m).bin 0) (fns ts m).argL p) (.ok l' (p + (wBrk (l.map wrP)).length)) := by
  cases l with
  | nil =>
    have h0 : Hs ts p (tkW 4 (strU [40]) :: tkW 4 (strU [41]) :: []) := by simpa [wBrk, wPar, sgT] using hh
    refine ⟨[], smL_nil, ?_⟩
    unfold lisP expP
    refine ev_need h0.is (ev_pos h0.tail.is ?_)
    simp [wBrk, wPar]
    exact ev_const _
  | cons u r =>
    have hw : wBrk ((u :: r).map wrP) = tkW 4 (strU [40]) :: (wrP u ++ (((r.map wrP).map (sgT [44] :: ·)).flatten ++ [sgT [41]])) := by simp [wBrk, wPar, sgT]
    rw [hw] at hh ⊢
    have ht := hh.tail
    have hc := ht.right
    have hn : ∃ s rest, (((r.map wrP).map (sgT [44] :: ·)).flatten ++ [sgT [41]]) = tkW 4 (strU s) :: rest ∧ (s = [44] ∨ s = [41]) := by
      cases r with
      | nil => exact ⟨[41], [], by simp [sgT], .inr rfl⟩
      | cons v r' => exact ⟨[44], _, by simp [sgT]; rfl, .inl rfl⟩
    obtain ⟨s, rest, e1, e2⟩ := hn
    have hc' := hc
    rw [e1] at hc'
    obtain ⟨u', h1, h2⟩ := (hl u (by simp)).c4 0 (by omega) (by omega) ts (p + 1) ht.left
      (by rcases e2 with rfl | rfl <;> exact ⟨hc'.not (by decide), hc'.not (by decide)⟩) (by rw [row_no hc']; rcases e2 with rfl | rfl <;> decide)
    obtain ⟨l', h3, h4⟩ := args_ev r (fun v hv => hl v (by simp [hv])) ts (p + 1 + (wrP u).length) [u'] hc
    have hz : Hs ts (p + 1 + (wrP u).length + ((r.map wrP).map (sgT [44] :: ·)).flatten.length) (tkW 4 (strU [41]) :: []) := hc.right
    refine ⟨u' :: l', smL_cons h1 h3, ?_⟩
    unfold lisP expP
    refine ev_need hh.is (ev_neg (by rw [hf u (by simp) ts (p + 1) _ ht]; simp) (ev_bind h2 (ev_bind h4 (ev_need hz.is ?_))))
    rw [show p + (tkW 4 (strU [40]) :: (wrP u ++ (((r.map wrP).map (sgT [44] :: ·)).flatten ++ [sgT [41]]))).length = p + 1 + (wrP u).length + ((r.map wrP).map (sgT [44] :: ·)).flatten.length + 1 by simp; omega]
    exact ev_const _
/-- The first token of an expression. -/
def fstE (x : Tok) : Prop := (x.kind = 4 ∧ (x.text = strU [40] ∨ x.text = strU [45] ∨ x.text = strU [33])) ∨ ((x.kind = 2 ∨ x.kind = 3) ∧ plF x.text) ∨ (x.kind = 1 ∧ plF x.text ∧ (kepB x.text = false ∨ x.text = strU [116, 114, 117, 101] ∨ x.text = strU [102, 97, 108, 115, 101]))
theorem ope_fst {k : Int} {x : ByteArray} {u : Pt} {i : Nat} (h : ∃ a r, wrP u = a :: r ∧ fstE a) : ∃ a r, opeT k x u i = a :: r ∧ fstE a := by
  unfold opeT
  split
  · exact ⟨sgT [40], wrP u ++ [sgT [41]], by simp [wBrk, wPar], .inl ⟨rfl, .inl rfl⟩⟩
  · exact h
theorem ex_fst {e : Pt} (h : Ex e) : ∃ a r, wrP e = a :: r ∧ fstE a := by
  induction h with
  | int _ hp => exact ⟨_, _, wr_int _ _ _ _ _, .inr (.inl ⟨.inl rfl, hp⟩)⟩
  | text _ hp => exact ⟨_, _, wr_text _ _ _ _ _, .inr (.inl ⟨.inr rfl, hp⟩)⟩
  | bool hx =>
    refine ⟨_, _, wr_bool _ _ _ _ _, .inr (.inr ⟨rfl, ?_, .inr hx⟩)⟩
    rcases hx with rfl | rfl
    · exact ⟨116, [114, 117, 101], rfl, by decide⟩
    · exact ⟨102, [97, 108, 115, 101], rfl, by decide⟩
  | name hk hp => exact ⟨_, _, wr_name _ _ _ _ _, .inr (.inr ⟨rfl, hp, .inl hk⟩)⟩
  | dot _ _ _ ih =>
    obtain ⟨a, r, e1, e2⟩ := ope_fst ih
    exact ⟨a, r ++ _, by rw [wr_dot, e1]; rfl, e2⟩
  | call _ _ ih _ =>
    obtain ⟨a, r, e1, e2⟩ := ope_fst ih
    exact ⟨a, r ++ _, by rw [wr_call, e1]; rfl, e2⟩
  | una hx _ _ => exact ⟨_, _, wr_una _ _ _ _ _ _, .inl ⟨rfl, .inr hx⟩⟩
  | bin _ _ _ ih _ =>
    obtain ⟨a, r, e1, e2⟩ := ope_fst ih
    exact ⟨a, r ++ _, by rw [wr_bin, e1]; rfl, e2⟩
theorem fst_not {x : Tok} (h : fstE x) {s : List UInt8} (hs : sgB s = true) (h1 : (([40] : List UInt8) == s) = false) (h2 : (([45] : List UInt8) == s) = false) (h3 : (([33] : List UInt8) == s) = false) : (x.text.data.toList == s) = false := by
  rcases h with ⟨-, h | h | h⟩ | ⟨-, h⟩ | ⟨-, h, -⟩
  · rw [h]; simpa [strU] using h1
  · rw [h]; simpa [strU] using h2
  · rw [h]; simpa [strU] using h3
  · exact pl_not h hs
  · exact pl_not h hs
theorem ex_it {e : Pt} (h : Ex e) : It e (wrP e) (lev e) := by
  induction h with
  | @int n a f t hn hp =>
    refine ex_one (wr_int _ _ _ _ _) (fun ts p hh => ⟨hh.pl hp (by decide), hh.pl hp (by decide), hh.pl hp (by decide)⟩) fun ts p hh => ?_
    have hk : (nxT ts p).kind = 2 := hh.one.1
    have hnb : namB ts p = false := by unfold namB; rw [hk]; rfl
    refine ⟨_, smP_mk (a' := (nxT ts p).pos) (f' := herI ts p) (t' := behI ts (p + 1)) smL_nil, ?_⟩
    rw [hnb]
    unfold va1P
    rw [hk, hn _ hk hh.one.2]
    rfl
  | @text x a f t hx hp =>
    refine ex_one (wr_text _ _ _ _ _) (fun ts p hh => ⟨hh.pl hp (by decide), hh.pl hp (by decide), hh.pl hp (by decide)⟩) fun ts p hh => ?_
    have hk : (nxT ts p).kind = 3 := hh.one.1
    have hnb : namB ts p = false := by unfold namB; rw [hk]; rfl
    refine ⟨_, smP_mk (a' := (nxT ts p).pos) (f' := herI ts p) (t' := behI ts (p + 1)) smL_nil, ?_⟩
    rw [hnb]
    unfold va1P
    rw [hk, hx _ hk hh.one.2]
    rfl
  | @bool x a f t hx =>
    have hp : plF x := by
      rcases hx with rfl | rfl
      · exact ⟨116, [114, 117, 101], rfl, by decide⟩
      · exact ⟨102, [97, 108, 115, 101], rfl, by decide⟩
    refine ex_one (wr_bool _ _ _ _ _) (fun ts p hh => ⟨hh.pl hp (by decide), hh.pl hp (by decide), hh.pl hp (by decide)⟩) fun ts p hh => ?_
    have hk : (nxT ts p).kind = 1 := hh.one.1
    have htx : (nxT ts p).text = x := hh.one.2
    have hkp : kepB x = true := by rcases hx with rfl | rfl <;> decide
    have hnb : namB ts p = false := by unfold namB; rw [htx, hkp]; simp
    have hio : (isT ts p [116, 114, 117, 101] || isT ts p [102, 97, 108, 115, 101]) = true := by
      unfold isT
      rw [htx]
      rcases hx with rfl | rfl <;> decide
    refine ⟨_, smP_mk (a' := (nxT ts p).pos) (f' := herI ts p) (t' := behI ts (p + 1)) smL_nil, ?_⟩
    rw [hnb]
    unfold va1P
    rw [hk, hio]
    unfold leaP
    rw [htx]
    rfl
  | @name x a f t hk hp =>
    refine ex_one (wr_name _ _ _ _ _) (fun ts p hh => ⟨hh.pl hp (by decide), hh.pl hp (by decide), hh.pl hp (by decide)⟩) fun ts p hh => ?_
    have hk1 : (nxT ts p).kind = 1 := hh.one.1
    have htx : (nxT ts p).text = x := hh.one.2
    have hnb : namB ts p = true := by unfold namB; rw [htx, hk, hk1]; rfl
    refine ⟨_, smP_mk (a' := (nxT ts p).pos) (f' := herI ts p) (t' := behI ts (p + 1)) smL_nil, ?_⟩
    rw [hnb]
    unfold leaP
    rw [htx]
    rfl
  | @dot x a f t e hk hp he ih =>
    have io := ope_it (k := 24) (x := x) (i := 0) ih
    have h6 : 6 ≤ opeL 24 x e 0 := ope_six (by decide) (by decide)
    have hlv : lev (.mk 24 x 0 a f t [e]) = 6 := rfl
    rw [hlv, wr_dot]
    refine it_post (Nat.le_refl _) (fun ts p hh => ?_) fun ts p hh => io.c0 h6 ts p hh.left
    obtain ⟨e', h1, h2⟩ := io.c1 h6 ts p hh.left
    have hd := hh.right
    have hn := hd.tail
    have hk1 : (nxT ts (p + (opeT 24 x e 0).length + 1)).kind = 1 := hn.one.1
    have htx : (nxT ts (p + (opeT 24 x e 0).length + 1)).text = x := hn.one.2
    have hnb : namB ts (p + (opeT 24 x e 0).length + 1) = true := by unfold namB; rw [htx, hk, hk1]; rfl
    refine ⟨.mk 24 (nxT ts (p + (opeT 24 x e 0).length + 1)).text 0 (nxT ts (p + (opeT 24 x e 0).length + 1)).pos (herI ts p) (behI ts (p + (opeT 24 x e 0).length + 1 + 1)) [e'], by rw [htx]; exact smP_mk (smL_one h1), fun r hr => h2 r (ev_succ ?_)⟩
    refine ev_pos (Hs.is (k := 4) hd) (ev_need hnb ?_)
    rw [show p + (opeT 24 x e 0 ++ [sgT [46], tkW 1 x]).length = p + (opeT 24 x e 0).length + 1 + 1 by simp; omega] at hr
    exact hr
  | @call a f t e l he hl ih ihl =>
    have io := ope_it (k := 25) (x := ⟨#[]⟩) (i := 0) ih
    have h6 : 6 ≤ opeL 25 ⟨#[]⟩ e 0 := ope_six (by decide) (by decide)
    have hlv : lev (.mk 25 ⟨#[]⟩ 0 a f t (e :: l)) = 6 := rfl
    rw [hlv, wr_call]
    refine it_post (Nat.le_refl _) (fun ts p hh => ?_) fun ts p hh => io.c0 h6 ts p hh.left
    obtain ⟨e', h1, h2⟩ := io.c1 h6 ts p hh.left
    have hb := hh.right
    have hb1 : Hs ts (p + (opeT 25 ⟨#[]⟩ e 0).length) (tkW 4 (strU [40]) :: (wPar [44] (l.map wrP) ++ [sgT [41]])) := by simpa [wBrk, sgT] using hb
    obtain ⟨l', h3, h4⟩ := lis_ev l ihl (fun u hu ts p r hs => by
      obtain ⟨a, r', e1, e2⟩ := ex_fst (hl u hu)
      rw [e1] at hs
      unfold isT
      rw [hs.one.2]
      exact fst_not e2 (by decide) (by decide) (by decide) (by decide)) ts _ hb
    refine ⟨.mk 25 ⟨#[]⟩ 0 (herI ts p) (herI ts p) (behI ts (p + (opeT 25 ⟨#[]⟩ e 0).length + (wBrk (l.map wrP)).length)) ([e'] ++ l'), smP_mk (smL_cons h1 h3), fun r hr => h2 r (ev_succ ?_)⟩
    refine ev_neg (by rw [hb1.not (by decide)]; simp) (ev_pos hb1.is (ev_bind h4 ?_))
    rw [List.length_append, ← Nat.add_assoc] at hr
    exact hr
  | @una x a f t e hx he ih =>
    have io := ope_it (k := 26) (x := x) (i := 0) ih
    have h5 : 5 ≤ opeL 26 x e 0 := ope_una
    have hlv : lev (.mk 26 x 0 a f t [e]) = 5 := rfl
    rw [hlv, wr_una]
    refine it_una (Nat.le_refl _) (fun ts p hh hs => ?_) (fun h => by omega) (fun h => by omega)
    have hlen : p + (tkW 4 x :: opeT 26 x e 0).length = p + 1 + (opeT 26 x e 0).length := by simp; omega
    rw [hlen] at hs ⊢
    obtain ⟨e', h1, h2⟩ := io.c2 h5 ts (p + 1) hh.tail hs
    have htx : (nxT ts p).text = x := hh.one.2
    have hio : (isT ts p [45] || isT ts p [33]) = true := by
      unfold isT
      rw [htx]
      rcases hx with rfl | rfl <;> decide
    refine ⟨.mk 26 (nxT ts p).text 0 (nxT ts p).pos (herI ts p) (behI ts (p + 1 + (opeT 26 x e 0).length)) [e'], by rw [htx]; exact smP_mk (smL_one h1), ev_succ ?_⟩
    exact ev_pos hio (ev_bind h2 (ev_const _))
  | @bin x a f t u v hx hu hv ihu ihv =>
    have iu := ope_it (k := 27) (x := x) (i := 0) ihu
    have iv := ope_it (k := 27) (x := x) (i := 1) ihv
    obtain ⟨g1, g2⟩ := ope_left (u := u) hx
    have g3 := ope_right (u := v) hx
    have h4 := row_le x
    obtain ⟨k, hk⟩ : ∃ k : Nat, rowI x = k := ⟨(rowI x).toNat, by omega⟩
    have hkn : (rowI x).toNat = k := by omega
    have hlv : lev (.mk 27 x 0 a f t [u, v]) = k := by show (rowI x).toNat = k; exact hkn
    rw [hkn] at g1 g2 g3
    rw [hlv, wr_bin]
    have key : ∀ ts p, Hs ts p (opeT 27 x u 0 ++ tkW 4 x :: opeT 27 x v 1) → stp ts (p + (opeT 27 x u 0 ++ tkW 4 x :: opeT 27 x v 1).length) → rowI (nxT ts (p + (opeT 27 x u 0 ++ tkW 4 x :: opeT 27 x v 1).length)).text ≤ (k : Int) →
        ∃ e', smP (.mk 27 x 0 a f t [u, v]) e' ∧ ∀ r, Ev (fun m => if k = 2 then .ok e' (p + (opeT 27 x u 0 ++ tkW 4 x :: opeT 27 x v 1).length) else (fns ts m).binL k (herI ts p) e' (p + (opeT 27 x u 0 ++ tkW 4 x :: opeT 27 x v 1).length)) r → Ev (fun m => (fns ts m).bin k p) r := fun ts p hh hs hr => by
      have hlen : p + (opeT 27 x u 0 ++ tkW 4 x :: opeT 27 x v 1).length = p + (opeT 27 x u 0).length + 1 + (opeT 27 x v 1).length := by simp; omega
      rw [hlen] at hs hr ⊢
      have ho := hh.right
      have htx : (nxT ts (p + (opeT 27 x u 0).length)).text = x := ho.one.2
      obtain ⟨u', a1, a2⟩ := iu.c3 k (by omega) g1 g2 ts p hh.left (row_stp (by rw [htx]; exact hx)) (by rw [htx]; omega)
      obtain ⟨v', b1, b2⟩ := iv.c4 (k + 1) (by omega) g3 ts _ ho.tail hs (by omega)
      refine ⟨.mk 27 (nxT ts (p + (opeT 27 x u 0).length)).text 0 (nxT ts (p + (opeT 27 x u 0).length)).pos (herI ts p) (behI ts (p + (opeT 27 x u 0).length + 1 + (opeT 27 x v 1).length)) [u', v'], by rw [htx]; exact smP_mk (smL_cons a1 (smL_one b1)), fun r hr => a2 r (ev_succ ?_)⟩
      exact ev_pos (by rw [htx, hk]) (ev_bind b2 hr)
    refine it_bin (by omega) (fun hk2 ts p hh hs hr => ?_) fun hk2 ts p hh hs hr => ?_
    · obtain ⟨e', a1, a2⟩ := key ts p hh hs hr
      exact ⟨e', a1, fun r hr' => a2 r (ev_neg hk2 hr')⟩
    · subst hk2
      obtain ⟨e', a1, a2⟩ := key ts p hh hs (by omega)
      exact ⟨e', a1, a2 _ (ev_pos rfl (ev_const _))⟩
end Go.Proofs.YtbadafkfjfbnlaaGreatDoor

namespace Go.Proofs.YtbadafkfjfbnlaaGreatDoor
set_option maxRecDepth 100000
open Go.RowKit

section
variable {w0 w : World} {g : Nat} {nv v : Value} {out : List Tok}
set_option maxRecDepth 100000 in
set_option maxHeartbeats 2000000 in
theorem put_any (k : Int) (b cap : Nat) (xs : List ByteArray) (h : Wr w0 g nv w v out) (hx : w.heap[b]? = some (.cells (xs.map Value.string).toArray 9 (0, 0))) (hbg : b ≠ g) (hl : out.length + xs.length ≤ 900000) (hs : xs.length ≤ 1000) :
    Calls Tryz.prog 121 #[.pointer (some ⟨g, 0, none⟩), .int .i64 k, .slice (some ⟨b, 0, none⟩) xs.length cap] w fun e w' => e = .returned (.tuple #[]) ∧ Wp w0 g nv w v (out ++ xs.map (tkW k)) w' := by
  have HW : Hid (Wr w0 g nv w v out) := h
  have HX : Hid (w.heap[b]? = some (.cells (xs.map Value.string).toArray 9 (0, 0))) := hx
  clear h hx
  go_enter Tryz.func121, Tryz.ntmps121
  go_wp2
  go_loopw [10] (fun i wr => ∃ t : Nat, t ≤ xs.length ∧ i = .int .i64 t ∧ Wp w0 g nv w v (out ++ (xs.take t).map (tkW k)) wr) (fun i _ => xs.length - (intOf i).toNat)
  case atStart => exact ⟨0, Nat.zero_le _, rfl, by simpa using Wp.start HW.out⟩
  case round =>
    obtain ⟨t, ht, rfl, v1, h1, o1, q1⟩ := hrel
    have HP : Hid (Wp w0 g nv w v (out ++ (xs.take t).map (tkW k)) wr) := ⟨v1, h1, o1, q1⟩
    by_cases hlt : t < xs.length
    · have hd : decide ((t : Int) < xs.length) = true := by simp; omega
      obtain ⟨x, hx⟩ : ∃ x, xs[t]? = some x := ⟨_, List.getElem?_eq_getElem hlt⟩
      have rb := Wp.row HW.out o1 HX.out hbg (by decide)
      have kb : wr.cell? ⟨b, t, none⟩ = some (.string x) := by
        rw [cell_of_row _ _ _ _ _ _ rb, List.getElem?_toArray, List.getElem?_map, hx]
        rfl
      have hln : (out ++ (xs.take t).map (tkW k)).length = out.length + t := by simp; omega
      obtain ⟨s0, c0, s1, c1, W, rfl, ca, fa, hrun, cb, fb, h2, o2, q2⟩ := h1.one (tkW k x) (by omega)
      have HTK : Hid (xs.take (t + 1) = xs.take t ++ [x]) := by
        show _ = _
        rw [List.take_add_one, hx]
        rfl
      have HN : Hid (Wp w0 g nv w v (out ++ (xs.take (t + 1)).map (tkW k)) (W.setCell ⟨g, 1, none⟩ (.slice s1 ((out ++ (xs.take t).map (tkW k)).length + 1) c1))) := by
        refine Wp.trans o1 q1 ⟨_, ?_, o2, q2⟩
        rw [HTK.out, List.map_append, ← List.append_assoc]
        exact h2
      have ltg := h1.lt
      have ltb : b < wr.heap.size := lt_of_row rb
      rw [hln] at hrun ca cb HN
      clear h1 o1 q1 h2 o2 q2 hx rb HP hln
      have hcell : (tkW k x).cells = #[.int .i64 k, .string x, .int .i64 0] := rfl
      rw [hcell] at hrun
      go_wp2_with (at_builtin; refine list_appendg (.tmp 18) (.tmp 22) 32 (by rfl) (by rfl) (by rfl) (by rfl) hrun ?_)
      exact ⟨⟨t + 1, by omega, by go_num, HN.out⟩, by simp [intOf]; omega⟩
    · have hd : decide ((t : Int) < xs.length) = false := by simp; omega
      clear h1 o1 q1
      go_wp2
      go_end0
      refine ⟨rfl, ?_⟩
      have := HP.out
      rw [List.take_of_length_le (by omega)] at this
      exact this
set_option maxRecDepth 100000 in
set_option maxHeartbeats 1000000 in
theorem wwords_any (b cap : Nat) (xs : List ByteArray) (h : Wr w0 g nv w v out) (hx : w.heap[b]? = some (.cells (xs.map Value.string).toArray 9 (0, 0))) (hbg : b ≠ g) (hl : out.length + xs.length ≤ 900000) (hs : xs.length ≤ 1000) :
    Calls Tryz.prog 86 #[.pointer (some ⟨g, 0, none⟩), .slice (some ⟨b, 0, none⟩) xs.length cap] w fun e w' => e = .returned (.tuple #[]) ∧ Wp w0 g nv w v (out ++ xs.map (tkW 1)) w' := by
  have HC := put_any 1 b cap xs h hx hbg hl hs
  go_enter Tryz.func86, Tryz.ntmps86
  go_wp2_with fail
  refine HC.mono ?_
  rintro e W ⟨rfl, hp⟩
  have HP : Hid _ := hp
  clear hp HC
  go_wp2
  go_end0
  exact ⟨rfl, HP.out⟩
/-- Words that are handed in one by one. -/
theorem words_lit (xs : List ByteArray) (h : Wr w0 g nv w v out) (hl : out.length + xs.length ≤ 900000) (hs : xs.length ≤ 1000) :
    Calls Tryz.prog 86 #[.pointer (some ⟨g, 0, none⟩), .slice (some ⟨w.heap.size, 0, none⟩) xs.length xs.length] (w.alloc (.cells (xs.map Value.string).toArray 9)) fun e w' => e = .returned (.tuple #[]) ∧ Wp w0 g nv w v (out ++ xs.map (tkW 1)) w' := by
  have hb : Below w.heap.size w (w.alloc (.cells (xs.map Value.string).toArray 9)) := (Below.refl _ _).alloc (Nat.le_refl _) _
  refine (wwords_any w.heap.size xs.length xs (h.low hb) (heap_alloc_new _ _) (by have := h.lt; omega) hl hs).mono ?_
  rintro e W ⟨rfl, hp⟩
  exact ⟨rfl, Wp.pre hb hp⟩
/-- One token of a kind is put. -/
theorem put_one (k : Int) (x : ByteArray) (h : Wr w0 g nv w v out) (hl : out.length + 1 ≤ 900000) :
    Calls Tryz.prog 121 #[.pointer (some ⟨g, 0, none⟩), .int .i64 k, .slice (some ⟨w.heap.size, 0, none⟩) 1 1] (w.alloc (.cells #[.string x] 9)) fun e w' => e = .returned (.tuple #[]) ∧ Wp w0 g nv w v (out ++ [tkW k x]) w' := by
  have hb : Below w.heap.size w (w.alloc (.cells #[.string x] 9)) := (Below.refl _ _).alloc (Nat.le_refl _) _
  refine (put_any k w.heap.size 1 [x] (h.low hb) (heap_alloc_new _ _) (by have := h.lt; omega) hl (by simp)).mono ?_
  rintro e W ⟨rfl, hp⟩
  exact ⟨rfl, Wp.pre hb hp⟩
set_option maxRecDepth 100000 in
set_option maxHeartbeats 1000000 in
theorem wsign_any (x : ByteArray) (h : Wr w0 g nv w v out) (hl : out.length + 1 ≤ 900000) : Calls Tryz.prog 90 #[.pointer (some ⟨g, 0, none⟩), .string x] w fun e w' => e = .returned (.tuple #[]) ∧ Wp w0 g nv w v (out ++ [tkW 4 x]) w' := by
  have HC := put_one 4 x h hl
  go_enter Tryz.func90, Tryz.ntmps90
  go_wp2_with fail
  refine HC.mono ?_
  rintro e W ⟨rfl, hp⟩
  have HP : Hid _ := hp
  clear hp HC
  go_wp2
  go_end0
  exact ⟨rfl, HP.out⟩
set_option maxRecDepth 100000 in
set_option maxHeartbeats 1000000 in
theorem wend_any (h : Wr w0 g nv w v out) (hl : out.length + 1 ≤ 900000) : Calls Tryz.prog 87 #[.pointer (some ⟨g, 0, none⟩)] w fun e w' => e = .returned (.tuple #[]) ∧ Wp w0 g nv w v (out ++ [enT]) w' := by
  have HC := put_one 5 ⟨#[59]⟩ h hl
  go_enter Tryz.func87, Tryz.ntmps87
  go_wp2_with fail
  refine HC.mono ?_
  rintro e W ⟨rfl, hp⟩
  have HP : Hid _ := hp
  clear hp HC
  go_wp2
  go_end0
  exact ⟨rfl, HP.out⟩
set_option maxRecDepth 100000 in
set_option maxHeartbeats 1000000 in
theorem wtext_any (x : ByteArray) (h : Wr w0 g nv w v out) (hl : out.length + 1 ≤ 900000) (hx : x.size ≤ 100000) : Calls Tryz.prog 89 #[.pointer (some ⟨g, 0, none⟩), .string x] w fun e w' => e = .returned (.tuple #[]) ∧ Wp w0 g nv w v (out ++ [tkW 3 (quoT x)]) w' := by
  have HW : Hid (Wr w0 g nv w v out) := h
  clear h
  have hqv : ∃ er, strV (quoO x.data.toList) 2 = .tuple #[.string (quoT x), .int .i64 er] := by
    unfold strV quoT
    cases quoO x.data.toList with
    | none => exact ⟨_, rfl⟩
    | some q => exact ⟨_, rfl⟩
  obtain ⟨er, hqv⟩ := hqv
  go_enter Tryz.func89, Tryz.ntmps89
  go_wp2_with fail
  refine (quote_any x w hx).mono ?_
  rintro e W ⟨rfl, hb⟩
  rw [hqv]
  have HC := put_one 3 (quoT x) (HW.out.low hb) hl
  have HB : Hid _ := hb
  clear hb hqv
  go_wp2_with fail
  refine HC.mono ?_
  rintro e W ⟨rfl, hp⟩
  have HP : Hid _ := Wp.pre HB.out hp
  clear hp HC
  go_wp2
  go_end0
  exact ⟨rfl, HP.out⟩
end
end Go.Proofs.YtbadafkfjfbnlaaGreatDoor
