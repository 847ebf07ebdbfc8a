/- The contract of written: of a tree that was read. -/
/- Trees that are the same but for places are laid as the same nodes. -/
/- Types that were written are read as they were. -/
/- Parameters, fields, receivers and imports that were written are read as they were. -/
/- Constants that were written are read as they were. -/
/- Lists of parameters and fields that were written are read as they were. -/
/- No token of an expression is the sign of a short declaration. -/
/- Plain statements that were written are read as they were. -/
/- Returns and variables that were written are read as they were. -/
/- Statements that were written are read as they were. -/
/- Branches that were written are read as they were. -/
/- What numbers and quoted texts begin with. No function of the program is walked here. -/
/- Statements that were written are read as they were: all of them. No function of the program is walked here. -/
import Derived.Test.YtbadafkfjfbnlaaGreatDoorMrgP
import Derived.Test.YtbadafkfjfbnlaaGreatDoorMrgM
namespace Go.Proofs.YtbadafkfjfbnlaaGreatDoor
set_option maxRecDepth 100000
open Go.RowKit

/-- What is known of a tree that can be written and read again. -/
structure TrW (t : Pt) : Prop where
  n : cntP t ≤ 2048
  d : dpF (fun _ => 0) 0 0 (layP 0 t) ≤ 24
  g : GdP t
  a : (wrP t).any wrA = false
  s : ∀ u ∈ wrP t, -1000000000000000000 ≤ u.pos ∧ u.pos ≤ 1000000000000000000 ∧ u.text.size ≤ 100000
  f : ∃ t' p, filO (wrP t) = .ok t' p ∧ eqAll ndEq (layP 0 t') (layP 0 t) = true
theorem EnW.low {w W : World} {nv : Value} {L : List Nd} (h : EnW w nv L) (hb : Below w.heap.size w W) : EnW W nv L := by
  obtain ⟨s, c, N, S, h1, h2, h3⟩ := h.x
  refine ⟨⟨s, c, N, S, h1, h2.below hb, h3.1, fun i m d e1 e2 => ?_⟩, tabl_agree hb.block h.t, h.l⟩
  obtain ⟨a, b, c, e, f⟩ := h3.2 i m d e1 e2
  exact ⟨a, b, c.below hb, e, f⟩
set_option maxRecDepth 100000 in
set_option maxHeartbeats 400000 in
theorem written_any {w : World} {sn : Option Addr} {cn : Nat} {t : Pt} (hP : TabP w) (hE : EnW w (.slice sn (layP 0 t).length cn) (layP 0 t)) (hT : TrW t) :
    Calls Tryz.prog 23 #[.agg #[.slice sn (layP 0 t).length cn]] w fun e w' => ∃ v', e = .returned (.tuple #[v', .int .i64 0]) ∧ OwnT w.heap.size w' v' (wrP t) ∧ Below w.heap.size w w' := by
  have HORD : Hid (∀ W, Below w.heap.size w W → Calls Tryz.prog 41 #[.agg #[.slice sn (layP 0 t).length cn]] W fun e w' => e = .returned (.bool true) ∧ Below W.heap.size W w') := fun W hb => ordered_any t (hE.low hb)
  have hbd := lay_bnd t 0
  have hlc := lay_cnt t 0
  have HKD : Hid (∀ d ∈ layP 0 t, d.kids.length ≤ 1000000) := fun d hd => by have := (hbd d hd).2; have := hT.n; omega
  have HDEP : Hid (∀ W, Below w.heap.size w W → Calls Tryz.prog 40 #[.agg #[.slice sn (layP 0 t).length cn]] W fun e w' => e = .returned (.int .i64 (dpF (fun _ => 0) 0 0 (layP 0 t))) ∧ Below W.heap.size W w') := fun W hb => by
    obtain ⟨s, c, N, S, h1, h2, h3⟩ := (hE.low hb).x
    injection h1 with e1 _ e2
    subst e1 e2
    exact deepest_any W sn cn N S (layP 0 t) h2 h3 (by have := hT.n; omega) fun d hd => ⟨fun k hk => by have := (hbd d hd).1 k hk; omega, by have := (hbd d hd).2; have := hT.n; omega⟩
  have HWRI : Hid (∀ W, Below w.heap.size w W → Calls Tryz.prog 42 #[.agg #[.slice sn (layP 0 t).length cn]] W fun e w' => ∃ v', e = .returned v' ∧ OwnT W.heap.size w' v' (wrP t) ∧ Below W.heap.size W w') := fun W hb => write_any t (hP.low hb) (hE.low hb) hT.g (by have := hT.n; omega)
  have HTB : Hid (∀ W, Below w.heap.size w W → Tabl W) := fun W hb => (hE.low hb).t
  have HE : Hid (∀ W, Below w.heap.size w W → ∃ N S, RowsAt W 7 NdM.cells sn N ∧ Rep W S N (layP 0 t)) := fun W hb => by
    obtain ⟨s, c, N, S, h1, h2, h3⟩ := (hE.low hb).x
    injection h1 with e1 _ e2
    subst e1 e2
    exact ⟨N, S, h2, h3⟩
  have HT : Hid (TrW t) := hT
  have hn := hT.n
  have hwl := wr_len t
  have hdd := hT.d
  rw [← hlc] at hn
  clear hP hE hT hbd
  generalize hnl : (layP 0 t).length = nl at *
  generalize hdp : dpF (fun _ => 0) 0 0 (layP 0 t) = dp at *
  have hd1 : decide (2048 < nl) = false := by simp; omega
  have hd2 : decide (24 < dp) = false := by simp; omega
  have HNL : Hid _ := hnl
  have HWL : Hid _ := hwl
  have HLC : Hid _ := hlc
  clear hnl hdp hwl hlc hdd
  go_enter Tryz.func23, Tryz.ntmps23
  go_wp2_with fail
  have r0 := heap_alloc_new w (.cells #[.slice sn nl cn] 25)
  have b0 : Below w.heap.size w (w.alloc (.cells #[.slice sn nl cn] 25)) := (Below.refl _ _).alloc (Nat.le_refl _) _
  refine (HORD.out _ b0).mono ?_
  rintro e W1 ⟨rfl, b1⟩
  have B1 : Hid (Below w.heap.size w W1) := b0.trans (b1.mono b0.size)
  have R1 : Hid (W1.heap[w.heap.size]? = some (.cells #[.slice sn nl cn] 25 (0, 0))) := (b1.block _ (lt_of_row r0)).trans r0
  have c1 : W1.cell? ⟨w.heap.size, 0, none⟩ = some (.slice sn nl cn) := (cell_of_row _ _ 0 _ _ _ R1.out).trans rfl
  clear r0 b0 b1
  go_wp2_with fail
  refine (HDEP.out _ B1.out).mono ?_
  rintro e W2 ⟨rfl, b2⟩
  have B2 : Hid (Below w.heap.size w W2) := B1.out.trans (b2.mono B1.out.size)
  have R2 : Hid (W2.heap[w.heap.size]? = some (.cells #[.slice sn nl cn] 25 (0, 0))) := (b2.block _ (lt_of_row R1.out)).trans R1.out
  have c2 : W2.cell? ⟨w.heap.size, 0, none⟩ = some (.slice sn nl cn) := (cell_of_row _ _ 0 _ _ _ R2.out).trans rfl
  clear b2 c1 B1 R1
  go_wp2_with fail
  refine (HWRI.out _ B2.out).mono ?_
  rintro e W3 ⟨v3, rfl, o3, b3⟩
  have B3 : Hid (Below w.heap.size w W3) := B2.out.trans (b3.mono B2.out.size)
  have R3 : Hid (W3.heap[w.heap.size]? = some (.cells #[.slice sn nl cn] 25 (0, 0))) := (b3.block _ (lt_of_row R2.out)).trans R2.out
  have O3 : Hid (OwnT w.heap.size W3 v3 (wrP t)) := o3.mono B2.out.size
  obtain ⟨sp, cp, rfl, hrows, -, -, -⟩ := OwnG.rows elT O3.out
  have HRO : Hid (RowsT W3 sp (wrP t)) := hrows
  have HWN : Hid ((wrP t).length ≤ 100000) := by have := HWL.out; have := HLC.out; show _ ≤ _; omega
  clear b3 c2 B2 R2 o3 hrows
  go_wp2_with fail
  refine (containsW_any sp cp (wrP t) W3 HRO.out (by have := HWN.out; omega)).mono ?_
  rintro e W4 ⟨rfl, b4⟩
  rw [HT.out.a]
  have B4 : Hid (Below w.heap.size w W4) := B3.out.trans (b4.mono B3.out.size)
  have R4 : Hid (W4.heap[w.heap.size]? = some (.cells #[.slice sn nl cn] 25 (0, 0))) := (b4.block _ (lt_of_row R3.out)).trans R3.out
  have O4 : Hid (OwnT w.heap.size W4 (.slice sp (wrP t).length cp) (wrP t)) := O3.out.below b4
  have HR4 : Hid (RowsT W4 sp (wrP t)) := HRO.out.below b4
  clear b4 B3 R3 O3 HRO
  go_wp2_with fail
  refine (read_any W4 sp cp (wrP t) HWN.out HT.out.s (fun W h => ⟨rows_agree h HR4.out, tabl_agree h (HTB.out W4 B4.out)⟩)).mono ?_
  rintro e W5 ⟨b5, hrd⟩
  obtain ⟨t', p, hf, heq⟩ := HT.out.f
  rw [hf] at hrd
  obtain ⟨hcn, v5, rfl, ht5⟩ := hrd
  have B5 : Hid (Below w.heap.size w W5) := B4.out.trans (b5.mono B4.out.size)
  have R5 : Hid (W5.heap[w.heap.size]? = some (.cells #[.slice sn nl cn] 25 (0, 0))) := (b5.block _ (lt_of_row R4.out)).trans R4.out
  have O5 : Hid (OwnT w.heap.size W5 (.slice sp (wrP t).length cp) (wrP t)) := O4.out.below b5
  have HT5 : Hid (TrAt W4.heap.size W5 v5 (layP 0 t')) := ht5
  have HEQ : Hid (eqAll ndEq (layP 0 t') (layP 0 t) = true) := heq
  have HCN : Hid (cntP t' ≤ 400000) := hcn
  clear b5 B4 R4 O4 HR4 hf heq ht5 hcn
  have c5 : W5.cell? ⟨w.heap.size, 0, none⟩ = some (.slice sn nl cn) := (cell_of_row _ _ 0 _ _ _ R5.out).trans rfl
  obtain ⟨s5, k5, hv5⟩ : ∃ s5 k5, v5 = .slice s5 (layP 0 t').length k5 := by
    obtain ⟨N, S, h1, h2, -⟩ := HT5.out
    obtain ⟨s, c, e⟩ := OwnG.shape h1
    exact ⟨s, c, by rw [e, h2.1]⟩
  subst hv5
  have hbA : Below W5.heap.size W5 ((W5.alloc (.cells #[.slice s5 (layP 0 t').length k5] 25)).alloc (.cells #[.int .i64 0, .int .i64 0] 28)) := ((Below.refl _ _).alloc (Nat.le_refl _) _).alloc (by simp) _
  have cA : ((W5.alloc (.cells #[.slice s5 (layP 0 t').length k5] 25)).alloc (.cells #[.int .i64 0, .int .i64 0] 28)).cell? ⟨w.heap.size, 0, none⟩ = some (.slice sn nl cn) := (cell_of_row _ _ 0 _ _ _ ((hbA.block _ (lt_of_row R5.out)).trans R5.out)).trans rfl
  have HBA : Hid _ := hbA
  clear hbA
  go_wp2_with fail
  have hbw := B5.out.trans (HBA.out.mono B5.out.size)
  obtain ⟨M, T, hM, hMR⟩ := HE.out _ hbw
  obtain ⟨N, S, hO, hNR, hS5⟩ := HT5.out.below HBA.out
  obtain ⟨s6, k6, hs6, hrows6, -, -, -⟩ := OwnG.rows elN hO
  injection hs6 with e1 _ e2
  subst e1 e2
  have HSA := tsame_any s5 sn k5 cn N M S T (layP 0 t') (layP 0 t) _ hrows6 hNR hM hMR (by rw [lay_cnt]; have := HCN.out; omega) (by rw [HNL.out]; omega) (fun d hd => by have := (lay_bnd t' 0 d hd).2; have := HCN.out; omega) HKD.out
  rw [HNL.out] at HSA
  have O6 : Hid _ := O5.out.below HBA.out
  have HBW : Hid _ := hbw
  clear hbw hM hMR hO hNR hS5 hrows6 cA c5
  refine HSA.mono ?_
  rintro e W6 ⟨rfl, b6⟩
  rw [HEQ.out]
  have B6 : Hid (Below w.heap.size w W6) := HBW.out.trans (b6.mono HBW.out.size)
  have O7 : Hid (OwnT w.heap.size W6 (.slice sp (wrP t).length cp) (wrP t)) := OwnG.below O6.out b6
  clear b6 O6 HBW HSA HBA
  go_wp2
  go_ret2
  exact ⟨_, rfl, O7.out, B6.out⟩
set_option maxRecDepth 100000 in
set_option maxHeartbeats 1000000 in
theorem tokens_any {w : World} {sn : Option Addr} {cn : Nat} {t : Pt} (hP : TabP w) (hE : EnW w (.slice sn (layP 0 t).length cn) (layP 0 t)) (hT : TrW t) (hl : (wrP t).length ≤ 1024) :
    Calls Tryz.prog 10 #[.agg #[.slice sn (layP 0 t).length cn]] w fun e w' => ∃ v', e = .returned (.tuple #[v', .int .i64 0]) ∧ OwnT w.heap.size w' v' (wrP t) ∧ Below w.heap.size w w' := by
  have HC : Hid (∀ W, Below w.heap.size w W → Calls Tryz.prog 23 #[.agg #[.slice sn (layP 0 t).length cn]] W fun e w' => ∃ v', e = .returned (.tuple #[v', .int .i64 0]) ∧ OwnT W.heap.size w' v' (wrP t) ∧ Below W.heap.size W w') := fun W hb => written_any (hP.low hb) (hE.low hb) hT
  clear hP hE hT
  generalize (layP 0 t).length = nl at *
  have hd : decide (1024 < (wrP t).length) = false := by simp; omega
  have HO : Hid (∀ (B : Nat) (W : World) (v : Value), OwnT B W v (wrP t) → ∃ sp cap, v = .slice sp (wrP t).length cap) := fun B W v h => OwnG.shape h
  generalize hwl : (wrP t).length = wl at *
  clear hwl
  go_enter Tryz.func10, Tryz.ntmps10
  go_wp2_with fail
  have b0 : Below w.heap.size w (w.alloc (.cells #[.slice sn nl cn] 25)) := (Below.refl _ _).alloc (Nat.le_refl _) _
  refine (HC.out _ b0).mono ?_
  rintro e W ⟨v', rfl, ho, hb⟩
  obtain ⟨sp, cap, hv⟩ := HO.out _ _ _ ho
  subst hv
  have HB : Hid (Below w.heap.size w W) := b0.trans (hb.mono b0.size)
  have HOW : Hid (OwnT w.heap.size W (.slice sp wl cap) (wrP t)) := OwnG.mono ho b0.size
  clear ho hb b0
  go_wp2
  go_ret2
  exact ⟨_, rfl, HOW.out, HB.out⟩
end Go.Proofs.YtbadafkfjfbnlaaGreatDoor

namespace Go.Proofs.YtbadafkfjfbnlaaGreatDoor
set_option maxRecDepth 100000
open Go.RowKit

theorem eqAll_app {α : Type} {eq : α → α → Bool} : ∀ {a b c d : List α}, eqAll eq a b = true → eqAll eq c d = true → eqAll eq (a ++ c) (b ++ d) = true
  | [], [], _, _, _, h => h
  | [], _ :: _, _, _, h, _ => by simp [eqAll] at h
  | _ :: _, [], _, _, h, _ => by simp [eqAll] at h
  | x :: a, y :: b, c, d, h, h' => by
    rw [eqAll, Bool.and_eq_true] at h
    rw [List.cons_append, List.cons_append, eqAll, h.1, eqAll_app h.2 h']
    rfl
mutual
theorem sm_cnt : ∀ (t t' : Pt), smP t t' → cntP t = cntP t'
  | .mk k x n a f e l, .mk k' x' n' a' f' e' l', h => by
    unfold smP at h
    rw [cntP, cntP, sm_cntL l l' h.2.2.2]
theorem sm_cntL : ∀ (l l' : List Pt), smL l l' → cntL l = cntL l'
  | [], [], _ => rfl
  | [], _ :: _, h => by unfold smL smP.go at h; exact h.elim
  | _ :: _, [], h => by unfold smL smP.go at h; exact h.elim
  | t :: r, t' :: r', h => by
    unfold smL smP.go at h
    rw [cntL, cntL, sm_cnt t t' h.1, sm_cntL r r' h.2]
end
theorem sm_kid : ∀ (l l' : List Pt) (i : Nat), smL l l' → kidI i l = kidI i l'
  | [], [], _, _ => rfl
  | [], _ :: _, _, h => by unfold smL smP.go at h; exact h.elim
  | _ :: _, [], _, h => by unfold smL smP.go at h; exact h.elim
  | t :: r, t' :: r', i, h => by
    unfold smL smP.go at h
    rw [kidI, kidI, sm_cnt t t' h.1, sm_kid r r' _ h.2]
mutual
theorem sm_lay : ∀ (t t' : Pt) (i : Nat), smP t t' → eqAll ndEq (layP i t) (layP i t') = true
  | .mk k x n a f e l, .mk k' x' n' a' f' e' l', i, h => by
    unfold smP at h
    obtain ⟨rfl, rfl, rfl, hl⟩ := h
    rw [layP, layP, eqAll, sm_layL l l' (i + 1) hl, sm_kid l l' _ hl]
    simp [ndEq]
theorem sm_layL : ∀ (l l' : List Pt) (i : Nat), smL l l' → eqAll ndEq (layL i l) (layL i l') = true
  | [], [], _, _ => by rw [layL]; rfl
  | [], _ :: _, _, h => by unfold smL smP.go at h; exact h.elim
  | _ :: _, [], _, h => by unfold smL smP.go at h; exact h.elim
  | t :: r, t' :: r', i, h => by
    unfold smL smP.go at h
    rw [layL, layL, ← sm_cnt t t' h.1]
    exact eqAll_app (sm_lay t t' i h.1) (sm_layL r r' _ h.2)
end
end Go.Proofs.YtbadafkfjfbnlaaGreatDoor

namespace Go.Proofs.YtbadafkfjfbnlaaGreatDoor
set_option maxRecDepth 100000
open Go.RowKit

/-- The trees of types. -/
inductive Ty : Pt → Prop
  | basic {x : ByteArray} {a f t : Int} : (x = strU [105, 110, 116] ∨ x = strU [98, 111, 111, 108] ∨ x = strU [115, 116, 114, 105, 110, 103]) → Ty (.mk 10 x 0 a f t [])
  | named {x : ByteArray} {a f t : Int} : kepB x = false → plF x → Ty (.mk 11 x 0 a f t [])
  | far {x y : ByteArray} {a f t a' f' t' : Int} : kepB x = false → kepB y = false → plF y → Ty (.mk 12 x 0 a f t [.mk 23 y 0 a' f' t' []])
theorem wr_ten (x : ByteArray) (a f t : Int) : wrP (.mk 10 x 0 a f t []) = [tkW 1 x] := by rw [wrP, wrM]; rfl
theorem wr_eleven (x : ByteArray) (a f t : Int) : wrP (.mk 11 x 0 a f t []) = [tkW 1 x] := by rw [wrP, wrM]; rfl
theorem wr_twelve (x y : ByteArray) (a f t a' f' t' : Int) : wrP (.mk 12 x 0 a f t [.mk 23 y 0 a' f' t' []]) = [tkW 1 y, sgT [46], tkW 1 x] := by rw [wrP, wrM, wrM, wrP, wrM]; rfl
theorem nam_of {ts : List Tok} {p : Nat} {x : ByteArray} {r : List Tok} (h : Hs ts p (tkW 1 x :: r)) (hx : kepB x = false) : namB ts p = true := by
  have h1 : (nxT ts p).kind = 1 := h.one.1
  have h2 : (nxT ts p).text = x := h.one.2
  unfold namB
  rw [h1, h2, hx]
  rfl
theorem kep_not {ts : List Tok} {p : Nat} {x : ByteArray} {r : List Tok} (h : Hs ts p (tkW 1 x :: r)) (hx : kepB x = false) : (isT ts p [105, 110, 116] || isT ts p [98, 111, 111, 108] || isT ts p [115, 116, 114, 105, 110, 103]) = false := by
  have h2 : (nxT ts p).text = x := h.one.2
  unfold isT
  rw [h2]
  unfold kepB at hx
  simp only [Bool.or_eq_false_iff] at hx ⊢
  exact ⟨⟨hx.1.1.2, hx.1.2⟩, hx.2⟩
theorem ty_it {e : Pt} (h : Ty e) (ts : List Tok) (p : Nat) (hh : Hs ts p (wrP e)) (hd : isT ts (p + (wrP e).length) [46] = false) : ∃ e', smP e e' ∧ typP ts p = .ok e' (p + (wrP e).length) := by
  cases h with
  | @basic x a f t hx =>
    rw [wr_ten] at hh hd ⊢
    have htx : (nxT ts p).text = x := hh.one.2
    refine ⟨_, smP_mk (a' := (nxT ts p).pos) (f' := herI ts p) (t' := behI ts (p + 1)) smL_nil, ?_⟩
    have hio : (isT ts p [105, 110, 116] || isT ts p [98, 111, 111, 108] || isT ts p [115, 116, 114, 105, 110, 103]) = true := by
      unfold isT
      rw [htx]
      rcases hx with rfl | rfl | rfl <;> decide
    unfold typP
    rw [hio]
    unfold leaP
    rw [htx]
    rfl
  | @named x a f t hx _ =>
    rw [wr_eleven] at hh hd ⊢
    have htx : (nxT ts p).text = x := hh.one.2
    refine ⟨_, smP_mk (a' := (nxT ts p).pos) (f' := herI ts p) (t' := behI ts (p + 1)) smL_nil, ?_⟩
    have hd' : isT ts (p + 1) [46] = false := hd
    unfold typP
    rw [kep_not hh hx, hd']
    unfold worP leaP
    rw [nam_of hh hx, htx]
    rfl
  | @far x y a f t a' f' t' hx hy _ =>
    rw [wr_twelve] at hh hd ⊢
    have hty : (nxT ts p).text = y := hh.one.2
    have hh1 : Hs ts (p + 1) [sgT [46], tkW 1 x] := hh.tail
    have hh2 : Hs ts (p + 1 + 1) [tkW 1 x] := hh1.tail
    have htx : (nxT ts (p + 1 + 1)).text = x := hh2.one.2
    have h46 : isT ts (p + 1) [46] = true := hh1.is
    refine ⟨.mk 12 x 0 (nxT ts (p + 1 + 1)).pos (herI ts p) (behI ts (p + 1 + 1 + 1)) [.mk 23 y 0 (nxT ts p).pos (herI ts p) (behI ts (p + 1)) []], smP_mk (smL_one (smP_mk smL_nil)), ?_⟩
    unfold typP
    rw [kep_not hh hy, h46]
    unfold worP leaP expP namP
    rw [nam_of hh hy]
    simp only [Rs.need, Rs.bind, if_true, h46, nam_of hh2 hx, htx, hty]
    rfl
end Go.Proofs.YtbadafkfjfbnlaaGreatDoor

namespace Go.Proofs.YtbadafkfjfbnlaaGreatDoor
set_option maxRecDepth 100000
open Go.RowKit

theorem tyd_it {k a f t : Int} {x : ByteArray} {v : Pt} (hx : kepB x = false) (hv : Ty v) (ts : List Tok) (p : Nat) (hh : Hs ts p (tkW 1 x :: wrP v)) (hd : isT ts (p + 1 + (wrP v).length) [46] = false) : ∃ e', smP (.mk k x 0 a f t [v]) e' ∧ tydP ts k p = .ok e' (p + 1 + (wrP v).length) := by
  have htx : (nxT ts p).text = x := hh.one.2
  obtain ⟨v', h1, h2⟩ := ty_it hv ts (p + 1) hh.tail hd
  refine ⟨.mk k x 0 (nxT ts p).pos (herI ts p) (behI ts (p + 1 + (wrP v).length)) [v'], smP_mk (smL_one h1), ?_⟩
  unfold tydP namP
  simp only [nam_of hh hx, h2, htx, Rs.need, Rs.bind, if_true]
theorem rec_it {a f t a' f' t' : Int} {x y : ByteArray} (hx : kepB x = false) (hy : kepB y = false) (ts : List Tok) (p : Nat) (hh : Hs ts p [tkW 1 x, tkW 1 y]) : ∃ e', smP (.mk 8 x 0 a f t [.mk 11 y 0 a' f' t' []]) e' ∧ recP ts p = .ok e' (p + 1 + 1) := by
  have htx : (nxT ts p).text = x := hh.one.2
  have hty : (nxT ts (p + 1)).text = y := hh.tail.one.2
  refine ⟨.mk 8 x 0 (nxT ts p).pos (herI ts p) (behI ts (p + 1 + 1)) [.mk 11 y 0 (nxT ts (p + 1)).pos (herI ts (p + 1)) (behI ts (p + 1 + 1)) []], smP_mk (smL_one (smP_mk smL_nil)), ?_⟩
  unfold recP namP worP leaP
  simp only [nam_of hh hx, nam_of hh.tail hy, htx, hty, Rs.need, Rs.bind, if_true]
theorem imp_it {a f t : Int} {x : ByteArray} (hx : ∀ u : Tok, u.kind = 3 → u.text = quoT x → valT u = x) (ts : List Tok) (p : Nat) (hh : Hs ts p [wdT [105, 109, 112, 111, 114, 116], tkW 3 (quoT x)]) : ∃ e', smP (.mk 2 x 0 a f t []) e' ∧ impP ts p = .ok e' (p + 1 + 1) := by
  have hi : isT ts p [105, 109, 112, 111, 114, 116] = true := hh.is
  have hk : (nxT ts (p + 1)).kind = 3 := hh.tail.one.1
  have hq : (nxT ts (p + 1)).text = quoT x := hh.tail.one.2
  refine ⟨.mk 2 x 0 (nxT ts (p + 1)).pos (herI ts p) (behI ts (p + 1 + 1)) [], smP_mk smL_nil, ?_⟩
  unfold impP expP kinP
  simp only [hi, hk, hx _ hk hq, Rs.need, if_true, beq_self_eq_true]
/-- What a constant may be. -/
inductive Va : Pt → Prop
  | int {n a f t : Int} : (∀ u : Tok, u.kind = 2 → u.text = ⟨(Lib.itoa n).toArray⟩ → numT u = n) → plF ⟨(Lib.itoa n).toArray⟩ → Va (.mk 20 ⟨#[]⟩ n a f t [])
  | text {x : ByteArray} {a f t : Int} : (∀ u : Tok, u.kind = 3 → u.text = quoT x → valT u = x) → plF (quoT x) → Va (.mk 21 x 0 a f t [])
  | bool {x : ByteArray} {a f t : Int} : (x = strU [116, 114, 117, 101] ∨ x = strU [102, 97, 108, 115, 101]) → Va (.mk 22 x 0 a f t [])
theorem va1_it {e : Pt} (h : Va e) (ts : List Tok) (p : Nat) (hh : Hs ts p (wrP e)) : (wrP e).length = 1 ∧ isT ts p [45] = false ∧ ∃ e', smP e e' ∧ va1P ts p = .ok e' (p + 1) := by
  cases h with
  | @int n a f t hn hp =>
    rw [wr_int] at hh ⊢
    have hk : (nxT ts p).kind = 2 := hh.one.1
    refine ⟨rfl, hh.pl hp (by decide), .mk 20 ⟨#[]⟩ n (nxT ts p).pos (herI ts p) (behI ts (p + 1)) [], smP_mk smL_nil, ?_⟩
    unfold va1P
    rw [hk, hn _ hk hh.one.2]
    rfl
  | @text x a f t hx hp =>
    rw [wr_text] at hh ⊢
    have hk : (nxT ts p).kind = 3 := hh.one.1
    refine ⟨rfl, hh.pl hp (by decide), .mk 21 x 0 (nxT ts p).pos (herI ts p) (behI ts (p + 1)) [], smP_mk smL_nil, ?_⟩
    unfold va1P
    rw [hk, hx _ hk hh.one.2]
    rfl
  | @bool x a f t hx =>
    rw [wr_bool] at hh ⊢
    have hk : (nxT ts p).kind = 1 := hh.one.1
    have htx : (nxT ts p).text = x := hh.one.2
    have hp : plF x := by
      rcases hx with rfl | rfl
      · exact ⟨116, [114, 117, 101], rfl, by decide⟩
      · exact ⟨102, [97, 108, 115, 101], rfl, by decide⟩
    have hio : (isT ts p [116, 114, 117, 101] || isT ts p [102, 97, 108, 115, 101]) = true := by
      unfold isT
      rw [htx]
      rcases hx with rfl | rfl <;> decide
    refine ⟨rfl, hh.pl hp (by decide), .mk 22 x 0 (nxT ts p).pos (herI ts p) (behI ts (p + 1)) [], smP_mk smL_nil, ?_⟩
    unfold va1P
    rw [hk, hio]
    unfold leaP
    rw [htx]
    rfl
end Go.Proofs.YtbadafkfjfbnlaaGreatDoor

namespace Go.Proofs.YtbadafkfjfbnlaaGreatDoor
set_option maxRecDepth 100000
open Go.RowKit

/-- What a constant may be, with a sign, too. -/
inductive Vc : Pt → Prop
  | va {e : Pt} : Va e → Vc e
  | neg {n a f t a' f' t' : Int} : (∀ u : Tok, u.kind = 2 → u.text = ⟨(Lib.itoa n).toArray⟩ → numT u = n) → plF ⟨(Lib.itoa n).toArray⟩ → Vc (.mk 26 (strU [45]) 0 a f t [.mk 20 ⟨#[]⟩ n a' f' t' []])
theorem wr_neg (n a f t a' f' t' : Int) : wrP (.mk 26 (strU [45]) 0 a f t [.mk 20 ⟨#[]⟩ n a' f' t' []]) = [tkW 4 (strU [45]), nuT n] := by
  rw [wrP, wrM, wrM, wr_int]
  rfl
theorem val_it {e : Pt} (h : Vc e) (ts : List Tok) (p : Nat) (hh : Hs ts p (wrP e)) : ∃ e', smP e e' ∧ valP ts p = .ok e' (p + (wrP e).length) := by
  cases h with
  | va h =>
    obtain ⟨h1, h2, e', h3, h4⟩ := va1_it h ts p hh
    refine ⟨e', h3, ?_⟩
    unfold valP
    rw [h2, h4, h1]
    rfl
  | @neg n a f t a' f' t' hn hp =>
    rw [wr_neg] at hh ⊢
    have h45 : isT ts p [45] = true := hh.is
    have htx : (nxT ts p).text = strU [45] := hh.one.2
    have hk : (nxT ts (p + 1)).kind = 2 := hh.tail.one.1
    have hq : (nxT ts (p + 1)).text = ⟨(Lib.itoa n).toArray⟩ := hh.tail.one.2
    obtain ⟨v', h1, h2⟩ : ∃ v', smP (.mk 20 ⟨#[]⟩ n a' f' t' []) v' ∧ va1P ts (p + 1) = .ok v' (p + 1 + 1) := by
      have := (va1_it (.int (a := a') (f := f') (t := t') hn hp) ts (p + 1) (by rw [wr_int]; exact hh.tail)).2.2
      exact this
    refine ⟨.mk 26 (strU [45]) 0 (nxT ts p).pos (herI ts p) (behI ts (p + 1 + 1)) [v'], smP_mk (smL_one h1), ?_⟩
    unfold valP
    simp only [h45, hk, h2, htx, Rs.bind, if_true, beq_self_eq_true]
    rfl
theorem con_it {a f t : Int} {x : ByteArray} {v : Pt} (hx : kepB x = false) (hv : Vc v) (ts : List Tok) (p : Nat) (hh : Hs ts p (wdT [99, 111, 110, 115, 116] :: tkW 1 x :: sgT [61] :: wrP v)) : ∃ e', smP (.mk 3 x 0 a f t [v]) e' ∧ conP ts p = .ok e' (p + 1 + 1 + 1 + (wrP v).length) := by
  have h1 : isT ts p [99, 111, 110, 115, 116] = true := hh.is
  have h2 := hh.tail
  have htx : (nxT ts (p + 1)).text = x := h2.one.2
  have h3 : isT ts (p + 1 + 1) [61] = true := h2.tail.is
  obtain ⟨v', h4, h5⟩ := val_it hv ts (p + 1 + 1 + 1) h2.tail.tail
  refine ⟨.mk 3 x 0 (nxT ts (p + 1)).pos (herI ts p) (behI ts (p + 1 + 1 + 1 + (wrP v).length)) [v'], smP_mk (smL_one h4), ?_⟩
  unfold conP expP namP
  simp only [h1, nam_of h2 hx, h3, h5, htx, Rs.need, Rs.bind, if_true]
end Go.Proofs.YtbadafkfjfbnlaaGreatDoor

namespace Go.Proofs.YtbadafkfjfbnlaaGreatDoor
set_option maxRecDepth 100000
open Go.RowKit

/-- A name and its type, as a node of that kind. -/
def Pm (k : Int) (u : Pt) : Prop := ∃ (x : ByteArray) (v : Pt) (a f t : Int), u = .mk k x 0 a f t [v] ∧ kepB x = false ∧ plF x ∧ Ty v
theorem wr_pm {k a f t : Int} {x : ByteArray} {v : Pt} (hk : k = 6 ∨ k = 9) : wrP (.mk k x 0 a f t [v]) = tkW 1 x :: wrP v := by
  rcases hk with rfl | rfl
  · rw [wrP, wrM, wrM]; simp [wrK]
  · rw [wrP, wrM, wrM]; simp [wrK]
theorem pm_it {k : Int} {u : Pt} (hk : k = 6 ∨ k = 9) (h : Pm k u) (ts : List Tok) (p : Nat) (hh : Hs ts p (wrP u)) (hd : isT ts (p + (wrP u).length) [46] = false) : ∃ u', smP u u' ∧ tydP ts k p = .ok u' (p + (wrP u).length) := by
  obtain ⟨x, v, a, f, t, rfl, h1, -, h3⟩ := h
  rw [wr_pm hk] at hh hd ⊢
  rw [List.length_cons, show p + ((wrP v).length + 1) = p + 1 + (wrP v).length by omega] at hd ⊢
  exact tyd_it h1 h3 ts p hh hd
theorem pm_not {k : Int} {u : Pt} (hk : k = 6 ∨ k = 9) (h : Pm k u) {s : List UInt8} (hs : sgB s = true) (ts : List Tok) (p : Nat) (r : List Tok) (hh : Hs ts p (wrP u ++ r)) : isT ts p s = false := by
  obtain ⟨x, v, a, f, t, rfl, -, h2, -⟩ := h
  rw [wr_pm hk, List.cons_append] at hh
  exact hh.pl h2 hs
/-- Parameters behind the first. -/
theorem pars_ev : ∀ (l : List Pt), (∀ u ∈ l, Pm 9 u) → ∀ (ts : List Tok) (p : Nat) (acc : List Pt), Hs ts p (((l.map wrP).map (sgT [44] :: ·)).flatten ++ [sgT [41]]) →
    ∃ l', smL l l' ∧ Ev (fun m => (fns ts m).parL acc p) (.ok (acc ++ l') (p + ((l.map wrP).map (sgT [44] :: ·)).flatten.length))
  | [], _, ts, p, acc, hh => by
    refine ⟨[], smL_nil, ev_succ ?_⟩
    have h0 : Hs ts p (tkW 4 (strU [41]) :: []) := by simpa [sgT] using hh
    rw [List.append_nil]
    exact ev_neg (by rw [h0.not (by decide)]; simp) (ev_const _)
  | u :: r, hl, ts, p, acc, hh => by
    have hw : (((u :: r).map wrP).map (sgT [44] :: ·)).flatten ++ [sgT [41]] = tkW 4 (strU [44]) :: (wrP u ++ (((r.map wrP).map (sgT [44] :: ·)).flatten ++ [sgT [41]])) := by simp [sgT]
    rw [hw] at hh
    have ht := hh.tail
    have hc := ht.right
    have hn : ∃ s rest, (((r.map wrP).map (sgT [44] :: ·)).flatten ++ [sgT [41]]) = tkW 4 (strU s) :: rest ∧ (s = [44] ∨ s = [41]) := by
      cases r with
      | nil => exact ⟨[41], [], by simp [sgT], .inr rfl⟩
      | cons v r' => exact ⟨[44], _, by simp [sgT]; rfl, .inl rfl⟩
    obtain ⟨s, rest, e1, e2⟩ := hn
    have hc' := hc
    rw [e1] at hc'
    obtain ⟨u', h1, h2⟩ := pm_it (.inr rfl) (hl u (by simp)) ts (p + 1) ht.left (by rcases e2 with rfl | rfl <;> exact hc'.not (by decide))
    obtain ⟨l', h3, h4⟩ := pars_ev r (fun v hv => hl v (by simp [hv])) ts (p + 1 + (wrP u).length) (acc ++ [u']) hc
    refine ⟨u' :: l', smL_cons h1 h3, ev_succ ?_⟩
    refine ev_pos hh.is (ev_bind (by rw [h2]; exact ev_const _) ?_)
    have e3 : p + (((u :: r).map wrP).map (sgT [44] :: ·)).flatten.length = p + 1 + (wrP u).length + ((r.map wrP).map (sgT [44] :: ·)).flatten.length := by simp; omega
    rw [e3, show acc ++ u' :: l' = acc ++ [u'] ++ l' by simp]
    exact h4
theorem lisp_ev (l : List Pt) (hl : ∀ u ∈ l, Pm 9 u) (ts : List Tok) (p : Nat) (hh : Hs ts p (wBrk (l.map wrP))) :
    ∃ l', smL l l' ∧ Ev (fun m => lisP ts (tydP ts 9) (fns ts m).parL p) (.ok l' (p + (wBrk (l.map wrP)).length)) := by
  cases l with
  | nil =>
    have h0 : Hs ts p (tkW 4 (strU [40]) :: tkW 4 (strU [41]) :: []) := by simpa [wBrk, wPar, sgT] using hh
    refine ⟨[], smL_nil, ?_⟩
    unfold lisP expP
    refine ev_need h0.is (ev_pos h0.tail.is ?_)
    simp [wBrk, wPar]
    exact ev_const _
  | cons u r =>
    have hw : wBrk ((u :: r).map wrP) = tkW 4 (strU [40]) :: (wrP u ++ (((r.map wrP).map (sgT [44] :: ·)).flatten ++ [sgT [41]])) := by simp [wBrk, wPar, sgT]
    rw [hw] at hh ⊢
    have ht := hh.tail
    have hc := ht.right
    have hn : ∃ s rest, (((r.map wrP).map (sgT [44] :: ·)).flatten ++ [sgT [41]]) = tkW 4 (strU s) :: rest ∧ (s = [44] ∨ s = [41]) := by
      cases r with
      | nil => exact ⟨[41], [], by simp [sgT], .inr rfl⟩
      | cons v r' => exact ⟨[44], _, by simp [sgT]; rfl, .inl rfl⟩
    obtain ⟨s, rest, e1, e2⟩ := hn
    have hc' := hc
    rw [e1] at hc'
    obtain ⟨u', h1, h2⟩ := pm_it (.inr rfl) (hl u (by simp)) ts (p + 1) ht.left (by rcases e2 with rfl | rfl <;> exact hc'.not (by decide))
    obtain ⟨l', h3, h4⟩ := pars_ev r (fun v hv => hl v (by simp [hv])) ts (p + 1 + (wrP u).length) [u'] hc
    have hz : Hs ts (p + 1 + (wrP u).length + ((r.map wrP).map (sgT [44] :: ·)).flatten.length) (tkW 4 (strU [41]) :: []) := hc.right
    refine ⟨u' :: l', smL_cons h1 h3, ?_⟩
    unfold lisP expP
    refine ev_need hh.is (ev_neg (by rw [pm_not (.inr rfl) (hl u (by simp)) (by decide) ts (p + 1) _ ht]; simp) (ev_bind (by rw [h2]; exact ev_const _) (ev_bind h4 (ev_need hz.is ?_))))
    rw [show p + (tkW 4 (strU [40]) :: (wrP u ++ (((r.map wrP).map (sgT [44] :: ·)).flatten ++ [sgT [41]]))).length = p + 1 + (wrP u).length + ((r.map wrP).map (sgT [44] :: ·)).flatten.length + 1 by simp; omega]
    exact ev_const _
/-- Fields, each with its end. -/
theorem fies_ev : ∀ (l : List Pt), (∀ u ∈ l, Pm 6 u) → ∀ (ts : List Tok) (p : Nat) (acc : List Pt), Hs ts p (wEnd (l.map wrP) ++ [sgT [125]]) →
    ∃ l', smL l l' ∧ Ev (fun m => (fns ts m).fieL acc p) (.ok (acc ++ l') (p + (wEnd (l.map wrP)).length))
  | [], _, ts, p, acc, hh => by
    refine ⟨[], smL_nil, ev_succ ?_⟩
    have h0 : Hs ts p (tkW 4 (strU [125]) :: []) := by simpa [sgT, wEnd] using hh
    rw [List.append_nil]
    exact ev_pos h0.is (ev_const _)
  | u :: r, hl, ts, p, acc, hh => by
    have hw : wEnd ((u :: r).map wrP) ++ [sgT [125]] = wrP u ++ (tkW 5 (strU [59]) :: (wEnd (r.map wrP) ++ [sgT [125]])) := by simp [wEnd, enT]
    rw [hw] at hh
    have hc := hh.right
    have hk : (nxT ts (p + (wrP u).length)).kind = 5 := hc.one.1
    obtain ⟨u', h1, h2⟩ := pm_it (.inl rfl) (hl u (by simp)) ts p hh.left (hc.not (by decide))
    obtain ⟨l', h3, h4⟩ := fies_ev r (fun v hv => hl v (by simp [hv])) ts (p + (wrP u).length + 1) (acc ++ [u']) hc.tail
    refine ⟨u' :: l', smL_cons h1 h3, ev_succ ?_⟩
    refine ev_neg (by rw [pm_not (.inl rfl) (hl u (by simp)) (by decide) ts p _ hh]; simp) (ev_bind (by rw [h2]; exact ev_const _) (ev_neg (by rw [hc.not (by decide)]; simp) ?_))
    unfold kinP
    refine ev_need (by rw [hk]; rfl) ?_
    have e3 : p + (wEnd ((u :: r).map wrP)).length = p + (wrP u).length + 1 + (wEnd (r.map wrP)).length := by simp [wEnd]; omega
    rw [e3, show acc ++ u' :: l' = acc ++ [u'] ++ l' by simp]
    exact h4
end Go.Proofs.YtbadafkfjfbnlaaGreatDoor

namespace Go.Proofs.YtbadafkfjfbnlaaGreatDoor
set_option maxRecDepth 100000
open Go.RowKit

def noA (u : Tok) : Prop := (u.text.data.toList == [58, 61]) = false
theorem noA_sg {s : List UInt8} (h : (s == [58, 61]) = false) : noA (sgT s) := by
  show ((strU s).data.toList == [58, 61]) = false
  simpa [strU] using h
theorem par_no {s : List UInt8} (hs : noA (sgT s)) {os : List (List Tok)} (h : ∀ o ∈ os, ∀ u ∈ o, noA u) : ∀ u ∈ wPar s os, noA u := by
  intro u hu
  cases os with
  | nil => simp [wPar] at hu
  | cons o r =>
    simp only [wPar, List.mem_append, List.mem_flatten, List.mem_map] at hu
    rcases hu with hu | ⟨_, ⟨b, hb, rfl⟩, hu⟩
    · exact h o (by simp) u hu
    · rcases List.mem_cons.1 hu with rfl | hu
      · exact hs
      · exact h b (by simp [hb]) u hu
theorem brk_no {os : List (List Tok)} (h : ∀ o ∈ os, ∀ u ∈ o, noA u) : ∀ u ∈ wBrk os, noA u := by
  intro u hu
  simp only [wBrk, List.mem_append, List.mem_singleton] at hu
  rcases hu with (rfl | hu) | rfl
  · exact noA_sg (by decide)
  · exact par_no (noA_sg (by decide)) h u hu
  · exact noA_sg (by decide)
theorem ope_no {k : Int} {x : ByteArray} {e : Pt} {i : Nat} (h : ∀ u ∈ wrP e, noA u) : ∀ u ∈ opeT k x e i, noA u := by
  unfold opeT
  split
  · exact brk_no fun o ho => by obtain rfl : o = wrP e := by simpa using ho
                                exact h
  · exact h
theorem ex_no {e : Pt} (h : Ex e) : ∀ u ∈ wrP e, noA u := by
  induction h with
  | @int n a f t hn hp =>
    rw [wr_int]
    intro u hu
    obtain rfl : u = nuT n := by simpa using hu
    exact pl_not hp (by decide)
  | @text x a f t hx hp =>
    rw [wr_text]
    intro u hu
    obtain rfl : u = tkW 3 (quoT x) := by simpa using hu
    exact pl_not hp (by decide)
  | @bool x a f t hx =>
    rw [wr_bool]
    intro u hu
    obtain rfl : u = tkW 1 x := by simpa using hu
    show (x.data.toList == [58, 61]) = false
    rcases hx with rfl | rfl <;> decide
  | @name x a f t hk hp =>
    rw [wr_name]
    intro u hu
    obtain rfl : u = tkW 1 x := by simpa using hu
    exact pl_not hp (by decide)
  | @dot x a f t e hk hp _ ih =>
    rw [wr_dot]
    intro u hu
    simp only [List.mem_append, List.mem_cons, List.not_mem_nil, or_false] at hu
    rcases hu with hu | rfl | rfl
    · exact ope_no ih u hu
    · exact noA_sg (by decide)
    · exact pl_not hp (by decide)
  | @call a f t e l _ _ ih il =>
    rw [wr_call]
    intro u hu
    rcases List.mem_append.1 hu with hu | hu
    · exact ope_no ih u hu
    · refine brk_no (fun o ho => ?_) u hu
      obtain ⟨v, hv, rfl⟩ := List.mem_map.1 ho
      exact il v hv
  | @una x a f t e hx _ ih =>
    rw [wr_una]
    intro u hu
    rcases List.mem_cons.1 hu with rfl | hu
    · show (x.data.toList == [58, 61]) = false
      rcases hx with rfl | rfl <;> decide
    · exact ope_no ih u hu
  | @bin x a f t u v hr _ _ iu iv =>
    rw [wr_bin]
    intro w hw
    rcases List.mem_append.1 hw with hw | hw
    · exact ope_no iu w hw
    · rcases List.mem_cons.1 hw with rfl | hw
      · show (x.data.toList == [58, 61]) = false
        rw [Bool.eq_false_iff]
        intro e
        have e2 : x.data.toList = [58, 61] := eq_of_beq e
        unfold rowI at hr
        rw [e2] at hr
        revert hr
        decide
      · exact ope_no iv w hw
/-- Behind the first token of an expression that sign does not stand. -/
theorem ex_short {e : Pt} (h : Ex e) {w : Tok} {r : List Tok} (hw : noA w) (ts : List Tok) (p : Nat) (hh : Hs ts p (wrP e ++ w :: r)) : isT ts (p + 1) [58, 61] = false := by
  obtain ⟨a, q, e1, -⟩ := ex_fst h
  have h2 : ∃ b s, q ++ w :: r = b :: s ∧ noA b := by
    cases q with
    | nil => exact ⟨w, r, rfl, hw⟩
    | cons b s => exact ⟨b, s ++ w :: r, rfl, ex_no h b (by rw [e1]; simp)⟩
  obtain ⟨b, s, e2, hb⟩ := h2
  rw [e1, List.cons_append, e2] at hh
  unfold isT
  rw [hh.tail.one.2]
  exact hb
end Go.Proofs.YtbadafkfjfbnlaaGreatDoor

namespace Go.Proofs.YtbadafkfjfbnlaaGreatDoor
set_option maxRecDepth 100000
open Go.RowKit

/-- A sign behind which no expression goes on. -/
def foS (s : List UInt8) : Prop := (s == [46]) = false ∧ (s == [40]) = false ∧ rowI (strU s) < 0
theorem ex_ev {e : Pt} (h : Ex e) {k : Int} {s : List UInt8} {r : List Tok} (hs : foS s) (ts : List Tok) (p : Nat) (hh : Hs ts p (wrP e ++ tkW k (strU s) :: r)) : ∃ e', smP e e' ∧ Ev (fun m => (fns ts m).bin 0 p) (.ok e' (p + (wrP e).length)) := by
  have hc := hh.right
  exact (ex_it h).c4 0 (by omega) (by omega) ts p hh.left ⟨hc.not hs.1, hc.not hs.2.1⟩ (by rw [row_no hc]; have := hs.2.2; omega)
/-- What stands behind a statement. -/
def fol (k : Int) (s : List UInt8) : Prop := (k = 5 ∧ s = [59]) ∨ (k = 4 ∧ s = [125])
theorem fol_fo {k : Int} {s : List UInt8} (h : fol k s) : foS s := by
  rcases h with ⟨-, rfl⟩ | ⟨-, rfl⟩ <;> exact ⟨by decide, by decide, by decide⟩
theorem sim_one {a f t : Int} {e : Pt} (he : Ex e) {k : Int} {s : List UInt8} {r : List Tok} (hf : fol k s) (ts : List Tok) (p : Nat) (hh : Hs ts p (wrP e ++ tkW k (strU s) :: r)) : ∃ e', smP (.mk 19 ⟨#[]⟩ 0 a f t [e]) e' ∧ Ev (fun m => simP ts (fns ts m) p) (.ok e' (p + (wrP e).length)) := by
  obtain ⟨e', h1, h2⟩ := ex_ev he (fol_fo hf) ts p hh
  have hc := hh.right
  refine ⟨.mk 19 ⟨#[]⟩ 0 (herI ts p) (herI ts p) (behI ts (p + (wrP e).length)) [e'], smP_mk (smL_one h1), ?_⟩
  unfold simP
  refine ev_bind h2 (ev_neg ?_ (ev_const _))
  rw [show isT ts (p + (wrP e).length) [61] = false by rcases hf with ⟨rfl, rfl⟩ | ⟨rfl, rfl⟩ <;> exact hc.not (by decide)]
  simp
theorem sim_two {a f t : Int} {e d : Pt} (he : Ex e) (hd : Ex d) {k : Int} {s : List UInt8} {r : List Tok} (hf : fol k s) (ts : List Tok) (p : Nat) (hh : Hs ts p (wrP e ++ tkW 4 (strU [61]) :: (wrP d ++ tkW k (strU s) :: r))) : ∃ e', smP (.mk 18 ⟨#[]⟩ 0 a f t [e, d]) e' ∧ Ev (fun m => simP ts (fns ts m) p) (.ok e' (p + (wrP e).length + 1 + (wrP d).length)) := by
  obtain ⟨e', h1, h2⟩ := ex_ev he ⟨by decide, by decide, by decide⟩ ts p hh
  have hc := hh.right
  obtain ⟨d', h3, h4⟩ := ex_ev hd (fol_fo hf) ts (p + (wrP e).length + 1) hc.tail
  refine ⟨.mk 18 ⟨#[]⟩ 0 (herI ts p) (herI ts p) (behI ts (p + (wrP e).length + 1 + (wrP d).length)) [e', d'], smP_mk (smL_cons h1 (smL_one h3)), ?_⟩
  unfold simP
  exact ev_bind h2 (ev_pos hc.is (ev_bind h4 (ev_const _)))
theorem sho_one {a f t : Int} {x : ByteArray} {e : Pt} (hx : kepB x = false) (he : Ex e) {k : Int} {s : List UInt8} {r : List Tok} (hf : fol k s) (ts : List Tok) (p : Nat) (hh : Hs ts p (tkW 1 x :: tkW 4 (strU [58, 61]) :: (wrP e ++ tkW k (strU s) :: r))) : ∃ e', smP (.mk 17 x 0 a f t [e]) e' ∧ Ev (fun m => shoP ts (fns ts m) p) (.ok e' (p + 1 + 1 + (wrP e).length)) := by
  have htx : (nxT ts p).text = x := hh.one.2
  obtain ⟨e', h1, h2⟩ := ex_ev he (fol_fo hf) ts (p + 1 + 1) hh.tail.tail
  refine ⟨.mk 17 x 0 (nxT ts p).pos (herI ts p) (behI ts (p + 1 + 1 + (wrP e).length)) [e'], smP_mk (smL_one h1), ?_⟩
  unfold shoP namP expP
  refine ev_need (nam_of hh hx) (ev_need hh.tail.is (ev_bind h2 ?_))
  rw [htx]
  exact ev_const _
theorem res_none {a f t : Int} {k : Int} {s : List UInt8} {r : List Tok} (hf : fol k s) (ts : List Tok) (p : Nat) (hh : Hs ts p (wdT [114, 101, 116, 117, 114, 110] :: tkW k (strU s) :: r)) : ∃ e', smP (.mk 16 ⟨#[]⟩ 0 a f t []) e' ∧ Ev (fun m => resP ts (fns ts m) p) (.ok e' (p + 1)) := by
  refine ⟨.mk 16 ⟨#[]⟩ 0 (herI ts p) (herI ts p) (behI ts (p + 1)) [], smP_mk smL_nil, ?_⟩
  have hk : (nxT ts (p + 1)).kind = k := hh.tail.one.1
  have hi : isT ts (p + 1) s = true := hh.tail.is
  unfold resP expP
  refine ev_need hh.is (ev_neg ?_ (ev_const _))
  rcases hf with ⟨rfl, rfl⟩ | ⟨rfl, rfl⟩
  · rw [hk]; simp
  · rw [hi]; simp
end Go.Proofs.YtbadafkfjfbnlaaGreatDoor

namespace Go.Proofs.YtbadafkfjfbnlaaGreatDoor
set_option maxRecDepth 100000
open Go.RowKit

theorem fst_kind {x : Tok} (h : fstE x) : x.kind ≠ 5 := by
  rcases h with ⟨h, -⟩ | ⟨h | h, -⟩ | ⟨h, -⟩ <;> rw [h] <;> decide
theorem res_one {a f t : Int} {e : Pt} (he : Ex e) {k : Int} {s : List UInt8} {r : List Tok} (hf : fol k s) (ts : List Tok) (p : Nat) (hh : Hs ts p (wdT [114, 101, 116, 117, 114, 110] :: (wrP e ++ tkW k (strU s) :: r))) : ∃ e', smP (.mk 16 ⟨#[]⟩ 0 a f t [e]) e' ∧ Ev (fun m => resP ts (fns ts m) p) (.ok e' (p + 1 + (wrP e).length)) := by
  obtain ⟨e', h1, h2⟩ := ex_ev he (fol_fo hf) ts (p + 1) hh.tail
  refine ⟨.mk 16 ⟨#[]⟩ 0 (herI ts p) (herI ts p) (behI ts (p + 1 + (wrP e).length)) [e'], smP_mk (smL_one h1), ?_⟩
  obtain ⟨b, q, e1, hb⟩ := ex_fst he
  have hq : Hs ts (p + 1) (b :: (q ++ tkW k (strU s) :: r)) := by have := hh.tail; rw [e1, List.cons_append] at this; exact this
  have hk : ((nxT ts (p + 1)).kind == 5) = false := by rw [hq.one.1]; simpa using fst_kind hb
  have hi : isT ts (p + 1) [125] = false := by
    unfold isT
    rw [hq.one.2]
    exact fst_not hb (by decide) (by decide) (by decide) (by decide)
  unfold resP expP
  exact ev_need hh.is (ev_pos (by rw [hk, hi]; rfl) (ev_bind h2 (ev_const _)))
theorem var_one {a f t : Int} {x : ByteArray} {v : Pt} (hx : kepB x = false) (hv : Ty v) {k : Int} {s : List UInt8} {r : List Tok} (hf : fol k s) (ts : List Tok) (p : Nat) (hh : Hs ts p (wdT [118, 97, 114] :: tkW 1 x :: (wrP v ++ tkW k (strU s) :: r))) : ∃ e', smP (.mk 4 x 0 a f t [v]) e' ∧ Ev (fun m => varP ts (fns ts m) p) (.ok e' (p + 1 + 1 + (wrP v).length)) := by
  have h2 := hh.tail
  have htx : (nxT ts (p + 1)).text = x := h2.one.2
  have hc := h2.tail.right
  obtain ⟨v', h3, h4⟩ := ty_it hv ts (p + 1 + 1) h2.tail.left (hc.not (fol_fo hf).1)
  refine ⟨.mk 4 x 0 (nxT ts (p + 1)).pos (herI ts p) (behI ts (p + 1 + 1 + (wrP v).length)) [v'], smP_mk (smL_one h3), ?_⟩
  unfold varP expP namP
  refine ev_need hh.is (ev_need (nam_of h2 hx) (ev_bind (by rw [h4]; exact ev_const _) (ev_neg ?_ ?_)))
  · rw [show isT ts (p + 1 + 1 + (wrP v).length) [61] = false by rcases hf with ⟨rfl, rfl⟩ | ⟨rfl, rfl⟩ <;> exact hc.not (by decide)]
    simp
  · rw [htx]
    exact ev_const _
theorem var_two {a f t : Int} {x : ByteArray} {v d : Pt} (hx : kepB x = false) (hv : Ty v) (hd : Ex d) {k : Int} {s : List UInt8} {r : List Tok} (hf : fol k s) (ts : List Tok) (p : Nat) (hh : Hs ts p (wdT [118, 97, 114] :: tkW 1 x :: (wrP v ++ tkW 4 (strU [61]) :: (wrP d ++ tkW k (strU s) :: r)))) : ∃ e', smP (.mk 4 x 0 a f t [v, d]) e' ∧ Ev (fun m => varP ts (fns ts m) p) (.ok e' (p + 1 + 1 + (wrP v).length + 1 + (wrP d).length)) := by
  have h2 := hh.tail
  have htx : (nxT ts (p + 1)).text = x := h2.one.2
  have hc := h2.tail.right
  obtain ⟨v', h3, h4⟩ := ty_it hv ts (p + 1 + 1) h2.tail.left (hc.not (by decide))
  obtain ⟨d', h5, h6⟩ := ex_ev hd (fol_fo hf) ts (p + 1 + 1 + (wrP v).length + 1) hc.tail
  refine ⟨.mk 4 x 0 (nxT ts (p + 1)).pos (herI ts p) (behI ts (p + 1 + 1 + (wrP v).length + 1 + (wrP d).length)) [v', d'], smP_mk (smL_cons h3 (smL_one h5)), ?_⟩
  unfold varP expP namP
  refine ev_need hh.is (ev_need (nam_of h2 hx) (ev_bind (by rw [h4]; exact ev_const _) (ev_pos hc.is (ev_bind h6 ?_))))
  rw [htx]
  exact ev_const _
end Go.Proofs.YtbadafkfjfbnlaaGreatDoor

namespace Go.Proofs.YtbadafkfjfbnlaaGreatDoor
set_option maxRecDepth 100000
open Go.RowKit

/-- The trees of statements. -/
inductive St : Pt → Prop
  | block {a f t : Int} {l : List Pt} : (∀ u ∈ l, St u) → St (.mk 13 ⟨#[]⟩ 0 a f t l)
  | loop {a f t a' f' t' : Int} {c : Pt} {l : List Pt} : Ex c → (∀ u ∈ l, St u) → St (.mk 15 ⟨#[]⟩ 0 a f t [c, .mk 13 ⟨#[]⟩ 0 a' f' t' l])
  | if1 {a f t a' f' t' : Int} {c : Pt} {l : List Pt} : Ex c → (∀ u ∈ l, St u) → St (.mk 14 ⟨#[]⟩ 0 a f t [c, .mk 13 ⟨#[]⟩ 0 a' f' t' l])
  | if2 {a f t a' f' t' a2 f2 t2 : Int} {c : Pt} {l m : List Pt} : Ex c → (∀ u ∈ l, St u) → (∀ u ∈ m, St u) → St (.mk 14 ⟨#[]⟩ 0 a f t [c, .mk 13 ⟨#[]⟩ 0 a' f' t' l, .mk 13 ⟨#[]⟩ 0 a2 f2 t2 m])
  | if3 {a f t a' f' t' : Int} {c d : Pt} {l : List Pt} : Ex c → (∀ u ∈ l, St u) → St d → (hdP d).1 = 14 → St (.mk 14 ⟨#[]⟩ 0 a f t [c, .mk 13 ⟨#[]⟩ 0 a' f' t' l, d])
  | var1 {a f t : Int} {x : ByteArray} {v : Pt} : kepB x = false → Ty v → St (.mk 4 x 0 a f t [v])
  | var2 {a f t : Int} {x : ByteArray} {v d : Pt} : kepB x = false → Ty v → Ex d → St (.mk 4 x 0 a f t [v, d])
  | res0 {a f t : Int} : St (.mk 16 ⟨#[]⟩ 0 a f t [])
  | res1 {a f t : Int} {e : Pt} : Ex e → St (.mk 16 ⟨#[]⟩ 0 a f t [e])
  | short {a f t : Int} {x : ByteArray} {e : Pt} : kepB x = false → plF x → Ex e → St (.mk 17 x 0 a f t [e])
  | assign {a f t : Int} {e d : Pt} : Ex e → Ex d → St (.mk 18 ⟨#[]⟩ 0 a f t [e, d])
  | expr {a f t : Int} {e : Pt} : Ex e → St (.mk 19 ⟨#[]⟩ 0 a f t [e])
/-- How a statement is read, whatever stands behind it that may. -/
def StI (e : Pt) : Prop := ∀ (k : Int) (s : List UInt8) (r : List Tok), fol k s → ∀ (ts : List Tok) (p : Nat), Hs ts p (wrP e ++ tkW k (strU s) :: r) → isT ts p [125] = false ∧ ∃ e', smP e e' ∧ Ev (fun m => (fns ts m).stmt p) (.ok e' (p + (wrP e).length))
theorem stms_ev : ∀ (l : List Pt), (∀ u ∈ l, StI u) → ∀ (ts : List Tok) (p : Nat) (acc : List Pt), Hs ts p (wEnd (l.map wrP) ++ [sgT [125]]) →
    ∃ l', smL l l' ∧ Ev (fun m => (fns ts m).stmL acc p) (.ok (acc ++ l') (p + (wEnd (l.map wrP)).length))
  | [], _, ts, p, acc, hh => by
    refine ⟨[], smL_nil, ev_succ ?_⟩
    have h0 : Hs ts p (tkW 4 (strU [125]) :: []) := by simpa [sgT, wEnd] using hh
    rw [List.append_nil]
    exact ev_pos h0.is (ev_const _)
  | u :: r, hl, ts, p, acc, hh => by
    have hw : wEnd ((u :: r).map wrP) ++ [sgT [125]] = wrP u ++ (tkW 5 (strU [59]) :: (wEnd (r.map wrP) ++ [sgT [125]])) := by simp [wEnd, enT]
    rw [hw] at hh
    have hc := hh.right
    have hk : (nxT ts (p + (wrP u).length)).kind = 5 := hc.one.1
    obtain ⟨h0, u', h1, h2⟩ := hl u (by simp) 5 [59] _ (.inl ⟨rfl, rfl⟩) ts p hh
    obtain ⟨l', h3, h4⟩ := stms_ev r (fun v hv => hl v (by simp [hv])) ts (p + (wrP u).length + 1) (acc ++ [u']) hc.tail
    refine ⟨u' :: l', smL_cons h1 h3, ev_succ ?_⟩
    refine ev_neg (by rw [h0]; simp) (ev_bind h2 (ev_neg (by rw [hc.not (by decide)]; simp) ?_))
    unfold kinP
    refine ev_need (by rw [hk]; rfl) ?_
    have e3 : p + (wEnd ((u :: r).map wrP)).length = p + (wrP u).length + 1 + (wEnd (r.map wrP)).length := by simp [wEnd]; omega
    rw [e3, show acc ++ u' :: l' = acc ++ [u'] ++ l' by simp]
    exact h4
/-- A block. -/
theorem blo_ev {a f t : Int} {l : List Pt} (hl : ∀ u ∈ l, StI u) (ts : List Tok) (p : Nat) (hh : Hs ts p (wBra (l.map wrP))) : ∃ e', smP (.mk 13 ⟨#[]⟩ 0 a f t l) e' ∧ Ev (fun m => bloP ts (fns ts m) p) (.ok e' (p + (wBra (l.map wrP)).length)) := by
  have hw : wBra (l.map wrP) = tkW 4 (strU [123]) :: (wEnd (l.map wrP) ++ [sgT [125]]) := by simp [wBra, sgT]
  rw [hw] at hh ⊢
  obtain ⟨l', h1, h2⟩ := stms_ev l hl ts (p + 1) [] hh.tail
  have hz : Hs ts (p + 1 + (wEnd (l.map wrP)).length) (tkW 4 (strU [125]) :: []) := hh.tail.right
  refine ⟨.mk 13 ⟨#[]⟩ 0 (herI ts p) (herI ts p) (behI ts (p + 1 + (wEnd (l.map wrP)).length + 1)) l', smP_mk h1, ?_⟩
  rw [show p + (tkW 4 (strU [123]) :: (wEnd (l.map wrP) ++ [sgT [125]])).length = p + 1 + (wEnd (l.map wrP)).length + 1 by simp; omega]
  unfold bloP linP expP
  exact ev_bind (ev_need hh.is (ev_bind h2 (ev_need hz.is (ev_const _)))) (ev_const _)
theorem wr_blo (a f t : Int) (l : List Pt) : wrP (.mk 13 ⟨#[]⟩ 0 a f t l) = wBra (l.map wrP) := by simp [wrP, wrK, wrS, wrM_map]
theorem wr_bra (l : List Pt) : wBra (l.map wrP) = tkW 4 (strU [123]) :: (wEnd (l.map wrP) ++ [sgT [125]]) := by simp [wBra, sgT]
theorem wr_loop (a f t : Int) (c b : Pt) : wrP (.mk 15 ⟨#[]⟩ 0 a f t [c, b]) = wdT [102, 111, 114] :: (wrP c ++ wrP b) := by simp [wrP, wrK, wrS, wrM_map]
theorem wr_if1 (a f t : Int) (c b : Pt) : wrP (.mk 14 ⟨#[]⟩ 0 a f t [c, b]) = wdT [105, 102] :: (wrP c ++ wrP b) := by simp [wrP, wrK, wrS, wrM_map, wIf]
theorem wr_if2 (a f t : Int) (c b d : Pt) : wrP (.mk 14 ⟨#[]⟩ 0 a f t [c, b, d]) = wdT [105, 102] :: (wrP c ++ (wrP b ++ wdT [101, 108, 115, 101] :: wrP d)) := by simp [wrP, wrK, wrS, wrM_map, wIf]
/-- A loop. -/
theorem loo_ev {a f t a' f' t' : Int} {c : Pt} {l : List Pt} (hc : Ex c) (hl : ∀ u ∈ l, StI u) (ts : List Tok) (p : Nat) (hh : Hs ts p (wdT [102, 111, 114] :: (wrP c ++ wBra (l.map wrP)))) :
    ∃ e', smP (.mk 15 ⟨#[]⟩ 0 a f t [c, .mk 13 ⟨#[]⟩ 0 a' f' t' l]) e' ∧ Ev (fun m => looP ts (fns ts m) p) (.ok e' (p + 1 + (wrP c).length + (wBra (l.map wrP)).length)) := by
  have ht := hh.tail
  obtain ⟨c', h1, h2⟩ := ex_ev hc (s := [123]) ⟨by decide, by decide, by decide⟩ ts (p + 1) (by have := ht; rw [wr_bra] at this; exact this)
  obtain ⟨b', h3, h4⟩ := blo_ev (a := a') (f := f') (t := t') hl ts (p + 1 + (wrP c).length) ht.right
  refine ⟨.mk 15 ⟨#[]⟩ 0 (herI ts p) (herI ts p) (behI ts (p + 1 + (wrP c).length + (wBra (l.map wrP)).length)) [c', b'], smP_mk (smL_cons h1 (smL_one h3)), ?_⟩
  unfold looP expP
  exact ev_need hh.is (ev_bind h2 (ev_bind h4 (ev_const _)))
end Go.Proofs.YtbadafkfjfbnlaaGreatDoor

namespace Go.Proofs.YtbadafkfjfbnlaaGreatDoor
set_option maxRecDepth 100000
open Go.RowKit

theorem bran1_ev {a f t a' f' t' : Int} {c : Pt} {l : List Pt} (hc : Ex c) (hl : ∀ u ∈ l, StI u) {k : Int} {s : List UInt8} {r : List Tok} (hf : fol k s) (ts : List Tok) (p : Nat) (hh : Hs ts p (wdT [105, 102] :: (wrP c ++ (wBra (l.map wrP) ++ tkW k (strU s) :: r)))) :
    ∃ e', smP (.mk 14 ⟨#[]⟩ 0 a f t [c, .mk 13 ⟨#[]⟩ 0 a' f' t' l]) e' ∧ Ev (fun m => (fns ts m).bran p) (.ok e' (p + 1 + (wrP c).length + (wBra (l.map wrP)).length)) := by
  have ht := hh.tail
  obtain ⟨c', h1, h2⟩ := ex_ev hc (s := [123]) ⟨by decide, by decide, by decide⟩ ts (p + 1) (by have := ht; rw [wr_bra, List.cons_append] at this; exact this)
  obtain ⟨b', h3, h4⟩ := blo_ev (a := a') (f := f') (t := t') hl ts (p + 1 + (wrP c).length) ht.right.left
  have hz := ht.right.right
  refine ⟨.mk 14 ⟨#[]⟩ 0 (herI ts p) (herI ts p) (behI ts (p + 1 + (wrP c).length + (wBra (l.map wrP)).length)) [c', b'], smP_mk (smL_cons h1 (smL_one h3)), ev_succ ?_⟩
  show Ev (fun m => expP ts [105, 102] p fun q => ((fns ts m).bin 0 q).bind fun x q => (bloP ts (fns ts m) q).bind fun b q =>
        if isT ts q [101, 108, 115, 101] then
          (if isT ts (q + 1) [105, 102] then (fns ts m).bran (q + 1) else bloP ts (fns ts m) (q + 1)).bind fun c q => Rs.ok (Pt.mk 14 ⟨#[]⟩ 0 (herI ts p) (herI ts p) (behI ts q) [x, b, c]) q
        else Rs.ok (Pt.mk 14 ⟨#[]⟩ 0 (herI ts p) (herI ts p) (behI ts q) [x, b]) q) _
  unfold expP
  refine ev_need hh.is (ev_bind h2 (ev_bind h4 (ev_neg ?_ (ev_const _))))
  rw [show isT ts (p + 1 + (wrP c).length + (wBra (l.map wrP)).length) [101, 108, 115, 101] = false by rcases hf with ⟨rfl, rfl⟩ | ⟨rfl, rfl⟩ <;> exact hz.not (by decide)]
  simp
theorem bran2_ev {a f t a' f' t' : Int} {c d : Pt} {l : List Pt} (hc : Ex c) (hl : ∀ u ∈ l, StI u) (ts : List Tok) (p : Nat) (r : List Tok) (hh : Hs ts p (wdT [105, 102] :: (wrP c ++ (wBra (l.map wrP) ++ wdT [101, 108, 115, 101] :: r))))
    (q : Nat) (hd : ∃ d', smP d d' ∧ Ev (fun m => if isT ts (p + 1 + (wrP c).length + (wBra (l.map wrP)).length + 1) [105, 102] then (fns ts m).bran (p + 1 + (wrP c).length + (wBra (l.map wrP)).length + 1) else bloP ts (fns ts m) (p + 1 + (wrP c).length + (wBra (l.map wrP)).length + 1)) (.ok d' q)) :
    ∃ e', smP (.mk 14 ⟨#[]⟩ 0 a f t [c, .mk 13 ⟨#[]⟩ 0 a' f' t' l, d]) e' ∧ Ev (fun m => (fns ts m).bran p) (.ok e' q) := by
  have ht := hh.tail
  obtain ⟨c', h1, h2⟩ := ex_ev hc (s := [123]) ⟨by decide, by decide, by decide⟩ ts (p + 1) (by have := ht; rw [wr_bra, List.cons_append] at this; exact this)
  obtain ⟨b', h3, h4⟩ := blo_ev (a := a') (f := f') (t := t') hl ts (p + 1 + (wrP c).length) ht.right.left
  have hz := ht.right.right
  obtain ⟨d', h5, h6⟩ := hd
  refine ⟨.mk 14 ⟨#[]⟩ 0 (herI ts p) (herI ts p) (behI ts q) [c', b', d'], smP_mk (smL_cons h1 (smL_cons h3 (smL_one h5))), ev_succ ?_⟩
  show Ev (fun m => expP ts [105, 102] p fun q => ((fns ts m).bin 0 q).bind fun x q => (bloP ts (fns ts m) q).bind fun b q =>
        if isT ts q [101, 108, 115, 101] then
          (if isT ts (q + 1) [105, 102] then (fns ts m).bran (q + 1) else bloP ts (fns ts m) (q + 1)).bind fun c q => Rs.ok (Pt.mk 14 ⟨#[]⟩ 0 (herI ts p) (herI ts p) (behI ts q) [x, b, c]) q
        else Rs.ok (Pt.mk 14 ⟨#[]⟩ 0 (herI ts p) (herI ts p) (behI ts q) [x, b]) q) _
  unfold expP
  exact ev_need hh.is (ev_bind h2 (ev_bind h4 (ev_pos hz.is (ev_bind h6 (ev_const _)))))
end Go.Proofs.YtbadafkfjfbnlaaGreatDoor

namespace Go.Proofs.YtbadafkfjfbnlaaGreatDoor
set_option maxRecDepth 100000
open Go.RowKit

theorem dd_ne : ∀ (m : Nat), ∃ c r, Lib.decDigits m = c :: r ∧ (48 ≤ c ∧ c ≤ 57) := by
  intro m
  induction m using Nat.strongRecOn with
  | _ m ih =>
    rw [Lib.decDigits]
    split
    · rename_i h
      refine ⟨_, [], rfl, ?_⟩
      have e : (UInt8.ofNat (48 + m)).toNat = 48 + m := by rw [UInt8.toNat_ofNat']; omega
      constructor
      · rw [UInt8.le_iff_toNat_le, e]; show 48 ≤ 48 + m; omega
      · rw [UInt8.le_iff_toNat_le, e]; show 48 + m ≤ 57; omega
    · rename_i h
      obtain ⟨c, r, e, h1⟩ := ih (m / 10) (by omega)
      exact ⟨c, _, by rw [e]; rfl, h1⟩
theorem itoa_dig {n : Int} (h : plF ⟨(Lib.itoa n).toArray⟩) : ∃ c r, Lib.itoa n = c :: r ∧ (48 ≤ c ∧ c ≤ 57) := by
  unfold Lib.itoa at h ⊢
  split
  · rename_i hn
    rw [if_pos hn] at h
    obtain ⟨c, r, e, hc⟩ := h
    have e2 : (45 : UInt8) :: Lib.decDigits n.natAbs = c :: r := by simpa using e
    injection e2 with e3 _
    rw [← e3] at hc
    exact absurd hc (by decide)
  · exact dd_ne _
theorem quoG_acc : ∀ (L acc Q : List UInt8), quoG acc L = some Q → ∃ r, Q = acc ++ r
  | [], acc, Q, h => by
    rw [quoG] at h
    injection h with h
    exact ⟨[34], h.symm⟩
  | c :: L, acc, Q, h => by
    rw [quoG] at h
    split at h
    · cases h
    · rename_i x hx
      obtain ⟨r, e⟩ := quoG_acc L _ Q h
      exact ⟨x ++ r, by rw [e, List.append_assoc]⟩
theorem quo_fst {x : ByteArray} (h : plF (quoT x)) : ∃ r, (quoT x).data.toList = 34 :: r := by
  unfold quoT at h ⊢
  split
  · rename_i q hq
    unfold quoO at hq
    obtain ⟨r, e⟩ := quoG_acc _ _ _ hq
    exact ⟨r, by rw [e]; simp [strU]⟩
  · rename_i hq
    rw [hq] at h
    obtain ⟨c, r, e, -⟩ := h
    simp at e
end Go.Proofs.YtbadafkfjfbnlaaGreatDoor

namespace Go.Proofs.YtbadafkfjfbnlaaGreatDoor
set_option maxRecDepth 100000
open Go.RowKit

theorem kep_dig {x : ByteArray} {c : UInt8} {r : List UInt8} (h : x.data.toList = c :: r) (hc : c < 97) : kepB x = false := by
  have hne : ∀ d : UInt8, 97 ≤ d → ∀ u : List UInt8, ((c :: r) == (d :: u)) = false := fun d hd u => by
    rw [Bool.eq_false_iff]
    intro e
    have e2 : c :: r = d :: u := eq_of_beq e
    injection e2 with e3 _
    subst e3
    exact absurd hc (by simpa [UInt8.not_lt] using hd)
  unfold kepB
  rw [h]
  simp only [hne 112 (by decide), hne 105 (by decide), hne 99 (by decide), hne 118 (by decide), hne 116 (by decide), hne 115 (by decide), hne 102 (by decide), hne 101 (by decide), hne 114 (by decide), hne 98 (by decide), Bool.or_self]
theorem kep_words {x : ByteArray} (h : kepB x = false) : (x.data.toList == [118, 97, 114]) = false ∧ (x.data.toList == [105, 102]) = false ∧ (x.data.toList == [102, 111, 114]) = false ∧ (x.data.toList == [114, 101, 116, 117, 114, 110]) = false := by
  unfold kepB at h
  simp only [Bool.or_eq_false_iff] at h
  obtain ⟨⟨⟨⟨⟨⟨⟨⟨⟨⟨⟨⟨⟨⟨⟨-, -⟩, -⟩, h4⟩, -⟩, -⟩, -⟩, h8⟩, -⟩, h10⟩, h11⟩, -⟩, -⟩, -⟩, -⟩, -⟩ := h
  exact ⟨h4, h8, h10, h11⟩
/-- The first token of a plain statement. -/
structure plSt (a : Tok) : Prop where
  b : (a.text.data.toList == [123]) = false
  c : (a.text.data.toList == [125]) = false
  v : (a.text.data.toList == [118, 97, 114]) = false
  i : (a.text.data.toList == [105, 102]) = false
  f : (a.text.data.toList == [102, 111, 114]) = false
  r : (a.text.data.toList == [114, 101, 116, 117, 114, 110]) = false
theorem pls_kep {k : Int} {x : ByteArray} (hp : plF x) (hk : kepB x = false) : plSt (tkW k x) := by
  obtain ⟨h1, h2, h3, h4⟩ := kep_words hk
  exact ⟨pl_not hp (by decide), pl_not hp (by decide), h1, h2, h3, h4⟩
theorem pls_sg {k : Int} {s : List UInt8} (h1 : (s == [123]) = false) (h2 : (s == [125]) = false) (h3 : (s == [118, 97, 114]) = false) (h4 : (s == [105, 102]) = false) (h5 : (s == [102, 111, 114]) = false) (h6 : (s == [114, 101, 116, 117, 114, 110]) = false) : plSt (tkW k (strU s)) := by
  exact ⟨by simpa [tkW, strU] using h1, by simpa [tkW, strU] using h2, by simpa [tkW, strU] using h3, by simpa [tkW, strU] using h4, by simpa [tkW, strU] using h5, by simpa [tkW, strU] using h6⟩
theorem ope_pls {k : Int} {x : ByteArray} {u : Pt} {i : Nat} (h : ∃ a r, wrP u = a :: r ∧ plSt a) : ∃ a r, opeT k x u i = a :: r ∧ plSt a := by
  unfold opeT
  split
  · exact ⟨sgT [40], wrP u ++ [sgT [41]], by simp [wBrk, wPar], pls_sg (by decide) (by decide) (by decide) (by decide) (by decide) (by decide)⟩
  · exact h
theorem ex_pls {e : Pt} (h : Ex e) : ∃ a r, wrP e = a :: r ∧ plSt a := by
  induction h with
  | @int n a f t hn hp =>
    obtain ⟨c, r, e1, h1, h2⟩ := itoa_dig hp
    refine ⟨_, _, wr_int _ _ _ _ _, pls_kep hp (kep_dig (c := c) (r := r) (by simpa using e1) ?_)⟩
    exact Nat.lt_of_le_of_lt (UInt8.le_iff_toNat_le.1 h2) (by decide)
  | @text x a f t hx hp =>
    obtain ⟨r, e1⟩ := quo_fst hp
    exact ⟨_, _, wr_text _ _ _ _ _, pls_kep hp (kep_dig e1 (by decide))⟩
  | bool hx =>
    refine ⟨_, _, wr_bool _ _ _ _ _, ?_⟩
    rcases hx with rfl | rfl <;> exact pls_sg (by decide) (by decide) (by decide) (by decide) (by decide) (by decide)
  | name hk hp => exact ⟨_, _, wr_name _ _ _ _ _, pls_kep hp hk⟩
  | dot _ _ _ ih =>
    obtain ⟨a, r, e1, e2⟩ := ope_pls ih
    exact ⟨a, r ++ _, by rw [wr_dot, e1]; rfl, e2⟩
  | call _ _ ih _ =>
    obtain ⟨a, r, e1, e2⟩ := ope_pls ih
    exact ⟨a, r ++ _, by rw [wr_call, e1]; rfl, e2⟩
  | una hx _ _ =>
    refine ⟨_, _, wr_una _ _ _ _ _ _, ?_⟩
    rcases hx with rfl | rfl <;> exact pls_sg (by decide) (by decide) (by decide) (by decide) (by decide) (by decide)
  | bin _ _ _ ih _ =>
    obtain ⟨a, r, e1, e2⟩ := ope_pls ih
    exact ⟨a, r ++ _, by rw [wr_bin, e1]; rfl, e2⟩
theorem wr_var1 (a f t : Int) (x : ByteArray) (v : Pt) : wrP (.mk 4 x 0 a f t [v]) = wdT [118, 97, 114] :: tkW 1 x :: wrP v := by simp [wrP, wrK, wrM_map, wPar]
theorem wr_var2 (a f t : Int) (x : ByteArray) (v d : Pt) : wrP (.mk 4 x 0 a f t [v, d]) = wdT [118, 97, 114] :: tkW 1 x :: (wrP v ++ tkW 4 (strU [61]) :: wrP d) := by simp [wrP, wrK, wrM_map, wPar, sgT]
theorem wr_res0 (a f t : Int) : wrP (.mk 16 ⟨#[]⟩ 0 a f t []) = [wdT [114, 101, 116, 117, 114, 110]] := by simp [wrP, wrK, wrS, wrM_map]
theorem wr_res1 (a f t : Int) (e : Pt) : wrP (.mk 16 ⟨#[]⟩ 0 a f t [e]) = wdT [114, 101, 116, 117, 114, 110] :: wrP e := by simp [wrP, wrK, wrS, wrM_map]
theorem wr_short (a f t : Int) (x : ByteArray) (e : Pt) : wrP (.mk 17 x 0 a f t [e]) = tkW 1 x :: tkW 4 (strU [58, 61]) :: wrP e := by simp [wrP, wrK, wrS, wrM_map, sgT]
theorem wr_assign (a f t : Int) (e d : Pt) : wrP (.mk 18 ⟨#[]⟩ 0 a f t [e, d]) = wrP e ++ tkW 4 (strU [61]) :: wrP d := by simp [wrP, wrK, wrS, wrM_map, wPar, sgT]
theorem wr_expr (a f t : Int) (e : Pt) : wrP (.mk 19 ⟨#[]⟩ 0 a f t [e]) = wrP e := by simp [wrP, wrK, wrS, wrM_map]
/-- How a branch is read. -/
def BrI (e : Pt) : Prop := ∀ (k : Int) (s : List UInt8) (r : List Tok), fol k s → ∀ (ts : List Tok) (p : Nat), Hs ts p (wrP e ++ tkW k (strU s) :: r) → isT ts p [105, 102] = true ∧ ∃ e', smP e e' ∧ Ev (fun m => (fns ts m).bran p) (.ok e' (p + (wrP e).length))
theorem ev_stmt {ts : List Tok} {p : Nat} {r : Rs Pt} (h : Ev (fun n =>
      if isT ts p [123] then bloP ts (fns ts n) p else if isT ts p [118, 97, 114] then varP ts (fns ts n) p else if isT ts p [105, 102] then (fns ts n).bran p
      else if isT ts p [102, 111, 114] then looP ts (fns ts n) p else if isT ts p [114, 101, 116, 117, 114, 110] then resP ts (fns ts n) p
      else if namB ts p && isT ts (p + 1) [58, 61] then shoP ts (fns ts n) p else simP ts (fns ts n) p) r) : Ev (fun m => (fns ts m).stmt p) r := ev_succ h
theorem bf {b : Bool} (h : b = false) : ¬ b = true := by rw [h]; simp
/-- A branch is a statement. -/
theorem sti_bran {e : Pt} (h : BrI e) (hw : ∃ r, wrP e = wdT [105, 102] :: r) : StI e := by
  intro k s r hf ts p hh
  obtain ⟨q, hq⟩ := hw
  have h0 : Hs ts p (wdT [105, 102] :: (q ++ tkW k (strU s) :: r)) := by have := hh; rw [hq] at this; exact this
  obtain ⟨h1, e', h2, h3⟩ := h k s r hf ts p hh
  exact ⟨h0.not (by decide), e', h2, ev_stmt (ev_neg (bf (h0.not (by decide))) (ev_neg (bf (h0.not (by decide))) (ev_pos h1 h3)))⟩
theorem sti_plain {e : Pt} {a : Tok} {q : List Tok} (ha : plSt a) {ts : List Tok} {p : Nat} {e' : Pt} {n : Nat} (hh : Hs ts p (a :: q)) (h2 : smP e e')
    (h : Ev (fun n => if namB ts p && isT ts (p + 1) [58, 61] then shoP ts (fns ts n) p else simP ts (fns ts n) p) (.ok e' n)) : isT ts p [125] = false ∧ ∃ e', smP e e' ∧ Ev (fun m => (fns ts m).stmt p) (.ok e' n) := by
  have ht : ∀ u, isT ts p u = (a.text.data.toList == u) := fun u => by unfold isT; rw [hh.one.2]
  refine ⟨by rw [ht]; exact ha.c, e', h2, ev_stmt (ev_neg (bf (by rw [ht]; exact ha.b)) (ev_neg (bf (by rw [ht]; exact ha.v)) (ev_neg (bf (by rw [ht]; exact ha.i)) (ev_neg (bf (by rw [ht]; exact ha.f)) (ev_neg (bf (by rw [ht]; exact ha.r)) h)))))⟩
theorem st_both {u : Pt} (h : St u) : StI u ∧ ((hdP u).1 = 14 → BrI u) := by
  induction h with
  | @block a f t l hl ih =>
    refine ⟨fun k s r hf ts p hh => ?_, fun h => by simp [hdP] at h⟩
    rw [wr_blo] at hh ⊢
    obtain ⟨e', h1, h2⟩ := blo_ev (a := a) (f := f) (t := t) (fun u hu => (ih u hu).1) ts p hh.left
    have h0 : Hs ts p (tkW 4 (strU [123]) :: (wEnd (l.map wrP) ++ [sgT [125]])) := by have := hh.left; rw [wr_bra] at this; exact this
    exact ⟨h0.not (by decide), e', h1, ev_stmt (ev_pos h0.is h2)⟩
  | @loop a f t a' f' t' c l hc hl ih =>
    refine ⟨fun k s r hf ts p hh => ?_, fun h => by simp [hdP] at h⟩
    rw [wr_loop, wr_blo] at hh ⊢
    obtain ⟨e', h1, h2⟩ := loo_ev (a := a) (f := f) (t := t) (a' := a') (f' := f') (t' := t') hc (fun u hu => (ih u hu).1) ts p hh.left
    have h0 : Hs ts p (wdT [102, 111, 114] :: (wrP c ++ wBra (l.map wrP))) := hh.left
    refine ⟨h0.not (by decide), e', h1, ev_stmt (ev_neg (bf (h0.not (by decide))) (ev_neg (bf (h0.not (by decide))) (ev_neg (bf (h0.not (by decide))) (ev_pos h0.is ?_))))⟩
    rw [show p + (wdT [102, 111, 114] :: (wrP c ++ wBra (l.map wrP))).length = p + 1 + (wrP c).length + (wBra (l.map wrP)).length by simp; omega]
    exact h2
  | @if1 a f t a' f' t' c l hc hl ih =>
    have hb : BrI (.mk 14 ⟨#[]⟩ 0 a f t [c, .mk 13 ⟨#[]⟩ 0 a' f' t' l]) := fun k s r hf ts p hh => by
      rw [wr_if1, wr_blo] at hh ⊢
      have h0 : Hs ts p (wdT [105, 102] :: (wrP c ++ (wBra (l.map wrP) ++ tkW k (strU s) :: r))) := by simpa using hh
      obtain ⟨e', h1, h2⟩ := bran1_ev (a := a) (f := f) (t := t) (a' := a') (f' := f') (t' := t') hc (fun u hu => (ih u hu).1) hf ts p h0
      refine ⟨h0.is, e', h1, ?_⟩
      rw [show p + (wdT [105, 102] :: (wrP c ++ wBra (l.map wrP))).length = p + 1 + (wrP c).length + (wBra (l.map wrP)).length by simp; omega]
      exact h2
    exact ⟨sti_bran hb ⟨_, wr_if1 _ _ _ _ _⟩, fun _ => hb⟩
  | @if2 a f t a' f' t' a2 f2 t2 c l m hc hl hm ih im =>
    have hb : BrI (.mk 14 ⟨#[]⟩ 0 a f t [c, .mk 13 ⟨#[]⟩ 0 a' f' t' l, .mk 13 ⟨#[]⟩ 0 a2 f2 t2 m]) := fun k s r hf ts p hh => by
      rw [wr_if2, wr_blo, wr_blo] at hh ⊢
      have h0 : Hs ts p (wdT [105, 102] :: (wrP c ++ (wBra (l.map wrP) ++ wdT [101, 108, 115, 101] :: (wBra (m.map wrP) ++ tkW k (strU s) :: r)))) := by simpa using hh
      have hz : Hs ts (p + 1 + (wrP c).length + (wBra (l.map wrP)).length + 1) (wBra (m.map wrP) ++ tkW k (strU s) :: r) := h0.tail.right.right.tail
      have hz2 : Hs ts (p + 1 + (wrP c).length + (wBra (l.map wrP)).length + 1) (tkW 4 (strU [123]) :: (wEnd (m.map wrP) ++ [sgT [125]])) := by have := hz.left; rw [wr_bra] at this; exact this
      obtain ⟨d', h3, h4⟩ := blo_ev (a := a2) (f := f2) (t := t2) (fun u hu => (im u hu).1) ts _ hz.left
      obtain ⟨e', h1, h2⟩ := bran2_ev (a := a) (f := f) (t := t) (a' := a') (f' := f') (t' := t') hc (fun u hu => (ih u hu).1) ts p _ h0 _ ⟨d', h3, ev_neg (bf (hz2.not (by decide))) h4⟩
      refine ⟨h0.is, e', h1, ?_⟩
      rw [show p + (wdT [105, 102] :: (wrP c ++ (wBra (l.map wrP) ++ wdT [101, 108, 115, 101] :: wBra (m.map wrP)))).length = p + 1 + (wrP c).length + (wBra (l.map wrP)).length + 1 + (wBra (m.map wrP)).length by simp; omega]
      exact h2
    exact ⟨sti_bran hb ⟨_, wr_if2 _ _ _ _ _ _⟩, fun _ => hb⟩
  | @if3 a f t a' f' t' c d l hc hl hd h14 ih id =>
    have hb : BrI (.mk 14 ⟨#[]⟩ 0 a f t [c, .mk 13 ⟨#[]⟩ 0 a' f' t' l, d]) := fun k s r hf ts p hh => by
      rw [wr_if2, wr_blo] at hh ⊢
      have h0 : Hs ts p (wdT [105, 102] :: (wrP c ++ (wBra (l.map wrP) ++ wdT [101, 108, 115, 101] :: (wrP d ++ tkW k (strU s) :: r)))) := by simpa using hh
      have hz : Hs ts (p + 1 + (wrP c).length + (wBra (l.map wrP)).length + 1) (wrP d ++ tkW k (strU s) :: r) := h0.tail.right.right.tail
      obtain ⟨g1, d', h3, h4⟩ := id.2 h14 k s r hf ts _ hz
      obtain ⟨e', h1, h2⟩ := bran2_ev (a := a) (f := f) (t := t) (a' := a') (f' := f') (t' := t') hc (fun u hu => (ih u hu).1) ts p _ h0 _ ⟨d', h3, ev_pos g1 h4⟩
      refine ⟨h0.is, e', h1, ?_⟩
      rw [show p + (wdT [105, 102] :: (wrP c ++ (wBra (l.map wrP) ++ wdT [101, 108, 115, 101] :: wrP d))).length = p + 1 + (wrP c).length + (wBra (l.map wrP)).length + 1 + (wrP d).length by simp; omega]
      exact h2
    exact ⟨sti_bran hb ⟨_, wr_if2 _ _ _ _ _ _⟩, fun _ => hb⟩
  | @var1 a f t x v hx hv =>
    refine ⟨fun k s r hf ts p hh => ?_, fun h => by simp [hdP] at h⟩
    rw [wr_var1] at hh ⊢
    have h0 : Hs ts p (wdT [118, 97, 114] :: tkW 1 x :: (wrP v ++ tkW k (strU s) :: r)) := hh
    obtain ⟨e', h1, h2⟩ := var_one (a := a) (f := f) (t := t) hx hv hf ts p h0
    refine ⟨h0.not (by decide), e', h1, ev_stmt (ev_neg (bf (h0.not (by decide))) (ev_pos h0.is ?_))⟩
    rw [show p + (wdT [118, 97, 114] :: tkW 1 x :: wrP v).length = p + 1 + 1 + (wrP v).length by simp; omega]
    exact h2
  | @var2 a f t x v d hx hv hd =>
    refine ⟨fun k s r hf ts p hh => ?_, fun h => by simp [hdP] at h⟩
    rw [wr_var2] at hh ⊢
    have h0 : Hs ts p (wdT [118, 97, 114] :: tkW 1 x :: (wrP v ++ tkW 4 (strU [61]) :: (wrP d ++ tkW k (strU s) :: r))) := by simpa using hh
    obtain ⟨e', h1, h2⟩ := var_two (a := a) (f := f) (t := t) hx hv hd hf ts p h0
    refine ⟨h0.not (by decide), e', h1, ev_stmt (ev_neg (bf (h0.not (by decide))) (ev_pos h0.is ?_))⟩
    rw [show p + (wdT [118, 97, 114] :: tkW 1 x :: (wrP v ++ tkW 4 (strU [61]) :: wrP d)).length = p + 1 + 1 + (wrP v).length + 1 + (wrP d).length by simp; omega]
    exact h2
  | @res0 a f t =>
    refine ⟨fun k s r hf ts p hh => ?_, fun h => by simp [hdP] at h⟩
    rw [wr_res0] at hh ⊢
    have h0 : Hs ts p (wdT [114, 101, 116, 117, 114, 110] :: tkW k (strU s) :: r) := hh
    obtain ⟨e', h1, h2⟩ := res_none (a := a) (f := f) (t := t) hf ts p h0
    exact ⟨h0.not (by decide), e', h1, ev_stmt (ev_neg (bf (h0.not (by decide))) (ev_neg (bf (h0.not (by decide))) (ev_neg (bf (h0.not (by decide))) (ev_neg (bf (h0.not (by decide))) (ev_pos h0.is h2)))))⟩
  | @res1 a f t e he =>
    refine ⟨fun k s r hf ts p hh => ?_, fun h => by simp [hdP] at h⟩
    rw [wr_res1] at hh ⊢
    have h0 : Hs ts p (wdT [114, 101, 116, 117, 114, 110] :: (wrP e ++ tkW k (strU s) :: r)) := hh
    obtain ⟨e', h1, h2⟩ := res_one (a := a) (f := f) (t := t) he hf ts p h0
    refine ⟨h0.not (by decide), e', h1, ev_stmt (ev_neg (bf (h0.not (by decide))) (ev_neg (bf (h0.not (by decide))) (ev_neg (bf (h0.not (by decide))) (ev_neg (bf (h0.not (by decide))) (ev_pos h0.is ?_)))))⟩
    rw [show p + (wdT [114, 101, 116, 117, 114, 110] :: wrP e).length = p + 1 + (wrP e).length by simp; omega]
    exact h2
  | @short a f t x e hx hp he =>
    refine ⟨fun k s r hf ts p hh => ?_, fun h => by simp [hdP] at h⟩
    rw [wr_short] at hh ⊢
    have h0 : Hs ts p (tkW 1 x :: tkW 4 (strU [58, 61]) :: (wrP e ++ tkW k (strU s) :: r)) := hh
    obtain ⟨e', h1, h2⟩ := sho_one (a := a) (f := f) (t := t) hx he hf ts p h0
    refine sti_plain (pls_kep hp hx) h0 h1 (ev_pos (by rw [nam_of h0 hx, h0.tail.is]; rfl) ?_)
    rw [show p + (tkW 1 x :: tkW 4 (strU [58, 61]) :: wrP e).length = p + 1 + 1 + (wrP e).length by simp; omega]
    exact h2
  | @assign a f t e d he hd =>
    refine ⟨fun k s r hf ts p hh => ?_, fun h => by simp [hdP] at h⟩
    rw [wr_assign] at hh ⊢
    have h0 : Hs ts p (wrP e ++ tkW 4 (strU [61]) :: (wrP d ++ tkW k (strU s) :: r)) := by simpa using hh
    obtain ⟨e', h1, h2⟩ := sim_two (a := a) (f := f) (t := t) he hd hf ts p h0
    obtain ⟨b, q, hb, hpl⟩ := ex_pls he
    have h3 : Hs ts p (b :: (q ++ tkW 4 (strU [61]) :: (wrP d ++ tkW k (strU s) :: r))) := by have := h0; rw [hb] at this; exact this
    refine sti_plain hpl h3 h1 (ev_neg (by rw [ex_short he (noA_sg (by decide)) ts p h0]; simp) ?_)
    rw [show p + (wrP e ++ tkW 4 (strU [61]) :: wrP d).length = p + (wrP e).length + 1 + (wrP d).length by simp; omega]
    exact h2
  | @expr a f t e he =>
    refine ⟨fun k s r hf ts p hh => ?_, fun h => by simp [hdP] at h⟩
    rw [wr_expr] at hh ⊢
    obtain ⟨e', h1, h2⟩ := sim_one (a := a) (f := f) (t := t) he hf ts p hh
    obtain ⟨b, q, hb, hpl⟩ := ex_pls he
    have h3 : Hs ts p (b :: (q ++ tkW k (strU s) :: r)) := by have := hh; rw [hb] at this; exact this
    refine sti_plain hpl h3 h1 (ev_neg (by rw [ex_short he (w := tkW k (strU s)) (by rcases hf with ⟨-, rfl⟩ | ⟨-, rfl⟩ <;> exact noA_sg (by decide)) ts p hh]; simp) h2)
theorem st_it {u : Pt} (h : St u) : StI u := (st_both h).1
end Go.Proofs.YtbadafkfjfbnlaaGreatDoor
