/- The contract of merge's paths, walked. -/
import Derived.Test.YtmbnbehlfbdpnabMPat
namespace Go.Proofs.Ytmbnbehlfbdpnab
open Go.RowKit Go.Shelf
attribute [local go_sem] Oper.semAt_some

/-- A world is given a name, inside a fence. -/
theorem wpIn_gen {F : Fence} {n : Nat} {P : Program} {c : Code} {Q : Exit → Act → World → Prop} {a : Act} {w0 : World} (G : World → Prop) (h0 : G w0) (h : ∀ W1, G W1 → Code.wpIn F n P c Q a W1) : Code.wpIn F n P c Q a w0 := h _ h0
theorem SlAt.below {w w' : World} {s : Sl} (h : SlAt w s) (hb : Below w.heap.size w w') : SlAt w' s := ⟨RowsAt.below h.1 hb, h.2⟩
def rowV3 (x y z : Sl) : Array Value := #[.slice x.sp x.fs.length x.cap, .slice y.sp y.fs.length y.cap, .slice z.sp z.fs.length z.cap]

/-- How many files the three in a row have. -/
def sliceLen : Value → Nat
  | .slice _ n _ => n
  | _ => 0
def rowLen (w : World) (g : Nat) : Nat := match w.heap[g]? with
  | some (.cells cs _ _) => (cs.toList.map sliceLen).sum
  | _ => 0
theorem rowLen_of {w : World} {g : Nat} {x y z : Sl} {t : TypeId} {fr : Nat × Nat} (h : w.heap[g]? = some (.cells (rowV3 x y z) t fr)) : rowLen w g = len3 x.fs y.fs z.fs := by
  unfold rowLen
  rw [h]
  simp [rowV3, sliceLen, len3]
  omega
/-- Between two rounds. -/
def ItInv (w0 W : World) (J : List Ps → World → Prop) (x y z : Sl) (p4 : Value) (wr : World) : Prop :=
  ∃ (gp : Nat) (a b c : Sl) (pre : List Ps), p4 = .pointer (some ⟨gp, 0, none⟩) ∧ wr.heap[gp]? = some (.cells (leastR a.fs b.fs c.fs).cells 67 (0, 0)) ∧ W.heap.size < gp ∧ wr.heap[W.heap.size]? = some (.cells (rowV3 a b c) 50 (0, 0)) ∧
    (SlAt w0 a ∧ SlAt w0 b ∧ SlAt w0 c) ∧ J pre wr ∧ pathsA x.fs y.fs z.fs = pre ++ pathsA a.fs b.fs c.fs ∧ pre.length + len3 a.fs b.fs c.fs ≤ len3 x.fs y.fs z.fs

/-- What was taken from the first t of the three. -/
def InInv (w0 : World) (G gs gp : Nat) (J : List Ps → World → Prop) (pre : List Ps) (pv : ByteArray) (a b c : Sl) (t : Nat) (wr : World) : Prop :=
  ∃ (a' b' c' : Sl) (s : St3), wr.heap[G]? = some (.cells (rowV3 a' b' c') 50 (0, 0)) ∧ wr.heap[gs]? = some (.cells s.cells 68 (0, 0)) ∧ wr.heap[gp]? = some (.cells (May.cells ⟨pv, true⟩) 67 (0, 0)) ∧ (SlAt w0 a' ∧ SlAt w0 b' ∧ SlAt w0 c') ∧ J pre wr ∧
    (a'.fs = (if 0 < t then takeL pv a.fs else a.fs) ∧ b'.fs = (if 1 < t then takeL pv b.fs else b.fs) ∧ c'.fs = (if 2 < t then takeL pv c.fs else c.fs)) ∧
    (s.b = (if 0 < t then takeM pv a.fs else no) ∧ s.o = (if 1 < t then takeM pv b.fs else no) ∧ s.t = (if 2 < t then takeM pv c.fs else no))

set_option maxRecDepth 100000 in
set_option maxHeartbeats 2000000 in
theorem paths1_in (n : Nat) (hn : 2 ≤ n) (l Bs : Nat) (x y z : Sl) (w0 : World) (hx : SlAt w0 x) (hy : SlAt w0 y) (hz : SlAt w0 z)
    (J : List Ps → World → Prop) (W : World) (hW : Below w0.heap.size w0 W) (hBW : W.heap[Bs]? = some (.cells (rowV3 x y z) 50 (0, 0))) (hJ : Stays W.heap.size J) (hJB : ∀ pre W1, J pre W1 → Below w0.heap.size w0 W1)
    (hY : ∀ pre p W1, J pre W1 → pre.length < len3 x.fs y.fs z.fs → YieldAt Fence.wide (n - 1) Try.prog l #[.string p.1, .agg p.2.cells] W1 fun e W' => e = .returned (.bool true) ∧ J (pre ++ [p]) W' ∧ KeepsT W1 W')
    (h0 : J [] W) :
    CallsIn Fence.wide n Try.prog 30 #[.func (.yield l) #[] #[], .pointer (some ⟨Bs, 0, none⟩)] W fun e W' => (∃ v, e = .returned v) ∧ ∃ xs, xs = pathsA x.fs y.fs z.fs ∧ J xs W' := by
  have HX : Hid (SlAt w0 x) := hx
  have HY : Hid (SlAt w0 y) := hy
  have HZ : Hid (SlAt w0 z) := hz
  clear hx hy hz
  refine callsIn_of_wp Try.func30 rfl trivial ?_ rfl
  simp only [Try.ntmps30, List.size_toArray, List.length_cons, List.length_nil, Nat.reduceAdd, Nat.reduceSub, Array.replicate_succ, Array.replicate_zero, List.push_toArray, List.append_toArray, List.nil_append, List.cons_append]
  have hone : (rowV3 x y z).all (·.oneCell') = true := by simp [rowV3, Value.oneCell']
  have c0 : W.cell? ⟨Bs, 0, none⟩ = some (.slice x.sp x.fs.length x.cap) := (cell_of_row _ _ _ _ _ _ hBW).trans rfl
  have c1 : W.cell? ⟨Bs, 1, none⟩ = some (.slice y.sp y.fs.length y.cap) := (cell_of_row _ _ _ _ _ _ hBW).trans rfl
  have c2 : W.cell? ⟨Bs, 2, none⟩ = some (.slice z.sp z.fs.length z.cap) := (cell_of_row _ _ _ _ _ _ hBW).trans rfl
  gi_wp2
  refine ⟨trivial, fun h => (by cases h), ?_⟩
  have hBa : Below w0.heap.size w0 (W.alloc (.cells (rowV3 x y z) 50)) := hW.alloc hW.size _
  refine (callsIn_wide.2 (least_any x y z _ (RowsAt.below HX.out.1 hBa) (RowsAt.below HY.out.1 hBa) (RowsAt.below HZ.out.1 hBa))).mono ?_
  rintro e W1 ⟨rfl, hB1⟩
  have g1 : W1.heap[W.heap.size]? = some (.cells (rowV3 x y z) 50 (0, 0)) := (hB1.block _ (by simp)).trans (heap_alloc_new _ _)
  have hJ1 : J [] W1 := hJ [] _ _ none (hJ [] W _ none h0 (World.grownBy_alloc _ _ _) (fun r e => by cases e)) (grown_of hB1) (fun r e => by cases e)
  have hm0 : Hid (ItInv w0 W J x y z (.pointer (some ⟨W1.heap.size, 0, none⟩)) (W1.alloc (.cells (leastR x.fs y.fs z.fs).cells 67))) := by
    refine ⟨W1.heap.size, x, y, z, [], rfl, heap_alloc_new _ _, lt_of_row g1, (Below.heap_alloc _ _ _ (lt_of_row g1)).trans g1, ⟨HX.out, HY.out, HZ.out⟩, hJ [] _ _ none hJ1 (World.grownBy_alloc _ _ _) (fun r e => by cases e), rfl, by simp⟩
  unfold May.cells at hm0 ⊢
  clear hBa g1 hJ1 hB1 c0 c1 c2 hBW hone
  generalize leastR x.fs y.fs z.fs = m at hm0 ⊢
  gi_wp2
  refine wpIn_gen (fun W2 => ItInv w0 W J x y z (.pointer (some ⟨W1.heap.size, 0, none⟩)) W2) hm0.out ?_
  intro W2 hm2
  clear hm0
  gi_loopw [4] (fun p4 wr => ItInv w0 W J x y z p4 wr) (fun _ wr => rowLen wr W.heap.size)
  case atStart => exact hm2
  case round =>
    obtain ⟨gp, a, b, c, pre, rfl, hp, hgp, hG, ⟨ha, hb, hc⟩, hj, hall, hlen⟩ := hrel
    have HA : Hid (SlAt w0 a) := ha
    have HB : Hid (SlAt w0 b) := hb
    have HC : Hid (SlAt w0 c) := hc
    have HALL : Hid _ := hall
    have HME : Hid (rowLen wr W.heap.size = len3 a.fs b.fs c.fs) := rowLen_of hG
    clear ha hb hc hall hm2
    have hgpl := lt_of_row hp
    have cp0 : wr.cell? ⟨gp, 0, none⟩ = some (.string (leastR a.fs b.fs c.fs).value) := (cell_of_row _ _ _ _ _ _ hp).trans rfl
    have cp1 : wr.cell? ⟨gp, 1, none⟩ = some (.bool (leastR a.fs b.fs c.fs).there) := (cell_of_row _ _ _ _ _ _ hp).trans rfl
    cases hth : (leastR a.fs b.fs c.fs).there with
    | false =>
      rw [hth] at cp1
      have HE : Hid (pathsA x.fs y.fs z.fs = pre) := by rw [HALL.out, pathsA_end hth, List.append_nil]; exact rfl
      clear hth
      gi_wp2
      go_end0
      exact ⟨⟨_, rfl⟩, pre, HE.out.symm, hj⟩
    | true =>
      rw [hth] at cp1
      have HST : Hid (pathsA x.fs y.fs z.fs = (pre ++ [((leastR a.fs b.fs c.fs).value, stand (leastR a.fs b.fs c.fs).value a.fs b.fs c.fs)]) ++ pathsA (takeL (leastR a.fs b.fs c.fs).value a.fs) (takeL (leastR a.fs b.fs c.fs).value b.fs) (takeL (leastR a.fs b.fs c.fs).value c.fs)) := by
        rw [HALL.out, pathsA_step hth, List.append_assoc]
        exact rfl
      have HLT : Hid (len3 (takeL (leastR a.fs b.fs c.fs).value a.fs) (takeL (leastR a.fs b.fs c.fs).value b.fs) (takeL (leastR a.fs b.fs c.fs).value c.fs) < len3 a.fs b.fs c.fs) := take_less hth
      clear HALL
      generalize leastR a.fs b.fs c.fs = m at *
      obtain ⟨pv, pt⟩ := m
      dsimp only at hth HST HLT cp0 cp1
      subst hth
      gi_wp2
      have hGl := lt_of_row hG
      have hin0 : InInv w0 W.heap.size wr.heap.size gp J pre pv a b c 0 (wr.alloc (.cells (St3.cells ⟨no, no, no⟩) 68)) :=
        ⟨a, b, c, ⟨no, no, no⟩, (Below.heap_alloc _ _ _ hGl).trans hG, heap_alloc_new _ _, (Below.heap_alloc _ _ _ hgpl).trans hp, ⟨HA.out, HB.out, HC.out⟩, hJ pre _ _ none hj (World.grownBy_alloc _ _ _) (fun r e => by cases e), ⟨rfl, rfl, rfl⟩, rfl, rfl, rfl⟩
      have HIN : Hid _ := hin0
      clear hin0
      refine wpIn_gen (fun W3 => InInv w0 W.heap.size wr.heap.size gp J pre pv a b c 0 W3) HIN.out ?_
      intro W3 hin3
      have hgsz : W.heap.size < wr.heap.size := hGl
      have hgs2 : gp < wr.heap.size := hgpl
      generalize wr.heap.size = gs at hgsz hgs2 hin3 ⊢
      clear hGl hgpl cp0 cp1 hp hG hj HIN
      gi_loopw [14] (fun i w4 => ∃ t : Nat, t ≤ 3 ∧ i = .int .i64 t ∧ InInv w0 W.heap.size gs gp J pre pv a b c t w4) (fun i _ => 3 - (intOf i).toNat)
      case atStart => exact ⟨0, Nat.zero_le _, rfl, hin3⟩
      case round =>
        obtain ⟨t, ht, rfl, a', b', c', s, hG4, hs4, hp4, ⟨ha', hb', hc'⟩, hj4, hfs, hss⟩ := hrel
        have cp0 : wr.cell? ⟨gp, 0, none⟩ = some (.string pv) := (cell_of_row _ _ _ _ _ _ hp4).trans rfl
        by_cases hlt : t < 3
        · have hw4 : Below w0.heap.size w0 wr := hJB _ _ hj4
          have hGl := lt_of_row hG4
          have hsl := lt_of_row hs4
          have hfw : Fence.wide.fn 32 := trivial
          have hd : decide ((t : Int) < 3) = true := by simp; omega
          obtain ⟨sl, hsl1, hsl2, HTK⟩ : ∃ sl : Sl, (rowV3 a' b' c')[t]? = some sl.v ∧ SlAt w0 sl ∧ Hid (∀ s' : Sl, s'.fs = takeL pv sl.fs → SlAt w0 s' → ∃ (a1 b1 c1 : Sl) (s1 : St3), (rowV3 a' b' c').setIfInBounds t s'.v = rowV3 a1 b1 c1 ∧ (s.cells.setIfInBounds (t * 2) (.string (takeM pv sl.fs).value)).setIfInBounds (t * 2 + 1) (.bool (takeM pv sl.fs).there) = s1.cells ∧ (SlAt w0 a1 ∧ SlAt w0 b1 ∧ SlAt w0 c1) ∧
              (a1.fs = (if 0 < t + 1 then takeL pv a.fs else a.fs) ∧ b1.fs = (if 1 < t + 1 then takeL pv b.fs else b.fs) ∧ c1.fs = (if 2 < t + 1 then takeL pv c.fs else c.fs)) ∧
              (s1.b = (if 0 < t + 1 then takeM pv a.fs else no) ∧ s1.o = (if 1 < t + 1 then takeM pv b.fs else no) ∧ s1.t = (if 2 < t + 1 then takeM pv c.fs else no))) := by
            have h3 : t = 0 ∨ t = 1 ∨ t = 2 := by omega
            rcases h3 with rfl | rfl | rfl
            · refine ⟨a', rfl, ha', fun s' e1 e2 => ⟨s', b', c', ⟨takeM pv a'.fs, s.o, s.t⟩, rfl, rfl, ⟨e2, hb', hc'⟩, ⟨?_, hfs.2.1, hfs.2.2⟩, ?_, hss.2.1, hss.2.2⟩⟩
              · rw [e1, hfs.1]; rfl
              · show takeM pv a'.fs = _; rw [hfs.1]; rfl
            · refine ⟨b', rfl, hb', fun s' e1 e2 => ⟨a', s', c', ⟨s.b, takeM pv b'.fs, s.t⟩, rfl, rfl, ⟨ha', e2, hc'⟩, ⟨hfs.1, ?_, hfs.2.2⟩, hss.1, ?_, hss.2.2⟩⟩
              · rw [e1, hfs.2.1]; rfl
              · show takeM pv b'.fs = _; rw [hfs.2.1]; rfl
            · refine ⟨c', rfl, hc', fun s' e1 e2 => ⟨a', b', s', ⟨s.b, s.o, takeM pv c'.fs⟩, rfl, rfl, ⟨ha', hb', e2⟩, ⟨hfs.1, hfs.2.1, ?_⟩, hss.1, hss.2.1, ?_⟩⟩
              · rw [e1, hfs.2.2]; rfl
              · show takeM pv c'.fs = _; rw [hfs.2.2]; rfl
          have HSL : Hid (SlAt w0 sl) := hsl2
          have HSI : Hid _ := hsl1
          clear ha' hb' hc' hfs hss hsl1 hsl2
          have hneG : ¬ gs = W.heap.size := by omega
          have h1n : 1 ≤ n := by omega
          have HMC : Hid ((takeM pv sl.fs).cells = #[.string (takeM pv sl.fs).value, .bool (takeM pv sl.fs).there]) := rfl
          have HU0 : Hid (∃ u, s.cells[t * 2]? = some u) := ⟨_, Array.getElem?_eq_getElem (by show t * 2 < 6; omega)⟩
          have HU1 : Hid (∃ u, s.cells[t * 2 + 1]? = some u) := ⟨_, Array.getElem?_eq_getElem (by show t * 2 + 1 < 6; omega)⟩
          have hmx : Try.prog.follows .mixedOrders = true := by kernel_rfl
          gi_wp2
          gi_region_with_o (gi_at_call 32; refine (callsIn_wide.2 (take_any w0 W.heap.size t (rowV3 a' b' c') sl pv _ (by first | exact hw4 | exact hw4.trans (below_drawn' _ 1)) hW.size HSL.out (by exact hG4) HSI.out)).mono ?_; rintro e W5 ⟨he, s', q1, q2, q3, q4⟩; rw [HMC.out] at he; subst he; have rs5 : W5.heap[gs]? = some (.cells s.cells 68 (0, 0)) := (q4.block gs hsl (fun e => hneG (Option.some.inj e))).trans hs4; obtain ⟨u0, hu0⟩ := HU0.out; obtain ⟨u1, hu1⟩ := HU1.out; have cs0 : W5.cell? ⟨gs, t * 2, none⟩ = some u0 := (cell_of_row _ _ _ _ _ _ rs5).trans hu0; have cs1 : W5.cell? ⟨gs, t * 2 + 1, none⟩ = some u1 := (cell_of_row _ _ _ _ _ _ rs5).trans hu1; have fz0 : W5.frozen? ⟨gs, t * 2, none⟩ = false := frozen_of_row _ _ _ _ _ rs5; have fz1 : W5.frozen? ⟨gs, t * 2 + 1, none⟩ = false := frozen_of_row _ _ _ _ _ rs5; have Q1 : Hid _ := q1; have Q2 : Hid (SlAt w0 s') := q2; clear q1 q2 hu0 hu1)
          all_goals (
            have hz6 : ((W5.setCell ⟨gs, t * 2, none⟩ (.string (takeM pv sl.fs).value)).setCell ⟨gs, t * 2 + 1, none⟩ (.bool (takeM pv sl.fs).there)).heap.size = W5.heap.size := by simp [World.setCell]
            have hoth : ∀ k, k ≠ gs → ((W5.setCell ⟨gs, t * 2, none⟩ (.string (takeM pv sl.fs).value)).setCell ⟨gs, t * 2 + 1, none⟩ (.bool (takeM pv sl.fs).there)).heap[k]? = W5.heap[k]? := fun k hk => (heap_setCell_other _ _ _ _ hk).trans (heap_setCell_other _ _ _ _ hk)
            have hg6 : W5.grownBy ((W5.setCell ⟨gs, t * 2, none⟩ (.string (takeM pv sl.fs).value)).setCell ⟨gs, t * 2 + 1, none⟩ (.bool (takeM pv sl.fs).there)) (some gs) := ⟨rfl, rfl, rfl, by rw [hz6]; exact Nat.le_refl _, fun k _ hk => hoth k (fun e => hk (by rw [e]))⟩
            have hrs6 := heap_setCell_same _ gs (t * 2 + 1) _ _ (.bool (takeM pv sl.fs).there) (heap_setCell_same _ gs (t * 2) _ _ (.string (takeM pv sl.fs).value) rs5)
            have hj5 : J pre W5 := hJ pre _ _ _ (hJ pre wr wr.drew none hj4 (drew_grown wr 1) (fun r e => by cases e)) q4 (fun r e => by injection e with e; subst e; exact ⟨Nat.le_refl _, _, _, hG4, .inl rfl⟩)
            have hj6 := hJ pre _ _ _ hj5 hg6 (fun r e => by injection e with e; subst e; exact ⟨by omega, _, _, rs5, .inr (.inr rfl)⟩)
            obtain ⟨a1, b1, c1, s1, e1, e2, e3, e4, e5⟩ := HTK.out s' Q1.out Q2.out
            have hinv : Hid (InInv w0 W.heap.size gs gp J pre pv a b c (t + 1) ((W5.setCell ⟨gs, t * 2, none⟩ (.string (takeM pv sl.fs).value)).setCell ⟨gs, t * 2 + 1, none⟩ (.bool (takeM pv sl.fs).there))) :=
              ⟨a1, b1, c1, s1, by rw [hoth _ (fun e => hneG e.symm), q3, e1], by rw [hrs6, e2], by rw [hoth _ (by omega)]; exact (q4.block gp (lt_of_row hp4) (fun e => by injection e with e; omega)).trans hp4, e3, hj6, e4, e5⟩
            clear hz6 hoth hg6 hrs6 hj5 hj6 e1 e2 e3 e4 e5 cs0 cs1 fz0 fz1 rs5 q3 q4 Q1 Q2 HTK
            generalize (W5.setCell ⟨gs, t * 2, none⟩ (.string (takeM pv sl.fs).value)).setCell ⟨gs, t * 2 + 1, none⟩ (.bool (takeM pv sl.fs).there) = W6 at hinv ⊢
            gi_wp2
            go_roundw
            case rel => exact ⟨t + 1, by omega, by go_num, hinv.out⟩
            case measure => simp [intOf]; omega)
        · have hd : decide ((t : Int) < 3) = false := by simp; omega
          obtain rfl : t = 3 := by omega
          obtain ⟨sb, so, st⟩ := s
          obtain ⟨rfl, rfl, rfl⟩ : sb = takeM pv a.fs ∧ so = takeM pv b.fs ∧ st = takeM pv c.fs := hss
          have HFS : Hid (a'.fs = takeL pv a.fs ∧ b'.fs = takeL pv b.fs ∧ c'.fs = takeL pv c.fs) := hfs
          have HA' : Hid (SlAt w0 a') := ha'
          have HB' : Hid (SlAt w0 b') := hb'
          have HC' : Hid (SlAt w0 c') := hc'
          clear ha' hb' hc' hfs
          have cs : ∀ j u, (St3.cells ⟨takeM pv a.fs, takeM pv b.fs, takeM pv c.fs⟩)[j]? = some u → wr.cell? ⟨gs, j, none⟩ = some u := fun j u hu => (cell_of_row _ _ _ _ _ _ hs4).trans hu
          have k0 := cs 0 _ rfl
          have k1 := cs 1 _ rfl
          have k2 := cs 2 _ rfl
          have k3 := cs 3 _ rfl
          have k4 := cs 4 _ rfl
          have k5 := cs 5 _ rfl
          simp only [St3.cells, List.getElem_toArray, List.getElem_cons_zero, List.getElem_cons_succ] at k0 k1 k2 k3 k4 k5
          clear cs
          obtain ⟨fn, tmps, assign, body, hy, hR⟩ := hY pre (pv, stand pv a.fs b.fs c.fs) wr hj4 (by have := HLT.out; omega)
          dsimp only [stand, St3.cells] at hy
          gi_wp2
          refine ⟨fun h => (by cases h), hR.mono ?_⟩
          rintro e W7 ⟨rfl, hj7, hk7⟩
          have hG7 := hk7.same _ _ _ hG4 (.inl rfl)
          have hp7 := hk7.same _ _ _ hp4 (.inr (.inl rfl))
          have p0 : W7.cell? ⟨gp, 0, none⟩ = some (.string pv) := (cell_of_row _ _ _ _ _ _ hp7).trans rfl
          have p1 : W7.cell? ⟨gp, 1, none⟩ = some (.bool true) := (cell_of_row _ _ _ _ _ _ hp7).trans rfl
          have g0 : W7.cell? ⟨W.heap.size, 0, none⟩ = some (.slice a'.sp a'.fs.length a'.cap) := (cell_of_row _ _ _ _ _ _ hG7).trans rfl
          have g1 : W7.cell? ⟨W.heap.size, 1, none⟩ = some (.slice b'.sp b'.fs.length b'.cap) := (cell_of_row _ _ _ _ _ _ hG7).trans rfl
          have g2 : W7.cell? ⟨W.heap.size, 2, none⟩ = some (.slice c'.sp c'.fs.length c'.cap) := (cell_of_row _ _ _ _ _ _ hG7).trans rfl
          have hGl7 := lt_of_row hG7
          have hw7 : Below w0.heap.size w0 W7 := hJB _ _ hj7
          clear hy hR hk7 hj4 hp4 hs4 hG4 cp0 k0 k1 k2 k3 k4 k5 hp7
          gi_wp2
          refine ⟨trivial, fun h => (by cases h), ?_⟩
          have hBa : Below w0.heap.size w0 (W7.alloc (.cells #[.string pv, .bool true] 67)) := hw7.alloc hw7.size _
          refine (callsIn_wide.2 (least_any a' b' c' _ (RowsAt.below HA'.out.1 hBa) (RowsAt.below HB'.out.1 hBa) (RowsAt.below HC'.out.1 hBa))).mono ?_
          rintro e W9 ⟨he, hB9⟩
          rw [show (leastR a'.fs b'.fs c'.fs).cells = #[.string (leastR a'.fs b'.fs c'.fs).value, .bool (leastR a'.fs b'.fs c'.fs).there] from rfl] at he
          subst he
          have hG9 : W9.heap[W.heap.size]? = some (.cells (rowV3 a' b' c') 50 (0, 0)) := (hB9.block _ (by simp; omega)).trans ((Below.heap_alloc _ _ _ hGl7).trans hG7)
          have hp9 : W9.heap[W7.heap.size]? = some (.cells (May.cells ⟨pv, true⟩) 67 (0, 0)) := (hB9.block _ (by simp)).trans (heap_alloc_new _ _)
          have hj9 : J (pre ++ [(pv, stand pv a.fs b.fs c.fs)]) W9 := hJ _ _ _ none (hJ _ W7 _ none hj7 (World.grownBy_alloc _ _ _) (fun r e => by cases e)) (grown_of hB9) (fun r e => by cases e)
          have q0 : W9.cell? ⟨W7.heap.size, 0, none⟩ = some (.string pv) := (cell_of_row _ _ _ _ _ _ hp9).trans rfl
          have q1 : W9.cell? ⟨W7.heap.size, 1, none⟩ = some (.bool true) := (cell_of_row _ _ _ _ _ _ hp9).trans rfl
          have f0 : W9.frozen? ⟨W7.heap.size, 0, none⟩ = false := frozen_of_row _ _ _ _ _ hp9
          have f1 : W9.frozen? ⟨W7.heap.size, 1, none⟩ = false := frozen_of_row _ _ _ _ _ hp9
          clear hBa hB9 p0 p1 g0 g1 g2 hG7 hw7 hj7
          gi_wp2
          have hz6 : ((W9.setCell ⟨W7.heap.size, 0, none⟩ (.string (leastR a'.fs b'.fs c'.fs).value)).setCell ⟨W7.heap.size, 1, none⟩ (.bool (leastR a'.fs b'.fs c'.fs).there)).heap.size = W9.heap.size := by simp [World.setCell]
          have hoth : ∀ k, k ≠ W7.heap.size → ((W9.setCell ⟨W7.heap.size, 0, none⟩ (.string (leastR a'.fs b'.fs c'.fs).value)).setCell ⟨W7.heap.size, 1, none⟩ (.bool (leastR a'.fs b'.fs c'.fs).there)).heap[k]? = W9.heap[k]? := fun k hk => (heap_setCell_other _ _ _ _ hk).trans (heap_setCell_other _ _ _ _ hk)
          have hg6 : W9.grownBy ((W9.setCell ⟨W7.heap.size, 0, none⟩ (.string (leastR a'.fs b'.fs c'.fs).value)).setCell ⟨W7.heap.size, 1, none⟩ (.bool (leastR a'.fs b'.fs c'.fs).there)) (some W7.heap.size) := ⟨rfl, rfl, rfl, by rw [hz6]; exact Nat.le_refl _, fun k _ hk => hoth k (fun e => hk (by rw [e]))⟩
          have hrs6 := heap_setCell_same _ W7.heap.size 1 _ _ (.bool (leastR a'.fs b'.fs c'.fs).there) (heap_setCell_same _ W7.heap.size 0 _ _ (.string (leastR a'.fs b'.fs c'.fs).value) hp9)
          have hj6 := hJ _ _ _ _ hj9 hg6 (fun r e => by injection e with e; subst e; exact ⟨by omega, _, _, hp9, .inr (.inl rfl)⟩)
          have hG6 := (hoth W.heap.size (by omega)).trans hG9
          refine ⟨⟨W7.heap.size, a', b', c', _, rfl, hrs6, hGl7, hG6, ⟨HA'.out, HB'.out, HC'.out⟩, hj6, ?_, ?_⟩, ?_⟩
          · rw [HST.out, HFS.out.1, HFS.out.2.1, HFS.out.2.2]
          · rw [List.length_append, HFS.out.1, HFS.out.2.1, HFS.out.2.2]
            have := HLT.out
            simp only [List.length_cons, List.length_nil]
            omega
          · rw [rowLen_of hG6, HME.out, HFS.out.1, HFS.out.2.1, HFS.out.2.2]
            exact HLT.out

set_option maxHeartbeats 1000000 in
theorem paths_any (n : Nat) (x y z : Sl) (w : World) :
    CallsIn Fence.wide n Try.prog 18 #[.agg (rowV3 x y z)] w fun e w' => e = .returned (.func (.func 30) #[] #[.pointer (some ⟨w.heap.size, 0, none⟩)]) ∧ w' = w.alloc (.cells (rowV3 x y z) 50) := by
  unfold rowV3
  refine callsIn_of_wp Try.func18 rfl trivial ?_ rfl
  simp only [Try.ntmps18, List.size_toArray, List.length_cons, List.length_nil, Nat.reduceAdd, Nat.reduceSub, Array.replicate_succ, Array.replicate_zero, List.push_toArray, List.append_toArray, List.nil_append, List.cons_append]
  gi_wp2
  go_ret
  exact ⟨rfl, rfl⟩
/-- What paths hands back goes through the paths of the three. -/
theorem paths_gives (n : Nat) (hn : 2 ≤ n) (Bs : Nat) (x y z : Sl) (w : World) (hx : SlAt w x) (hy : SlAt w y) (hz : SlAt w z) :
    Gives Fence.wide n Try.prog 30 #[.pointer (some ⟨Bs, 0, none⟩)] (fun p : Ps => #[.string p.1, .agg p.2.cells]) (fun ys => ys = pathsA x.fs y.fs z.fs) (len3 x.fs y.fs z.fs) (fun W => W.heap[Bs]? = some (.cells (rowV3 x y z) 50 (0, 0))) w :=
  fun l J W hW hE hJ hJB hY h0 => paths1_in n hn l Bs x y z w hx hy hz J W hW hE hJ hJB hY h0
end Go.Proofs.Ytmbnbehlfbdpnab
