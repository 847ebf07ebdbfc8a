/- The contract of the document's Clashes. -/
/- The contract of the document's Merged, where no choice is handed in. -/
import Derived.Test.YtmbnbehlfbdpnaaRCl8
import Derived.Test.YtmbnbehlfbdpnaaMrgD
import Derived.Test.YtmbnbehlfbdpnaaMDif
namespace Go.Proofs.Ytmbnbehlfbdpnaa
open Go.RowKit

theorem three_boxes (w : World) (a b c : Value) (t : TypeId) : Below w.heap.size w (((w.alloc (.cells #[a] t)).alloc (.cells #[b] t)).alloc (.cells #[c] t)) ∧ (((w.alloc (.cells #[a] t)).alloc (.cells #[b] t)).alloc (.cells #[c] t)).heap[w.heap.size]? = some (.cells #[a] t (0, 0)) ∧ (((w.alloc (.cells #[a] t)).alloc (.cells #[b] t)).alloc (.cells #[c] t)).heap[w.heap.size + 1]? = some (.cells #[b] t (0, 0)) ∧ (((w.alloc (.cells #[a] t)).alloc (.cells #[b] t)).alloc (.cells #[c] t)).heap[w.heap.size + 1 + 1]? = some (.cells #[c] t (0, 0)) := by
  refine ⟨(((Below.refl _ _).alloc (Nat.le_refl _) _).alloc (by simp) _).alloc (by simp; omega) _, ?_, ?_, ?_⟩
  · exact (Below.heap_alloc _ _ _ (by simp; omega)).trans ((Below.heap_alloc _ _ _ (by simp)).trans (heap_alloc_new w (.cells #[a] t)))
  · have := heap_alloc_new (w.alloc (.cells #[a] t)) (.cells #[b] t)
    rw [World.size_alloc] at this
    exact (Below.heap_alloc _ _ _ (by simp)).trans this
  · have := heap_alloc_new ((w.alloc (.cells #[a] t)).alloc (.cells #[b] t)) (.cells #[c] t)
    simp only [World.size_alloc] at this
    exact this
theorem three_pts {W : World} {g : Nat} {x y z : Sl} {t : TypeId} (h : W.heap[g]? = some (.cells #[.slice x.sp x.fs.length x.cap, .slice y.sp y.fs.length y.cap, .slice z.sp z.fs.length z.cap] t (0, 0))) : RowsAt W 1 Pt.cells (some ⟨g, 0, none⟩) [⟨x.sp, x.fs, x.cap⟩, ⟨y.sp, y.fs, y.cap⟩, ⟨z.sp, z.fs, z.cap⟩] := fun _ => by
  refine ⟨g, 0, rfl, fun i p hp j u hu => ?_⟩
  rw [cell_of_row _ _ _ _ _ _ h]
  match i with
  | 0 =>
    obtain rfl : _ = p := by simpa using hp
    match j with
    | 0 => simpa [Pt.cells] using hu
    | j + 1 => simp [Pt.cells] at hu
  | 1 =>
    obtain rfl : _ = p := by simpa using hp
    match j with
    | 0 => simpa [Pt.cells] using hu
    | j + 1 => simp [Pt.cells] at hu
  | 2 =>
    obtain rfl : _ = p := by simpa using hp
    match j with
    | 0 => simpa [Pt.cells] using hu
    | j + 1 => simp [Pt.cells] at hu
  | i + 3 => simp at hp
/-- Three slices as the laws have them. -/
structure Trio (w : World) (x y z : Sl) : Prop where
  s : SlS w x ∧ SlS w y ∧ SlS w z
  n : (x.sp = none → x.fs.length = 0 ∧ x.cap = 0) ∧ (y.sp = none → y.fs.length = 0 ∧ y.cap = 0) ∧ (z.sp = none → z.fs.length = 0 ∧ z.cap = 0)
  l : x.fs.length ≤ 18 ∧ y.fs.length ≤ 18 ∧ z.fs.length ≤ 18
theorem Trio.below {w W : World} {x y z : Sl} (h : Trio w x y z) {n : Nat} (hn : w.heap.size ≤ n) (hb : Below n w W) : Trio W x y z := by
  have hb' : Below w.heap.size w W := hb.mono hn
  exact ⟨⟨⟨h.s.1.1.below hb', h.s.1.2⟩, ⟨h.s.2.1.1.below hb', h.s.2.1.2⟩, ⟨h.s.2.2.1.below hb', h.s.2.2.2⟩⟩, h.n, h.l⟩
theorem Trio.paths {W : World} {x y z : Sl} (h : Trio W x y z) {g : Nat} {t : TypeId} (hr : W.heap[g]? = some (.cells #[.slice x.sp x.fs.length x.cap, .slice y.sp y.fs.length y.cap, .slice z.sp z.fs.length z.cap] t (0, 0))) :
    Calls Try.prog 23 #[.slice (some ⟨g, 0, none⟩) 3 3] W fun e w' => (∃ v', e = .returned v' ∧ OwnS W.heap.size w' v' (allPs (x.fs ++ y.fs ++ z.fs))) ∧ Below W.heap.size W w' := by
  have := r8paths_any (some ⟨g, 0, none⟩) 3 _ W (three_pts hr) (fun p hp => by
    rcases List.mem_cons.1 hp with rfl | hp
    · exact ⟨h.s.1.1.1, h.n.1⟩
    · rcases List.mem_cons.1 hp with rfl | hp
      · exact ⟨h.s.2.1.1.1, h.n.2.1⟩
      · obtain rfl : p = _ := by simpa using hp
        exact ⟨h.s.2.2.1.1, h.n.2.2⟩) (by simp) (fun p hp => by
    rcases List.mem_cons.1 hp with rfl | hp
    · exact h.l.1
    · rcases List.mem_cons.1 hp with rfl | hp
      · exact h.l.2.1
      · obtain rfl : p = _ := by simpa using hp
        exact h.l.2.2)
  rw [show flatP [⟨x.sp, x.fs, x.cap⟩, ⟨y.sp, y.fs, y.cap⟩, ⟨z.sp, z.fs, z.cap⟩] = x.fs ++ y.fs ++ z.fs by simp [flatP]] at this
  exact this
theorem Trio.plen {w : World} {x y z : Sl} (h : Trio w x y z) : (allPs (x.fs ++ y.fs ++ z.fs)).length ≤ 54 := by
  have h1 := allPs_len (x.fs ++ y.fs ++ z.fs)
  rw [List.length_append, List.length_append] at h1
  have := h.l
  omega
theorem refC1_len (a b c : List Fi) (q : List UInt8) : (refC1 a b c q).length ≤ 1 := by unfold refC1; split <;> simp
theorem flat1_len {α β : Type} {f : α → List β} (h : ∀ x, (f x).length ≤ 1) : ∀ l : List α, (l.flatMap f).length ≤ l.length
  | [] => by simp
  | x :: r => by
    have h1 := h x
    have h2 := flat1_len h r
    rw [List.flatMap_cons, List.length_append, List.length_cons]
    omega
set_option maxRecDepth 100000 in
set_option maxHeartbeats 4000000 in
theorem r8clashes_any (x y z : Sl) (w : World) (ht : Trio w x y z) :
    Calls Try.prog 15 #[.agg #[.slice x.sp x.fs.length x.cap], .agg #[.slice y.sp y.fs.length y.cap], .agg #[.slice z.sp z.fs.length z.cap]] w fun e w' => (∃ v, e = .returned v ∧ OwnC w.heap.size w' v ((allPs (x.fs ++ y.fs ++ z.fs)).flatMap (refC1 x.fs y.fs z.fs))) ∧ Below w.heap.size w w' := by
  have HT : Hid (Trio w x y z) := ht
  clear ht
  go_enter Try.func15, Try.ntmps15
  go_wp2_with fail
  refine calls_gen (fun W1 => Below w.heap.size w W1 ∧ W1.heap[w.heap.size]? = some (.cells #[.slice x.sp x.fs.length x.cap] 24 (0, 0)) ∧ W1.heap[w.heap.size + 1]? = some (.cells #[.slice y.sp y.fs.length y.cap] 24 (0, 0)) ∧ W1.heap[w.heap.size + 1 + 1]? = some (.cells #[.slice z.sp z.fs.length z.cap] 24 (0, 0)) ∧ W1.heap[w.heap.size + 1 + 1 + 1]? = some (.cells #[.slice x.sp x.fs.length x.cap, .slice y.sp y.fs.length y.cap, .slice z.sp z.fs.length z.cap] 24 (0, 0))) ?_ ?_
  · have hb := three_boxes w (.slice x.sp x.fs.length x.cap) (.slice y.sp y.fs.length y.cap) (.slice z.sp z.fs.length z.cap) 24
    have hn := heap_alloc_new (((w.alloc (.cells #[.slice x.sp x.fs.length x.cap] 24)).alloc (.cells #[.slice y.sp y.fs.length y.cap] 24)).alloc (.cells #[.slice z.sp z.fs.length z.cap] 24)) (.cells #[.slice x.sp x.fs.length x.cap, .slice y.sp y.fs.length y.cap, .slice z.sp z.fs.length z.cap] 24)
    simp only [World.size_alloc] at hn
    refine ⟨hb.1.alloc hb.1.size _, (Below.heap_alloc _ _ _ (lt_of_row hb.2.1)).trans hb.2.1, (Below.heap_alloc _ _ _ (lt_of_row hb.2.2.1)).trans hb.2.2.1, (Below.heap_alloc _ _ _ (lt_of_row hb.2.2.2)).trans hb.2.2.2, hn⟩
  rintro W1 ⟨b1, r0, r1, r2, r3⟩
  refine ((HT.out.below (Nat.le_refl _) b1).paths r3).mono ?_
  rintro e W2 ⟨⟨v, rfl, hov⟩, b12⟩
  have b2 : Below w.heap.size w W2 := b1.trans (b12.mono b1.size)
  have HW : Hid (∀ W, Below W2.heap.size W2 W → W.cell? ⟨w.heap.size, 0, none⟩ = some (.slice x.sp x.fs.length x.cap) ∧ W.cell? ⟨w.heap.size + 1, 0, none⟩ = some (.slice y.sp y.fs.length y.cap) ∧ W.cell? ⟨w.heap.size + 1 + 1, 0, none⟩ = some (.slice z.sp z.fs.length z.cap) ∧ Trio W x y z ∧ Below w.heap.size w W) := fun W h =>
    have h1 := b12.trans (h.mono b12.size)
    ⟨(cell_of_row _ _ _ _ _ _ ((h1.block _ (lt_of_row r0)).trans r0)).trans rfl, (cell_of_row _ _ _ _ _ _ ((h1.block _ (lt_of_row r1)).trans r1)).trans rfl, (cell_of_row _ _ _ _ _ _ ((h1.block _ (lt_of_row r2)).trans r2)).trans rfl, HT.out.below (Nat.le_refl _) (b2.trans (h.mono b2.size)), b2.trans (h.mono b2.size)⟩
  have hlq := HT.out.plen
  obtain ⟨qs, hqs⟩ : ∃ qs, allPs (x.fs ++ y.fs ++ z.fs) = qs := ⟨_, rfl⟩
  have HGOOD : Hid (∀ v W, OwnC W2.heap.size W v (qs.flatMap (refC1 x.fs y.fs z.fs)) → Below W2.heap.size W2 W → (∃ v', Ending.returned v = .returned v' ∧ OwnC w.heap.size W v' ((allPs (x.fs ++ y.fs ++ z.fs)).flatMap (refC1 x.fs y.fs z.fs))) ∧ Below w.heap.size w W) := fun v W ho hB => by
    subst hqs
    exact ⟨⟨v, rfl, ⟨ho.1, ho.2.imp id fun ⟨g, cap, cur, h1, h2, h3⟩ => ⟨g, cap, cur, h1, Nat.le_trans b2.size h2, h3⟩⟩⟩, b2.trans (hB.mono b2.size)⟩
  rw [hqs] at hov hlq
  clear hqs
  obtain ⟨sp', cp', rfl, hcp⟩ := hov.shape
  have HCP : Hid (∀ W, Below W2.heap.size W2 W → ∀ i q, qs[i]? = some q → ∃ b, sp' = some ⟨b, 0, none⟩ ∧ W.cell? ⟨b, i, none⟩ = some (.string ⟨q.toArray⟩)) := fun W h i q hq => by
    obtain ⟨b, e, hc⟩ := hcp i q hq
    exact ⟨b, e, (h.cell (p := ⟨b, i, none⟩) (block_lt_of_cell hc)).trans hc⟩
  clear hov hcp r0 r1 r2 r3 b1 b12 b2 HT
  go_wp2
  go_loopw [7, 18] (fun l i wr => ∃ t : Nat, t ≤ qs.length ∧ i = .int .i64 t ∧ OwnC W2.heap.size wr l ((qs.take t).flatMap (refC1 x.fs y.fs z.fs)) ∧ Below W2.heap.size W2 wr) (fun _ i _ => qs.length - (intOf i).toNat)
  case atStart => exact ⟨0, Nat.zero_le _, rfl, ownC_nil _ _, Below.refl _ _⟩
  case round =>
    obtain ⟨t, ht, rfl, hoc, hB⟩ := hrel
    have HOC : Hid (OwnC W2.heap.size wr _ ((qs.take t).flatMap (refC1 x.fs y.fs z.fs))) := hoc
    clear hoc
    by_cases hlt : t < qs.length
    · have hd : decide ((t : Int) < qs.length) = true := by simp; omega
      obtain ⟨q, hq⟩ : ∃ q, qs[t]? = some q := ⟨_, List.getElem?_eq_getElem hlt⟩
      obtain ⟨bq, rfl, k0⟩ := HCP.out wr hB t q hq
      have HST : Hid ((qs.take (t + 1)).flatMap (refC1 x.fs y.fs z.fs) = (qs.take t).flatMap (refC1 x.fs y.fs z.fs) ++ refC1 x.fs y.fs z.fs q) := by
        show _ = _
        rw [List.take_add_one, hq, Option.toList_some, List.flatMap_append]
        simp
      have HLN : Hid (((qs.take t).flatMap (refC1 x.fs y.fs z.fs)).length + 1 ≤ 100000) := by
        show ((qs.take t).flatMap (refC1 x.fs y.fs z.fs)).length + 1 ≤ 100000
        have := flat1_len (refC1_len x.fs y.fs z.fs) (qs.take t)
        rw [List.length_take] at this
        omega
      obtain ⟨P, hP⟩ : ∃ P : ByteArray, P = ⟨q.toArray⟩ := ⟨_, rfl⟩
      have HRC : Hid (refC1 x.fs y.fs z.fs q = if clashB (atC x.fs y.fs z.fs P).s then [atC x.fs y.fs z.fs P] else []) := by
        show _ = _
        rw [hP]
        rfl
      rw [← hP] at k0
      clear hP hq
      obtain ⟨k1, k2, k3, tr, -⟩ := HW.out wr hB
      go_wp2_with fail
      refine (r8clash_any x y z P wr tr.s.1 tr.s.2.1 tr.s.2.2).mono ?_
      rintro e Wc ⟨rfl, bc⟩
      clear tr k0 k1 k2 k3
      generalize atC x.fs y.fs z.fs P = cl at HRC ⊢
      obtain ⟨cp, ⟨⟨vb, ib⟩, ⟨vo, io⟩, ⟨vt, it⟩⟩⟩ := cl
      have HBC : Hid (clashB ⟨⟨vb, ib⟩, ⟨vo, io⟩, ⟨vt, it⟩⟩ = clashB ⟨⟨vb, ib⟩, ⟨vo, io⟩, ⟨vt, it⟩⟩) := rfl
      dsimp only [Cl.cells] at HRC ⊢
      generalize clashB ⟨⟨vb, ib⟩, ⟨vo, io⟩, ⟨vt, it⟩⟩ = bb at HRC HBC ⊢
      clear HBC
      cases bb with
      | false =>
        have HO9 : Hid (OwnC W2.heap.size (Wc.alloc (.cells #[.string cp, .string vb, .string vo, .string vt, .bool ib, .bool io, .bool it] 40)) u7 ((qs.take (t + 1)).flatMap (refC1 x.fs y.fs z.fs))) := by
          rw [HST.out, HRC.out, if_neg (by decide), List.append_nil]
          exact HOC.out.below (bc.alloc bc.size _)
        have HB9 : Hid (Below W2.heap.size W2 (Wc.alloc (.cells #[.string cp, .string vb, .string vo, .string vt, .bool ib, .bool io, .bool it] 40))) := hB.trans ((bc.alloc bc.size _).mono hB.size)
        clear HST HRC HOC bc
        go_wp2
        go_roundw
        case rel => exact ⟨t + 1, by omega, by go_num, HO9.out, HB9.out⟩
        case measure => simp [intOf]; omega
      | true =>
        have B2 : Below wr.heap.size wr ((Wc.alloc (.cells #[.string cp, .string vb, .string vo, .string vt, .bool ib, .bool io, .bool it] 40)).alloc (.cells #[.string cp, .string vb, .string vo, .string vt, .bool ib, .bool io, .bool it] 40)) := (bc.alloc bc.size _).alloc (by simp; exact Nat.le_succ_of_le bc.size) _
        have g2 := heap_alloc_new (Wc.alloc (.cells #[.string cp, .string vb, .string vo, .string vt, .bool ib, .bool io, .bool it] 40)) (.cells #[.string cp, .string vb, .string vo, .string vt, .bool ib, .bool io, .bool it] 40)
        rw [World.size_alloc] at g2
        obtain ⟨v9, W9, hr9, ho9, hg9⟩ := clash_run (f := ⟨cp, ⟨⟨vb, ib⟩, ⟨vo, io⟩, ⟨vt, it⟩⟩⟩) 29 (HOC.out.below B2) g2 HLN.out (Nat.le_trans hB.size B2.size)
        have HB9 : Hid (Below W2.heap.size W2 W9) := OwnC.grown (HOC.out.below B2) (Nat.le_refl _) (Nat.le_trans hB.size B2.size) (hB.trans (B2.mono hB.size)) hg9
        have HO9 : Hid (OwnC W2.heap.size W9 v9 ((qs.take (t + 1)).flatMap (refC1 x.fs y.fs z.fs))) := by
          rw [HST.out, HRC.out, if_pos rfl]
          exact ho9
        clear HST HRC HOC bc g2 B2 ho9 hg9
        go_wp2_with (refine list_append (by rfl) (.tmp 31) (.tmp 33) 29 (by rfl) (by rfl) (by rfl) hr9 ?_)
        go_roundw
        case rel => exact ⟨t + 1, by omega, by go_num, HO9.out, HB9.out⟩
        case measure => simp [intOf]; omega
    · have hd : decide ((t : Int) < qs.length) = false := by simp; omega
      obtain rfl : t = qs.length := by omega
      rw [List.take_length] at HOC
      have HFIN := HGOOD.out _ wr HOC.out hB
      have HFIN : Hid _ := HFIN
      go_wp2
      go_ret
      exact HFIN.out
end Go.Proofs.Ytmbnbehlfbdpnaa

namespace Go.Proofs.Ytmbnbehlfbdpnaa
open Go.RowKit

theorem refF1_len (a b c : List Fi) (q : List UInt8) : (refF1 a b c q).length ≤ 1 := by unfold refF1 mayF; split <;> simp
/-- What stays while one row is written. -/
structure ButB (g n : Nat) (W W' : World) : Prop where
  size : W.heap.size ≤ W'.heap.size
  block : ∀ k, k < n → k ≠ g → W'.heap[k]? = W.heap[k]?
theorem ButB.then {g n : Nat} {W W' W2 : World} (h : ButB g n W W') (hn : n ≤ W.heap.size) (hb : Below W'.heap.size W' W2) : ButB g n W W2 :=
  ⟨Nat.le_trans h.size hb.size, fun k hk hg => (hb.block k (by have := h.size; omega)).trans (h.block k hk hg)⟩
/-- Where Merged is between two paths. -/
structure MI (w W2 : World) (x y z : Sl) (v : Value) (qs : List (List UInt8)) (t : Nat) (wr : World) : Prop where
  bl : Below w.heap.size w wr
  bb : ButB (w.heap.size + 1 + 1 + 1 + 1) W2.heap.size W2 wr
  out : ∃ so n co, wr.heap[w.heap.size + 1 + 1 + 1 + 1]? = some (.cells #[.slice so n co] 24 (0, 0)) ∧ OwnF W2.heap.size wr (.slice so n co) ((qs.take t).flatMap (refF1 x.fs y.fs z.fs))
/-- What a world behind the paths has. -/
structure MW (w W2 : World) (x y z : Sl) (v : Value) (qs : List (List UInt8)) : Prop where
  bl : Below w.heap.size w W2
  r0 : W2.heap[w.heap.size]? = some (.cells #[.slice x.sp x.fs.length x.cap] 24 (0, 0))
  r1 : W2.heap[w.heap.size + 1]? = some (.cells #[.slice y.sp y.fs.length y.cap] 24 (0, 0))
  r2 : W2.heap[w.heap.size + 1 + 1]? = some (.cells #[.slice z.sp z.fs.length z.cap] 24 (0, 0))
  r3 : W2.heap[w.heap.size + 1 + 1 + 1]? = some (.cells #[.slice none 0 0] 24 (0, 0))
  r4 : W2.heap[w.heap.size + 1 + 1 + 1 + 1]? = some (.cells #[.slice none 0 0] 24 (0, 0))
  ps : OwnS (w.heap.size + 6) W2 v qs
  tr : Trio w x y z
structure MC (w : World) (x y z : Sl) (sp : Option Addr) (qs : List (List UInt8)) (W : World) : Prop where
  c0 : W.cell? ⟨w.heap.size, 0, none⟩ = some (.slice x.sp x.fs.length x.cap)
  c1 : W.cell? ⟨w.heap.size + 1, 0, none⟩ = some (.slice y.sp y.fs.length y.cap)
  c2 : W.cell? ⟨w.heap.size + 1 + 1, 0, none⟩ = some (.slice z.sp z.fs.length z.cap)
  r3 : W.heap[w.heap.size + 1 + 1 + 1]? = some (.cells #[.slice none 0 0] 24 (0, 0))
  tr : Trio W x y z
  ps : ∀ i q, qs[i]? = some q → ∃ b, sp = some ⟨b, 0, none⟩ ∧ W.cell? ⟨b, i, none⟩ = some (.string ⟨q.toArray⟩)
theorem MW.at {w W2 : World} {x y z : Sl} {sp : Option Addr} {cap : Nat} {qs : List (List UInt8)} (h : MW w W2 x y z (.slice sp qs.length cap) qs) {W : World} (hl : Below w.heap.size w W) (hb : ButB (w.heap.size + 1 + 1 + 1 + 1) W2.heap.size W2 W) : MC w x y z sp qs W := by
  have g : ∀ k, k < W2.heap.size → k ≠ w.heap.size + 1 + 1 + 1 + 1 → W.heap[k]? = W2.heap[k]? := hb.block
  refine ⟨?_, ?_, ?_, ?_, h.tr.below (Nat.le_refl _) hl, fun i q hq => ?_⟩
  · exact (cell_of_row _ _ _ _ _ _ ((g _ (lt_of_row h.r0) (by omega)).trans h.r0)).trans rfl
  · exact (cell_of_row _ _ _ _ _ _ ((g _ (lt_of_row h.r1) (by omega)).trans h.r1)).trans rfl
  · exact (cell_of_row _ _ _ _ _ _ ((g _ (lt_of_row h.r2) (by omega)).trans h.r2)).trans rfl
  · exact (g _ (lt_of_row h.r3) (by omega)).trans h.r3
  · have hk : OwnS (w.heap.size + 6) W (.slice sp qs.length cap) qs := h.ps.keep fun k hk => by
      have := h.ps.lt hk
      exact g k this.2 (by omega)
    obtain ⟨sp', cap', e, hc⟩ := hk.shape
    injection e with e1 e2 e3
    subst e1
    exact hc i q hq
theorem MI.keep {w W2 : World} {x y z : Sl} {v : Value} {qs : List (List UInt8)} {t : Nat} {wr W : World} (h : MI w W2 x y z v qs t wr) (hb : Below wr.heap.size wr W) : MI w W2 x y z v qs t W := by
  obtain ⟨so, n, co, h1, h2⟩ := h.out
  exact ⟨h.bl.trans (hb.mono h.bl.size), h.bb.then (Nat.le_refl _) hb, so, n, co, (hb.block _ (lt_of_row h1)).trans h1, h2.below hb⟩
theorem MI.skip {w W2 : World} {x y z : Sl} {v : Value} {qs : List (List UInt8)} {t : Nat} {q : List UInt8} {wr W : World} (h : MI w W2 x y z v qs t wr) (hb : Below wr.heap.size wr W) (hq : (qs.take (t + 1)).flatMap (refF1 x.fs y.fs z.fs) = (qs.take t).flatMap (refF1 x.fs y.fs z.fs) ++ refF1 x.fs y.fs z.fs q) (he : refF1 x.fs y.fs z.fs q = []) : MI w W2 x y z v qs (t + 1) W := by
  obtain ⟨bl, bb, so, n, co, h1, h2⟩ := h.keep hb
  refine ⟨bl, bb, so, n, co, h1, ?_⟩
  rw [hq, he, List.append_nil]
  exact h2
theorem MI.file {w W2 : World} {x y z : Sl} {v : Value} {qs : List (List UInt8)} {t : Nat} {q : List UInt8} {wr W : World} {f : Fi} {g : Nat} (h : MI w W2 x y z v qs t wr) (hn : w.heap.size + 5 ≤ W2.heap.size) (hb : Below wr.heap.size wr W) (hg : W.heap[g]? = some (.cells f.cells 46 (0, 0))) (hlen : ((qs.take t).flatMap (refF1 x.fs y.fs z.fs)).length + 1 ≤ 100000)
    (hq : (qs.take (t + 1)).flatMap (refF1 x.fs y.fs z.fs) = (qs.take t).flatMap (refF1 x.fs y.fs z.fs) ++ refF1 x.fs y.fs z.fs q) (he : refF1 x.fs y.fs z.fs q = [f]) :
    ∃ so n co s9 n9 c9 W9, (∀ W', Below wr.heap.size wr W' → W'.cell? ⟨w.heap.size + 1 + 1 + 1 + 1, 0, none⟩ = some (.slice so n co)) ∧ (Builtin.append_ #[22, 22] 22 #[.slice so n co, .slice (some ⟨g, 0, none⟩) 1 1]).run Try.prog W = .ok (.slice s9 n9 c9) W9 ∧ W9.cell? ⟨w.heap.size + 1 + 1 + 1 + 1, 0, none⟩ = some (.slice so n co) ∧ W9.frozen? ⟨w.heap.size + 1 + 1 + 1 + 1, 0, none⟩ = false ∧ MI w W2 x y z v qs (t + 1) (W9.setCell ⟨w.heap.size + 1 + 1 + 1 + 1, 0, none⟩ (.slice s9 n9 c9)) := by
  obtain ⟨bl0, bb0, so, n, co, h10, h20⟩ := h
  have bl := bl0.trans (hb.mono bl0.size)
  have bb := bb0.then (Nat.le_refl _) hb
  have h1 := (hb.block _ (lt_of_row h10)).trans h10
  have h2 := h20.below hb
  obtain ⟨v9, W9, hr9, ho9, hg9, -⟩ := files_run (ys := [f]) (cap := 1) 22 h2 (fun e => by cases e) (oneF_rows hg) (fun _ => ⟨_, _, rfl⟩) hlen (bb.size)
  obtain ⟨s9, c9, rfl, -, -⟩ := ho9.rows
  have hne : ∀ k, k < W2.heap.size → W9.heap[k]? = W.heap[k]? := fun k hk => hg9.block k (Nat.lt_of_lt_of_le hk bb.size) (fun e => by
    have := (h2.lt e.symm).1
    omega)
  have h9 : W9.heap[w.heap.size + 1 + 1 + 1 + 1]? = some (.cells #[.slice so n co] 24 (0, 0)) := (hne _ (by omega)).trans h1
  refine ⟨so, n, co, s9, _, c9, W9, fun W' h' => (cell_of_row _ _ _ _ _ _ ((h'.block _ (lt_of_row h10)).trans h10)).trans rfl, hr9, (cell_of_row _ _ _ _ _ _ h9).trans rfl, frozen_of_row _ _ _ _ _ h9, ?_, ?_, s9, _, c9, heap_setCell_same _ _ 0 _ _ _ h9, ?_⟩
  · have b9 := OwnF.grown (xs := (qs.take t).flatMap (refF1 x.fs y.fs z.fs)) h2 (by have := W2.heap.size; omega) bl.size bl hg9
    exact b9.setCell (p := ⟨w.heap.size + 1 + 1 + 1 + 1, 0, none⟩) (by show w.heap.size ≤ w.heap.size + 1 + 1 + 1 + 1; omega) _
  · refine ⟨by simp [World.setCell]; exact Nat.le_trans bb.size hg9.size, fun k hk hkg => ?_⟩
    exact (heap_setCell_other _ _ _ _ hkg).trans ((hne k hk).trans (bb.block k hk hkg))
  · rw [hq, he]
    refine ho9.keep fun k hk => heap_setCell_other _ _ _ _ fun e => ?_
    have := (ho9.lt hk).1
    rw [e] at this
    have h5 : (⟨w.heap.size + 1 + 1 + 1 + 1, 0, none⟩ : Addr).block = w.heap.size + 1 + 1 + 1 + 1 := rfl
    omega
set_option maxRecDepth 100000 in
set_option maxHeartbeats 8000000 in
theorem r8merged_any (x y z : Sl) (w : World) (ht : Trio w x y z) :
    Calls Try.prog 17 #[.agg #[.slice x.sp x.fs.length x.cap], .agg #[.slice y.sp y.fs.length y.cap], .agg #[.slice z.sp z.fs.length z.cap], .slice none 0 0] w fun e w' => (∃ v, e = .returned (.agg #[v]) ∧ OwnF w.heap.size w' v ((allPs (x.fs ++ y.fs ++ z.fs)).flatMap (refF1 x.fs y.fs z.fs))) ∧ Below w.heap.size w w' := by
  have HT : Hid (Trio w x y z) := ht
  clear ht
  go_enter Try.func17, Try.ntmps17
  go_wp2_with fail
  refine calls_gen (fun W1 => Below w.heap.size w W1 ∧ W1.heap[w.heap.size]? = some (.cells #[.slice x.sp x.fs.length x.cap] 24 (0, 0)) ∧ W1.heap[w.heap.size + 1]? = some (.cells #[.slice y.sp y.fs.length y.cap] 24 (0, 0)) ∧ W1.heap[w.heap.size + 1 + 1]? = some (.cells #[.slice z.sp z.fs.length z.cap] 24 (0, 0)) ∧ W1.heap[w.heap.size + 1 + 1 + 1]? = some (.cells #[.slice none 0 0] 24 (0, 0)) ∧ W1.heap[w.heap.size + 1 + 1 + 1 + 1]? = some (.cells #[.slice none 0 0] 24 (0, 0)) ∧ W1.heap[w.heap.size + 1 + 1 + 1 + 1 + 1]? = some (.cells #[.slice x.sp x.fs.length x.cap, .slice y.sp y.fs.length y.cap, .slice z.sp z.fs.length z.cap] 24 (0, 0))) ?_ ?_
  · have hb := three_boxes w (.slice x.sp x.fs.length x.cap) (.slice y.sp y.fs.length y.cap) (.slice z.sp z.fs.length z.cap) 24
    have hs : (((w.alloc (.cells #[.slice x.sp x.fs.length x.cap] 24)).alloc (.cells #[.slice y.sp y.fs.length y.cap] 24)).alloc (.cells #[.slice z.sp z.fs.length z.cap] 24)).heap.size = w.heap.size + 1 + 1 + 1 := by simp
    generalize ((w.alloc (.cells #[.slice x.sp x.fs.length x.cap] 24)).alloc (.cells #[.slice y.sp y.fs.length y.cap] 24)).alloc (.cells #[.slice z.sp z.fs.length z.cap] 24) = V at hb hs ⊢
    obtain ⟨hb, q0, q1, q2⟩ := hb
    have n1 := heap_alloc_new V (.cells #[.slice none 0 0] 24)
    have n2 := heap_alloc_new (V.alloc (.cells #[.slice none 0 0] 24)) (.cells #[.slice none 0 0] 24)
    have n3 := heap_alloc_new ((V.alloc (.cells #[.slice none 0 0] 24)).alloc (.cells #[.slice none 0 0] 24)) (.cells #[.slice x.sp x.fs.length x.cap, .slice y.sp y.fs.length y.cap, .slice z.sp z.fs.length z.cap] 24)
    simp only [World.size_alloc, hs] at n1 n2 n3
    have up : ∀ k o, V.heap[k]? = some o → (((V.alloc (.cells #[.slice none 0 0] 24)).alloc (.cells #[.slice none 0 0] 24)).alloc (.cells #[.slice x.sp x.fs.length x.cap, .slice y.sp y.fs.length y.cap, .slice z.sp z.fs.length z.cap] 24)).heap[k]? = some o := fun k o h => by
      have hk := lt_of_row h
      exact (Below.heap_alloc _ _ _ (by simp; omega)).trans ((Below.heap_alloc _ _ _ (by simp; omega)).trans ((Below.heap_alloc _ _ _ hk).trans h))
    refine ⟨((hb.alloc hb.size _).alloc (by simp; exact Nat.le_succ_of_le hb.size) _).alloc (by simp; exact Nat.le_succ_of_le (Nat.le_succ_of_le hb.size)) _, up _ _ q0, up _ _ q1, up _ _ q2, ?_, ?_, n3⟩
    · exact (Below.heap_alloc _ _ _ (by simp; omega)).trans ((Below.heap_alloc _ _ _ (by simp; omega)).trans n1)
    · exact (Below.heap_alloc _ _ _ (by simp; omega)).trans n2
  rintro W1 ⟨b1, r0, r1, r2, r3, r4, r5⟩
  refine ((HT.out.below (Nat.le_refl _) b1).paths r5).mono ?_
  rintro e W2 ⟨⟨v, rfl, hov⟩, b12⟩
  have b2 : Below w.heap.size w W2 := b1.trans (b12.mono b1.size)
  have k : ∀ n o, W1.heap[n]? = some o → W2.heap[n]? = some o := fun n o h => (b12.block _ (lt_of_row h)).trans h
  have l1 := lt_of_row r5
  have hn : w.heap.size + 5 ≤ W2.heap.size := by have := b12.size; omega
  have hlq := HT.out.plen
  obtain ⟨qs, hqs⟩ : ∃ qs, allPs (x.fs ++ y.fs ++ z.fs) = qs := ⟨_, rfl⟩
  have HGOOD : Hid (∀ v W, OwnF W2.heap.size W v (qs.flatMap (refF1 x.fs y.fs z.fs)) → Below w.heap.size w W → (∃ v', Ending.returned (.agg #[v]) = .returned (.agg #[v']) ∧ OwnF w.heap.size W v' ((allPs (x.fs ++ y.fs ++ z.fs)).flatMap (refF1 x.fs y.fs z.fs))) ∧ Below w.heap.size w W) := fun v W ho hB => by
    subst hqs
    exact ⟨⟨v, rfl, ho.mono b2.size⟩, hB⟩
  rw [hqs] at hov hlq
  clear hqs
  have hov' : OwnS (w.heap.size + 6) W2 v qs := ⟨hov.1, hov.2.imp id fun ⟨g, cap, cur, h1, h2, h3⟩ => ⟨g, cap, cur, h1, Nat.le_trans (by omega) h2, h3⟩⟩
  obtain ⟨sp', cp', rfl, -⟩ := hov.shape
  have HMW : Hid (MW w W2 x y z (.slice sp' qs.length cp') qs) := ⟨b2, k _ _ r0, k _ _ r1, k _ _ r2, k _ _ r3, k _ _ r4, hov', HT.out⟩
  have HMI : Hid (MI w W2 x y z (.slice sp' qs.length cp') qs 0 W2) := ⟨b2, ⟨Nat.le_refl _, fun _ _ _ => rfl⟩, none, 0, 0, k _ _ r4, ownF_nil _ _⟩
  clear hov hov' r0 r1 r2 r3 r4 r5 b1 b12 b2 HT k l1
  go_wp2
  go_loopw [26] (fun i wr => ∃ t : Nat, t ≤ qs.length ∧ i = .int .i64 t ∧ MI w W2 x y z (.slice sp' qs.length cp') qs t wr) (fun i _ => qs.length - (intOf i).toNat)
  case atStart => exact ⟨0, Nat.zero_le _, rfl, HMI.out⟩
  case round =>
    obtain ⟨t, ht, rfl, hmi⟩ := hrel
    have HI : Hid (MI w W2 x y z (.slice sp' qs.length cp') qs t wr) := hmi
    clear hmi HMI
    by_cases hlt : t < qs.length
    · have hd : decide ((t : Int) < qs.length) = true := by simp; omega
      obtain ⟨q, hq⟩ : ∃ q, qs[t]? = some q := ⟨_, List.getElem?_eq_getElem hlt⟩
      have HMC : Hid (∀ W, Below wr.heap.size wr W → MC w x y z sp' qs W) := fun W h => HMW.out.at (HI.out.keep h).bl (HI.out.keep h).bb
      obtain ⟨bq, rfl, k0⟩ := (HMC.out wr (Below.refl _ _)).ps t q hq
      have HST : Hid ((qs.take (t + 1)).flatMap (refF1 x.fs y.fs z.fs) = (qs.take t).flatMap (refF1 x.fs y.fs z.fs) ++ refF1 x.fs y.fs z.fs q) := by
        show _ = _
        rw [List.take_add_one, hq, Option.toList_some, List.flatMap_append]
        simp
      have HLN : Hid (((qs.take t).flatMap (refF1 x.fs y.fs z.fs)).length + 1 ≤ 100000) := by
        show ((qs.take t).flatMap (refF1 x.fs y.fs z.fs)).length + 1 ≤ 100000
        have := flat1_len (refF1_len x.fs y.fs z.fs) (qs.take t)
        rw [List.length_take] at this
        omega
      obtain ⟨P, hP⟩ : ∃ P : ByteArray, P = ⟨q.toArray⟩ := ⟨_, rfl⟩
      have HRF : Hid (refF1 x.fs y.fs z.fs q = mayF P (pickM ⟨⟨(findB x.fs P).1, (findB x.fs P).2⟩, ⟨(findB y.fs P).1, (findB y.fs P).2⟩, ⟨(findB z.fs P).1, (findB z.fs P).2⟩⟩)) := by
        show _ = _
        rw [hP]
        rfl
      rw [← hP] at k0
      clear hP hq
      have tr := (HMC.out wr (Below.refl _ _)).tr.s.1
      have k1 := (HMC.out wr (Below.refl _ _)).c0
      go_wp2_with fail
      refine (r8at_any x.sp x.cap x.fs P wr tr.1.1 tr.2.1).mono ?_
      rintro e Wa ⟨rfl, ba⟩
      clear tr k1 k0
      have tr := (HMC.out Wa ba).tr.s.2.1
      have k1 := (HMC.out Wa ba).c1
      go_wp2_with fail
      refine (r8at_any y.sp y.cap y.fs P Wa tr.1.1 tr.2.1).mono ?_
      rintro e Wb ⟨rfl, bab⟩
      have bb : Below wr.heap.size wr Wb := ba.trans (bab.mono ba.size)
      clear tr k1 ba bab
      generalize findB x.fs P = fx at HRF ⊢
      obtain ⟨vb, ib⟩ := fx
      generalize findB y.fs P = fy at HRF ⊢
      obtain ⟨vo, io⟩ := fy
      have HFZ : Hid (findB z.fs P = findB z.fs P) := rfl
      generalize hfz : findB z.fs P = fz at HRF
      have HZ : Hid (findB z.fs P = fz) := hfz
      clear hfz HFZ
      obtain ⟨vt, it⟩ := fz
      dsimp only at HRF HZ ⊢
      cases h1 : (vo.toList == vb.toList)
      · clear HZ
        have HE : Hid (refF1 x.fs y.fs z.fs q = mayF P ⟨vo, io⟩) := by show _ = _; rw [HRF.out]; simp [pickM, mayEq, h1]
        clear HRF
        have tr := (HMC.out Wb bb).tr.s
        have k0 := (HMC.out Wb bb).c0
        have k1 := (HMC.out Wb bb).c1
        have k2 := (HMC.out Wb bb).c2
        go_wp2_with fail
        refine (r8clash_any x y z P Wb tr.1 tr.2.1 tr.2.2).mono ?_
        rintro e We ⟨rfl, be⟩
        have b5 : Below wr.heap.size wr We := bb.trans (be.mono bb.size)
        clear tr k0 k1 k2 be
        generalize atC x.fs y.fs z.fs P = cl
        obtain ⟨cp, ⟨⟨ub, jb⟩, ⟨uo, jo⟩, ⟨ut, jt⟩⟩⟩ := cl
        dsimp only [Cl.cells]
        generalize clashB ⟨⟨ub, jb⟩, ⟨uo, jo⟩, ⟨ut, jt⟩⟩ = bb
        cases io
        ·
          have H9 : Hid (MI w W2 x y z (.slice (some ⟨bq, 0, none⟩) qs.length cp') qs (t + 1) (We.alloc (.cells #[.string cp, .string ub, .string uo, .string ut, .bool jb, .bool jo, .bool jt] 40))) := HI.out.skip (b5.alloc b5.size _) HST.out HE.out
          clear HST HE b5
          cases bb
          · go_wp2
            go_roundw
            case rel => exact ⟨t + 1, by omega, by go_num, H9.out⟩
            case measure => simp [intOf]; omega
          · go_wp2
            go_loopw [14, 15, 67] (fun tx ih j wx => tx = .string vo ∧ ih = .bool false ∧ j = .int .i64 0 ∧ wx = We.alloc (.cells #[.string cp, .string ub, .string uo, .string ut, .bool jb, .bool jo, .bool jt] 40)) (fun _ _ _ _ => 0)
            case atStart => exact ⟨rfl, rfl, rfl, rfl⟩
            case round =>
              obtain ⟨rfl, rfl, rfl, rfl⟩ := hrel
              go_wp2
              go_roundw
              case rel => exact ⟨t + 1, by omega, by go_num, H9.out⟩
              case measure => simp [intOf]; omega
        ·
          have B6 : Below wr.heap.size wr ((We.alloc (.cells #[.string cp, .string ub, .string uo, .string ut, .bool jb, .bool jo, .bool jt] 40)).alloc (.cells #[.string P, .string vo] 46)) := (b5.alloc b5.size _).alloc (by simp; exact Nat.le_succ_of_le b5.size) _
          have g6 := heap_alloc_new (We.alloc (.cells #[.string cp, .string ub, .string uo, .string ut, .bool jb, .bool jo, .bool jt] 40)) (.cells #[.string P, .string vo] 46)
          rw [World.size_alloc] at g6
          obtain ⟨so, n, co, s9, n9, c9, W9, d1, hr9, d2, d3, hm⟩ := HI.out.file (f := ⟨P, vo⟩) hn B6 g6 HLN.out HST.out HE.out
          have d0 : (We.alloc (.cells #[.string cp, .string ub, .string uo, .string ut, .bool jb, .bool jo, .bool jt] 40)).cell? ⟨w.heap.size + 1 + 1 + 1 + 1, 0, none⟩ = some (.slice so n co) := d1 _ (b5.alloc b5.size _)
          have H9 : Hid _ := hm
          clear HST HE b5 B6 g6 hm d1
          cases bb
          · go_wp2_with (refine list_append (by rfl) (.tmp 80) (.tmp 84) 22 (by rfl) (by rfl) (by rfl) hr9 ?_)
            go_roundw
            case rel => exact ⟨t + 1, by omega, by go_num, H9.out⟩
            case measure => simp [intOf]; omega
          · go_wp2
            go_loopw [14, 15, 67] (fun tx ih j wx => tx = .string vo ∧ ih = .bool true ∧ j = .int .i64 0 ∧ wx = We.alloc (.cells #[.string cp, .string ub, .string uo, .string ut, .bool jb, .bool jo, .bool jt] 40)) (fun _ _ _ _ => 0)
            case atStart => exact ⟨rfl, rfl, rfl, rfl⟩
            case round =>
              obtain ⟨rfl, rfl, rfl, rfl⟩ := hrel
              go_wp2_with (refine list_append (by rfl) (.tmp 80) (.tmp 84) 22 (by rfl) (by rfl) (by rfl) hr9 ?_)
              go_roundw
              case rel => exact ⟨t + 1, by omega, by go_num, H9.out⟩
              case measure => simp [intOf]; omega
      · cases io <;> cases ib
        ·
          have tr := (HMC.out Wb bb).tr.s.2.2
          have k1 := (HMC.out Wb bb).c2
          go_wp2_with fail
          refine (r8at_any z.sp z.cap z.fs P Wb tr.1.1 tr.2.1).mono ?_
          rintro e Wt ⟨rfl, bbt⟩
          have b4 : Below wr.heap.size wr Wt := bb.trans (bbt.mono bb.size)
          clear tr k1 bbt bb
          rw [HZ.out]
          dsimp only
          clear HZ
          have HE : Hid (refF1 x.fs y.fs z.fs q = mayF P ⟨vt, it⟩) := by show _ = _; rw [HRF.out]; simp [pickM, mayEq, h1]
          clear HRF
          have tr := (HMC.out Wt b4).tr.s
          have k0 := (HMC.out Wt b4).c0
          have k1 := (HMC.out Wt b4).c1
          have k2 := (HMC.out Wt b4).c2
          go_wp2_with fail
          refine (r8clash_any x y z P Wt tr.1 tr.2.1 tr.2.2).mono ?_
          rintro e We ⟨rfl, be⟩
          have b5 : Below wr.heap.size wr We := b4.trans (be.mono b4.size)
          clear tr k0 k1 k2 be
          generalize atC x.fs y.fs z.fs P = cl
          obtain ⟨cp, ⟨⟨ub, jb⟩, ⟨uo, jo⟩, ⟨ut, jt⟩⟩⟩ := cl
          dsimp only [Cl.cells]
          generalize clashB ⟨⟨ub, jb⟩, ⟨uo, jo⟩, ⟨ut, jt⟩⟩ = bb
          cases it
          ·
            have H9 : Hid (MI w W2 x y z (.slice (some ⟨bq, 0, none⟩) qs.length cp') qs (t + 1) (We.alloc (.cells #[.string cp, .string ub, .string uo, .string ut, .bool jb, .bool jo, .bool jt] 40))) := HI.out.skip (b5.alloc b5.size _) HST.out HE.out
            clear HST HE b5
            cases bb
            · go_wp2
              go_roundw
              case rel => exact ⟨t + 1, by omega, by go_num, H9.out⟩
              case measure => simp [intOf]; omega
            · go_wp2
              go_loopw [14, 15, 67] (fun tx ih j wx => tx = .string vt ∧ ih = .bool false ∧ j = .int .i64 0 ∧ wx = We.alloc (.cells #[.string cp, .string ub, .string uo, .string ut, .bool jb, .bool jo, .bool jt] 40)) (fun _ _ _ _ => 0)
              case atStart => exact ⟨rfl, rfl, rfl, rfl⟩
              case round =>
                obtain ⟨rfl, rfl, rfl, rfl⟩ := hrel
                go_wp2
                go_roundw
                case rel => exact ⟨t + 1, by omega, by go_num, H9.out⟩
                case measure => simp [intOf]; omega
          ·
            have B6 : Below wr.heap.size wr ((We.alloc (.cells #[.string cp, .string ub, .string uo, .string ut, .bool jb, .bool jo, .bool jt] 40)).alloc (.cells #[.string P, .string vt] 46)) := (b5.alloc b5.size _).alloc (by simp; exact Nat.le_succ_of_le b5.size) _
            have g6 := heap_alloc_new (We.alloc (.cells #[.string cp, .string ub, .string uo, .string ut, .bool jb, .bool jo, .bool jt] 40)) (.cells #[.string P, .string vt] 46)
            rw [World.size_alloc] at g6
            obtain ⟨so, n, co, s9, n9, c9, W9, d1, hr9, d2, d3, hm⟩ := HI.out.file (f := ⟨P, vt⟩) hn B6 g6 HLN.out HST.out HE.out
            have d0 : (We.alloc (.cells #[.string cp, .string ub, .string uo, .string ut, .bool jb, .bool jo, .bool jt] 40)).cell? ⟨w.heap.size + 1 + 1 + 1 + 1, 0, none⟩ = some (.slice so n co) := d1 _ (b5.alloc b5.size _)
            have H9 : Hid _ := hm
            clear HST HE b5 B6 g6 hm d1
            cases bb
            · go_wp2_with (refine list_append (by rfl) (.tmp 80) (.tmp 84) 22 (by rfl) (by rfl) (by rfl) hr9 ?_)
              go_roundw
              case rel => exact ⟨t + 1, by omega, by go_num, H9.out⟩
              case measure => simp [intOf]; omega
            · go_wp2
              go_loopw [14, 15, 67] (fun tx ih j wx => tx = .string vt ∧ ih = .bool true ∧ j = .int .i64 0 ∧ wx = We.alloc (.cells #[.string cp, .string ub, .string uo, .string ut, .bool jb, .bool jo, .bool jt] 40)) (fun _ _ _ _ => 0)
              case atStart => exact ⟨rfl, rfl, rfl, rfl⟩
              case round =>
                obtain ⟨rfl, rfl, rfl, rfl⟩ := hrel
                go_wp2_with (refine list_append (by rfl) (.tmp 80) (.tmp 84) 22 (by rfl) (by rfl) (by rfl) hr9 ?_)
                go_roundw
                case rel => exact ⟨t + 1, by omega, by go_num, H9.out⟩
                case measure => simp [intOf]; omega
        ·
          clear HZ
          have HE : Hid (refF1 x.fs y.fs z.fs q = mayF P ⟨vo, false⟩) := by show _ = _; rw [HRF.out]; simp [pickM, mayEq, h1]
          clear HRF
          have tr := (HMC.out Wb bb).tr.s
          have k0 := (HMC.out Wb bb).c0
          have k1 := (HMC.out Wb bb).c1
          have k2 := (HMC.out Wb bb).c2
          go_wp2_with fail
          refine (r8clash_any x y z P Wb tr.1 tr.2.1 tr.2.2).mono ?_
          rintro e We ⟨rfl, be⟩
          have b5 : Below wr.heap.size wr We := bb.trans (be.mono bb.size)
          clear tr k0 k1 k2 be
          generalize atC x.fs y.fs z.fs P = cl
          obtain ⟨cp, ⟨⟨ub, jb⟩, ⟨uo, jo⟩, ⟨ut, jt⟩⟩⟩ := cl
          dsimp only [Cl.cells]
          generalize clashB ⟨⟨ub, jb⟩, ⟨uo, jo⟩, ⟨ut, jt⟩⟩ = bb
          have H9 : Hid (MI w W2 x y z (.slice (some ⟨bq, 0, none⟩) qs.length cp') qs (t + 1) (We.alloc (.cells #[.string cp, .string ub, .string uo, .string ut, .bool jb, .bool jo, .bool jt] 40))) := HI.out.skip (b5.alloc b5.size _) HST.out HE.out
          clear HST HE b5
          cases bb
          · go_wp2
            go_roundw
            case rel => exact ⟨t + 1, by omega, by go_num, H9.out⟩
            case measure => simp [intOf]; omega
          · go_wp2
            go_loopw [14, 15, 67] (fun tx ih j wx => tx = .string vo ∧ ih = .bool false ∧ j = .int .i64 0 ∧ wx = We.alloc (.cells #[.string cp, .string ub, .string uo, .string ut, .bool jb, .bool jo, .bool jt] 40)) (fun _ _ _ _ => 0)
            case atStart => exact ⟨rfl, rfl, rfl, rfl⟩
            case round =>
              obtain ⟨rfl, rfl, rfl, rfl⟩ := hrel
              go_wp2
              go_roundw
              case rel => exact ⟨t + 1, by omega, by go_num, H9.out⟩
              case measure => simp [intOf]; omega
        ·
          clear HZ
          have HE : Hid (refF1 x.fs y.fs z.fs q = mayF P ⟨vo, true⟩) := by show _ = _; rw [HRF.out]; simp [pickM, mayEq, h1]
          clear HRF
          have tr := (HMC.out Wb bb).tr.s
          have k0 := (HMC.out Wb bb).c0
          have k1 := (HMC.out Wb bb).c1
          have k2 := (HMC.out Wb bb).c2
          go_wp2_with fail
          refine (r8clash_any x y z P Wb tr.1 tr.2.1 tr.2.2).mono ?_
          rintro e We ⟨rfl, be⟩
          have b5 : Below wr.heap.size wr We := bb.trans (be.mono bb.size)
          clear tr k0 k1 k2 be
          generalize atC x.fs y.fs z.fs P = cl
          obtain ⟨cp, ⟨⟨ub, jb⟩, ⟨uo, jo⟩, ⟨ut, jt⟩⟩⟩ := cl
          dsimp only [Cl.cells]
          generalize clashB ⟨⟨ub, jb⟩, ⟨uo, jo⟩, ⟨ut, jt⟩⟩ = bb
          have B6 : Below wr.heap.size wr ((We.alloc (.cells #[.string cp, .string ub, .string uo, .string ut, .bool jb, .bool jo, .bool jt] 40)).alloc (.cells #[.string P, .string vo] 46)) := (b5.alloc b5.size _).alloc (by simp; exact Nat.le_succ_of_le b5.size) _
          have g6 := heap_alloc_new (We.alloc (.cells #[.string cp, .string ub, .string uo, .string ut, .bool jb, .bool jo, .bool jt] 40)) (.cells #[.string P, .string vo] 46)
          rw [World.size_alloc] at g6
          obtain ⟨so, n, co, s9, n9, c9, W9, d1, hr9, d2, d3, hm⟩ := HI.out.file (f := ⟨P, vo⟩) hn B6 g6 HLN.out HST.out HE.out
          have d0 : (We.alloc (.cells #[.string cp, .string ub, .string uo, .string ut, .bool jb, .bool jo, .bool jt] 40)).cell? ⟨w.heap.size + 1 + 1 + 1 + 1, 0, none⟩ = some (.slice so n co) := d1 _ (b5.alloc b5.size _)
          have H9 : Hid _ := hm
          clear HST HE b5 B6 g6 hm d1
          cases bb
          · go_wp2_with (refine list_append (by rfl) (.tmp 80) (.tmp 84) 22 (by rfl) (by rfl) (by rfl) hr9 ?_)
            go_roundw
            case rel => exact ⟨t + 1, by omega, by go_num, H9.out⟩
            case measure => simp [intOf]; omega
          · go_wp2
            go_loopw [14, 15, 67] (fun tx ih j wx => tx = .string vo ∧ ih = .bool true ∧ j = .int .i64 0 ∧ wx = We.alloc (.cells #[.string cp, .string ub, .string uo, .string ut, .bool jb, .bool jo, .bool jt] 40)) (fun _ _ _ _ => 0)
            case atStart => exact ⟨rfl, rfl, rfl, rfl⟩
            case round =>
              obtain ⟨rfl, rfl, rfl, rfl⟩ := hrel
              go_wp2_with (refine list_append (by rfl) (.tmp 80) (.tmp 84) 22 (by rfl) (by rfl) (by rfl) hr9 ?_)
              go_roundw
              case rel => exact ⟨t + 1, by omega, by go_num, H9.out⟩
              case measure => simp [intOf]; omega
        ·
          have tr := (HMC.out Wb bb).tr.s.2.2
          have k1 := (HMC.out Wb bb).c2
          go_wp2_with fail
          refine (r8at_any z.sp z.cap z.fs P Wb tr.1.1 tr.2.1).mono ?_
          rintro e Wt ⟨rfl, bbt⟩
          have b4 : Below wr.heap.size wr Wt := bb.trans (bbt.mono bb.size)
          clear tr k1 bbt bb
          rw [HZ.out]
          dsimp only
          clear HZ
          have HE : Hid (refF1 x.fs y.fs z.fs q = mayF P ⟨vt, it⟩) := by show _ = _; rw [HRF.out]; simp [pickM, mayEq, h1]
          clear HRF
          have tr := (HMC.out Wt b4).tr.s
          have k0 := (HMC.out Wt b4).c0
          have k1 := (HMC.out Wt b4).c1
          have k2 := (HMC.out Wt b4).c2
          go_wp2_with fail
          refine (r8clash_any x y z P Wt tr.1 tr.2.1 tr.2.2).mono ?_
          rintro e We ⟨rfl, be⟩
          have b5 : Below wr.heap.size wr We := b4.trans (be.mono b4.size)
          clear tr k0 k1 k2 be
          generalize atC x.fs y.fs z.fs P = cl
          obtain ⟨cp, ⟨⟨ub, jb⟩, ⟨uo, jo⟩, ⟨ut, jt⟩⟩⟩ := cl
          dsimp only [Cl.cells]
          generalize clashB ⟨⟨ub, jb⟩, ⟨uo, jo⟩, ⟨ut, jt⟩⟩ = bb
          cases it
          ·
            have H9 : Hid (MI w W2 x y z (.slice (some ⟨bq, 0, none⟩) qs.length cp') qs (t + 1) (We.alloc (.cells #[.string cp, .string ub, .string uo, .string ut, .bool jb, .bool jo, .bool jt] 40))) := HI.out.skip (b5.alloc b5.size _) HST.out HE.out
            clear HST HE b5
            cases bb
            · go_wp2
              go_roundw
              case rel => exact ⟨t + 1, by omega, by go_num, H9.out⟩
              case measure => simp [intOf]; omega
            · go_wp2
              go_loopw [14, 15, 67] (fun tx ih j wx => tx = .string vt ∧ ih = .bool false ∧ j = .int .i64 0 ∧ wx = We.alloc (.cells #[.string cp, .string ub, .string uo, .string ut, .bool jb, .bool jo, .bool jt] 40)) (fun _ _ _ _ => 0)
              case atStart => exact ⟨rfl, rfl, rfl, rfl⟩
              case round =>
                obtain ⟨rfl, rfl, rfl, rfl⟩ := hrel
                go_wp2
                go_roundw
                case rel => exact ⟨t + 1, by omega, by go_num, H9.out⟩
                case measure => simp [intOf]; omega
          ·
            have B6 : Below wr.heap.size wr ((We.alloc (.cells #[.string cp, .string ub, .string uo, .string ut, .bool jb, .bool jo, .bool jt] 40)).alloc (.cells #[.string P, .string vt] 46)) := (b5.alloc b5.size _).alloc (by simp; exact Nat.le_succ_of_le b5.size) _
            have g6 := heap_alloc_new (We.alloc (.cells #[.string cp, .string ub, .string uo, .string ut, .bool jb, .bool jo, .bool jt] 40)) (.cells #[.string P, .string vt] 46)
            rw [World.size_alloc] at g6
            obtain ⟨so, n, co, s9, n9, c9, W9, d1, hr9, d2, d3, hm⟩ := HI.out.file (f := ⟨P, vt⟩) hn B6 g6 HLN.out HST.out HE.out
            have d0 : (We.alloc (.cells #[.string cp, .string ub, .string uo, .string ut, .bool jb, .bool jo, .bool jt] 40)).cell? ⟨w.heap.size + 1 + 1 + 1 + 1, 0, none⟩ = some (.slice so n co) := d1 _ (b5.alloc b5.size _)
            have H9 : Hid _ := hm
            clear HST HE b5 B6 g6 hm d1
            cases bb
            · go_wp2_with (refine list_append (by rfl) (.tmp 80) (.tmp 84) 22 (by rfl) (by rfl) (by rfl) hr9 ?_)
              go_roundw
              case rel => exact ⟨t + 1, by omega, by go_num, H9.out⟩
              case measure => simp [intOf]; omega
            · go_wp2
              go_loopw [14, 15, 67] (fun tx ih j wx => tx = .string vt ∧ ih = .bool true ∧ j = .int .i64 0 ∧ wx = We.alloc (.cells #[.string cp, .string ub, .string uo, .string ut, .bool jb, .bool jo, .bool jt] 40)) (fun _ _ _ _ => 0)
              case atStart => exact ⟨rfl, rfl, rfl, rfl⟩
              case round =>
                obtain ⟨rfl, rfl, rfl, rfl⟩ := hrel
                go_wp2_with (refine list_append (by rfl) (.tmp 80) (.tmp 84) 22 (by rfl) (by rfl) (by rfl) hr9 ?_)
                go_roundw
                case rel => exact ⟨t + 1, by omega, by go_num, H9.out⟩
                case measure => simp [intOf]; omega
    · have hd : decide ((t : Int) < qs.length) = false := by simp; omega
      obtain rfl : t = qs.length := by omega
      have h3 := (HMW.out.at HI.out.bl HI.out.bb).r3
      obtain ⟨so, n, co, h4, ho⟩ := HI.out.out
      rw [List.take_length] at ho
      have c4 : wr.cell? ⟨w.heap.size + 1 + 1 + 1 + 1, 0, none⟩ = some (.slice so n co) := (cell_of_row _ _ _ _ _ _ h4).trans rfl
      have c3 : wr.cell? ⟨w.heap.size + 1 + 1 + 1, 0, none⟩ = some (.slice none 0 0) := (cell_of_row _ _ _ _ _ _ h3).trans rfl
      have z3 : wr.frozen? ⟨w.heap.size + 1 + 1 + 1, 0, none⟩ = false := frozen_of_row _ _ _ _ _ h3
      have HFIN := HGOOD.out (.slice so n co) (wr.setCell ⟨w.heap.size + 1 + 1 + 1, 0, none⟩ (.slice so n co)) (ho.keep fun k hk => heap_setCell_other _ _ _ _ fun e => by
        have := (ho.lt hk).1
        rw [e] at this
        have h5 : (⟨w.heap.size + 1 + 1 + 1, 0, none⟩ : Addr).block = w.heap.size + 1 + 1 + 1 := rfl
        omega) (HI.out.bl.setCell (p := ⟨w.heap.size + 1 + 1 + 1, 0, none⟩) (by show w.heap.size ≤ w.heap.size + 1 + 1 + 1; omega) _)
      have HFIN : Hid _ := HFIN
      have HR3 : Hid _ := h3
      clear h3 h4 ho HI HGOOD
      go_wp2
      refine bodyPost_ret (v := .agg #[.slice so n co]) (results_cell Try.results17 _ _ (w.heap.size + 1 + 1 + 1) 24 #[.slice so n co] (0, 0) _ rfl (heap_setCell_same _ _ 0 _ _ _ HR3.out) Try.underlying24 rfl (by kernel_rfl)) rfl HFIN.out
end Go.Proofs.Ytmbnbehlfbdpnaa
