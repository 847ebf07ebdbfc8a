/- The contract of the document's Merged, whatever choice is handed in. -/
/- What Settle sorts is what the document has, path by path. -/
/- The contracts of the document's Same and of the law's whole. -/
/- The contracts of the law's right and whole. -/
import Derived.Test.YtmbnbehlfbdpnaaMrgC
import Derived.Test.YtmbnbehlfbdpnaaMrgB
import Derived.Test.YtmbnbehlfbdpnaaTSam
import Derived.Test.YtmbnbehlfbdpnaaMrgA
namespace Go.Proofs.Ytmbnbehlfbdpnaa
open Go.RowKit

/-- What a choice has at a path: the last of it. -/
def lastM (cs : List Fi) (p : ByteArray) (m : May) : May := cs.foldl (fun m f => if f.path.toList == p.toList then ⟨f.text, true⟩ else m) m
def refG1 (a b c cs : List Fi) (q : List UInt8) : List Fi := mayF ⟨q.toArray⟩ (if clashB (atC a b c ⟨q.toArray⟩).s then lastM cs ⟨q.toArray⟩ (pickM (atC a b c ⟨q.toArray⟩).s) else pickM (atC a b c ⟨q.toArray⟩).s)
theorem mayF_len (p : ByteArray) (m : May) : (mayF p m).length ≤ 1 := by unfold mayF; split <;> simp
theorem refG1_len (a b c cs : List Fi) (q : List UInt8) : (refG1 a b c cs q).length ≤ 1 := mayF_len _ _
/-- Where Merged is between two paths. -/
structure MG (w W2 : World) (R : List UInt8 → List Fi) (qs : List (List UInt8)) (t : Nat) (wr : World) : Prop where
  bl : Below w.heap.size w wr
  bb : ButB (w.heap.size + 1 + 1 + 1 + 1) W2.heap.size W2 wr
  out : ∃ so n co, wr.heap[w.heap.size + 1 + 1 + 1 + 1]? = some (.cells #[.slice so n co] 24 (0, 0)) ∧ OwnF W2.heap.size wr (.slice so n co) ((qs.take t).flatMap R)
theorem MG.keep {w W2 : World} {R : List UInt8 → List Fi} {qs : List (List UInt8)} {t : Nat} {wr W : World} (h : MG w W2 R qs t wr) (hb : Below wr.heap.size wr W) : MG w W2 R qs t W := by
  obtain ⟨so, n, co, h1, h2⟩ := h.out
  exact ⟨h.bl.trans (hb.mono h.bl.size), h.bb.then (Nat.le_refl _) hb, so, n, co, (hb.block _ (lt_of_row h1)).trans h1, h2.below hb⟩
theorem MG.skip {w W2 : World} {R : List UInt8 → List Fi} {qs : List (List UInt8)} {t : Nat} {q : List UInt8} {wr W : World} (h : MG w W2 R qs t wr) (hb : Below wr.heap.size wr W) (hq : (qs.take (t + 1)).flatMap R = (qs.take t).flatMap R ++ R q) (he : R q = []) : MG w W2 R qs (t + 1) W := by
  obtain ⟨bl, bb, so, n, co, h1, h2⟩ := h.keep hb
  refine ⟨bl, bb, so, n, co, h1, ?_⟩
  rw [hq, he, List.append_nil]
  exact h2
theorem MG.file {w W2 : World} {R : List UInt8 → List Fi} {qs : List (List UInt8)} {t : Nat} {q : List UInt8} {wr W : World} {f : Fi} {g : Nat} (h : MG w W2 R qs t wr) (hn : w.heap.size + 5 ≤ W2.heap.size) (hb : Below wr.heap.size wr W) (hg : W.heap[g]? = some (.cells f.cells 46 (0, 0))) (hlen : ((qs.take t).flatMap R).length + 1 ≤ 100000)
    (hq : (qs.take (t + 1)).flatMap R = (qs.take t).flatMap R ++ R q) (he : R q = [f]) :
    ∃ so n co s9 n9 c9 W9, (∀ W', Below wr.heap.size wr W' → W'.cell? ⟨w.heap.size + 1 + 1 + 1 + 1, 0, none⟩ = some (.slice so n co)) ∧ (Builtin.append_ #[22, 22] 22 #[.slice so n co, .slice (some ⟨g, 0, none⟩) 1 1]).run Try.prog W = .ok (.slice s9 n9 c9) W9 ∧ W9.cell? ⟨w.heap.size + 1 + 1 + 1 + 1, 0, none⟩ = some (.slice so n co) ∧ W9.frozen? ⟨w.heap.size + 1 + 1 + 1 + 1, 0, none⟩ = false ∧ MG w W2 R qs (t + 1) (W9.setCell ⟨w.heap.size + 1 + 1 + 1 + 1, 0, none⟩ (.slice s9 n9 c9)) := by
  obtain ⟨bl0, bb0, so, n, co, h10, h20⟩ := h
  have bl := bl0.trans (hb.mono bl0.size)
  have bb := bb0.then (Nat.le_refl _) hb
  have h1 := (hb.block _ (lt_of_row h10)).trans h10
  have h2 := h20.below hb
  obtain ⟨v9, W9, hr9, ho9, hg9, -⟩ := files_run (ys := [f]) (cap := 1) 22 h2 (fun e => by cases e) (oneF_rows hg) (fun _ => ⟨_, _, rfl⟩) hlen (bb.size)
  obtain ⟨s9, c9, rfl, -, -⟩ := ho9.rows
  have hne : ∀ k, k < W2.heap.size → W9.heap[k]? = W.heap[k]? := fun k hk => hg9.block k (Nat.lt_of_lt_of_le hk bb.size) (fun e => by
    have := (h2.lt e.symm).1
    omega)
  have h9 : W9.heap[w.heap.size + 1 + 1 + 1 + 1]? = some (.cells #[.slice so n co] 24 (0, 0)) := (hne _ (by omega)).trans h1
  refine ⟨so, n, co, s9, _, c9, W9, fun W' h' => (cell_of_row _ _ _ _ _ _ ((h'.block _ (lt_of_row h10)).trans h10)).trans rfl, hr9, (cell_of_row _ _ _ _ _ _ h9).trans rfl, frozen_of_row _ _ _ _ _ h9, ?_, ?_, s9, _, c9, heap_setCell_same _ _ 0 _ _ _ h9, ?_⟩
  · have b9 := OwnF.grown (xs := (qs.take t).flatMap R) h2 (by have := W2.heap.size; omega) bl.size bl hg9
    exact b9.setCell (p := ⟨w.heap.size + 1 + 1 + 1 + 1, 0, none⟩) (by show w.heap.size ≤ w.heap.size + 1 + 1 + 1 + 1; omega) _
  · refine ⟨by simp [World.setCell]; exact Nat.le_trans bb.size hg9.size, fun k hk hkg => ?_⟩
    exact (heap_setCell_other _ _ _ _ hkg).trans ((hne k hk).trans (bb.block k hk hkg))
  · rw [hq, he]
    refine ho9.keep fun k hk => heap_setCell_other _ _ _ _ fun e => ?_
    have := (ho9.lt hk).1
    rw [e] at this
    have h5 : (⟨w.heap.size + 1 + 1 + 1 + 1, 0, none⟩ : Addr).block = w.heap.size + 1 + 1 + 1 + 1 := rfl
    omega
set_option maxRecDepth 100000 in
set_option maxHeartbeats 8000000 in
theorem r8mergedG_any (x y z ch : Sl) (w : World) (ht : Trio w x y z) (hch : SlS w ch) :
    Calls Try.prog 17 #[.agg #[.slice x.sp x.fs.length x.cap], .agg #[.slice y.sp y.fs.length y.cap], .agg #[.slice z.sp z.fs.length z.cap], .slice ch.sp ch.fs.length ch.cap] w fun e w' => (∃ v, e = .returned (.agg #[v]) ∧ OwnF w.heap.size w' v ((allPs (x.fs ++ y.fs ++ z.fs)).flatMap (refG1 x.fs y.fs z.fs ch.fs))) ∧ Below w.heap.size w w' := by
  have HT : Hid (Trio w x y z) := ht
  have hcl : ch.fs.length ≤ 1000000 := hch.2.1
  have HCH : Hid (∀ W, Below w.heap.size w W → RowsAt W 2 Fi.cells ch.sp ch.fs) := fun W h => hch.1.1.below h
  clear ht hch
  go_enter Try.func17, Try.ntmps17
  go_wp2_with fail
  refine calls_gen (fun W1 => Below w.heap.size w W1 ∧ W1.heap[w.heap.size]? = some (.cells #[.slice x.sp x.fs.length x.cap] 24 (0, 0)) ∧ W1.heap[w.heap.size + 1]? = some (.cells #[.slice y.sp y.fs.length y.cap] 24 (0, 0)) ∧ W1.heap[w.heap.size + 1 + 1]? = some (.cells #[.slice z.sp z.fs.length z.cap] 24 (0, 0)) ∧ W1.heap[w.heap.size + 1 + 1 + 1]? = some (.cells #[.slice none 0 0] 24 (0, 0)) ∧ W1.heap[w.heap.size + 1 + 1 + 1 + 1]? = some (.cells #[.slice none 0 0] 24 (0, 0)) ∧ W1.heap[w.heap.size + 1 + 1 + 1 + 1 + 1]? = some (.cells #[.slice x.sp x.fs.length x.cap, .slice y.sp y.fs.length y.cap, .slice z.sp z.fs.length z.cap] 24 (0, 0))) ?_ ?_
  · have hb := three_boxes w (.slice x.sp x.fs.length x.cap) (.slice y.sp y.fs.length y.cap) (.slice z.sp z.fs.length z.cap) 24
    have hs : (((w.alloc (.cells #[.slice x.sp x.fs.length x.cap] 24)).alloc (.cells #[.slice y.sp y.fs.length y.cap] 24)).alloc (.cells #[.slice z.sp z.fs.length z.cap] 24)).heap.size = w.heap.size + 1 + 1 + 1 := by simp
    generalize ((w.alloc (.cells #[.slice x.sp x.fs.length x.cap] 24)).alloc (.cells #[.slice y.sp y.fs.length y.cap] 24)).alloc (.cells #[.slice z.sp z.fs.length z.cap] 24) = V at hb hs ⊢
    obtain ⟨hb, q0, q1, q2⟩ := hb
    have n1 := heap_alloc_new V (.cells #[.slice none 0 0] 24)
    have n2 := heap_alloc_new (V.alloc (.cells #[.slice none 0 0] 24)) (.cells #[.slice none 0 0] 24)
    have n3 := heap_alloc_new ((V.alloc (.cells #[.slice none 0 0] 24)).alloc (.cells #[.slice none 0 0] 24)) (.cells #[.slice x.sp x.fs.length x.cap, .slice y.sp y.fs.length y.cap, .slice z.sp z.fs.length z.cap] 24)
    simp only [World.size_alloc, hs] at n1 n2 n3
    have up : ∀ k o, V.heap[k]? = some o → (((V.alloc (.cells #[.slice none 0 0] 24)).alloc (.cells #[.slice none 0 0] 24)).alloc (.cells #[.slice x.sp x.fs.length x.cap, .slice y.sp y.fs.length y.cap, .slice z.sp z.fs.length z.cap] 24)).heap[k]? = some o := fun k o h => by
      have hk := lt_of_row h
      exact (Below.heap_alloc _ _ _ (by simp; omega)).trans ((Below.heap_alloc _ _ _ (by simp; omega)).trans ((Below.heap_alloc _ _ _ hk).trans h))
    refine ⟨((hb.alloc hb.size _).alloc (by simp; exact Nat.le_succ_of_le hb.size) _).alloc (by simp; exact Nat.le_succ_of_le (Nat.le_succ_of_le hb.size)) _, up _ _ q0, up _ _ q1, up _ _ q2, ?_, ?_, n3⟩
    · exact (Below.heap_alloc _ _ _ (by simp; omega)).trans ((Below.heap_alloc _ _ _ (by simp; omega)).trans n1)
    · exact (Below.heap_alloc _ _ _ (by simp; omega)).trans n2
  rintro W1 ⟨b1, r0, r1, r2, r3, r4, r5⟩
  refine ((HT.out.below (Nat.le_refl _) b1).paths r5).mono ?_
  rintro e W2 ⟨⟨v, rfl, hov⟩, b12⟩
  have b2 : Below w.heap.size w W2 := b1.trans (b12.mono b1.size)
  have k : ∀ n o, W1.heap[n]? = some o → W2.heap[n]? = some o := fun n o h => (b12.block _ (lt_of_row h)).trans h
  have l1 := lt_of_row r5
  have hn : w.heap.size + 5 ≤ W2.heap.size := by have := b12.size; omega
  have hlq := HT.out.plen
  obtain ⟨qs, hqs⟩ : ∃ qs, allPs (x.fs ++ y.fs ++ z.fs) = qs := ⟨_, rfl⟩
  have HGOOD : Hid (∀ v W, OwnF W2.heap.size W v (qs.flatMap (refG1 x.fs y.fs z.fs ch.fs)) → Below w.heap.size w W → (∃ v', Ending.returned (.agg #[v]) = .returned (.agg #[v']) ∧ OwnF w.heap.size W v' ((allPs (x.fs ++ y.fs ++ z.fs)).flatMap (refG1 x.fs y.fs z.fs ch.fs))) ∧ Below w.heap.size w W) := fun v W ho hB => by
    subst hqs
    exact ⟨⟨v, rfl, ho.mono b2.size⟩, hB⟩
  rw [hqs] at hov hlq
  clear hqs
  have hov' : OwnS (w.heap.size + 6) W2 v qs := ⟨hov.1, hov.2.imp id fun ⟨g, cap, cur, h1, h2, h3⟩ => ⟨g, cap, cur, h1, Nat.le_trans (by omega) h2, h3⟩⟩
  obtain ⟨sp', cp', rfl, -⟩ := hov.shape
  have HMW : Hid (MW w W2 x y z (.slice sp' qs.length cp') qs) := ⟨b2, k _ _ r0, k _ _ r1, k _ _ r2, k _ _ r3, k _ _ r4, hov', HT.out⟩
  have HMI : Hid (MG w W2 (refG1 x.fs y.fs z.fs ch.fs) qs 0 W2) := ⟨b2, ⟨Nat.le_refl _, fun _ _ _ => rfl⟩, none, 0, 0, k _ _ r4, ownF_nil _ _⟩
  clear hov hov' r0 r1 r2 r3 r4 r5 b1 b12 b2 HT k l1
  go_wp2
  go_loopw [26] (fun i wr => ∃ t : Nat, t ≤ qs.length ∧ i = .int .i64 t ∧ MG w W2 (refG1 x.fs y.fs z.fs ch.fs) qs t wr) (fun i _ => qs.length - (intOf i).toNat)
  case atStart => exact ⟨0, Nat.zero_le _, rfl, HMI.out⟩
  case round =>
    obtain ⟨t, ht, rfl, hmi⟩ := hrel
    have HI : Hid (MG w W2 (refG1 x.fs y.fs z.fs ch.fs) qs t wr) := hmi
    clear hmi HMI
    by_cases hlt : t < qs.length
    · have hd : decide ((t : Int) < qs.length) = true := by simp; omega
      obtain ⟨q, hq⟩ : ∃ q, qs[t]? = some q := ⟨_, List.getElem?_eq_getElem hlt⟩
      have HMC : Hid (∀ W, Below wr.heap.size wr W → MC w x y z sp' qs W) := fun W h => HMW.out.at (HI.out.keep h).bl (HI.out.keep h).bb
      obtain ⟨bq, rfl, k0⟩ := (HMC.out wr (Below.refl _ _)).ps t q hq
      have HST : Hid ((qs.take (t + 1)).flatMap (refG1 x.fs y.fs z.fs ch.fs) = (qs.take t).flatMap (refG1 x.fs y.fs z.fs ch.fs) ++ refG1 x.fs y.fs z.fs ch.fs q) := by
        show _ = _
        rw [List.take_add_one, hq, Option.toList_some, List.flatMap_append]
        simp
      have HLN : Hid (((qs.take t).flatMap (refG1 x.fs y.fs z.fs ch.fs)).length + 1 ≤ 100000) := by
        show ((qs.take t).flatMap (refG1 x.fs y.fs z.fs ch.fs)).length + 1 ≤ 100000
        have := flat1_len (refG1_len x.fs y.fs z.fs ch.fs) (qs.take t)
        rw [List.length_take] at this
        omega
      obtain ⟨P, hP⟩ : ∃ P : ByteArray, P = ⟨q.toArray⟩ := ⟨_, rfl⟩
      obtain ⟨bc, hbc⟩ : ∃ bc, clashB (atC x.fs y.fs z.fs P).s = bc := ⟨_, rfl⟩
      have HRF : Hid (refG1 x.fs y.fs z.fs ch.fs q = mayF P (if bc then lastM ch.fs P (pickM ⟨⟨(findB x.fs P).1, (findB x.fs P).2⟩, ⟨(findB y.fs P).1, (findB y.fs P).2⟩, ⟨(findB z.fs P).1, (findB z.fs P).2⟩⟩) else pickM ⟨⟨(findB x.fs P).1, (findB x.fs P).2⟩, ⟨(findB y.fs P).1, (findB y.fs P).2⟩, ⟨(findB z.fs P).1, (findB z.fs P).2⟩⟩)) := by
        show _ = _
        rw [← hbc, hP]
        rfl
      have HBC : Hid (clashB (atC x.fs y.fs z.fs P).s = bc) := hbc
      clear hbc
      rw [← hP] at k0
      clear hP hq
      have tr := (HMC.out wr (Below.refl _ _)).tr.s.1
      have k1 := (HMC.out wr (Below.refl _ _)).c0
      go_wp2_with fail
      refine (r8at_any x.sp x.cap x.fs P wr tr.1.1 tr.2.1).mono ?_
      rintro e Wa ⟨rfl, ba⟩
      clear tr k1 k0
      have tr := (HMC.out Wa ba).tr.s.2.1
      have k1 := (HMC.out Wa ba).c1
      go_wp2_with fail
      refine (r8at_any y.sp y.cap y.fs P Wa tr.1.1 tr.2.1).mono ?_
      rintro e Wb ⟨rfl, bab⟩
      have bb : Below wr.heap.size wr Wb := ba.trans (bab.mono ba.size)
      clear tr k1 ba bab
      generalize findB x.fs P = fx at HRF ⊢
      obtain ⟨vb, ib⟩ := fx
      generalize findB y.fs P = fy at HRF ⊢
      obtain ⟨vo, io⟩ := fy
      have HFZ : Hid (findB z.fs P = findB z.fs P) := rfl
      generalize hfz : findB z.fs P = fz at HRF
      have HZ : Hid (findB z.fs P = fz) := hfz
      clear hfz HFZ
      obtain ⟨vt, it⟩ := fz
      dsimp only at HRF HZ ⊢
      cases h1 : (vo.toList == vb.toList)
      · clear HZ
        have HE : Hid (refG1 x.fs y.fs z.fs ch.fs q = mayF P (if bc then lastM ch.fs P ⟨vo, io⟩ else ⟨vo, io⟩)) := by show _ = _; rw [HRF.out]; simp [pickM, mayEq, h1]
        clear HRF
        have tr := (HMC.out Wb bb).tr.s
        have k0 := (HMC.out Wb bb).c0
        have k1 := (HMC.out Wb bb).c1
        have k2 := (HMC.out Wb bb).c2
        go_wp2_with fail
        refine (r8clash_any x y z P Wb tr.1 tr.2.1 tr.2.2).mono ?_
        rintro e We ⟨rfl, be⟩
        have b5 : Below wr.heap.size wr We := bb.trans (be.mono bb.size)
        clear tr k0 k1 k2 be
        rw [HBC.out]
        clear HBC
        generalize atC x.fs y.fs z.fs P = cl
        obtain ⟨cp, ⟨⟨ub, jb⟩, ⟨uo, jo⟩, ⟨ut, jt⟩⟩⟩ := cl
        dsimp only [Cl.cells]
        have b6 : Below wr.heap.size wr (We.alloc (.cells #[.string cp, .string ub, .string uo, .string ut, .bool jb, .bool jo, .bool jt] 40)) := b5.alloc b5.size _
        have HSK : Hid (∀ W, Below (We.alloc (.cells #[.string cp, .string ub, .string uo, .string ut, .bool jb, .bool jo, .bool jt] 40)).heap.size (We.alloc (.cells #[.string cp, .string ub, .string uo, .string ut, .bool jb, .bool jo, .bool jt] 40)) W → refG1 x.fs y.fs z.fs ch.fs q = [] → MG w W2 (refG1 x.fs y.fs z.fs ch.fs) qs (t + 1) W) := fun W hW he => HI.out.skip (b6.trans (hW.mono b6.size)) HST.out he
        have HFI : Hid (∀ W v, Below (We.alloc (.cells #[.string cp, .string ub, .string uo, .string ut, .bool jb, .bool jo, .bool jt] 40)).heap.size (We.alloc (.cells #[.string cp, .string ub, .string uo, .string ut, .bool jb, .bool jo, .bool jt] 40)) W → refG1 x.fs y.fs z.fs ch.fs q = [⟨P, v⟩] → ∃ so n co s9 n9 c9 W9, W.cell? ⟨w.heap.size + 1 + 1 + 1 + 1, 0, none⟩ = some (.slice so n co) ∧ (Builtin.append_ #[22, 22] 22 #[.slice so n co, .slice (some ⟨W.heap.size, 0, none⟩) 1 1]).run Try.prog (W.alloc (.cells #[.string P, .string v] 46)) = .ok (.slice s9 n9 c9) W9 ∧ W9.cell? ⟨w.heap.size + 1 + 1 + 1 + 1, 0, none⟩ = some (.slice so n co) ∧ W9.frozen? ⟨w.heap.size + 1 + 1 + 1 + 1, 0, none⟩ = false ∧ MG w W2 (refG1 x.fs y.fs z.fs ch.fs) qs (t + 1) (W9.setCell ⟨w.heap.size + 1 + 1 + 1 + 1, 0, none⟩ (.slice s9 n9 c9))) := fun W v hW he => by
          have b7 := b6.trans (hW.mono b6.size)
          obtain ⟨so, n, co, s9, n9, c9, W9, d1, hr9, d2, d3, hm⟩ := HI.out.file (f := ⟨P, v⟩) hn (b7.alloc b7.size _) (heap_alloc_new W (.cells #[.string P, .string v] 46)) HLN.out HST.out he
          exact ⟨so, n, co, s9, n9, c9, W9, d1 _ b7, hr9, d2, d3, hm⟩
        have HCR : Hid (∀ W, Below (We.alloc (.cells #[.string cp, .string ub, .string uo, .string ut, .bool jb, .bool jo, .bool jt] 40)).heap.size (We.alloc (.cells #[.string cp, .string ub, .string uo, .string ut, .bool jb, .bool jo, .bool jt] 40)) W → RowsAt W 2 Fi.cells ch.sp ch.fs) := fun W hW => HCH.out W (HI.out.keep (b6.trans (hW.mono b6.size))).bl
        clear b5 b6
        cases bc
        · cases io
          ·
            have H9 : Hid _ := HSK.out (We.alloc (.cells #[.string cp, .string ub, .string uo, .string ut, .bool jb, .bool jo, .bool jt] 40)) (Below.refl _ _) HE.out
            clear HE HSK HFI HCR
            go_wp2
            go_roundw
            case rel => exact ⟨t + 1, by omega, by go_num, H9.out⟩
            case measure => simp [intOf]; omega
          ·
            obtain ⟨so, n, co, s9, n9, c9, W9, d1, hr9, d2, d3, hm⟩ := HFI.out (We.alloc (.cells #[.string cp, .string ub, .string uo, .string ut, .bool jb, .bool jo, .bool jt] 40)) vo (Below.refl _ _) HE.out
            rw [World.size_alloc] at hr9
            have H9 : Hid _ := hm
            clear HE HSK HFI HCR hm
            go_wp2_with (refine list_append (by rfl) (.tmp 80) (.tmp 84) 22 (by rfl) (by rfl) (by rfl) hr9 ?_)
            go_roundw
            case rel => exact ⟨t + 1, by omega, by go_num, H9.out⟩
            case measure => simp [intOf]; omega
        · go_wp2
          go_loopw [14, 15, 67] (fun tx ih j wx => ∃ (k : Nat) (m : May), k ≤ ch.fs.length ∧ tx = .string m.value ∧ ih = .bool m.there ∧ j = .int .i64 k ∧ lastM (ch.fs.take k) P ⟨vo, io⟩ = m ∧ Below (We.alloc (.cells #[.string cp, .string ub, .string uo, .string ut, .bool jb, .bool jo, .bool jt] 40)).heap.size (We.alloc (.cells #[.string cp, .string ub, .string uo, .string ut, .bool jb, .bool jo, .bool jt] 40)) wx) (fun _ _ j _ => ch.fs.length - (intOf j).toNat)
          case atStart => exact ⟨0, ⟨vo, io⟩, Nat.zero_le _, rfl, rfl, rfl, rfl, Below.refl _ _⟩
          case round =>
            obtain ⟨k, m, hk, rfl, rfl, rfl, hm, hBX⟩ := hrel
            have HM : Hid (lastM (ch.fs.take k) P ⟨vo, io⟩ = m) := hm
            clear hm
            by_cases hlk : k < ch.fs.length
            · have hdk : decide ((k : Int) < ch.fs.length) = true := by simp; omega
              obtain ⟨f, hf⟩ : ∃ f, ch.fs[k]? = some f := ⟨_, List.getElem?_eq_getElem hlk⟩
              have hrw := HCR.out wr hBX
              obtain ⟨b, off, ec, -⟩ := hrw (by omega)
              rw [ec] at hrw ⊢
              obtain ⟨c0, c1⟩ := fi_cell hrw hf
              have HST2 : Hid (lastM (ch.fs.take (k + 1)) P ⟨vo, io⟩ = if f.path.toList == P.toList then ⟨f.text, true⟩ else m) := by
                show _ = _
                rw [← HM.out]
                unfold lastM
                rw [List.take_add_one, hf, Option.toList_some, List.foldl_append]
                rfl
              clear hf hrw ec
              cases hpf : (f.path.toList == P.toList)
              · rw [hpf] at HST2
                go_wp2
                go_roundw
                case rel => exact ⟨k + 1, m, by omega, rfl, rfl, by go_num, HST2.out, hBX.trans (((Below.refl _ _).alloc (Nat.le_refl _) _).mono hBX.size)⟩
                case measure => simp [intOf]; omega
              · rw [hpf] at HST2
                go_wp2
                go_roundw
                case rel => exact ⟨k + 1, ⟨f.text, true⟩, by omega, rfl, rfl, by go_num, HST2.out, hBX.trans (((Below.refl _ _).alloc (Nat.le_refl _) _).mono hBX.size)⟩
                case measure => simp [intOf]; omega
            · have hdk : decide ((k : Int) < ch.fs.length) = false := by simp; omega
              obtain rfl : k = ch.fs.length := by omega
              rw [List.take_length] at HM
              rw [HM.out] at HE
              obtain ⟨mv, mt⟩ := m
              cases mt
              · have H9 : Hid _ := HSK.out wr hBX HE.out
                clear HE HSK HFI HCR HM
                go_wp2
                go_roundw
                case rel => exact ⟨t + 1, by omega, by go_num, H9.out⟩
                case measure => simp [intOf]; omega
              · obtain ⟨so, n, co, s9, n9, c9, W9, d1, hr9, d2, d3, hm⟩ := HFI.out wr mv hBX HE.out
                have H9 : Hid _ := hm
                clear HE HSK HFI HCR hm HM
                go_wp2_with (refine list_append (by rfl) (.tmp 80) (.tmp 84) 22 (by rfl) (by rfl) (by rfl) hr9 ?_)
                go_roundw
                case rel => exact ⟨t + 1, by omega, by go_num, H9.out⟩
                case measure => simp [intOf]; omega
      · cases io <;> cases ib
        ·
          have tr := (HMC.out Wb bb).tr.s.2.2
          have k1 := (HMC.out Wb bb).c2
          go_wp2_with fail
          refine (r8at_any z.sp z.cap z.fs P Wb tr.1.1 tr.2.1).mono ?_
          rintro e Wt ⟨rfl, bbt⟩
          have b4 : Below wr.heap.size wr Wt := bb.trans (bbt.mono bb.size)
          clear tr k1 bbt bb
          rw [HZ.out]
          dsimp only
          clear HZ
          have HE : Hid (refG1 x.fs y.fs z.fs ch.fs q = mayF P (if bc then lastM ch.fs P ⟨vt, it⟩ else ⟨vt, it⟩)) := by show _ = _; rw [HRF.out]; simp [pickM, mayEq, h1]
          clear HRF
          have tr := (HMC.out Wt b4).tr.s
          have k0 := (HMC.out Wt b4).c0
          have k1 := (HMC.out Wt b4).c1
          have k2 := (HMC.out Wt b4).c2
          go_wp2_with fail
          refine (r8clash_any x y z P Wt tr.1 tr.2.1 tr.2.2).mono ?_
          rintro e We ⟨rfl, be⟩
          have b5 : Below wr.heap.size wr We := b4.trans (be.mono b4.size)
          clear tr k0 k1 k2 be
          rw [HBC.out]
          clear HBC
          generalize atC x.fs y.fs z.fs P = cl
          obtain ⟨cp, ⟨⟨ub, jb⟩, ⟨uo, jo⟩, ⟨ut, jt⟩⟩⟩ := cl
          dsimp only [Cl.cells]
          have b6 : Below wr.heap.size wr (We.alloc (.cells #[.string cp, .string ub, .string uo, .string ut, .bool jb, .bool jo, .bool jt] 40)) := b5.alloc b5.size _
          have HSK : Hid (∀ W, Below (We.alloc (.cells #[.string cp, .string ub, .string uo, .string ut, .bool jb, .bool jo, .bool jt] 40)).heap.size (We.alloc (.cells #[.string cp, .string ub, .string uo, .string ut, .bool jb, .bool jo, .bool jt] 40)) W → refG1 x.fs y.fs z.fs ch.fs q = [] → MG w W2 (refG1 x.fs y.fs z.fs ch.fs) qs (t + 1) W) := fun W hW he => HI.out.skip (b6.trans (hW.mono b6.size)) HST.out he
          have HFI : Hid (∀ W v, Below (We.alloc (.cells #[.string cp, .string ub, .string uo, .string ut, .bool jb, .bool jo, .bool jt] 40)).heap.size (We.alloc (.cells #[.string cp, .string ub, .string uo, .string ut, .bool jb, .bool jo, .bool jt] 40)) W → refG1 x.fs y.fs z.fs ch.fs q = [⟨P, v⟩] → ∃ so n co s9 n9 c9 W9, W.cell? ⟨w.heap.size + 1 + 1 + 1 + 1, 0, none⟩ = some (.slice so n co) ∧ (Builtin.append_ #[22, 22] 22 #[.slice so n co, .slice (some ⟨W.heap.size, 0, none⟩) 1 1]).run Try.prog (W.alloc (.cells #[.string P, .string v] 46)) = .ok (.slice s9 n9 c9) W9 ∧ W9.cell? ⟨w.heap.size + 1 + 1 + 1 + 1, 0, none⟩ = some (.slice so n co) ∧ W9.frozen? ⟨w.heap.size + 1 + 1 + 1 + 1, 0, none⟩ = false ∧ MG w W2 (refG1 x.fs y.fs z.fs ch.fs) qs (t + 1) (W9.setCell ⟨w.heap.size + 1 + 1 + 1 + 1, 0, none⟩ (.slice s9 n9 c9))) := fun W v hW he => by
            have b7 := b6.trans (hW.mono b6.size)
            obtain ⟨so, n, co, s9, n9, c9, W9, d1, hr9, d2, d3, hm⟩ := HI.out.file (f := ⟨P, v⟩) hn (b7.alloc b7.size _) (heap_alloc_new W (.cells #[.string P, .string v] 46)) HLN.out HST.out he
            exact ⟨so, n, co, s9, n9, c9, W9, d1 _ b7, hr9, d2, d3, hm⟩
          have HCR : Hid (∀ W, Below (We.alloc (.cells #[.string cp, .string ub, .string uo, .string ut, .bool jb, .bool jo, .bool jt] 40)).heap.size (We.alloc (.cells #[.string cp, .string ub, .string uo, .string ut, .bool jb, .bool jo, .bool jt] 40)) W → RowsAt W 2 Fi.cells ch.sp ch.fs) := fun W hW => HCH.out W (HI.out.keep (b6.trans (hW.mono b6.size))).bl
          clear b5 b6
          cases bc
          · cases it
            ·
              have H9 : Hid _ := HSK.out (We.alloc (.cells #[.string cp, .string ub, .string uo, .string ut, .bool jb, .bool jo, .bool jt] 40)) (Below.refl _ _) HE.out
              clear HE HSK HFI HCR
              go_wp2
              go_roundw
              case rel => exact ⟨t + 1, by omega, by go_num, H9.out⟩
              case measure => simp [intOf]; omega
            ·
              obtain ⟨so, n, co, s9, n9, c9, W9, d1, hr9, d2, d3, hm⟩ := HFI.out (We.alloc (.cells #[.string cp, .string ub, .string uo, .string ut, .bool jb, .bool jo, .bool jt] 40)) vt (Below.refl _ _) HE.out
              rw [World.size_alloc] at hr9
              have H9 : Hid _ := hm
              clear HE HSK HFI HCR hm
              go_wp2_with (refine list_append (by rfl) (.tmp 80) (.tmp 84) 22 (by rfl) (by rfl) (by rfl) hr9 ?_)
              go_roundw
              case rel => exact ⟨t + 1, by omega, by go_num, H9.out⟩
              case measure => simp [intOf]; omega
          · go_wp2
            go_loopw [14, 15, 67] (fun tx ih j wx => ∃ (k : Nat) (m : May), k ≤ ch.fs.length ∧ tx = .string m.value ∧ ih = .bool m.there ∧ j = .int .i64 k ∧ lastM (ch.fs.take k) P ⟨vt, it⟩ = m ∧ Below (We.alloc (.cells #[.string cp, .string ub, .string uo, .string ut, .bool jb, .bool jo, .bool jt] 40)).heap.size (We.alloc (.cells #[.string cp, .string ub, .string uo, .string ut, .bool jb, .bool jo, .bool jt] 40)) wx) (fun _ _ j _ => ch.fs.length - (intOf j).toNat)
            case atStart => exact ⟨0, ⟨vt, it⟩, Nat.zero_le _, rfl, rfl, rfl, rfl, Below.refl _ _⟩
            case round =>
              obtain ⟨k, m, hk, rfl, rfl, rfl, hm, hBX⟩ := hrel
              have HM : Hid (lastM (ch.fs.take k) P ⟨vt, it⟩ = m) := hm
              clear hm
              by_cases hlk : k < ch.fs.length
              · have hdk : decide ((k : Int) < ch.fs.length) = true := by simp; omega
                obtain ⟨f, hf⟩ : ∃ f, ch.fs[k]? = some f := ⟨_, List.getElem?_eq_getElem hlk⟩
                have hrw := HCR.out wr hBX
                obtain ⟨b, off, ec, -⟩ := hrw (by omega)
                rw [ec] at hrw ⊢
                obtain ⟨c0, c1⟩ := fi_cell hrw hf
                have HST2 : Hid (lastM (ch.fs.take (k + 1)) P ⟨vt, it⟩ = if f.path.toList == P.toList then ⟨f.text, true⟩ else m) := by
                  show _ = _
                  rw [← HM.out]
                  unfold lastM
                  rw [List.take_add_one, hf, Option.toList_some, List.foldl_append]
                  rfl
                clear hf hrw ec
                cases hpf : (f.path.toList == P.toList)
                · rw [hpf] at HST2
                  go_wp2
                  go_roundw
                  case rel => exact ⟨k + 1, m, by omega, rfl, rfl, by go_num, HST2.out, hBX.trans (((Below.refl _ _).alloc (Nat.le_refl _) _).mono hBX.size)⟩
                  case measure => simp [intOf]; omega
                · rw [hpf] at HST2
                  go_wp2
                  go_roundw
                  case rel => exact ⟨k + 1, ⟨f.text, true⟩, by omega, rfl, rfl, by go_num, HST2.out, hBX.trans (((Below.refl _ _).alloc (Nat.le_refl _) _).mono hBX.size)⟩
                  case measure => simp [intOf]; omega
              · have hdk : decide ((k : Int) < ch.fs.length) = false := by simp; omega
                obtain rfl : k = ch.fs.length := by omega
                rw [List.take_length] at HM
                rw [HM.out] at HE
                obtain ⟨mv, mt⟩ := m
                cases mt
                · have H9 : Hid _ := HSK.out wr hBX HE.out
                  clear HE HSK HFI HCR HM
                  go_wp2
                  go_roundw
                  case rel => exact ⟨t + 1, by omega, by go_num, H9.out⟩
                  case measure => simp [intOf]; omega
                · obtain ⟨so, n, co, s9, n9, c9, W9, d1, hr9, d2, d3, hm⟩ := HFI.out wr mv hBX HE.out
                  have H9 : Hid _ := hm
                  clear HE HSK HFI HCR hm HM
                  go_wp2_with (refine list_append (by rfl) (.tmp 80) (.tmp 84) 22 (by rfl) (by rfl) (by rfl) hr9 ?_)
                  go_roundw
                  case rel => exact ⟨t + 1, by omega, by go_num, H9.out⟩
                  case measure => simp [intOf]; omega
        ·
          clear HZ
          have HE : Hid (refG1 x.fs y.fs z.fs ch.fs q = mayF P (if bc then lastM ch.fs P ⟨vo, false⟩ else ⟨vo, false⟩)) := by show _ = _; rw [HRF.out]; simp [pickM, mayEq, h1]
          clear HRF
          have tr := (HMC.out Wb bb).tr.s
          have k0 := (HMC.out Wb bb).c0
          have k1 := (HMC.out Wb bb).c1
          have k2 := (HMC.out Wb bb).c2
          go_wp2_with fail
          refine (r8clash_any x y z P Wb tr.1 tr.2.1 tr.2.2).mono ?_
          rintro e We ⟨rfl, be⟩
          have b5 : Below wr.heap.size wr We := bb.trans (be.mono bb.size)
          clear tr k0 k1 k2 be
          rw [HBC.out]
          clear HBC
          generalize atC x.fs y.fs z.fs P = cl
          obtain ⟨cp, ⟨⟨ub, jb⟩, ⟨uo, jo⟩, ⟨ut, jt⟩⟩⟩ := cl
          dsimp only [Cl.cells]
          have b6 : Below wr.heap.size wr (We.alloc (.cells #[.string cp, .string ub, .string uo, .string ut, .bool jb, .bool jo, .bool jt] 40)) := b5.alloc b5.size _
          have HSK : Hid (∀ W, Below (We.alloc (.cells #[.string cp, .string ub, .string uo, .string ut, .bool jb, .bool jo, .bool jt] 40)).heap.size (We.alloc (.cells #[.string cp, .string ub, .string uo, .string ut, .bool jb, .bool jo, .bool jt] 40)) W → refG1 x.fs y.fs z.fs ch.fs q = [] → MG w W2 (refG1 x.fs y.fs z.fs ch.fs) qs (t + 1) W) := fun W hW he => HI.out.skip (b6.trans (hW.mono b6.size)) HST.out he
          have HFI : Hid (∀ W v, Below (We.alloc (.cells #[.string cp, .string ub, .string uo, .string ut, .bool jb, .bool jo, .bool jt] 40)).heap.size (We.alloc (.cells #[.string cp, .string ub, .string uo, .string ut, .bool jb, .bool jo, .bool jt] 40)) W → refG1 x.fs y.fs z.fs ch.fs q = [⟨P, v⟩] → ∃ so n co s9 n9 c9 W9, W.cell? ⟨w.heap.size + 1 + 1 + 1 + 1, 0, none⟩ = some (.slice so n co) ∧ (Builtin.append_ #[22, 22] 22 #[.slice so n co, .slice (some ⟨W.heap.size, 0, none⟩) 1 1]).run Try.prog (W.alloc (.cells #[.string P, .string v] 46)) = .ok (.slice s9 n9 c9) W9 ∧ W9.cell? ⟨w.heap.size + 1 + 1 + 1 + 1, 0, none⟩ = some (.slice so n co) ∧ W9.frozen? ⟨w.heap.size + 1 + 1 + 1 + 1, 0, none⟩ = false ∧ MG w W2 (refG1 x.fs y.fs z.fs ch.fs) qs (t + 1) (W9.setCell ⟨w.heap.size + 1 + 1 + 1 + 1, 0, none⟩ (.slice s9 n9 c9))) := fun W v hW he => by
            have b7 := b6.trans (hW.mono b6.size)
            obtain ⟨so, n, co, s9, n9, c9, W9, d1, hr9, d2, d3, hm⟩ := HI.out.file (f := ⟨P, v⟩) hn (b7.alloc b7.size _) (heap_alloc_new W (.cells #[.string P, .string v] 46)) HLN.out HST.out he
            exact ⟨so, n, co, s9, n9, c9, W9, d1 _ b7, hr9, d2, d3, hm⟩
          have HCR : Hid (∀ W, Below (We.alloc (.cells #[.string cp, .string ub, .string uo, .string ut, .bool jb, .bool jo, .bool jt] 40)).heap.size (We.alloc (.cells #[.string cp, .string ub, .string uo, .string ut, .bool jb, .bool jo, .bool jt] 40)) W → RowsAt W 2 Fi.cells ch.sp ch.fs) := fun W hW => HCH.out W (HI.out.keep (b6.trans (hW.mono b6.size))).bl
          clear b5 b6
          cases bc
          ·
            have H9 : Hid _ := HSK.out (We.alloc (.cells #[.string cp, .string ub, .string uo, .string ut, .bool jb, .bool jo, .bool jt] 40)) (Below.refl _ _) HE.out
            clear HE HSK HFI HCR
            go_wp2
            go_roundw
            case rel => exact ⟨t + 1, by omega, by go_num, H9.out⟩
            case measure => simp [intOf]; omega
          · go_wp2
            go_loopw [14, 15, 67] (fun tx ih j wx => ∃ (k : Nat) (m : May), k ≤ ch.fs.length ∧ tx = .string m.value ∧ ih = .bool m.there ∧ j = .int .i64 k ∧ lastM (ch.fs.take k) P ⟨vo, false⟩ = m ∧ Below (We.alloc (.cells #[.string cp, .string ub, .string uo, .string ut, .bool jb, .bool jo, .bool jt] 40)).heap.size (We.alloc (.cells #[.string cp, .string ub, .string uo, .string ut, .bool jb, .bool jo, .bool jt] 40)) wx) (fun _ _ j _ => ch.fs.length - (intOf j).toNat)
            case atStart => exact ⟨0, ⟨vo, false⟩, Nat.zero_le _, rfl, rfl, rfl, rfl, Below.refl _ _⟩
            case round =>
              obtain ⟨k, m, hk, rfl, rfl, rfl, hm, hBX⟩ := hrel
              have HM : Hid (lastM (ch.fs.take k) P ⟨vo, false⟩ = m) := hm
              clear hm
              by_cases hlk : k < ch.fs.length
              · have hdk : decide ((k : Int) < ch.fs.length) = true := by simp; omega
                obtain ⟨f, hf⟩ : ∃ f, ch.fs[k]? = some f := ⟨_, List.getElem?_eq_getElem hlk⟩
                have hrw := HCR.out wr hBX
                obtain ⟨b, off, ec, -⟩ := hrw (by omega)
                rw [ec] at hrw ⊢
                obtain ⟨c0, c1⟩ := fi_cell hrw hf
                have HST2 : Hid (lastM (ch.fs.take (k + 1)) P ⟨vo, false⟩ = if f.path.toList == P.toList then ⟨f.text, true⟩ else m) := by
                  show _ = _
                  rw [← HM.out]
                  unfold lastM
                  rw [List.take_add_one, hf, Option.toList_some, List.foldl_append]
                  rfl
                clear hf hrw ec
                cases hpf : (f.path.toList == P.toList)
                · rw [hpf] at HST2
                  go_wp2
                  go_roundw
                  case rel => exact ⟨k + 1, m, by omega, rfl, rfl, by go_num, HST2.out, hBX.trans (((Below.refl _ _).alloc (Nat.le_refl _) _).mono hBX.size)⟩
                  case measure => simp [intOf]; omega
                · rw [hpf] at HST2
                  go_wp2
                  go_roundw
                  case rel => exact ⟨k + 1, ⟨f.text, true⟩, by omega, rfl, rfl, by go_num, HST2.out, hBX.trans (((Below.refl _ _).alloc (Nat.le_refl _) _).mono hBX.size)⟩
                  case measure => simp [intOf]; omega
              · have hdk : decide ((k : Int) < ch.fs.length) = false := by simp; omega
                obtain rfl : k = ch.fs.length := by omega
                rw [List.take_length] at HM
                rw [HM.out] at HE
                obtain ⟨mv, mt⟩ := m
                cases mt
                · have H9 : Hid _ := HSK.out wr hBX HE.out
                  clear HE HSK HFI HCR HM
                  go_wp2
                  go_roundw
                  case rel => exact ⟨t + 1, by omega, by go_num, H9.out⟩
                  case measure => simp [intOf]; omega
                · obtain ⟨so, n, co, s9, n9, c9, W9, d1, hr9, d2, d3, hm⟩ := HFI.out wr mv hBX HE.out
                  have H9 : Hid _ := hm
                  clear HE HSK HFI HCR hm HM
                  go_wp2_with (refine list_append (by rfl) (.tmp 80) (.tmp 84) 22 (by rfl) (by rfl) (by rfl) hr9 ?_)
                  go_roundw
                  case rel => exact ⟨t + 1, by omega, by go_num, H9.out⟩
                  case measure => simp [intOf]; omega
        ·
          clear HZ
          have HE : Hid (refG1 x.fs y.fs z.fs ch.fs q = mayF P (if bc then lastM ch.fs P ⟨vo, true⟩ else ⟨vo, true⟩)) := by show _ = _; rw [HRF.out]; simp [pickM, mayEq, h1]
          clear HRF
          have tr := (HMC.out Wb bb).tr.s
          have k0 := (HMC.out Wb bb).c0
          have k1 := (HMC.out Wb bb).c1
          have k2 := (HMC.out Wb bb).c2
          go_wp2_with fail
          refine (r8clash_any x y z P Wb tr.1 tr.2.1 tr.2.2).mono ?_
          rintro e We ⟨rfl, be⟩
          have b5 : Below wr.heap.size wr We := bb.trans (be.mono bb.size)
          clear tr k0 k1 k2 be
          rw [HBC.out]
          clear HBC
          generalize atC x.fs y.fs z.fs P = cl
          obtain ⟨cp, ⟨⟨ub, jb⟩, ⟨uo, jo⟩, ⟨ut, jt⟩⟩⟩ := cl
          dsimp only [Cl.cells]
          have b6 : Below wr.heap.size wr (We.alloc (.cells #[.string cp, .string ub, .string uo, .string ut, .bool jb, .bool jo, .bool jt] 40)) := b5.alloc b5.size _
          have HSK : Hid (∀ W, Below (We.alloc (.cells #[.string cp, .string ub, .string uo, .string ut, .bool jb, .bool jo, .bool jt] 40)).heap.size (We.alloc (.cells #[.string cp, .string ub, .string uo, .string ut, .bool jb, .bool jo, .bool jt] 40)) W → refG1 x.fs y.fs z.fs ch.fs q = [] → MG w W2 (refG1 x.fs y.fs z.fs ch.fs) qs (t + 1) W) := fun W hW he => HI.out.skip (b6.trans (hW.mono b6.size)) HST.out he
          have HFI : Hid (∀ W v, Below (We.alloc (.cells #[.string cp, .string ub, .string uo, .string ut, .bool jb, .bool jo, .bool jt] 40)).heap.size (We.alloc (.cells #[.string cp, .string ub, .string uo, .string ut, .bool jb, .bool jo, .bool jt] 40)) W → refG1 x.fs y.fs z.fs ch.fs q = [⟨P, v⟩] → ∃ so n co s9 n9 c9 W9, W.cell? ⟨w.heap.size + 1 + 1 + 1 + 1, 0, none⟩ = some (.slice so n co) ∧ (Builtin.append_ #[22, 22] 22 #[.slice so n co, .slice (some ⟨W.heap.size, 0, none⟩) 1 1]).run Try.prog (W.alloc (.cells #[.string P, .string v] 46)) = .ok (.slice s9 n9 c9) W9 ∧ W9.cell? ⟨w.heap.size + 1 + 1 + 1 + 1, 0, none⟩ = some (.slice so n co) ∧ W9.frozen? ⟨w.heap.size + 1 + 1 + 1 + 1, 0, none⟩ = false ∧ MG w W2 (refG1 x.fs y.fs z.fs ch.fs) qs (t + 1) (W9.setCell ⟨w.heap.size + 1 + 1 + 1 + 1, 0, none⟩ (.slice s9 n9 c9))) := fun W v hW he => by
            have b7 := b6.trans (hW.mono b6.size)
            obtain ⟨so, n, co, s9, n9, c9, W9, d1, hr9, d2, d3, hm⟩ := HI.out.file (f := ⟨P, v⟩) hn (b7.alloc b7.size _) (heap_alloc_new W (.cells #[.string P, .string v] 46)) HLN.out HST.out he
            exact ⟨so, n, co, s9, n9, c9, W9, d1 _ b7, hr9, d2, d3, hm⟩
          have HCR : Hid (∀ W, Below (We.alloc (.cells #[.string cp, .string ub, .string uo, .string ut, .bool jb, .bool jo, .bool jt] 40)).heap.size (We.alloc (.cells #[.string cp, .string ub, .string uo, .string ut, .bool jb, .bool jo, .bool jt] 40)) W → RowsAt W 2 Fi.cells ch.sp ch.fs) := fun W hW => HCH.out W (HI.out.keep (b6.trans (hW.mono b6.size))).bl
          clear b5 b6
          cases bc
          ·
            obtain ⟨so, n, co, s9, n9, c9, W9, d1, hr9, d2, d3, hm⟩ := HFI.out (We.alloc (.cells #[.string cp, .string ub, .string uo, .string ut, .bool jb, .bool jo, .bool jt] 40)) vo (Below.refl _ _) HE.out
            rw [World.size_alloc] at hr9
            have H9 : Hid _ := hm
            clear HE HSK HFI HCR hm
            go_wp2_with (refine list_append (by rfl) (.tmp 80) (.tmp 84) 22 (by rfl) (by rfl) (by rfl) hr9 ?_)
            go_roundw
            case rel => exact ⟨t + 1, by omega, by go_num, H9.out⟩
            case measure => simp [intOf]; omega
          · go_wp2
            go_loopw [14, 15, 67] (fun tx ih j wx => ∃ (k : Nat) (m : May), k ≤ ch.fs.length ∧ tx = .string m.value ∧ ih = .bool m.there ∧ j = .int .i64 k ∧ lastM (ch.fs.take k) P ⟨vo, true⟩ = m ∧ Below (We.alloc (.cells #[.string cp, .string ub, .string uo, .string ut, .bool jb, .bool jo, .bool jt] 40)).heap.size (We.alloc (.cells #[.string cp, .string ub, .string uo, .string ut, .bool jb, .bool jo, .bool jt] 40)) wx) (fun _ _ j _ => ch.fs.length - (intOf j).toNat)
            case atStart => exact ⟨0, ⟨vo, true⟩, Nat.zero_le _, rfl, rfl, rfl, rfl, Below.refl _ _⟩
            case round =>
              obtain ⟨k, m, hk, rfl, rfl, rfl, hm, hBX⟩ := hrel
              have HM : Hid (lastM (ch.fs.take k) P ⟨vo, true⟩ = m) := hm
              clear hm
              by_cases hlk : k < ch.fs.length
              · have hdk : decide ((k : Int) < ch.fs.length) = true := by simp; omega
                obtain ⟨f, hf⟩ : ∃ f, ch.fs[k]? = some f := ⟨_, List.getElem?_eq_getElem hlk⟩
                have hrw := HCR.out wr hBX
                obtain ⟨b, off, ec, -⟩ := hrw (by omega)
                rw [ec] at hrw ⊢
                obtain ⟨c0, c1⟩ := fi_cell hrw hf
                have HST2 : Hid (lastM (ch.fs.take (k + 1)) P ⟨vo, true⟩ = if f.path.toList == P.toList then ⟨f.text, true⟩ else m) := by
                  show _ = _
                  rw [← HM.out]
                  unfold lastM
                  rw [List.take_add_one, hf, Option.toList_some, List.foldl_append]
                  rfl
                clear hf hrw ec
                cases hpf : (f.path.toList == P.toList)
                · rw [hpf] at HST2
                  go_wp2
                  go_roundw
                  case rel => exact ⟨k + 1, m, by omega, rfl, rfl, by go_num, HST2.out, hBX.trans (((Below.refl _ _).alloc (Nat.le_refl _) _).mono hBX.size)⟩
                  case measure => simp [intOf]; omega
                · rw [hpf] at HST2
                  go_wp2
                  go_roundw
                  case rel => exact ⟨k + 1, ⟨f.text, true⟩, by omega, rfl, rfl, by go_num, HST2.out, hBX.trans (((Below.refl _ _).alloc (Nat.le_refl _) _).mono hBX.size)⟩
                  case measure => simp [intOf]; omega
              · have hdk : decide ((k : Int) < ch.fs.length) = false := by simp; omega
                obtain rfl : k = ch.fs.length := by omega
                rw [List.take_length] at HM
                rw [HM.out] at HE
                obtain ⟨mv, mt⟩ := m
                cases mt
                · have H9 : Hid _ := HSK.out wr hBX HE.out
                  clear HE HSK HFI HCR HM
                  go_wp2
                  go_roundw
                  case rel => exact ⟨t + 1, by omega, by go_num, H9.out⟩
                  case measure => simp [intOf]; omega
                · obtain ⟨so, n, co, s9, n9, c9, W9, d1, hr9, d2, d3, hm⟩ := HFI.out wr mv hBX HE.out
                  have H9 : Hid _ := hm
                  clear HE HSK HFI HCR hm HM
                  go_wp2_with (refine list_append (by rfl) (.tmp 80) (.tmp 84) 22 (by rfl) (by rfl) (by rfl) hr9 ?_)
                  go_roundw
                  case rel => exact ⟨t + 1, by omega, by go_num, H9.out⟩
                  case measure => simp [intOf]; omega
        ·
          have tr := (HMC.out Wb bb).tr.s.2.2
          have k1 := (HMC.out Wb bb).c2
          go_wp2_with fail
          refine (r8at_any z.sp z.cap z.fs P Wb tr.1.1 tr.2.1).mono ?_
          rintro e Wt ⟨rfl, bbt⟩
          have b4 : Below wr.heap.size wr Wt := bb.trans (bbt.mono bb.size)
          clear tr k1 bbt bb
          rw [HZ.out]
          dsimp only
          clear HZ
          have HE : Hid (refG1 x.fs y.fs z.fs ch.fs q = mayF P (if bc then lastM ch.fs P ⟨vt, it⟩ else ⟨vt, it⟩)) := by show _ = _; rw [HRF.out]; simp [pickM, mayEq, h1]
          clear HRF
          have tr := (HMC.out Wt b4).tr.s
          have k0 := (HMC.out Wt b4).c0
          have k1 := (HMC.out Wt b4).c1
          have k2 := (HMC.out Wt b4).c2
          go_wp2_with fail
          refine (r8clash_any x y z P Wt tr.1 tr.2.1 tr.2.2).mono ?_
          rintro e We ⟨rfl, be⟩
          have b5 : Below wr.heap.size wr We := b4.trans (be.mono b4.size)
          clear tr k0 k1 k2 be
          rw [HBC.out]
          clear HBC
          generalize atC x.fs y.fs z.fs P = cl
          obtain ⟨cp, ⟨⟨ub, jb⟩, ⟨uo, jo⟩, ⟨ut, jt⟩⟩⟩ := cl
          dsimp only [Cl.cells]
          have b6 : Below wr.heap.size wr (We.alloc (.cells #[.string cp, .string ub, .string uo, .string ut, .bool jb, .bool jo, .bool jt] 40)) := b5.alloc b5.size _
          have HSK : Hid (∀ W, Below (We.alloc (.cells #[.string cp, .string ub, .string uo, .string ut, .bool jb, .bool jo, .bool jt] 40)).heap.size (We.alloc (.cells #[.string cp, .string ub, .string uo, .string ut, .bool jb, .bool jo, .bool jt] 40)) W → refG1 x.fs y.fs z.fs ch.fs q = [] → MG w W2 (refG1 x.fs y.fs z.fs ch.fs) qs (t + 1) W) := fun W hW he => HI.out.skip (b6.trans (hW.mono b6.size)) HST.out he
          have HFI : Hid (∀ W v, Below (We.alloc (.cells #[.string cp, .string ub, .string uo, .string ut, .bool jb, .bool jo, .bool jt] 40)).heap.size (We.alloc (.cells #[.string cp, .string ub, .string uo, .string ut, .bool jb, .bool jo, .bool jt] 40)) W → refG1 x.fs y.fs z.fs ch.fs q = [⟨P, v⟩] → ∃ so n co s9 n9 c9 W9, W.cell? ⟨w.heap.size + 1 + 1 + 1 + 1, 0, none⟩ = some (.slice so n co) ∧ (Builtin.append_ #[22, 22] 22 #[.slice so n co, .slice (some ⟨W.heap.size, 0, none⟩) 1 1]).run Try.prog (W.alloc (.cells #[.string P, .string v] 46)) = .ok (.slice s9 n9 c9) W9 ∧ W9.cell? ⟨w.heap.size + 1 + 1 + 1 + 1, 0, none⟩ = some (.slice so n co) ∧ W9.frozen? ⟨w.heap.size + 1 + 1 + 1 + 1, 0, none⟩ = false ∧ MG w W2 (refG1 x.fs y.fs z.fs ch.fs) qs (t + 1) (W9.setCell ⟨w.heap.size + 1 + 1 + 1 + 1, 0, none⟩ (.slice s9 n9 c9))) := fun W v hW he => by
            have b7 := b6.trans (hW.mono b6.size)
            obtain ⟨so, n, co, s9, n9, c9, W9, d1, hr9, d2, d3, hm⟩ := HI.out.file (f := ⟨P, v⟩) hn (b7.alloc b7.size _) (heap_alloc_new W (.cells #[.string P, .string v] 46)) HLN.out HST.out he
            exact ⟨so, n, co, s9, n9, c9, W9, d1 _ b7, hr9, d2, d3, hm⟩
          have HCR : Hid (∀ W, Below (We.alloc (.cells #[.string cp, .string ub, .string uo, .string ut, .bool jb, .bool jo, .bool jt] 40)).heap.size (We.alloc (.cells #[.string cp, .string ub, .string uo, .string ut, .bool jb, .bool jo, .bool jt] 40)) W → RowsAt W 2 Fi.cells ch.sp ch.fs) := fun W hW => HCH.out W (HI.out.keep (b6.trans (hW.mono b6.size))).bl
          clear b5 b6
          cases bc
          · cases it
            ·
              have H9 : Hid _ := HSK.out (We.alloc (.cells #[.string cp, .string ub, .string uo, .string ut, .bool jb, .bool jo, .bool jt] 40)) (Below.refl _ _) HE.out
              clear HE HSK HFI HCR
              go_wp2
              go_roundw
              case rel => exact ⟨t + 1, by omega, by go_num, H9.out⟩
              case measure => simp [intOf]; omega
            ·
              obtain ⟨so, n, co, s9, n9, c9, W9, d1, hr9, d2, d3, hm⟩ := HFI.out (We.alloc (.cells #[.string cp, .string ub, .string uo, .string ut, .bool jb, .bool jo, .bool jt] 40)) vt (Below.refl _ _) HE.out
              rw [World.size_alloc] at hr9
              have H9 : Hid _ := hm
              clear HE HSK HFI HCR hm
              go_wp2_with (refine list_append (by rfl) (.tmp 80) (.tmp 84) 22 (by rfl) (by rfl) (by rfl) hr9 ?_)
              go_roundw
              case rel => exact ⟨t + 1, by omega, by go_num, H9.out⟩
              case measure => simp [intOf]; omega
          · go_wp2
            go_loopw [14, 15, 67] (fun tx ih j wx => ∃ (k : Nat) (m : May), k ≤ ch.fs.length ∧ tx = .string m.value ∧ ih = .bool m.there ∧ j = .int .i64 k ∧ lastM (ch.fs.take k) P ⟨vt, it⟩ = m ∧ Below (We.alloc (.cells #[.string cp, .string ub, .string uo, .string ut, .bool jb, .bool jo, .bool jt] 40)).heap.size (We.alloc (.cells #[.string cp, .string ub, .string uo, .string ut, .bool jb, .bool jo, .bool jt] 40)) wx) (fun _ _ j _ => ch.fs.length - (intOf j).toNat)
            case atStart => exact ⟨0, ⟨vt, it⟩, Nat.zero_le _, rfl, rfl, rfl, rfl, Below.refl _ _⟩
            case round =>
              obtain ⟨k, m, hk, rfl, rfl, rfl, hm, hBX⟩ := hrel
              have HM : Hid (lastM (ch.fs.take k) P ⟨vt, it⟩ = m) := hm
              clear hm
              by_cases hlk : k < ch.fs.length
              · have hdk : decide ((k : Int) < ch.fs.length) = true := by simp; omega
                obtain ⟨f, hf⟩ : ∃ f, ch.fs[k]? = some f := ⟨_, List.getElem?_eq_getElem hlk⟩
                have hrw := HCR.out wr hBX
                obtain ⟨b, off, ec, -⟩ := hrw (by omega)
                rw [ec] at hrw ⊢
                obtain ⟨c0, c1⟩ := fi_cell hrw hf
                have HST2 : Hid (lastM (ch.fs.take (k + 1)) P ⟨vt, it⟩ = if f.path.toList == P.toList then ⟨f.text, true⟩ else m) := by
                  show _ = _
                  rw [← HM.out]
                  unfold lastM
                  rw [List.take_add_one, hf, Option.toList_some, List.foldl_append]
                  rfl
                clear hf hrw ec
                cases hpf : (f.path.toList == P.toList)
                · rw [hpf] at HST2
                  go_wp2
                  go_roundw
                  case rel => exact ⟨k + 1, m, by omega, rfl, rfl, by go_num, HST2.out, hBX.trans (((Below.refl _ _).alloc (Nat.le_refl _) _).mono hBX.size)⟩
                  case measure => simp [intOf]; omega
                · rw [hpf] at HST2
                  go_wp2
                  go_roundw
                  case rel => exact ⟨k + 1, ⟨f.text, true⟩, by omega, rfl, rfl, by go_num, HST2.out, hBX.trans (((Below.refl _ _).alloc (Nat.le_refl _) _).mono hBX.size)⟩
                  case measure => simp [intOf]; omega
              · have hdk : decide ((k : Int) < ch.fs.length) = false := by simp; omega
                obtain rfl : k = ch.fs.length := by omega
                rw [List.take_length] at HM
                rw [HM.out] at HE
                obtain ⟨mv, mt⟩ := m
                cases mt
                · have H9 : Hid _ := HSK.out wr hBX HE.out
                  clear HE HSK HFI HCR HM
                  go_wp2
                  go_roundw
                  case rel => exact ⟨t + 1, by omega, by go_num, H9.out⟩
                  case measure => simp [intOf]; omega
                · obtain ⟨so, n, co, s9, n9, c9, W9, d1, hr9, d2, d3, hm⟩ := HFI.out wr mv hBX HE.out
                  have H9 : Hid _ := hm
                  clear HE HSK HFI HCR hm HM
                  go_wp2_with (refine list_append (by rfl) (.tmp 80) (.tmp 84) 22 (by rfl) (by rfl) (by rfl) hr9 ?_)
                  go_roundw
                  case rel => exact ⟨t + 1, by omega, by go_num, H9.out⟩
                  case measure => simp [intOf]; omega
    · have hd : decide ((t : Int) < qs.length) = false := by simp; omega
      obtain rfl : t = qs.length := by omega
      have h3 := (HMW.out.at HI.out.bl HI.out.bb).r3
      obtain ⟨so, n, co, h4, ho⟩ := HI.out.out
      rw [List.take_length] at ho
      have c4 : wr.cell? ⟨w.heap.size + 1 + 1 + 1 + 1, 0, none⟩ = some (.slice so n co) := (cell_of_row _ _ _ _ _ _ h4).trans rfl
      have c3 : wr.cell? ⟨w.heap.size + 1 + 1 + 1, 0, none⟩ = some (.slice none 0 0) := (cell_of_row _ _ _ _ _ _ h3).trans rfl
      have z3 : wr.frozen? ⟨w.heap.size + 1 + 1 + 1, 0, none⟩ = false := frozen_of_row _ _ _ _ _ h3
      have HFIN := HGOOD.out (.slice so n co) (wr.setCell ⟨w.heap.size + 1 + 1 + 1, 0, none⟩ (.slice so n co)) (ho.keep fun k hk => heap_setCell_other _ _ _ _ fun e => by
        have := (ho.lt hk).1
        rw [e] at this
        have h5 : (⟨w.heap.size + 1 + 1 + 1, 0, none⟩ : Addr).block = w.heap.size + 1 + 1 + 1 := rfl
        omega) (HI.out.bl.setCell (p := ⟨w.heap.size + 1 + 1 + 1, 0, none⟩) (by show w.heap.size ≤ w.heap.size + 1 + 1 + 1; omega) _)
      have HFIN : Hid _ := HFIN
      have HR3 : Hid _ := h3
      clear h3 h4 ho HI HGOOD
      go_wp2
      refine bodyPost_ret (v := .agg #[.slice so n co]) (results_cell Try.results17 _ _ (w.heap.size + 1 + 1 + 1) 24 #[.slice so n co] (0, 0) _ rfl (heap_setCell_same _ _ 0 _ _ _ HR3.out) Try.underlying24 rfl (by kernel_rfl)) rfl HFIN.out
end Go.Proofs.Ytmbnbehlfbdpnaa

namespace Go.Proofs.Ytmbnbehlfbdpnaa
open Go.RowKit

/-- Files whose paths rise. -/
abbrev UpL (l : List Fi) : Prop := l.Pairwise fun f g => LessP f.path.data.toList g.path.data.toList
theorem upL_same : ∀ (a b : List Fi), UpL a → UpL b → (∀ x, x ∈ a ↔ x ∈ b) → a = b
  | [], [], _, _, _ => rfl
  | [], y :: s, _, _, h => by have := (h y).2 List.mem_cons_self; cases this
  | x :: r, [], _, _, h => by have := (h x).1 List.mem_cons_self; cases this
  | x :: r, y :: s, ha, hb, h => by
    obtain ⟨ha1, ha2⟩ := List.pairwise_cons.1 ha
    obtain ⟨hb1, hb2⟩ := List.pairwise_cons.1 hb
    have hxy : x = y := by
      rcases List.mem_cons.1 ((h x).1 List.mem_cons_self) with e | hx
      · exact e
      · rcases List.mem_cons.1 ((h y).2 List.mem_cons_self) with e | hy
        · exact e.symm
        · have h1 := ha1 y hy
          have h2 := less_asym (hb1 x hx)
          rw [show Op.bytesLess x.path.data.toList y.path.data.toList = true from h1] at h2
          cases h2
    subst hxy
    rw [upL_same r s ha2 hb2 fun z => ?_]
    constructor
    · intro hz
      rcases List.mem_cons.1 ((h z).1 (List.mem_cons_of_mem _ hz)) with rfl | hz'
      · have h1 := ha1 z hz
        have h2 := less_irrefl z.path.data.toList
        rw [show Op.bytesLess z.path.data.toList z.path.data.toList = true from h1] at h2
        cases h2
      · exact hz'
    · intro hz
      rcases List.mem_cons.1 ((h z).2 (List.mem_cons_of_mem _ hz)) with rfl | hz'
      · have h1 := hb1 z hz
        have h2 := less_irrefl z.path.data.toList
        rw [show Op.bytesLess z.path.data.toList z.path.data.toList = true from h1] at h2
        cases h2
      · exact hz'
theorem flat_up {F : List UInt8 → List Fi} (h1 : ∀ q, (F q).length ≤ 1) (h2 : ∀ q, ∀ f ∈ F q, f.path.data.toList = q) : ∀ qs : List (List UInt8), qs.Pairwise LessP → UpL (qs.flatMap F)
  | [], _ => List.Pairwise.nil
  | q :: r, h => by
    obtain ⟨hq, hr⟩ := List.pairwise_cons.1 h
    rw [List.flatMap_cons]
    refine List.pairwise_append.2 ⟨?_, flat_up h1 h2 r hr, fun f hf g hg => ?_⟩
    · have := h1 q
      match hF : F q with
      | [] => exact List.Pairwise.nil
      | [x] => exact List.pairwise_singleton _ _
      | x :: y :: s => rw [hF] at this; simp at this
    · obtain ⟨q', hq', hg'⟩ := List.mem_flatMap.1 hg
      rw [h2 q f hf, h2 q' g hg']
      exact hq q' hq'
theorem mayF_mem {p : ByteArray} {m : May} {f : Fi} (h : f ∈ mayF p m) : f = ⟨p, m.value⟩ ∧ m.there = true := by
  unfold mayF at h
  split at h
  · next ht =>
    exact ⟨List.mem_singleton.1 h, ht⟩
  · cases h
theorem file_mem {a b c : List Fi} {q : List UInt8} {f : Fi} (h : f ∈ fileOf (atP a b c q)) : f.path.data.toList = q ∧ clashB (atC a b c ⟨q.toArray⟩).s = false := by
  have h1 := merged_clash (atP a b c q).2
  unfold fileOf at h
  cases hc : clashB (atC a b c ⟨q.toArray⟩).s with
  | true =>
    rw [show clashB (atP a b c q).2 = true from hc] at h1
    rw [h1.1] at h
    cases h
  | false =>
    rw [show clashB (atP a b c q).2 = false from hc] at h1
    rw [h1.1] at h
    split at h
    · split at h
      · rw [List.mem_singleton.1 h]
        exact ⟨rfl, rfl⟩
      · cases h
    · cases h
theorem refG_of_file {a b c ch : List Fi} {q : List UInt8} (h : clashB (atC a b c ⟨q.toArray⟩).s = false) : refG1 a b c ch q = fileOf (atP a b c q) := by
  rw [file_of_at a b c q (by unfold refC1; rw [h]; rfl)]
  unfold refG1 refF1
  rw [h]
  rfl
theorem refG_path {a b c ch : List Fi} {q : List UInt8} : ∀ f ∈ refG1 a b c ch q, f.path.data.toList = q := fun f hf => by
  obtain ⟨rfl, -⟩ := mayF_mem hf
  rfl
theorem lastM_mem (p : ByteArray) : ∀ (ch : List Fi) (m : May), (lastM ch p m = m ∧ ∀ g ∈ ch, g.path ≠ p) ∨ ∃ g ∈ ch, g.path = p ∧ lastM ch p m = ⟨g.text, true⟩
  | [], m => .inl ⟨rfl, fun g hg => by cases hg⟩
  | g :: r, m => by
    have e : lastM (g :: r) p m = lastM r p (if g.path.toList == p.toList then ⟨g.text, true⟩ else m) := rfl
    by_cases hg : g.path = p
    · have hb : (g.path.toList == p.toList) = true := by rw [hg]; simp
      rw [hb, if_pos rfl] at e
      rcases lastM_mem p r ⟨g.text, true⟩ with ⟨h1, -⟩ | ⟨g', h1, h2, h3⟩
      · exact .inr ⟨g, List.mem_cons_self, hg, e.trans h1⟩
      · exact .inr ⟨g', List.mem_cons_of_mem _ h1, h2, e.trans h3⟩
    · have hb : (g.path.toList == p.toList) = false := by
        cases hb : (g.path.toList == p.toList) with
        | false => rfl
        | true => exact absurd (toList_inj (eq_of_beq hb)) hg
      rw [hb, if_neg (by decide)] at e
      rcases lastM_mem p r m with ⟨h1, h2⟩ | ⟨g', h1, h2, h3⟩
      · refine .inl ⟨e.trans h1, fun g' hg' => ?_⟩
        rcases List.mem_cons.1 hg' with rfl | hg'
        · exact hg
        · exact h2 g' hg'
      · exact .inr ⟨g', List.mem_cons_of_mem _ h1, h2, e.trans h3⟩
theorem rises_up : ∀ {ch : List Fi}, RisesP ch → UpL ch
  | [], _ => List.Pairwise.nil
  | [f], _ => List.pairwise_singleton _ _
  | f :: g :: r, h => by
    have ih : UpL (g :: r) := rises_up (ch := g :: r) fun j x y hx hy => h (j + 1) x y (by simpa using hx) (by simpa using hy)
    have h0 : LessP f.path.data.toList g.path.data.toList := by
      have := h 0 f g rfl rfl
      rw [bytes_data, bytes_data] at this
      exact this
    refine List.Pairwise.cons (fun x hx => ?_) ih
    rcases List.mem_cons.1 hx with rfl | hx
    · exact h0
    · exact less_trans _ _ _ h0 ((List.pairwise_cons.1 ih).1 x hx)
theorem up_one {l : List Fi} (h : UpL l) {f g : Fi} (hf : f ∈ l) (hg : g ∈ l) (e : f.path = g.path) : f = g := by
  induction l with
  | nil => cases hf
  | cons x r ih =>
    obtain ⟨h1, h2⟩ := List.pairwise_cons.1 h
    have no : ∀ y ∈ r, x.path = y.path → False := fun y hy e => by
      have h3 := h1 y hy
      rw [e] at h3
      have h4 := less_irrefl y.path.data.toList
      rw [show Op.bytesLess y.path.data.toList y.path.data.toList = true from h3] at h4
      cases h4
    rcases List.mem_cons.1 hf with ef | hf'
    · rcases List.mem_cons.1 hg with eg | hg'
      · exact ef.trans eg.symm
      · exact (no g hg' (ef ▸ e)).elim
    · rcases List.mem_cons.1 hg with eg | hg'
      · exact (no f hf' (eg ▸ e.symm)).elim
      · exact ih h2 hf' hg'
theorem ba_data {f : ByteArray} {q : List UInt8} (h : f.data.toList = q) : f = ⟨q.toArray⟩ := by subst h; rfl
theorem less_of_not' {f g : Fi} (h : Op.bytesLess g.path.data.toList f.path.data.toList = false) (hne : f.path ≠ g.path) : LessP f.path.data.toList g.path.data.toList := less_of_not _ _ h fun e => hne (by
  have := ba_data e
  rw [this])
/-- A choice that settles: where its files stand. -/
theorem choice_at {a b c ch : List Fi} (h3 : right3 a b c = true) (hs : SetP ch (joinC (pathsA a b c))) {f : Fi} (hf : f ∈ ch) : f.path.data.toList ∈ allPs (a ++ b ++ c) ∧ clashB (atC a b c f.path).s = true := by
  have h1 : f.path.toList ∈ (joinC (pathsA a b c)).map fun c => c.path.toList := by
    rw [← show ch.map (fun f => f.path.toList) = _ from hs]
    exact List.mem_map_of_mem hf
  obtain ⟨d, hd, e⟩ := List.mem_map.1 h1
  rw [joinC_ref h3] at hd
  obtain ⟨q, hq, hd⟩ := List.mem_flatMap.1 hd
  unfold refC1 at hd
  split at hd
  · next hc =>
    rw [List.mem_singleton.1 hd] at e
    have e2 : f.path = ⟨q.toArray⟩ := (toList_inj e).symm
    rw [e2]
    exact ⟨hq, hc⟩
  · cases hd
theorem clash_in {a b c ch : List Fi} (h3 : right3 a b c = true) (hs : SetP ch (joinC (pathsA a b c))) {q : List UInt8} (hq : q ∈ allPs (a ++ b ++ c)) (hc : clashB (atC a b c ⟨q.toArray⟩).s = true) : ∃ f ∈ ch, f.path = ⟨q.toArray⟩ := by
  have h1 : atC a b c ⟨q.toArray⟩ ∈ joinC (pathsA a b c) := by
    rw [joinC_ref h3]
    refine List.mem_flatMap.2 ⟨q, hq, ?_⟩
    unfold refC1
    rw [hc, if_pos rfl]
    exact List.mem_singleton.2 rfl
  have h2 : (atC a b c ⟨q.toArray⟩).path.toList ∈ ch.map fun f => f.path.toList := by
    rw [show ch.map (fun f => f.path.toList) = _ from hs]
    exact List.mem_map_of_mem h1
  obtain ⟨f, hf, e⟩ := List.mem_map.1 h2
  exact ⟨f, hf, toList_inj e⟩
theorem settled_eq {a b c ch ys : List Fi} (h3 : right3 a b c = true) (hr : RisesP ch) (hs : SetP ch (joinC (pathsA a b c))) (hp : ys.Perm (joinF (pathsA a b c) ++ ch)) (hn : NoFall ys) : ys = (allPs (a ++ b ++ c)).flatMap (refG1 a b c ch) := by
  have hqs := (allPs_up (a ++ b ++ c)).1
  have hch := rises_up hr
  have hjf : joinF (pathsA a b c) = (allPs (a ++ b ++ c)).flatMap fun q => fileOf (atP a b c q) := by
    unfold joinF
    rw [pathsA_at h3, List.flatMap_map]
  have hju : UpL (joinF (pathsA a b c)) := by
    rw [hjf]
    exact flat_up (fun q => fileOf_len _) (fun q f hf => (file_mem hf).1) _ hqs
  have ne_of : ∀ {l : List Fi}, UpL l → l.Pairwise fun f g => f.path ≠ g.path := fun h => h.imp fun {f g} hl e => by
    rw [e] at hl
    have h4 := less_irrefl g.path.data.toList
    rw [show Op.bytesLess g.path.data.toList g.path.data.toList = true from hl] at h4
    cases h4
  have hcross : ∀ f ∈ joinF (pathsA a b c), ∀ g ∈ ch, f.path ≠ g.path := fun f hf g hg e => by
    rw [hjf] at hf
    obtain ⟨q, -, hf⟩ := List.mem_flatMap.1 hf
    obtain ⟨h1, h2⟩ := file_mem hf
    have h4 := (choice_at h3 hs hg).2
    rw [← e, ba_data h1, h2] at h4
    cases h4
  have hd : ys.Pairwise fun f g => f.path ≠ g.path := (hp.pairwise_iff fun h e => h e.symm).2 (List.pairwise_append.2 ⟨ne_of hju, ne_of hch, hcross⟩)
  have hyu : UpL ys := by
    rw [List.pairwise_iff_getElem] at hd
    refine List.pairwise_iff_getElem.2 fun i j hi hj hij => ?_
    exact less_of_not' (hn i j _ _ hij (List.getElem?_eq_getElem hi) (List.getElem?_eq_getElem hj)) (hd i j hi hj hij)
  refine upL_same _ _ hyu (flat_up (fun q => refG1_len _ _ _ _ q) (fun q => refG_path) _ hqs) fun f => ?_
  rw [hp.mem_iff, List.mem_append, List.mem_flatMap]
  constructor
  · rintro (hf | hf)
    · rw [hjf] at hf
      obtain ⟨q, hq, hf⟩ := List.mem_flatMap.1 hf
      refine ⟨q, hq, ?_⟩
      rw [refG_of_file (file_mem hf).2]
      exact hf
    · obtain ⟨h1, h2⟩ := choice_at h3 hs hf
      refine ⟨_, h1, ?_⟩
      have e : (⟨f.path.data.toList.toArray⟩ : ByteArray) = f.path := rfl
      unfold refG1
      rw [e, h2, if_pos rfl]
      rcases lastM_mem f.path ch (pickM (atC a b c f.path).s) with ⟨-, h5⟩ | ⟨g, hg, h5, h6⟩
      · exact absurd rfl (h5 f hf)
      · rw [h6, up_one hch hg hf h5]
        exact List.mem_singleton.2 rfl
  · rintro ⟨q, hq, hf⟩
    cases hc : clashB (atC a b c ⟨q.toArray⟩).s with
    | false =>
      rw [refG_of_file hc] at hf
      refine .inl ?_
      rw [hjf]
      exact List.mem_flatMap.2 ⟨q, hq, hf⟩
    | true =>
      refine .inr ?_
      obtain ⟨g, hg, hgp⟩ := clash_in h3 hs hq hc
      unfold refG1 at hf
      rw [hc, if_pos rfl] at hf
      rcases lastM_mem ⟨q.toArray⟩ ch (pickM (atC a b c ⟨q.toArray⟩).s) with ⟨-, h5⟩ | ⟨g', hg', h5, h6⟩
      · exact absurd hgp (h5 g hg)
      · rw [h6] at hf
        obtain ⟨rfl, -⟩ := mayF_mem hf
        rw [← h5]
        exact hg'
end Go.Proofs.Ytmbnbehlfbdpnaa

namespace Go.Proofs.Ytmbnbehlfbdpnaa
open Go.RowKit

set_option maxRecDepth 100000 in
set_option maxHeartbeats 2000000 in
theorem r7same_any (sp tp : Option Addr) (c1 c2 : Nat) (xs ys : List Fi) (w : World) (h1 : RowsAt w 2 Fi.cells sp xs) (h2 : RowsAt w 2 Fi.cells tp ys) (hlen : xs.length ≤ 100000000) :
    Calls Try.prog 19 #[.agg #[.slice sp xs.length c1], .agg #[.slice tp ys.length c2]] w fun e w' => e = .returned (.bool (eqAll fiEq xs ys)) ∧ Below w.heap.size w w' := by
  have HR1 : Hid (RowsAt w 2 Fi.cells sp xs) := h1
  have HR2 : Hid (RowsAt w 2 Fi.cells tp ys) := h2
  clear h1 h2
  have g1 := heap_alloc_new w (.cells #[.slice sp xs.length c1] 24)
  have g2 := heap_alloc_new (w.alloc (.cells #[.slice sp xs.length c1] 24)) (.cells #[.slice tp ys.length c2] 24)
  have g3 := (Below.heap_alloc (w.alloc (.cells #[.slice sp xs.length c1] 24)) (.cells #[.slice tp ys.length c2] 24) w.heap.size (by simp)).trans g1
  have b0 : Below w.heap.size w ((w.alloc (.cells #[.slice sp xs.length c1] 24)).alloc (.cells #[.slice tp ys.length c2] 24)) := ((Below.refl _ _).alloc (Nat.le_refl _) _).alloc (by simp) _
  rw [World.size_alloc] at g2
  clear g1
  have HP : Hid (∀ b, b = eqAll fiEq xs ys → ∀ W, Below w.heap.size w W → (fun e w' => e = .returned (.bool (eqAll fiEq xs ys)) ∧ Below w.heap.size w w') (Ending.returned (.bool b)) W) := fun b h W hW => ⟨by rw [h], hW⟩
  by_cases hl : xs.length = ys.length
  · have hne : ((xs.length : Int) != (ys.length : Int)) = false := by simp [hl]
    have hall := eqAll_iff (eq := fiEq) hl
    have HALL : Hid _ := hall
    have HL : Hid (xs.length = ys.length) := hl
    clear hall hl
    go_enter Try.func19, Try.ntmps19
    go_wp2
    generalize (w.alloc (.cells #[.slice sp xs.length c1] 24)).alloc (.cells #[.slice tp ys.length c2] 24) = W0 at g2 g3 b0 ⊢
    have HW : Hid (∀ W, Below W0.heap.size W0 W → W.cell? ⟨w.heap.size, 0, none⟩ = some (.slice sp xs.length c1) ∧ W.cell? ⟨w.heap.size + 1, 0, none⟩ = some (.slice tp ys.length c2) ∧ RowsAt W 2 Fi.cells sp xs ∧ RowsAt W 2 Fi.cells tp ys ∧ Below w.heap.size w W) := fun W h =>
      have hb := b0.trans (h.mono b0.size)
      ⟨(cell_of_row _ _ _ _ _ _ ((h.block _ (lt_of_row g3)).trans g3)).trans rfl, (cell_of_row _ _ _ _ _ _ ((h.block _ (lt_of_row g2)).trans g2)).trans rfl, RowsAt.below HR1.out hb, RowsAt.below HR2.out hb, hb⟩
    clear g2 g3 b0
    go_loopw [5] (fun i wr => ∃ (t n : Nat), t ≤ xs.length ∧ i = .int .i64 t ∧ wr = W0.drewN n ∧ ∀ j, j < t → ∀ a b, xs[j]? = some a → ys[j]? = some b → fiEq a b = true) (fun i _ => xs.length - (intOf i).toNat)
    case atStart => exact ⟨0, 0, Nat.zero_le _, rfl, rfl, fun j hj => by omega⟩
    case round =>
      obtain ⟨t, n, ht, rfl, rfl, hz⟩ := hrel
      have HZ : Hid _ := hz
      clear hz
      obtain ⟨k1, k2, h1, h2, -⟩ := HW.out _ (Below.refl _ W0)
      by_cases hlt : t < xs.length
      · have hd : decide ((t : Int) < xs.length) = true := by simp; omega
        have hly : t < ys.length := by have := HL.out; omega
        obtain ⟨b1, o1, rfl, hc1⟩ := h1 (by omega)
        obtain ⟨b2, o2, rfl, hc2⟩ := h2 (by omega)
        have hx : xs[t]? = some (xs[t]'hlt) := List.getElem?_eq_getElem hlt
        have hy : ys[t]? = some (ys[t]'(by omega)) := List.getElem?_eq_getElem (by omega)
        generalize hX : xs[t]'hlt = x at hx
        generalize hY : ys[t]'(by omega) = y at hy
        have e1 : ∀ m, (loadVar 46 ⟨b1, o1 + t * 2, none⟩).run Try.prog ((W0.drewN n).drewN m) = .ok (.agg x.cells) ((W0.drewN n).drewN m) := fun m => run_mid (fun j u hu => hc1 t x hx j u hu) Try.underlying46 rfl (by rw [x.size]; kernel_rfl)
        have e2 : ∀ m, (loadVar 46 ⟨b2, o2 + t * 2, none⟩).run Try.prog ((W0.drewN n).drewN m) = .ok (.agg y.cells) ((W0.drewN n).drewN m) := fun m => run_mid (fun j u hu => hc2 t y hy j u hu) Try.underlying46 rfl (by rw [y.size]; kernel_rfl)
        have heq := equal_fi x y
        have HX : Hid _ := hx
        have HY : Hid _ := hy
        clear hc1 hc2 h1 h2 hX hY hx hy
        cases hb : fiEq x y with
        | true =>
          rw [hb] at heq
          have HB : Hid _ := hb
          clear hb
          go_wp2
          refine wp_region_quiet_lit (by kernel_rfl) (by kernel_rfl) ?_
          repeat (go_big_quiet_step (fail))
          refine quiet_load (.agg x.cells) 46 (.tmp 23) ⟨b1, o1 + t * 2, none⟩ (by rfl) (by rintro _ ⟨m, rfl⟩; exact e1 m) ?_
          simp only [List.setIfInBounds_toArray, List.set_cons_succ, List.set_cons_zero]
          repeat (go_big_quiet_step (fail))
          refine quiet_load (.agg y.cells) 46 (.tmp 28) ⟨b2, o2 + t * 2, none⟩ (by rfl) (by rintro _ ⟨m, rfl⟩; exact e2 m) ?_
          simp only [List.setIfInBounds_toArray, List.set_cons_succ, List.set_cons_zero]
          repeat (go_big_quiet_step (fail))
          refine wpQuiet_nil ?_
          rintro _ ⟨nq, rfl⟩
          clear e1 e2 heq
          go_wp2
          go_roundw
          case rel =>
            refine ⟨t + 1, n + nq, by omega, by go_num, rfl, fun j hj a b ha hb => ?_⟩
            by_cases hj' : j < t
            · exact HZ.out j hj' a b ha hb
            · obtain rfl : j = t := by omega
              have q1 := Option.some.inj (ha.symm.trans HX.out)
              have q2 := Option.some.inj (hb.symm.trans HY.out)
              rw [q1, q2]
              exact HB.out
          case measure => simp [intOf]; omega
        | false =>
          rw [hb] at heq
          have HB : Hid _ := hb
          clear hb
          go_wp2
          refine wp_region_quiet_lit (by kernel_rfl) (by kernel_rfl) ?_
          repeat (go_big_quiet_step (fail))
          refine quiet_load (.agg x.cells) 46 (.tmp 23) ⟨b1, o1 + t * 2, none⟩ (by rfl) (by rintro _ ⟨m, rfl⟩; exact e1 m) ?_
          simp only [List.setIfInBounds_toArray, List.set_cons_succ, List.set_cons_zero]
          repeat (go_big_quiet_step (fail))
          refine quiet_load (.agg y.cells) 46 (.tmp 28) ⟨b2, o2 + t * 2, none⟩ (by rfl) (by rintro _ ⟨m, rfl⟩; exact e2 m) ?_
          simp only [List.setIfInBounds_toArray, List.set_cons_succ, List.set_cons_zero]
          repeat (go_big_quiet_step (fail))
          refine wpQuiet_nil ?_
          rintro _ ⟨nq, rfl⟩
          clear e1 e2 heq
          go_wp2
          go_ret
          refine HP.out _ ?_ _ ((HW.out _ (below_drawn' W0 n)).2.2.2.2.trans (below_drawn' _ nq))
          cases h : eqAll fiEq xs ys with
          | false => rfl
          | true =>
            have := HALL.out.1 h t x y HX.out HY.out
            rw [HB.out] at this
            cases this
      · have hd : decide ((t : Int) < xs.length) = false := by simp; omega
        have htl : t = xs.length := by omega
        have HT : Hid _ := htl
        clear h1 h2 htl
        go_wp2
        go_ret
        refine HP.out _ ?_ _ (HW.out _ (below_drawn' W0 n)).2.2.2.2
        rw [eq_comm, HALL.out]
        intro i a b ha hb
        have hi : i < xs.length := by
          by_cases hi : i < xs.length
          · exact hi
          · rw [List.getElem?_eq_none (by omega)] at ha; cases ha
        exact HZ.out i (by rw [HT.out]; exact hi) a b ha hb
  · have hne : ((xs.length : Int) != (ys.length : Int)) = true := by simpa using fun h => hl (by omega)
    have HF : Hid (false = eqAll fiEq xs ys) := by
      show false = eqAll fiEq xs ys
      cases h : eqAll fiEq xs ys with
      | false => rfl
      | true => exact absurd (eqAll_len h) hl
    clear hl g2 g3
    go_enter Try.func19, Try.ntmps19
    go_wp2
    go_ret
    exact HP.out _ HF.out _ b0
end Go.Proofs.Ytmbnbehlfbdpnaa

namespace Go.Proofs.Ytmbnbehlfbdpnaa
open Go.RowKit

set_option maxRecDepth 100000 in
set_option maxHeartbeats 4000000 in
theorem right8_any (x y z : Sl) (w : World) (hx : SlS w x) (hy : SlS w y) (hz : SlS w z) :
    Calls Try.prog 14 #[.agg #[.slice x.sp x.fs.length x.cap, .slice y.sp y.fs.length y.cap, .slice z.sp z.fs.length z.cap]] w fun e w' => e = .returned (.bool (repoB x.fs && repoB y.fs && repoB z.fs)) ∧ Below w.heap.size w w' := by
  have HS : Hid (∀ W, Below w.heap.size w W → SlS W x ∧ SlS W y ∧ SlS W z) := fun W h => ⟨⟨hx.1.below h, hx.2⟩, ⟨hy.1.below h, hy.2⟩, ⟨hz.1.below h, hz.2⟩⟩
  have HP : Hid (∀ b, b = (repoB x.fs && repoB y.fs && repoB z.fs) → ∀ W, Below w.heap.size w W → (fun e w' => e = .returned (.bool (repoB x.fs && repoB y.fs && repoB z.fs)) ∧ Below w.heap.size w w') (Ending.returned (.bool b)) W) := fun b h W hW => ⟨by rw [h], hW⟩
  clear hx hy hz
  go_enter Try.func14, Try.ntmps14
  go_wp2_with fail
  refine calls_gen (fun W0 => Below w.heap.size w W0 ∧ W0.heap[w.heap.size]? = some (.cells #[.slice x.sp x.fs.length x.cap, .slice y.sp y.fs.length y.cap, .slice z.sp z.fs.length z.cap] 26 (0, 0))) ⟨(Below.refl _ _).alloc (Nat.le_refl _) _, heap_alloc_new _ _⟩ ?_
  rintro W0 ⟨b0, g0⟩
  have HC : Hid (∀ W, Below W0.heap.size W0 W → W.cell? ⟨w.heap.size, 1, none⟩ = some (.slice y.sp y.fs.length y.cap) ∧ W.cell? ⟨w.heap.size, 2, none⟩ = some (.slice z.sp z.fs.length z.cap) ∧ Below w.heap.size w W) := fun W h =>
    have hg := (h.block _ (lt_of_row g0)).trans g0
    ⟨(cell_of_row _ _ _ _ _ _ hg).trans rfl, (cell_of_row _ _ _ _ _ _ hg).trans rfl, b0.trans (h.mono b0.size)⟩
  obtain ⟨sx, -, -⟩ := HS.out W0 b0
  refine (r7right_any x.sp x.cap x.fs W0 sx.1.1 sx.2.2).mono ?_
  clear sx g0 b0
  rintro e W1 ⟨rfl, b1⟩
  obtain ⟨c1, c2, hb1⟩ := HC.out W1 b1
  cases h1 : repoB x.fs with
  | false =>
    go_wp2
    go_ret
    exact HP.out false (by rw [h1]; rfl) _ hb1
  | true =>
    go_wp2_with fail
    refine (r7right_any y.sp y.cap y.fs W1 (HS.out W1 hb1).2.1.1.1 (HS.out W1 hb1).2.1.2.2).mono ?_
    rintro e W2 ⟨rfl, b12⟩
    have b2 : Below W0.heap.size W0 W2 := b1.trans (b12.mono b1.size)
    clear c1 c2 b12
    obtain ⟨c1, c2, hb2⟩ := HC.out W2 b2
    cases h2 : repoB y.fs with
    | false =>
      go_wp2
      go_ret
      exact HP.out false (by rw [h1, h2]; rfl) _ hb2
    | true =>
      go_wp2_with fail
      refine (r7right_any z.sp z.cap z.fs W2 (HS.out W2 hb2).2.2.1.1 (HS.out W2 hb2).2.2.2.2).mono ?_
      rintro e W3 ⟨rfl, b23⟩
      have hb3 : Below w.heap.size w W3 := hb2.trans (b23.mono hb2.size)
      clear c1 c2 b23
      go_wp2
      go_ret
      exact HP.out (repoB z.fs) (by rw [h1, h2]; rfl) _ hb3
set_option maxRecDepth 100000 in
set_option maxHeartbeats 4000000 in
theorem whole8_any (x y z x' y' z' : Sl) (w : World) (hx : SlS w x) (hy : SlS w y) (hz : SlS w z) (hx' : SlS w x') (hy' : SlS w y') (hz' : SlS w z') :
    Calls Try.prog 13 #[.agg #[.slice x.sp x.fs.length x.cap, .slice y.sp y.fs.length y.cap, .slice z.sp z.fs.length z.cap], .agg #[.slice x'.sp x'.fs.length x'.cap, .slice y'.sp y'.fs.length y'.cap, .slice z'.sp z'.fs.length z'.cap]] w fun e w' => e = .returned (.bool (eqAll fiEq x.fs x'.fs && eqAll fiEq y.fs y'.fs && eqAll fiEq z.fs z'.fs)) ∧ Below w.heap.size w w' := by
  have HS : Hid (∀ W, Below w.heap.size w W → SlS W x ∧ SlS W y ∧ SlS W z ∧ SlS W x' ∧ SlS W y' ∧ SlS W z') := fun W h => ⟨⟨hx.1.below h, hx.2⟩, ⟨hy.1.below h, hy.2⟩, ⟨hz.1.below h, hz.2⟩, ⟨hx'.1.below h, hx'.2⟩, ⟨hy'.1.below h, hy'.2⟩, ⟨hz'.1.below h, hz'.2⟩⟩
  have HP : Hid (∀ b, b = (eqAll fiEq x.fs x'.fs && eqAll fiEq y.fs y'.fs && eqAll fiEq z.fs z'.fs) → ∀ W, Below w.heap.size w W → (fun e w' => e = .returned (.bool (eqAll fiEq x.fs x'.fs && eqAll fiEq y.fs y'.fs && eqAll fiEq z.fs z'.fs)) ∧ Below w.heap.size w w') (Ending.returned (.bool b)) W) := fun b h W hW => ⟨by rw [h], hW⟩
  have hxl := hx.2.1
  have hyl := hy.2.1
  have hzl := hz.2.1
  clear hx hy hz hx' hy' hz'
  go_enter Try.func13, Try.ntmps13
  go_wp2_with fail
  refine calls_gen (fun W0 => Below w.heap.size w W0 ∧ W0.heap[w.heap.size]? = some (.cells #[.slice x.sp x.fs.length x.cap, .slice y.sp y.fs.length y.cap, .slice z.sp z.fs.length z.cap] 26 (0, 0)) ∧ W0.heap[w.heap.size + 1]? = some (.cells #[.slice x'.sp x'.fs.length x'.cap, .slice y'.sp y'.fs.length y'.cap, .slice z'.sp z'.fs.length z'.cap] 26 (0, 0))) ⟨((Below.refl _ _).alloc (Nat.le_refl _) _).alloc (by simp) _, (Below.heap_alloc _ _ _ (by simp)).trans (heap_alloc_new _ _), ?_⟩ ?_
  · have := heap_alloc_new (w.alloc (.cells #[.slice x.sp x.fs.length x.cap, .slice y.sp y.fs.length y.cap, .slice z.sp z.fs.length z.cap] 26)) (.cells #[.slice x'.sp x'.fs.length x'.cap, .slice y'.sp y'.fs.length y'.cap, .slice z'.sp z'.fs.length z'.cap] 26)
    rw [World.size_alloc] at this
    exact this
  rintro W0 ⟨b0, g0, g1⟩
  have HC : Hid (∀ W, Below W0.heap.size W0 W → W.cell? ⟨w.heap.size, 1, none⟩ = some (.slice y.sp y.fs.length y.cap) ∧ W.cell? ⟨w.heap.size, 2, none⟩ = some (.slice z.sp z.fs.length z.cap) ∧ W.cell? ⟨w.heap.size + 1, 1, none⟩ = some (.slice y'.sp y'.fs.length y'.cap) ∧ W.cell? ⟨w.heap.size + 1, 2, none⟩ = some (.slice z'.sp z'.fs.length z'.cap) ∧ Below w.heap.size w W) := fun W h =>
    have hg := (h.block _ (lt_of_row g0)).trans g0
    have hg1 := (h.block _ (lt_of_row g1)).trans g1
    ⟨(cell_of_row _ _ _ _ _ _ hg).trans rfl, (cell_of_row _ _ _ _ _ _ hg).trans rfl, (cell_of_row _ _ _ _ _ _ hg1).trans rfl, (cell_of_row _ _ _ _ _ _ hg1).trans rfl, b0.trans (h.mono b0.size)⟩
  obtain ⟨sx, -, -, sx', -, -⟩ := HS.out W0 b0
  refine (r7same_any x.sp x'.sp x.cap x'.cap x.fs x'.fs W0 sx.1.1 sx'.1.1 (by omega)).mono ?_
  clear sx sx' g0 g1 b0
  rintro e W1 ⟨rfl, b1⟩
  obtain ⟨c1, c2, c3, c4, hb1⟩ := HC.out W1 b1
  cases h1 : eqAll fiEq x.fs x'.fs with
  | false =>
    go_wp2
    go_ret
    exact HP.out false (by rw [h1]; rfl) _ hb1
  | true =>
    go_wp2_with fail
    obtain ⟨-, sy, -, -, sy', -⟩ := HS.out W1 hb1
    refine (r7same_any y.sp y'.sp y.cap y'.cap y.fs y'.fs W1 sy.1.1 sy'.1.1 (by omega)).mono ?_
    rintro e W2 ⟨rfl, b12⟩
    have b2 : Below W0.heap.size W0 W2 := b1.trans (b12.mono b1.size)
    clear c1 c2 c3 c4 b12 sy sy'
    obtain ⟨c1, c2, c3, c4, hb2⟩ := HC.out W2 b2
    cases h2 : eqAll fiEq y.fs y'.fs with
    | false =>
      go_wp2
      go_ret
      exact HP.out false (by rw [h1, h2]; rfl) _ hb2
    | true =>
      go_wp2_with fail
      obtain ⟨-, -, sz, -, -, sz'⟩ := HS.out W2 hb2
      refine (r7same_any z.sp z'.sp z.cap z'.cap z.fs z'.fs W2 sz.1.1 sz'.1.1 (by omega)).mono ?_
      rintro e W3 ⟨rfl, b23⟩
      have hb3 : Below w.heap.size w W3 := hb2.trans (b23.mono hb2.size)
      clear c1 c2 c3 c4 b23 sz sz'
      go_wp2
      go_ret
      exact HP.out (eqAll fiEq z.fs z'.fs) (by rw [h1, h2]; rfl) _ hb3
end Go.Proofs.Ytmbnbehlfbdpnaa
