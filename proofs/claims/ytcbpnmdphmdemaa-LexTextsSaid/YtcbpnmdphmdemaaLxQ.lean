/- A text that is quoted; the contract of lex's Quote. -/
import Derived.Test.YtcbpnmdphmdemaaLxB
import Derived.Test.YtcbpnmdphmdemaaShelf
namespace Go.Proofs.Ytcbpnmdphmdemaa
open Go.RowKit

/-- How a byte is quoted. -/
def quoB (c : UInt8) : Option (List UInt8) := if c.toNat = 34 ∨ c.toNat = 92 then some [92, c] else if c.toNat = 10 then some [92, 110] else if plnB c.toNat then some [c] else none
def quoG (acc : List UInt8) : List UInt8 → Option (List UInt8)
  | [] => some (acc ++ [34])
  | c :: r => match quoB c with | none => none | some x => quoG (acc ++ x) r
/-- A text, quoted; none: it may not be. -/
def quoO (L : List UInt8) : Option (List UInt8) := quoG [34] L
theorem quoG_step {acc : List UInt8} {L : List UInt8} {i : Nat} {c : UInt8} (h : L[i]? = some c) : quoG acc (L.drop i) = match quoB c with | none => none | some x => quoG (acc ++ x) (L.drop (i + 1)) := by
  rw [drop_at h, quoG]
theorem quo_no {acc : List UInt8} {L : List UInt8} {i : Nat} {c : UInt8} {o : Option (List UInt8)} (h : L[i]? = some c) (hg : quoG acc (L.drop i) = o) (hq : quoB c = none) : o = none := by
  rw [← hg, quoG_step h, hq]
theorem quo_go {acc x : List UInt8} {L : List UInt8} {i : Nat} {c : UInt8} {o : Option (List UInt8)} (h : L[i]? = some c) (hg : quoG acc (L.drop i) = o) (hq : quoB c = some x) : quoG (acc ++ x) (L.drop (i + 1)) = o := by
  rw [← hg, quoG_step h, hq]
theorem Bld.iterAt {B b : Nat} {l : List UInt8} {w : World} (h : Bld B b l w) {k : Nat} {s : ByteArray} {pos : Nat} (hk : w.heap[k]? = some (.stringIter s pos)) (pos' : Nat) : Bld B b l (w.iterAt k s pos') := by
  obtain ⟨hB, p, v, hp, hr, ho⟩ := h.row
  have hkb : b ≠ k := fun e => by rw [e, hk] at hr; cases hr
  refine Bld.of hB hp ((Lib.iterAt_other w k b s pos' hkb).trans hr) (OwnG.keep ho fun j hj => Lib.iterAt_other w k j s pos' fun e => ?_)
  obtain ⟨c, fz, hc⟩ := own_kind ho j hj
  rw [e, hk] at hc
  cases hc
theorem Bld.below {B b : Nat} {l : List UInt8} {w w' : World} (h : Bld B b l w) (hb : Below w.heap.size w w') : Bld B b l w' := by
  obtain ⟨hB, p, v, hp, hr, ho⟩ := h.row
  exact Bld.of hB hp ((hb.block b (lt_of_row hr)).trans hr) (OwnG.below ho hb)
def strV (o : Option (List UInt8)) (e : Int) : Value := match o with | none => .tuple #[.string ⟨#[]⟩, .int .i64 e] | some x => .tuple #[.string (strU x), .int .i64 0]
theorem iterPos_at {w : World} {k : Nat} {s : ByteArray} {pos : Nat} (h : w.heap[k]? = some (.stringIter s pos)) : w.iterPos k = pos := by unfold World.iterPos; rw [h]
set_option maxRecDepth 100000 in
set_option maxHeartbeats 4000000 in
theorem quote_any (s : ByteArray) (w : World) (hs : s.size ≤ 100000) : Calls Try.prog 22 #[.string s] w fun e w' => e = .returned (strV (quoO s.data.toList) 2) ∧ Below w.heap.size w w' := by
  have HS : Hid (s.size = s.data.toList.length) := by show s.size = s.data.toList.length; simp
  go_enter Try.func22, Try.ntmps22
  go_wp2
  refine wp_scope_jumps 0 (fun a' w' => quoO s.data.toList = none ∧ Below w.heap.size w w' ∧ ∃ u0 u1 u2 u3 u4 u5 u6 u7 u8 u9 u10 u11 u12 u13 u14 u15 u16 u17 u18 u19 u20 u21 u22 u23 u24 u25 u26 u27 u28 u29 u30 u31 u32 u33 : Value, a' = { tmps := #[u0, u1, u2, u3, u4, u5, u6, u7, u8, u9, u10, u11, u12, u13, u14, u15, u16, u17, u18, u19, u20, u21, u22, u23, u24, u25, u26, u27, u28, u29, u30, u31, u32, u33], defers := [] }) (fun _ _ => 0) rfl ?_ ?_
  rotate_left
  · rintro a' w' ⟨hn, hb, u0, u1, u2, u3, u4, u5, u6, u7, u8, u9, u10, u11, u12, u13, u14, u15, u16, u17, u18, u19, u20, u21, u22, u23, u24, u25, u26, u27, u28, u29, u30, u31, u32, u33, rfl⟩
    have HN : Hid (quoO s.data.toList = none) := hn
    clear hn
    go_wp2
    simp only [Exit.jump]
    go_ret2
    refine ⟨?_, hb⟩
    rw [HN.out]
    exact rfl
  go_wp2_with fail
  have hB0 : Bld w.heap.size w.heap.size [] (w.alloc (.cells #[.pointer none, .slice none 0 0] 66)) := Bld.of (Nat.le_refl _) (.inl rfl) (heap_alloc_new _ _) (ownG_nil _ _)
  refine (writeByte_any w.heap.size w.heap.size [] 34 _ hB0 (by simp) (by simp)).mono ?_
  rintro e W1 ⟨rfl, h1, b1, -⟩
  have bw1 : Below w.heap.size w W1 := ((Below.refl _ _).alloc (Nat.le_refl _) _).trans b1
  clear hB0 b1
  have hkb : w.heap.size < W1.heap.size := by obtain ⟨-, p, v, -, hr, -⟩ := h1.row; exact lt_of_row hr
  go_wp2
  obtain ⟨K, HK⟩ : ∃ K, Hid (W1.heap.size = K) := ⟨_, rfl⟩
  have hbi : Below W1.heap.size W1 (W1.alloc (.stringIter s 0)) := (Below.refl _ _).alloc (Nat.le_refl _) _
  have H0 : Hid (Bld w.heap.size w.heap.size [34] (W1.iter s 0) ∧ (W1.iter s 0).heap[K]? = some (.stringIter s 0) ∧ Below w.heap.size w (W1.iter s 0)) := ⟨h1.below hbi, by rw [← HK.out]; exact heap_alloc_new _ _, bw1.alloc bw1.size _⟩
  have hK : w.heap.size < K := by rw [← HK.out]; exact hkb
  rw [HK.out]
  clear hbi HK hkb bw1 h1
  go_loopw [] (fun wr => ∃ (pos : Nat) (acc : List UInt8), pos ≤ s.size ∧ Bld w.heap.size w.heap.size acc wr ∧ wr.heap[K]? = some (.stringIter s pos) ∧ Below w.heap.size w wr ∧ acc.length ≤ 1 + 2 * pos ∧ quoG acc (s.data.toList.drop pos) = quoO s.data.toList) (fun wr => s.size - wr.iterPos K)
  case atStart => exact ⟨0, [34], Nat.zero_le _, H0.out.1, H0.out.2.1, H0.out.2.2, by simp, rfl⟩
  case round =>
    clear H0
    obtain ⟨pos, acc, hps, hbl, hit, hbe, hal, hqu⟩ := hrel
    have HBL : Hid (Bld w.heap.size w.heap.size acc wr) := hbl
    have HIT : Hid (wr.heap[K]? = some (.stringIter s pos)) := hit
    have HBE : Hid (Below w.heap.size w wr) := hbe
    have HQU : Hid (quoG acc (s.data.toList.drop pos) = quoO s.data.toList) := hqu
    clear hbl hbe hqu
    by_cases hp : pos < s.size
    · have hnx : ∀ ty, (Instr.next (.pointer (some ⟨K, 0, none⟩)) true ty).run Try.prog wr = _ := fun ty => Lib.run_next_any_at wr K s pos ty hit hp
      have HB : Hid (s.data.toList[pos]? = some (s[pos]'hp)) := byte_at hp
      obtain ⟨c, HC⟩ : ∃ c, Hid (s[pos]'hp = c) := ⟨_, rfl⟩
      rw [HC.out] at HB
      by_cases ha : c.toNat < 128
      · have hdc := decode_ascii s pos hp (by rw [HC.out]; exact ha)
        rw [hdc] at hnx
        simp only [HC.out] at hnx
        clear hdc hit
        have h4 : Bld w.heap.size w.heap.size acc (wr.iterAt K s (pos + 1)) := HBL.out.iterAt HIT.out _
        have i4 : (wr.iterAt K s (pos + 1)).heap[K]? = some (.stringIter s (pos + 1)) := Lib.iterAt_heap _ _ _ _ _ HIT.out
        have b4 : Below w.heap.size w (wr.iterAt K s (pos + 1)) := Lib.below_iterAt HBE.out (by omega) _ _
        have hw2 := conv_u8_i32 c
        have hsz : w.heap.size ≤ (wr.iterAt K s (pos + 1)).heap.size := b4.size
        by_cases hq : c.toNat = 34 ∨ c.toNat = 92
        · have HNX : Hid (quoG (acc ++ [92, c]) (s.data.toList.drop (pos + 1)) = quoO s.data.toList) := quo_go HB.out HQU.out (by unfold quoB; rw [if_pos hq])
          have hqi : (c.toNat : Int) = 34 ∨ (c.toNat : Int) = 92 := by omega
          clear HBL HBE HQU
          generalize wr.iterAt K s (pos + 1) = WN at hnx h4 i4 b4 hsz
          have KEY : Hid (∀ (W5 : World), WrP w.heap.size w.heap.size (acc ++ [92]) WN W5 → Calls Try.prog 45 #[.pointer (some ⟨w.heap.size, 0, none⟩), .int .i32 c.toNat] W5 fun e w' => (∃ n, e = .returned (.tuple #[.int .i64 n, .nilIface])) ∧ (∃ (pos : Nat) (acc : List UInt8), pos ≤ s.size ∧ Bld w.heap.size w.heap.size acc w' ∧ w'.heap[K]? = some (.stringIter s pos) ∧ Below w.heap.size w w' ∧ acc.length ≤ 1 + 2 * pos ∧ quoG acc (s.data.toList.drop pos) = quoO s.data.toList) ∧ s.size - w'.iterPos K < s.size - wr.iterPos K) := fun W5 h5 => by
            refine (writeRune_any w.heap.size w.heap.size (acc ++ [92]) c ha W5 h5.1 (by simp; omega) (Nat.le_trans hsz h5.2.1.size)).mono ?_
            rintro e W6 ⟨hn, h6, b6, k6⟩
            have i6 : W6.heap[K]? = some (.stringIter s (pos + 1)) := Lib.OthersKept.iter k6 (Lib.OthersKept.iter h5.2.2 i4 (by omega)) (by omega)
            refine ⟨hn, ⟨pos + 1, acc ++ [92, c], by omega, by simpa using h6, i6, b4.trans (h5.2.1.trans b6), by simp; omega, HNX.out⟩, ?_⟩
            rw [iterPos_at i6, iterPos_at HIT.out]
            omega
          rcases hqi with hq1 | hq1
          all_goals
            go_wp2_with fail
            refine (writeByte_any w.heap.size w.heap.size acc 92 WN h4 (by omega) hsz).mono ?_
            rintro e W5 ⟨rfl, h5⟩
            go_wp2_with fail
            try rw [hq1] at KEY
            refine (KEY.out W5 h5).mono ?_
            rintro e W6 ⟨⟨n6, rfl⟩, hR, hM⟩
            have HR : Hid (∃ (pos : Nat) (acc : List UInt8), pos ≤ s.size ∧ Bld w.heap.size w.heap.size acc W6 ∧ W6.heap[K]? = some (.stringIter s pos) ∧ Below w.heap.size w W6 ∧ acc.length ≤ 1 + 2 * pos ∧ quoG acc (s.data.toList.drop pos) = quoO s.data.toList) := hR
            have HM : Hid (s.size - W6.iterPos K < s.size - wr.iterPos K) := hM
            clear hR hM
            go_wp2
            exact ⟨HR.out, HM.out⟩
        · by_cases h10 : c.toNat = 10
          · have HNX : Hid (quoG (acc ++ [92, 110]) (s.data.toList.drop (pos + 1)) = quoO s.data.toList) := quo_go HB.out HQU.out (by unfold quoB; rw [if_neg hq, if_pos h10])
            have h10' : (c.toNat : Int) = 10 := by omega
            clear HBL HBE HQU
            generalize wr.iterAt K s (pos + 1) = WN at hnx h4 i4 b4 hsz
            go_wp2_with fail
            refine (writeString_any w.heap.size w.heap.size acc ⟨#[92, 110]⟩ WN h4 (by have : (⟨#[92, 110]⟩ : ByteArray).size = 2 := rfl; omega) hsz).mono ?_
            rintro e W6 ⟨rfl, h6, b6, k6⟩
            have i6 : W6.heap[K]? = some (.stringIter s (pos + 1)) := Lib.OthersKept.iter k6 i4 (by omega)
            have HR : Hid (∃ (pos : Nat) (acc : List UInt8), pos ≤ s.size ∧ Bld w.heap.size w.heap.size acc W6 ∧ W6.heap[K]? = some (.stringIter s pos) ∧ Below w.heap.size w W6 ∧ acc.length ≤ 1 + 2 * pos ∧ quoG acc (s.data.toList.drop pos) = quoO s.data.toList) := ⟨pos + 1, acc ++ [92, 110], by omega, h6, i6, b4.trans b6, by simp; omega, HNX.out⟩
            have HM : Hid (s.size - W6.iterPos K < s.size - wr.iterPos K) := by
              show s.size - W6.iterPos K < s.size - wr.iterPos K
              rw [iterPos_at i6, iterPos_at HIT.out]
              omega
            go_wp2
            exact ⟨HR.out, HM.out⟩
          · have hq1 : ((c.toNat : Int) == 34) = false := by rw [beq_eq_false_iff_ne]; omega
            have hq2 : ((c.toNat : Int) == 92) = false := by rw [beq_eq_false_iff_ne]; omega
            have h10' : ((c.toNat : Int) == 10) = false := by rw [beq_eq_false_iff_ne]; omega
            cases hpl : plnB c.toNat
            · have HNO : Hid (quoO s.data.toList = none) := quo_no HB.out HQU.out (by unfold quoB; rw [if_neg hq, if_neg h10, hpl]; rfl)
              go_wp2_with (go_at_call 46; refine (plain_any _ _).mono ?_; rintro e W1 ⟨rfl, hW1⟩; subst hW1; rw [hpl])
              go_step3
              exact ⟨rfl, HNO.out, b4, _, _, _, _, _, _, _, _, _, _, _, _, _, _, _, _, _, _, _, _, _, _, _, _, _, _, _, _, _, _, _, _, _, _, rfl⟩
            · have HNX : Hid (quoG (acc ++ [c]) (s.data.toList.drop (pos + 1)) = quoO s.data.toList) := quo_go HB.out HQU.out (by unfold quoB; rw [if_neg hq, if_neg h10, hpl]; rfl)
              clear HBL HBE HQU
              generalize wr.iterAt K s (pos + 1) = WN at hnx h4 i4 b4 hsz
              go_wp2_with fail
              refine (plain_any _ _).mono ?_
              rintro e W5 ⟨rfl, hW5⟩
              rw [hW5, hpl]
              clear hW5
              go_wp2_with fail
              refine (writeRune_any w.heap.size w.heap.size acc c ha WN h4 (by omega) hsz).mono ?_
              rintro e W6 ⟨⟨n6, rfl⟩, h6, b6, k6⟩
              have i6 : W6.heap[K]? = some (.stringIter s (pos + 1)) := Lib.OthersKept.iter k6 i4 (by omega)
              have HR : Hid (∃ (pos : Nat) (acc : List UInt8), pos ≤ s.size ∧ Bld w.heap.size w.heap.size acc W6 ∧ W6.heap[K]? = some (.stringIter s pos) ∧ Below w.heap.size w W6 ∧ acc.length ≤ 1 + 2 * pos ∧ quoG acc (s.data.toList.drop pos) = quoO s.data.toList) := ⟨pos + 1, acc ++ [c], by omega, h6, i6, b4.trans b6, by simp; omega, HNX.out⟩
              have HM : Hid (s.size - W6.iterPos K < s.size - wr.iterPos K) := by
                show s.size - W6.iterPos K < s.size - wr.iterPos K
                rw [iterPos_at i6, iterPos_at HIT.out]
                omega
              go_wp2
              exact ⟨HR.out, HM.out⟩
      · have hdh := (decode_high s pos hp (by rw [HC.out]; omega)).1
        obtain ⟨rn, hrn⟩ : ∃ rn : Nat, (Utf8.decode s pos).1 = rn := ⟨_, rfl⟩
        rw [hrn] at hdh hnx
        have hq1 : ((rn : Int) == 34) = false := by rw [beq_eq_false_iff_ne]; omega
        have hq2 : ((rn : Int) == 92) = false := by rw [beq_eq_false_iff_ne]; omega
        have h10' : ((rn : Int) == 10) = false := by rw [beq_eq_false_iff_ne]; omega
        have hpl : plnB (rn : Int) = false ∨ (rn : Int) ≤ 126 := by
          by_cases h : (rn : Int) ≤ 126
          · exact .inr h
          · exact .inl (by unfold plnB; rw [decide_eq_false h, Bool.and_false])
        have hpl' : plnB (rn : Int) = false := by
          rcases hpl with h | h
          · exact h
          · omega
        have HNO : Hid (quoO s.data.toList = none) := quo_no HB.out HQU.out (by
          unfold quoB
          rw [if_neg (by omega), if_neg (by omega)]
          have : plnB c.toNat = false := by unfold plnB; rw [decide_eq_false (show ¬ ((c.toNat : Int) ≤ 126) by omega), Bool.and_false]
          rw [this]
          rfl)
        have b4 : Below w.heap.size w (wr.iterAt K s (pos + (Utf8.decode s pos).2)) := Lib.below_iterAt HBE.out (by omega) _ _
        clear hdh hpl hit hrn
        go_wp2_with (go_at_call 46; refine (plain_any _ _).mono ?_; rintro e W1 ⟨rfl, hW1⟩; subst hW1; rw [hpl'])
        go_step3
        exact ⟨rfl, HNO.out, b4, _, _, _, _, _, _, _, _, _, _, _, _, _, _, _, _, _, _, _, _, _, _, _, _, _, _, _, _, _, _, _, _, _, _, rfl⟩
    · have hnx : ∀ ty, (Instr.next (.pointer (some ⟨K, 0, none⟩)) true ty).run Try.prog wr = _ := fun ty => Lib.run_next_end_at wr K s pos ty hit hp
      have HY : Hid (quoO s.data.toList = some (acc ++ [34])) := by rw [← HQU.out, List.drop_eq_nil_of_le (by have := HS.out; omega)]; exact rfl
      clear hit
      go_wp2_with fail
      refine (writeByte_any w.heap.size w.heap.size acc 34 wr HBL.out (by omega) HBE.out.size).mono ?_
      rintro e W5 ⟨rfl, h5, b5, k5⟩
      go_wp2_with fail
      have h5' : Lib.IsBuilder 66 5 w.heap.size w.heap.size (Lib.byteCells (acc ++ [34])) W5 := h5
      refine (Try.Builder_String_any w.heap.size w.heap.size (acc ++ [34]) W5 h5' (Nat.le_trans HBE.out.size b5.size)).mono ?_
      rintro e W6 ⟨rfl, b6⟩
      go_wp2
      simp only [Exit.jump]
      go_ret2
      refine ⟨?_, HBE.out.trans (b5.trans b6)⟩
      rw [HY.out]
      exact rfl
end Go.Proofs.Ytcbpnmdphmdemaa
