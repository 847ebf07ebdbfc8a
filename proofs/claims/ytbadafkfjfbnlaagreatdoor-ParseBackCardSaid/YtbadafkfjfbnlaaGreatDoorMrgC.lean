/- A text that is quoted; the contract of lex's Quote. -/
/- The contracts of lex's comment and number. -/
/- What begins a text's rest; the contract of lex's look. -/
/- The moves of Held once more, each with the operation and the frame written out, for great frames. No function of the program is walked here. -/
/- The moves at operations with a guard. No function of the program is walked here. -/
/- The contract of lex's take. -/
/- The contract of lex's take: what is no token; no room. -/
/- The tokens of a text, as lists: what Lex goes through. No function of the program is walked here. -/
import Derived.Test.YtbadafkfjfbnlaaGreatDoorMrgB
import Derived.Test.YtbadafkfjfbnlaaGreatDoorShelf
import Derived.Lib.SlBytesConst
import Derived.Test.YtbadafkfjfbnlaaGreatDoorMrgA
import Derived.BigRegion
namespace Go.Proofs.YtbadafkfjfbnlaaGreatDoor
open Go.RowKit

/-- How a byte is quoted. -/
def quoB (c : UInt8) : Option (List UInt8) := if c.toNat = 34 ∨ c.toNat = 92 then some [92, c] else if c.toNat = 10 then some [92, 110] else if plnB c.toNat then some [c] else none
def quoG (acc : List UInt8) : List UInt8 → Option (List UInt8)
  | [] => some (acc ++ [34])
  | c :: r => match quoB c with | none => none | some x => quoG (acc ++ x) r
/-- A text, quoted; none: it may not be. -/
def quoO (L : List UInt8) : Option (List UInt8) := quoG [34] L
theorem quoG_step {acc : List UInt8} {L : List UInt8} {i : Nat} {c : UInt8} (h : L[i]? = some c) : quoG acc (L.drop i) = match quoB c with | none => none | some x => quoG (acc ++ x) (L.drop (i + 1)) := by
  rw [drop_at h, quoG]
theorem quo_no {acc : List UInt8} {L : List UInt8} {i : Nat} {c : UInt8} {o : Option (List UInt8)} (h : L[i]? = some c) (hg : quoG acc (L.drop i) = o) (hq : quoB c = none) : o = none := by
  rw [← hg, quoG_step h, hq]
theorem quo_go {acc x : List UInt8} {L : List UInt8} {i : Nat} {c : UInt8} {o : Option (List UInt8)} (h : L[i]? = some c) (hg : quoG acc (L.drop i) = o) (hq : quoB c = some x) : quoG (acc ++ x) (L.drop (i + 1)) = o := by
  rw [← hg, quoG_step h, hq]
theorem Bld.iterAt {B b : Nat} {l : List UInt8} {w : World} (h : Bld B b l w) {k : Nat} {s : ByteArray} {pos : Nat} (hk : w.heap[k]? = some (.stringIter s pos)) (pos' : Nat) : Bld B b l (w.iterAt k s pos') := by
  obtain ⟨hB, p, v, hp, hr, ho⟩ := h.row
  have hkb : b ≠ k := fun e => by rw [e, hk] at hr; cases hr
  refine Bld.of hB hp ((Lib.iterAt_other w k b s pos' hkb).trans hr) (OwnG.keep ho fun j hj => Lib.iterAt_other w k j s pos' fun e => ?_)
  obtain ⟨c, fz, hc⟩ := own_kind ho j hj
  rw [e, hk] at hc
  cases hc
theorem Bld.below {B b : Nat} {l : List UInt8} {w w' : World} (h : Bld B b l w) (hb : Below w.heap.size w w') : Bld B b l w' := by
  obtain ⟨hB, p, v, hp, hr, ho⟩ := h.row
  exact Bld.of hB hp ((hb.block b (lt_of_row hr)).trans hr) (OwnG.below ho hb)
def strV (o : Option (List UInt8)) (e : Int) : Value := match o with | none => .tuple #[.string ⟨#[]⟩, .int .i64 e] | some x => .tuple #[.string (strU x), .int .i64 0]
theorem iterPos_at {w : World} {k : Nat} {s : ByteArray} {pos : Nat} (h : w.heap[k]? = some (.stringIter s pos)) : w.iterPos k = pos := by unfold World.iterPos; rw [h]
set_option maxRecDepth 100000 in
set_option maxHeartbeats 4000000 in
theorem quote_any (s : ByteArray) (w : World) (hs : s.size ≤ 100000) : Calls Tryz.prog 99 #[.string s] w fun e w' => e = .returned (strV (quoO s.data.toList) 2) ∧ Below w.heap.size w w' := by
  have HS : Hid (s.size = s.data.toList.length) := by show s.size = s.data.toList.length; simp
  go_enter Tryz.func99, Tryz.ntmps99
  go_wp2
  refine wp_scope_jumps 0 (fun a' w' => quoO s.data.toList = none ∧ Below w.heap.size w w' ∧ ∃ u0 u1 u2 u3 u4 u5 u6 u7 u8 u9 u10 u11 u12 u13 u14 u15 u16 u17 u18 u19 u20 u21 u22 u23 u24 u25 u26 u27 u28 u29 u30 u31 u32 u33 : Value, a' = { tmps := #[u0, u1, u2, u3, u4, u5, u6, u7, u8, u9, u10, u11, u12, u13, u14, u15, u16, u17, u18, u19, u20, u21, u22, u23, u24, u25, u26, u27, u28, u29, u30, u31, u32, u33], defers := [] }) (fun _ _ => 0) rfl ?_ ?_
  rotate_left
  · rintro a' w' ⟨hn, hb, u0, u1, u2, u3, u4, u5, u6, u7, u8, u9, u10, u11, u12, u13, u14, u15, u16, u17, u18, u19, u20, u21, u22, u23, u24, u25, u26, u27, u28, u29, u30, u31, u32, u33, rfl⟩
    have HN : Hid (quoO s.data.toList = none) := hn
    clear hn
    go_wp2
    simp only [Exit.jump]
    go_ret2
    refine ⟨?_, hb⟩
    rw [HN.out]
    exact rfl
  go_wp2_with fail
  have hB0 : Bld w.heap.size w.heap.size [] (w.alloc (.cells #[.pointer none, .slice none 0 0] 58)) := Bld.of (Nat.le_refl _) (.inl rfl) (heap_alloc_new _ _) (ownG_nil _ _)
  refine (writeByte_any w.heap.size w.heap.size [] 34 _ hB0 (by simp) (by simp)).mono ?_
  rintro e W1 ⟨rfl, h1, b1, -⟩
  have bw1 : Below w.heap.size w W1 := ((Below.refl _ _).alloc (Nat.le_refl _) _).trans b1
  clear hB0 b1
  have hkb : w.heap.size < W1.heap.size := by obtain ⟨-, p, v, -, hr, -⟩ := h1.row; exact lt_of_row hr
  go_wp2
  obtain ⟨K, HK⟩ : ∃ K, Hid (W1.heap.size = K) := ⟨_, rfl⟩
  have hbi : Below W1.heap.size W1 (W1.alloc (.stringIter s 0)) := (Below.refl _ _).alloc (Nat.le_refl _) _
  have H0 : Hid (Bld w.heap.size w.heap.size [34] (W1.iter s 0) ∧ (W1.iter s 0).heap[K]? = some (.stringIter s 0) ∧ Below w.heap.size w (W1.iter s 0)) := ⟨h1.below hbi, by rw [← HK.out]; exact heap_alloc_new _ _, bw1.alloc bw1.size _⟩
  have hK : w.heap.size < K := by rw [← HK.out]; exact hkb
  rw [HK.out]
  clear hbi HK hkb bw1 h1
  go_loopw [] (fun wr => ∃ (pos : Nat) (acc : List UInt8), pos ≤ s.size ∧ Bld w.heap.size w.heap.size acc wr ∧ wr.heap[K]? = some (.stringIter s pos) ∧ Below w.heap.size w wr ∧ acc.length ≤ 1 + 2 * pos ∧ quoG acc (s.data.toList.drop pos) = quoO s.data.toList) (fun wr => s.size - wr.iterPos K)
  case atStart => exact ⟨0, [34], Nat.zero_le _, H0.out.1, H0.out.2.1, H0.out.2.2, by simp, rfl⟩
  case round =>
    clear H0
    obtain ⟨pos, acc, hps, hbl, hit, hbe, hal, hqu⟩ := hrel
    have HBL : Hid (Bld w.heap.size w.heap.size acc wr) := hbl
    have HIT : Hid (wr.heap[K]? = some (.stringIter s pos)) := hit
    have HBE : Hid (Below w.heap.size w wr) := hbe
    have HQU : Hid (quoG acc (s.data.toList.drop pos) = quoO s.data.toList) := hqu
    clear hbl hbe hqu
    by_cases hp : pos < s.size
    · have hnx : ∀ ty, (Instr.next (.pointer (some ⟨K, 0, none⟩)) true ty).run Tryz.prog wr = _ := fun ty => Lib.run_next_any_at wr K s pos ty hit hp
      have HB : Hid (s.data.toList[pos]? = some (s[pos]'hp)) := byte_at hp
      obtain ⟨c, HC⟩ : ∃ c, Hid (s[pos]'hp = c) := ⟨_, rfl⟩
      rw [HC.out] at HB
      by_cases ha : c.toNat < 128
      · have hdc := decode_ascii s pos hp (by rw [HC.out]; exact ha)
        rw [hdc] at hnx
        simp only [HC.out] at hnx
        clear hdc hit
        have h4 : Bld w.heap.size w.heap.size acc (wr.iterAt K s (pos + 1)) := HBL.out.iterAt HIT.out _
        have i4 : (wr.iterAt K s (pos + 1)).heap[K]? = some (.stringIter s (pos + 1)) := Lib.iterAt_heap _ _ _ _ _ HIT.out
        have b4 : Below w.heap.size w (wr.iterAt K s (pos + 1)) := Lib.below_iterAt HBE.out (by omega) _ _
        have hw2 := conv_u8_i32 c
        have hsz : w.heap.size ≤ (wr.iterAt K s (pos + 1)).heap.size := b4.size
        by_cases hq : c.toNat = 34 ∨ c.toNat = 92
        · have HNX : Hid (quoG (acc ++ [92, c]) (s.data.toList.drop (pos + 1)) = quoO s.data.toList) := quo_go HB.out HQU.out (by unfold quoB; rw [if_pos hq])
          have hqi : (c.toNat : Int) = 34 ∨ (c.toNat : Int) = 92 := by omega
          clear HBL HBE HQU
          generalize wr.iterAt K s (pos + 1) = WN at hnx h4 i4 b4 hsz
          have KEY : Hid (∀ (W5 : World), WrP w.heap.size w.heap.size (acc ++ [92]) WN W5 → Calls Tryz.prog 126 #[.pointer (some ⟨w.heap.size, 0, none⟩), .int .i32 c.toNat] W5 fun e w' => (∃ n, e = .returned (.tuple #[.int .i64 n, .nilIface])) ∧ (∃ (pos : Nat) (acc : List UInt8), pos ≤ s.size ∧ Bld w.heap.size w.heap.size acc w' ∧ w'.heap[K]? = some (.stringIter s pos) ∧ Below w.heap.size w w' ∧ acc.length ≤ 1 + 2 * pos ∧ quoG acc (s.data.toList.drop pos) = quoO s.data.toList) ∧ s.size - w'.iterPos K < s.size - wr.iterPos K) := fun W5 h5 => by
            refine (writeRune_any w.heap.size w.heap.size (acc ++ [92]) c ha W5 h5.1 (by simp; omega) (Nat.le_trans hsz h5.2.1.size)).mono ?_
            rintro e W6 ⟨hn, h6, b6, k6⟩
            have i6 : W6.heap[K]? = some (.stringIter s (pos + 1)) := Lib.OthersKept.iter k6 (Lib.OthersKept.iter h5.2.2 i4 (by omega)) (by omega)
            refine ⟨hn, ⟨pos + 1, acc ++ [92, c], by omega, by simpa using h6, i6, b4.trans (h5.2.1.trans b6), by simp; omega, HNX.out⟩, ?_⟩
            rw [iterPos_at i6, iterPos_at HIT.out]
            omega
          rcases hqi with hq1 | hq1
          all_goals
            go_wp2_with fail
            refine (writeByte_any w.heap.size w.heap.size acc 92 WN h4 (by omega) hsz).mono ?_
            rintro e W5 ⟨rfl, h5⟩
            go_wp2_with fail
            try rw [hq1] at KEY
            refine (KEY.out W5 h5).mono ?_
            rintro e W6 ⟨⟨n6, rfl⟩, hR, hM⟩
            have HR : Hid (∃ (pos : Nat) (acc : List UInt8), pos ≤ s.size ∧ Bld w.heap.size w.heap.size acc W6 ∧ W6.heap[K]? = some (.stringIter s pos) ∧ Below w.heap.size w W6 ∧ acc.length ≤ 1 + 2 * pos ∧ quoG acc (s.data.toList.drop pos) = quoO s.data.toList) := hR
            have HM : Hid (s.size - W6.iterPos K < s.size - wr.iterPos K) := hM
            clear hR hM
            go_wp2
            exact ⟨HR.out, HM.out⟩
        · by_cases h10 : c.toNat = 10
          · have HNX : Hid (quoG (acc ++ [92, 110]) (s.data.toList.drop (pos + 1)) = quoO s.data.toList) := quo_go HB.out HQU.out (by unfold quoB; rw [if_neg hq, if_pos h10])
            have h10' : (c.toNat : Int) = 10 := by omega
            clear HBL HBE HQU
            generalize wr.iterAt K s (pos + 1) = WN at hnx h4 i4 b4 hsz
            go_wp2_with fail
            refine (writeString_any w.heap.size w.heap.size acc ⟨#[92, 110]⟩ WN h4 (by have : (⟨#[92, 110]⟩ : ByteArray).size = 2 := rfl; omega) hsz).mono ?_
            rintro e W6 ⟨rfl, h6, b6, k6⟩
            have i6 : W6.heap[K]? = some (.stringIter s (pos + 1)) := Lib.OthersKept.iter k6 i4 (by omega)
            have HR : Hid (∃ (pos : Nat) (acc : List UInt8), pos ≤ s.size ∧ Bld w.heap.size w.heap.size acc W6 ∧ W6.heap[K]? = some (.stringIter s pos) ∧ Below w.heap.size w W6 ∧ acc.length ≤ 1 + 2 * pos ∧ quoG acc (s.data.toList.drop pos) = quoO s.data.toList) := ⟨pos + 1, acc ++ [92, 110], by omega, h6, i6, b4.trans b6, by simp; omega, HNX.out⟩
            have HM : Hid (s.size - W6.iterPos K < s.size - wr.iterPos K) := by
              show s.size - W6.iterPos K < s.size - wr.iterPos K
              rw [iterPos_at i6, iterPos_at HIT.out]
              omega
            go_wp2
            exact ⟨HR.out, HM.out⟩
          · have hq1 : ((c.toNat : Int) == 34) = false := by rw [beq_eq_false_iff_ne]; omega
            have hq2 : ((c.toNat : Int) == 92) = false := by rw [beq_eq_false_iff_ne]; omega
            have h10' : ((c.toNat : Int) == 10) = false := by rw [beq_eq_false_iff_ne]; omega
            cases hpl : plnB c.toNat
            · have HNO : Hid (quoO s.data.toList = none) := quo_no HB.out HQU.out (by unfold quoB; rw [if_neg hq, if_neg h10, hpl]; rfl)
              go_wp2_with (go_at_call 107; refine (plain_any _ _).mono ?_; rintro e W1 ⟨rfl, hW1⟩; subst hW1; rw [hpl])
              go_step3
              exact ⟨rfl, HNO.out, b4, _, _, _, _, _, _, _, _, _, _, _, _, _, _, _, _, _, _, _, _, _, _, _, _, _, _, _, _, _, _, _, _, _, _, rfl⟩
            · have HNX : Hid (quoG (acc ++ [c]) (s.data.toList.drop (pos + 1)) = quoO s.data.toList) := quo_go HB.out HQU.out (by unfold quoB; rw [if_neg hq, if_neg h10, hpl]; rfl)
              clear HBL HBE HQU
              generalize wr.iterAt K s (pos + 1) = WN at hnx h4 i4 b4 hsz
              go_wp2_with fail
              refine (plain_any _ _).mono ?_
              rintro e W5 ⟨rfl, hW5⟩
              rw [hW5, hpl]
              clear hW5
              go_wp2_with fail
              refine (writeRune_any w.heap.size w.heap.size acc c ha WN h4 (by omega) hsz).mono ?_
              rintro e W6 ⟨⟨n6, rfl⟩, h6, b6, k6⟩
              have i6 : W6.heap[K]? = some (.stringIter s (pos + 1)) := Lib.OthersKept.iter k6 i4 (by omega)
              have HR : Hid (∃ (pos : Nat) (acc : List UInt8), pos ≤ s.size ∧ Bld w.heap.size w.heap.size acc W6 ∧ W6.heap[K]? = some (.stringIter s pos) ∧ Below w.heap.size w W6 ∧ acc.length ≤ 1 + 2 * pos ∧ quoG acc (s.data.toList.drop pos) = quoO s.data.toList) := ⟨pos + 1, acc ++ [c], by omega, h6, i6, b4.trans b6, by simp; omega, HNX.out⟩
              have HM : Hid (s.size - W6.iterPos K < s.size - wr.iterPos K) := by
                show s.size - W6.iterPos K < s.size - wr.iterPos K
                rw [iterPos_at i6, iterPos_at HIT.out]
                omega
              go_wp2
              exact ⟨HR.out, HM.out⟩
      · have hdh := (decode_high s pos hp (by rw [HC.out]; omega)).1
        obtain ⟨rn, hrn⟩ : ∃ rn : Nat, (Utf8.decode s pos).1 = rn := ⟨_, rfl⟩
        rw [hrn] at hdh hnx
        have hq1 : ((rn : Int) == 34) = false := by rw [beq_eq_false_iff_ne]; omega
        have hq2 : ((rn : Int) == 92) = false := by rw [beq_eq_false_iff_ne]; omega
        have h10' : ((rn : Int) == 10) = false := by rw [beq_eq_false_iff_ne]; omega
        have hpl : plnB (rn : Int) = false ∨ (rn : Int) ≤ 126 := by
          by_cases h : (rn : Int) ≤ 126
          · exact .inr h
          · exact .inl (by unfold plnB; rw [decide_eq_false h, Bool.and_false])
        have hpl' : plnB (rn : Int) = false := by
          rcases hpl with h | h
          · exact h
          · omega
        have HNO : Hid (quoO s.data.toList = none) := quo_no HB.out HQU.out (by
          unfold quoB
          rw [if_neg (by omega), if_neg (by omega)]
          have : plnB c.toNat = false := by unfold plnB; rw [decide_eq_false (show ¬ ((c.toNat : Int) ≤ 126) by omega), Bool.and_false]
          rw [this]
          rfl)
        have b4 : Below w.heap.size w (wr.iterAt K s (pos + (Utf8.decode s pos).2)) := Lib.below_iterAt HBE.out (by omega) _ _
        clear hdh hpl hit hrn
        go_wp2_with (go_at_call 107; refine (plain_any _ _).mono ?_; rintro e W1 ⟨rfl, hW1⟩; subst hW1; rw [hpl'])
        go_step3
        exact ⟨rfl, HNO.out, b4, _, _, _, _, _, _, _, _, _, _, _, _, _, _, _, _, _, _, _, _, _, _, _, _, _, _, _, _, _, _, _, _, _, _, rfl⟩
    · have hnx : ∀ ty, (Instr.next (.pointer (some ⟨K, 0, none⟩)) true ty).run Tryz.prog wr = _ := fun ty => Lib.run_next_end_at wr K s pos ty hit hp
      have HY : Hid (quoO s.data.toList = some (acc ++ [34])) := by rw [← HQU.out, List.drop_eq_nil_of_le (by have := HS.out; omega)]; exact rfl
      clear hit
      go_wp2_with fail
      refine (writeByte_any w.heap.size w.heap.size acc 34 wr HBL.out (by omega) HBE.out.size).mono ?_
      rintro e W5 ⟨rfl, h5, b5, k5⟩
      go_wp2_with fail
      have h5' : Lib.IsBuilder 58 5 w.heap.size w.heap.size (Lib.byteCells (acc ++ [34])) W5 := h5
      refine (Tryz.Builder_String_any w.heap.size w.heap.size (acc ++ [34]) W5 h5' (Nat.le_trans HBE.out.size b5.size)).mono ?_
      rintro e W6 ⟨rfl, b6⟩
      go_wp2
      simp only [Exit.jump]
      go_ret2
      refine ⟨?_, HBE.out.trans (b5.trans b6)⟩
      rw [HY.out]
      exact rfl
end Go.Proofs.YtbadafkfjfbnlaaGreatDoor

namespace Go.Proofs.YtbadafkfjfbnlaaGreatDoor
open Go.RowKit

/-- The size of a comment. -/
def comN (L : List UInt8) : Nat := runN (fun c => c != 10) L
theorem index_ge (L : List UInt8) (c : UInt8) : Lib.indexByte L c = if runN (fun d => d != c) L < L.length then (runN (fun d => d != c) L : Int) else -1 := by
  induction L with
  | nil => rfl
  | cons a r ih =>
    rw [Lib.indexByte, runN_cons, List.length_cons]
    by_cases h : a = c
    · subst h
      simp
    · have h1 : (a == c) = false := by simpa using h
      have h2 : (a != c) = true := by simpa using h
      by_cases hlt : runN (fun d => d != c) r < r.length
      · have h3 : ((runN (fun d => d != c) r : Int) == -1) = false := by rw [beq_eq_false_iff_ne]; omega
        simp [h1, h2, ih, hlt, h3]
      · simp [h1, h2, ih, hlt]
set_option maxRecDepth 100000 in
set_option maxHeartbeats 1000000 in
theorem comment_any (sp : Option Addr) (cap : Nat) (L : List UInt8) (w : World) (h : BA w sp L) (hpos : 0 < L.length) :
    Calls Tryz.prog 53 #[.slice sp L.length cap] w fun e w' => e = .returned (.int .i64 (comN L)) ∧ w' = w := by
  obtain ⟨b, o, rfl, hc⟩ := h hpos
  have HI : Hid (Calls Tryz.prog 74 #[.slice (some ⟨b, o, none⟩) L.length cap, .int .u8 10] w fun e w' => e = .returned (.int .i64 (if runN (fun d => d != 10) L < L.length then (runN (fun d => d != 10) L : Int) else -1)) ∧ w' = w) := by
    have := Tryz.bytes_IndexByte_at ⟨b, o, none⟩ L.length cap (Lib.numsL L) 10 w (by simp [Lib.numsL]) (fun i hi => by
      rw [Addr.add_mid, hc i _ (List.getElem?_eq_getElem hi)]
      simp [Lib.numsL, hi])
    rw [Lib.bytesOf_numsL, index_ge] at this
    exact this
  have hle := runN_le (fun c => c != 10) L
  clear hc h
  go_enter Tryz.func53, Tryz.ntmps53
  by_cases hlt : runN (fun d => d != 10) L < L.length
  · have hn : ¬ ((runN (fun d => d != 10) L : Int) < 0) := by omega
    have HX : Hid (comN L = runN (fun d => d != 10) L) := rfl
    go_wp2_with (go_at_call 74; refine HI.out.mono ?_; rintro e W1 ⟨rfl, hW1⟩; subst hW1; rw [if_pos hlt])
    go_ret
    exact ⟨ret_int (by rw [HX.out]), rfl⟩
  · have HX : Hid (comN L = L.length) := by
      have : comN L = runN (fun d => d != 10) L := rfl
      rw [this]
      show runN (fun d => d != 10) L = L.length
      omega
    go_wp2_with (go_at_call 74; refine HI.out.mono ?_; rintro e W1 ⟨rfl, hW1⟩; subst hW1; rw [if_neg hlt])
    go_ret
    exact ⟨ret_int (by rw [HX.out]), rfl⟩
theorem num_some {L M : List UInt8} {n q k : Nat} (h : numR L = if (decO M).isSome = false ∨ 0 < k then (0, 201) else (n, 0)) (hd : decO M = some q) : numR L = if 0 < k then (0, 201) else (n, 0) := by
  rw [h, hd]
  simp
set_option maxRecDepth 100000 in
set_option maxHeartbeats 1000000 in
theorem number_any (sp : Option Addr) (cap : Nat) (L : List UInt8) (w : World) (h : BA w sp L) (hpos : 0 < L.length) (hl : L.length ≤ 100000) (hcap : L.length ≤ cap) :
    Calls Tryz.prog 50 #[.slice sp L.length cap] w fun e w' => e = .returned (pairV (numR L)) ∧ Below w.heap.size w w' := by
  obtain ⟨b, o, rfl, hc⟩ := h hpos
  have HL : Hid (BA w (some ⟨b, o, none⟩) L) := h
  clear h hc
  obtain ⟨n, HN⟩ : ∃ n, Hid (runN (inC [4]) L = n) := ⟨_, rfl⟩
  have hnl : n ≤ L.length := by rw [← HN.out]; exact runN_le _ _
  have HE : Hid (numR L = if (decO (L.take n)).isSome = false ∨ 0 < runN (inC [3]) (L.drop n) then (0, 201) else (n, 0)) := by unfold numR; rw [HN.out]; exact rfl
  have HR : Hid (Calls Tryz.prog 70 #[.slice (some ⟨b, o, none⟩) L.length cap, .slice (some ⟨w.heap.size, 0, none⟩) 1 1] (w.alloc (.cells #[.int .i64 4] 3)) fun e w' => e = .returned (.int .i64 n) ∧ Below w.heap.size w w') := by
    have b1 : Below w.heap.size w (w.alloc (.cells #[.int .i64 4] 3)) := (Below.refl _ _).alloc (Nat.le_refl _) _
    have := run_any _ cap L w.heap.size 0 1 [4] _ (HL.out.below b1) (by omega) (by simp) (ints_cells w [4] 3)
    rw [HN.out] at this
    exact this.mono fun e w' ⟨h1, h2⟩ => ⟨h1, h2 ▸ b1⟩
  go_enter Tryz.func50, Tryz.ntmps50
  go_wp2_with fail
  refine HR.out.mono ?_
  rintro e W1 ⟨rfl, b1⟩
  have htl : (L.take n).length = n := by rw [List.length_take]; omega
  have hcv := conv_str ((HL.out.below' b1).take n) cap
  rw [htl] at hcv
  have hnc : (n : Int) ≤ cap := by omega
  go_wp2_with fail
  refine (decimal_any (strU (L.take n)) W1).mono ?_
  rintro e W2 ⟨rfl, b2⟩
  rw [strU_data]
  have bw2 : Below w.heap.size w W2 := b1.trans (b2.mono b1.size)
  clear hcv htl HR
  cases hdo : decO (L.take n) with
  | none =>
    have HX : Hid (numR L = (0, 201)) := by rw [HE.out, hdo]; exact rfl
    clear HE hdo
    unfold decV
    go_wp2
    go_ret2
    exact ⟨ret_pair HX.out, bw2⟩
  | some q =>
    have HX : Hid (numR L = if 0 < runN (inC [3]) (L.drop n) then (0, 201) else (n, 0)) := num_some HE.out hdo
    clear HE hdo
    have b3 : Below w.heap.size w (W2.alloc (.cells #[.int .i64 3] 3)) := bw2.alloc bw2.size _
    have HR2 : Hid (Calls Tryz.prog 70 #[.slice (if cap = n then some ⟨b, o, none⟩ else some ⟨b, o + n, none⟩) (L.length - n) (cap - n), .slice (some ⟨W2.heap.size, 0, none⟩) 1 1] (W2.alloc (.cells #[.int .i64 3] 3)) fun e w' => e = .returned (.int .i64 (runN (inC [3]) (L.drop n))) ∧ w' = (W2.alloc (.cells #[.int .i64 3] 3))) := by
      have := run_any _ (cap - n) (L.drop n) W2.heap.size 0 1 [3] _ (BA.cut (HL.out.below' b3) n hcap) (by rw [List.length_drop]; omega) (by simp) (ints_cells W2 [3] 3)
      rw [List.length_drop] at this
      exact this
    unfold decV
    by_cases hr : 0 < runN (inC [3]) (L.drop n)
    · have hr' : ((runN (inC [3]) (L.drop n) : Nat) : Int) > 0 := by omega
      have HY : Hid (numR L = (0, 201)) := by rw [HX.out, if_pos hr]; exact rfl
      clear HX
      go_wp2_with (go_at_call 70; refine HR2.out.mono ?_; rintro e W3 ⟨rfl, rfl⟩)
      all_goals go_ret2
      all_goals exact ⟨ret_pair HY.out, b3⟩
    · have hr' : ¬ ((runN (inC [3]) (L.drop n) : Nat) : Int) > 0 := by omega
      have HY : Hid (numR L = (n, 0)) := by rw [HX.out, if_neg hr]; exact rfl
      clear HX
      go_wp2_with (go_at_call 70; refine HR2.out.mono ?_; rintro e W3 ⟨rfl, rfl⟩)
      all_goals go_ret2
      all_goals exact ⟨ret_pair HY.out, b3⟩
end Go.Proofs.YtbadafkfjfbnlaaGreatDoor

namespace Go.Proofs.YtbadafkfjfbnlaaGreatDoor
open Go.RowKit

/-- The Kind, the size and the error of what begins bytes; en: a line ends here. -/
def lookR (L : List UInt8) (en : Bool) : Int × Nat × Int := match L with
  | [] => (5, 0, 0)
  | c :: r =>
    if clsI c.toNat = 2 then (if en then (5, 0, 0) else (0, 1, 0))
    else if clsI c.toNat = 1 then (0, 1, 0)
    else if clsI c.toNat = 6 then (5, 1, 0)
    else if clsI c.toNat = 3 then (1, wordR (c :: r))
    else if clsI c.toNat = 4 then (2, numR (c :: r))
    else if clsI c.toNat = 5 then (3, quoR (c :: r))
    else if Lib.hasPrefix (c :: r) [47, 47] then (0, comN (c :: r), 0)
    else (4, sigR (c :: r))
def tripV (p : Int × Nat × Int) : Value := .tuple #[.int .i64 p.1, .int .i64 p.2.1, .int .i64 p.2.2]
theorem ret_trip {p : Int × Nat × Int} {k : Int} {n : Nat} {e : Int} (h : p = (k, n, e)) : Ending.returned (.tuple #[.int .i64 k, .int .i64 n, .int .i64 e]) = .returned (tripV p) := by rw [h]; rfl
theorem cls_range (c : Int) : clsI c = 0 ∨ clsI c = 1 ∨ clsI c = 2 ∨ clsI c = 3 ∨ clsI c = 4 ∨ clsI c = 5 ∨ clsI c = 6 := by
  unfold clsI
  repeat' split
  all_goals simp
set_option maxRecDepth 100000 in
set_option maxHeartbeats 4000000 in
theorem look_any (sp : Option Addr) (cap : Nat) (L : List UInt8) (g : Nat) (t : Tok) (w : World) (h : BA w sp L) (hl : L.length ≤ 100000) (hcap : L.length ≤ cap)
    (h0 : w.cell? ⟨g, 0, none⟩ = some (.int .i64 t.kind)) (h1 : w.cell? ⟨g, 1, none⟩ = some (.string t.text)) :
    Calls Tryz.prog 36 #[.slice sp L.length cap, .func (.func 35) #[.pointer (some ⟨g, 0, none⟩)] #[]] w fun e w' => e = .returned (tripV (lookR L (clo t))) ∧ Below w.heap.size w w' := by
  have H0 : Hid (w.cell? ⟨g, 0, none⟩ = some (.int .i64 t.kind)) := h0
  have H1 : Hid (w.cell? ⟨g, 1, none⟩ = some (.string t.text)) := h1
  have HL : Hid (BA w sp L) := h
  clear h h0 h1
  cases L with
  | nil =>
    go_enter Tryz.func36, Tryz.ntmps36
    go_wp2
    go_ret3
    exact ⟨rfl, Below.refl _ _⟩
  | cons c r =>
    obtain ⟨b, o, rfl, hc⟩ := HL.out (by simp)
    have k0 : w.cell? ⟨b, o, none⟩ = some (.int .u8 c.toNat) := hc 0 c rfl
    have hln : ((((c :: r).length : Nat) : Int) == 0) = false := by rw [beq_eq_false_iff_ne, List.length_cons]; omega
    have hlt : (0 : Int) < ((c :: r).length : Nat) := by rw [List.length_cons]; omega
    have hw := conv_u8_i32 c
    clear hc
    obtain ⟨M, HM⟩ : ∃ M, Hid (c :: r = M) := ⟨_, rfl⟩
    have HE : Hid (lookR M (clo t) = if clsI c.toNat = 2 then (if clo t then (5, 0, 0) else (0, 1, 0)) else if clsI c.toNat = 1 then (0, 1, 0) else if clsI c.toNat = 6 then (5, 1, 0) else if clsI c.toNat = 3 then (1, wordR M)
      else if clsI c.toNat = 4 then (2, numR M) else if clsI c.toNat = 5 then (3, quoR M) else if Lib.hasPrefix M [47, 47] then (0, comN M, 0) else (4, sigR M)) := by rw [← HM.out]; exact rfl
    have HC : Hid (∃ r, M = c :: r) := ⟨r, HM.out.symm⟩
    rw [HM.out] at hln hlt HL hl hcap ⊢
    clear HM
    have HPOS : 0 < M.length := by omega
    go_enter Tryz.func36, Tryz.ntmps36
    rcases cls_range c.toNat with hk | hk | hk | hk | hk | hk | hk
    · have HX : Hid (lookR M (clo t) = if Lib.hasPrefix M [47, 47] then (0, comN M, 0) else (4, sigR M)) := by rw [HE.out, hk]; exact rfl
      clear HE
      have hcv := Lib.run_convert_bytes_const (P := Tryz.prog) w 56 5 #[.int .u8 47, .int .u8 47] 2 2 Tryz.underlying56 Tryz.underlying5
      obtain ⟨WA, HWA⟩ : ∃ WA, Hid (w.alloc (.cells #[.int .u8 47, .int .u8 47] 5 (2, 3)) = WA) := ⟨_, rfl⟩
      have b1 : Below w.heap.size w WA := by rw [← HWA.out]; exact (Below.refl _ _).alloc (Nat.le_refl _) _
      have hP2 : BA WA (some ⟨w.heap.size, 0, none⟩) [47, 47] := BA.of_rows (fun _ => ⟨w.heap.size, 0, rfl, fun i x hx j u hu => by
        have hrow : WA.heap[w.heap.size]? = some (.cells #[.int .u8 47, .int .u8 47] 5 (2, 3)) := by rw [← HWA.out]; exact heap_alloc_new _ _
        rw [cell_of_row _ _ _ _ _ _ hrow]
        have hj : j = 0 := by have := (Array.getElem?_eq_some_iff.1 hu).1; simp [byC] at this; omega
        subst hj
        rw [← hu]
        match i, hx with
        | 0, hx => have hx' : (47 : UInt8) = x := by simpa using hx
                   subst hx'; rfl
        | 1, hx => have hx' : (47 : UInt8) = x := by simpa using hx
                   subst hx'; rfl
        | k + 2, hx => simp at hx⟩)
      have HP : Hid (Calls Tryz.prog 52 #[.slice (some ⟨b, o, none⟩) M.length cap, .slice (some ⟨w.heap.size, 0, none⟩) 2 2] WA fun e w' => e = .returned (.bool (Lib.hasPrefix M [47, 47])) ∧ w' = WA) := by
        have := Tryz.bytes_HasPrefix_all (some ⟨b, o, none⟩) (some ⟨w.heap.size, 0, none⟩) M.length cap 2 2 (Lib.numsL M) (Lib.numsL [47, 47]) WA (by simp [Lib.numsL]) rfl hcap (HL.out.below b1).bytesIn hP2.bytesIn
        rw [Lib.bytesOf_numsL, Lib.bytesOf_numsL] at this
        exact this
      clear hP2
      have hcv' : (convert 56 56 (.slice (some ⟨w.heap.size, 0, none⟩) 2 2)).run Tryz.prog (w.alloc (.cells #[.int .u8 47, .int .u8 47] 5)) = .ok (.slice (some ⟨w.heap.size, 0, none⟩) 2 2) WA := by
        rw [hcv]
        exact congrArg _ HWA.out
      clear hcv
      cases hp : Lib.hasPrefix M [47, 47]
      · have HY : Hid (lookR M (clo t) = (4, sigR M)) := by rw [HX.out, hp]; exact rfl
        clear HX
        obtain ⟨n, er, HR⟩ : ∃ n er, Hid (sigR M = (n, er)) := ⟨_, _, rfl⟩
        have HS : Hid (Calls Tryz.prog 54 #[.slice (some ⟨b, o, none⟩) M.length cap] WA fun e w' => e = .returned (.tuple #[.int .i64 n, .int .i64 er]) ∧ w' = WA) := by
          obtain ⟨r', hr'⟩ := HC.out
          have := sign_any (some ⟨b, o, none⟩) cap c r' WA (hr' ▸ HL.out.below b1) (hr' ▸ hl) (hr' ▸ hcap)
          rw [← hr', HR.out] at this
          exact this
        go_wp2_with (first
          | (go_at_call 48; refine (class_any _ _).mono ?_; rintro e W1 ⟨rfl, hW1⟩; subst hW1; rw [hk])
          | (go_at_call 52; refine HP.out.mono ?_; rintro e W1 ⟨rfl, hW1⟩; rw [hW1, hp])
          | (go_at_call 54; refine HS.out.mono ?_; rintro e W1 ⟨rfl, hW1⟩; rw [hW1]))
        go_ret3
        exact ⟨ret_trip (by rw [HY.out, HR.out]), b1⟩
      · have HY : Hid (lookR M (clo t) = (0, comN M, 0)) := by rw [HX.out, hp]; exact rfl
        clear HX
        have HS : Hid (Calls Tryz.prog 53 #[.slice (some ⟨b, o, none⟩) M.length cap] WA fun e w' => e = .returned (.int .i64 (comN M)) ∧ w' = WA) := comment_any _ cap M WA (HL.out.below b1) HPOS
        go_wp2_with (first
          | (go_at_call 48; refine (class_any _ _).mono ?_; rintro e W1 ⟨rfl, hW1⟩; subst hW1; rw [hk])
          | (go_at_call 52; refine HP.out.mono ?_; rintro e W1 ⟨rfl, hW1⟩; rw [hW1, hp])
          | (go_at_call 53; refine HS.out.mono ?_; rintro e W1 ⟨rfl, hW1⟩; rw [hW1]))
        go_ret3
        exact ⟨ret_trip HY.out, b1⟩
    · have HX : Hid (lookR M (clo t) = (0, 1, 0)) := by rw [HE.out, hk]; exact rfl
      clear HE
      go_wp2_with (go_at_call 48; refine (class_any _ _).mono ?_; rintro e W1 ⟨rfl, hW1⟩; subst hW1; rw [hk])
      go_ret3
      exact ⟨ret_trip HX.out, Below.refl _ _⟩
    · have HX : Hid (lookR M (clo t) = if clo t then (5, 0, 0) else (0, 1, 0)) := by rw [HE.out, hk]; exact rfl
      clear HE
      cases hcl : clo t
      · have HY : Hid (lookR M false = (0, 1, 0)) := by rw [← hcl, HX.out, hcl]; exact rfl
        clear HX
        go_wp2_with (first
          | (go_at_call 48; refine (class_any _ _).mono ?_; rintro e W1 ⟨rfl, hW1⟩; subst hW1; rw [hk])
          | (go_at_call 35; refine (ends_any g t _ H0.out H1.out).mono ?_; rintro e W1 ⟨rfl, hW1⟩; subst hW1; rw [hcl]))
        go_ret3
        exact ⟨ret_trip HY.out, Below.refl _ _⟩
      · have HY : Hid (lookR M true = (5, 0, 0)) := by rw [← hcl, HX.out, hcl]; exact rfl
        clear HX
        go_wp2_with (first
          | (go_at_call 48; refine (class_any _ _).mono ?_; rintro e W1 ⟨rfl, hW1⟩; subst hW1; rw [hk])
          | (go_at_call 35; refine (ends_any g t _ H0.out H1.out).mono ?_; rintro e W1 ⟨rfl, hW1⟩; subst hW1; rw [hcl]))
        go_ret3
        exact ⟨ret_trip HY.out, Below.refl _ _⟩
    · have HX : Hid (lookR M (clo t) = (1, wordR M)) := by rw [HE.out, hk]; exact rfl
      clear HE
      obtain ⟨n, er, HR⟩ : ∃ n er, Hid (wordR M = (n, er)) := ⟨_, _, rfl⟩
      go_wp2_with (first
        | (go_at_call 48; refine (class_any _ _).mono ?_; rintro e W1 ⟨rfl, hW1⟩; subst hW1; rw [hk])
        | (go_at_call 49; refine (word_any _ cap M _ HL.out hl).mono ?_; rintro e W1 ⟨rfl, b1⟩; rw [HR.out, pairV]))
      go_ret3
      exact ⟨ret_trip (by rw [HX.out, HR.out]), b1⟩
    · have HX : Hid (lookR M (clo t) = (2, numR M)) := by rw [HE.out, hk]; exact rfl
      clear HE
      obtain ⟨n, er, HR⟩ : ∃ n er, Hid (numR M = (n, er)) := ⟨_, _, rfl⟩
      go_wp2_with (first
        | (go_at_call 48; refine (class_any _ _).mono ?_; rintro e W1 ⟨rfl, hW1⟩; subst hW1; rw [hk])
        | (go_at_call 50; refine (number_any _ cap M _ HL.out HPOS hl hcap).mono ?_; rintro e W1 ⟨rfl, b1⟩; rw [HR.out, pairV]))
      go_ret3
      exact ⟨ret_trip (by rw [HX.out, HR.out]), b1⟩
    · have HX : Hid (lookR M (clo t) = (3, quoR M)) := by rw [HE.out, hk]; exact rfl
      clear HE
      obtain ⟨n, er, HR⟩ : ∃ n er, Hid (quoR M = (n, er)) := ⟨_, _, rfl⟩
      go_wp2_with (first
        | (go_at_call 48; refine (class_any _ _).mono ?_; rintro e W1 ⟨rfl, hW1⟩; subst hW1; rw [hk])
        | (go_at_call 51; refine (quoted_any _ cap M _ HL.out hl hcap).mono ?_; rintro e W1 ⟨rfl, b1⟩; rw [HR.out, pairV]))
      go_ret3
      exact ⟨ret_trip (by rw [HX.out, HR.out]), b1⟩
    · have HX : Hid (lookR M (clo t) = (5, 1, 0)) := by rw [HE.out, hk]; exact rfl
      clear HE
      go_wp2_with (go_at_call 48; refine (class_any _ _).mono ?_; rintro e W1 ⟨rfl, hW1⟩; subst hW1; rw [hk])
      go_ret3
      exact ⟨ret_trip HX.out, Below.refl _ _⟩
end Go.Proofs.YtbadafkfjfbnlaaGreatDoor

namespace Go.Proofs.YtbadafkfjfbnlaaGreatDoor
open Go.RowKit

section
variable {P : Program} {ops : Array Oper} {Q : Exit → Act → World → Prop} {md : Region.Mode} {S : World → Prop} {fuel : Nat} {listed : Array Bool} {tm : Array Value} {df : List Deferred} {w : World}
  {op : Op} {ty0 : TypeId} {pos : String} {aft : Array Edge}

/-- The beginning: the number of operations is written out. -/
theorem mv_begin {id : Nat} {a : Act} (n : Nat) (hn : ops.size = n) (hm : P.follows .mixedOrders = true)
    (h : wpAnyH P .any ops Q S n (Array.replicate n false) a w.drew) : (Code.region id ops true).wp P Q a w := by
  subst hn
  exact wp_region_held hm h

/-- An operation that yields in every world that meets S is taken first. -/
theorem mv_run (i d : Nat) (v : Value) (hi : ops[i]? = some ⟨some d, op, ty0, pos, aft, none⟩) (hs : Region.noSelect ops = true) (hf : Region.free md ops listed i = true) (hr : (Region.ready md ops listed).contains i = true)
    (hQ : ∀ c a w, Q (.panic c) (a.put (some d) v) w → Q (.panic c) a w) (hrun : ∀ w, S w → (execOp (Act.eval ⟨tm, df⟩) ⟨some d, op, ty0, pos, aft, none⟩).run P w = .ok (.value v) w) (hS : S w)
    (h : wpAnyH P md ops Q S fuel (listed.setIfInBounds i true) ⟨tm.setIfInBounds d v, df⟩ w) : wpAnyH P md ops Q S (fuel + 1) listed ⟨tm, df⟩ w :=
  wpAnyH_take hi hs hf hr hQ (.inl ⟨rfl, hrun⟩) hS h

/-- A load of a whole row is taken first. -/
theorem mv_row (i d : Nat) (ty : TypeId) (x : Operand) (hi : ops[i]? = some ⟨some d, .load ty x, ty0, pos, aft, none⟩) (g : Nat) (t : TypeId) (cs : Array Value) (fr : Nat × Nat) (hx : Act.eval ⟨tm, df⟩ x = .pointer (some ⟨g, 0, none⟩))
    (hs : Region.noSelect ops = true) (hf : Region.free md ops listed i = true) (hr : (Region.ready md ops listed).contains i = true)
    (hQ : ∀ c a w, Q (.panic c) (a.put (some d) (.agg cs)) w → Q (.panic c) a w) (D : TypeDesc) (hrow : ∀ w, S w → w.heap[g]? = some (.cells cs t fr)) (hu : P.underlying ty = some D)
    (hd : (match D with | .struct _ | .array _ _ => true | _ => false) = true) (hsz : (P.info? ty).map (·.size) = some cs.size) (hS : S w)
    (h : wpAnyH P md ops Q S fuel (listed.setIfInBounds i true) ⟨tm.setIfInBounds d (.agg cs), df⟩ w) : wpAnyH P md ops Q S (fuel + 1) listed ⟨tm, df⟩ w :=
  mv_run i d (.agg cs) hi hs hf hr hQ (fun w' hw' => by
    unfold execOp
    simp only [hx, Instr.loadAt, Instr.sureAddr, Sem.run_bind, Sem.run_pure, Result.andThen_ok, run_loadVar_row w' g t ty cs fr D (hrow w' hw') hu hd hsz]) hS h

/-- A load of m numbers out of a row is taken first. -/
theorem mv_part (i d : Nat) (ty : TypeId) (x : Operand) (hi : ops[i]? = some ⟨some d, .load ty x, ty0, pos, aft, none⟩) (g o : Nat) (t : TypeId) (k : IntKind) (n m : Nat) (f : Nat → Int) (fr : Nat × Nat) (hx : Act.eval ⟨tm, df⟩ x = .pointer (some ⟨g, o, none⟩))
    (hs : Region.noSelect ops = true) (hf : Region.free md ops listed i = true) (hr : (Region.ready md ops listed).contains i = true)
    (hQ : ∀ c a w, Q (.panic c) (a.put (some d) (.agg (arr k m fun j => f (o + j)))) w → Q (.panic c) a w) (D : TypeDesc) (hrow : ∀ w, S w → w.heap[g]? = some (.cells (arr k n f) t fr)) (hm : o + m ≤ n) (hu : P.underlying ty = some D)
    (hd : D.isRow = true) (hsz : (P.info? ty).map (·.size) = some m) (hS : S w)
    (h : wpAnyH P md ops Q S fuel (listed.setIfInBounds i true) ⟨tm.setIfInBounds d (.agg (arr k m fun j => f (o + j))), df⟩ w) : wpAnyH P md ops Q S (fuel + 1) listed ⟨tm, df⟩ w :=
  mv_run i d (.agg (arr k m fun j => f (o + j))) hi hs hf hr hQ (fun w' hw' => by
    unfold execOp
    simp only [hx, Instr.loadAt, Instr.sureAddr, Sem.run_bind, Sem.run_pure, Result.andThen_ok, run_part (hrow w' hw') hm hu hd hsz]) hS h

/-- A load of m numbers whose cells are known one by one is taken first. -/
theorem mv_at (i d : Nat) (ty : TypeId) (x : Operand) (hi : ops[i]? = some ⟨some d, .load ty x, ty0, pos, aft, none⟩) (g o : Nat) (k : IntKind) (m : Nat) (f : Nat → Int) (hx : Act.eval ⟨tm, df⟩ x = .pointer (some ⟨g, o, none⟩))
    (hs : Region.noSelect ops = true) (hf : Region.free md ops listed i = true) (hr : (Region.ready md ops listed).contains i = true)
    (hQ : ∀ c a w, Q (.panic c) (a.put (some d) (.agg (arr k m f))) w → Q (.panic c) a w) (D : TypeDesc) (hc : ∀ w, S w → ∀ i, i < m → w.cell? ⟨g, o + i, none⟩ = some (.int k (f i))) (hu : P.underlying ty = some D)
    (hd : D.isRow = true) (hsz : (P.info? ty).map (·.size) = some m) (hS : S w)
    (h : wpAnyH P md ops Q S fuel (listed.setIfInBounds i true) ⟨tm.setIfInBounds d (.agg (arr k m f)), df⟩ w) : wpAnyH P md ops Q S (fuel + 1) listed ⟨tm, df⟩ w :=
  mv_run i d (.agg (arr k m f)) hi hs hf hr hQ (fun w' hw' => by
    unfold execOp
    simp only [hx, Instr.loadAt, Instr.sureAddr, Sem.run_bind, Sem.run_pure, Result.andThen_ok, run_at (hc w' hw') hu hd hsz]) hS h

/-- The one operation that may come up. -/
theorem mv_next (i : Nat) {dst : Option Tmp} (hi : ops[i]? = some ⟨dst, op, ty0, pos, aft, none⟩) (hr : Region.ready md ops listed = [i])
    (h : Oper.wp P ⟨dst, op, ty0, pos, aft, none⟩ ⟨tm, df⟩ w (fun a' w' => S w' ∧ wpAnyH P md ops Q S fuel (listed.setIfInBounds i true) a' w') Q) : wpAnyH P md ops Q S (fuel + 1) listed ⟨tm, df⟩ w :=
  next_one rfl hr hi rfl h

/-- .. a load of a whole row. -/
theorem mv_next_row (i d : Nat) (ty : TypeId) (x : Operand) (hi : ops[i]? = some ⟨some d, .load ty x, ty0, pos, aft, none⟩) (hr : Region.ready md ops listed = [i]) (g : Nat) (t : TypeId) (cs : Array Value) (fr : Nat × Nat) (hx : Act.eval ⟨tm, df⟩ x = .pointer (some ⟨g, 0, none⟩))
    (D : TypeDesc) (hrow : w.heap[g]? = some (.cells cs t fr)) (hu : P.underlying ty = some D) (hd : (match D with | .struct _ | .array _ _ => true | _ => false) = true) (hsz : (P.info? ty).map (·.size) = some cs.size) (hS : S w)
    (h : wpAnyH P md ops Q S fuel (listed.setIfInBounds i true) ⟨tm.setIfInBounds d (.agg cs), df⟩ w) : wpAnyH P md ops Q S (fuel + 1) listed ⟨tm, df⟩ w :=
  mv_next i hi hr (wp_load_row ty x rfl g hx t cs fr D hrow hu hd hsz ⟨hS, h⟩)

/-- .. a store of a whole row. -/
theorem mv_next_store (i : Nat) (ty : TypeId) (x y : Operand) (hi : ops[i]? = some ⟨none, .store ty x y, ty0, pos, aft, none⟩) (hr : Region.ready md ops listed = [i]) (g : Nat) (t : TypeId) (cells old : Array Value) (hx : Act.eval ⟨tm, df⟩ x = .pointer (some ⟨g, 0, none⟩)) (hy : Act.eval ⟨tm, df⟩ y = .agg cells)
    (hg : w.heap[g]? = some (.cells old t (0, 0))) (hsz : (P.info? ty).map (·.size) = some cells.size) (hold : old.size = cells.size) (h1 : cells.all (·.oneCell') = true) (hS : S (w.setRow g cells))
    (h : wpAnyH P md ops Q S fuel (listed.setIfInBounds i true) ⟨tm, df⟩ (w.setRow g cells)) : wpAnyH P md ops Q S (fuel + 1) listed ⟨tm, df⟩ w :=
  mv_next i hi hr (wp_store_row ty x y rfl g cells hx hy t old hg hsz hold h1 ⟨hS, h⟩)
end
end Go.Proofs.YtbadafkfjfbnlaaGreatDoor

namespace Go.Proofs.YtbadafkfjfbnlaaGreatDoor
open Go.RowKit

section
variable {P : Program} {ops : Array Oper} {Q : Exit → Act → World → Prop} {md : Region.Mode} {S : World → Prop} {fuel : Nat} {listed : Array Bool} {tm : Array Value} {df : List Deferred} {w : World}
  {op : Op} {ty0 : TypeId} {pos : String} {aft : Array Edge}
/-- The moves at an operation with a guard. -/
theorem mv_rung (i d : Nat) (v : Value) {gd : Option (Nat × Bool)} (hi : ops[i]? = some ⟨some d, op, ty0, pos, aft, gd⟩) (hw : Region.wanted ⟨some d, op, ty0, pos, aft, gd⟩ (yielded ops tm) = true) (hs : Region.noSelect ops = true) (hf : Region.free md ops listed i = true) (hr : (Region.ready md ops listed).contains i = true)
    (hQ : ∀ c a w, Q (.panic c) (a.put (some d) v) w → Q (.panic c) a w) (hrun : ∀ w, S w → (execOp (Act.eval ⟨tm, df⟩) ⟨some d, op, ty0, pos, aft, gd⟩).run P w = .ok (.value v) w) (hS : S w)
    (h : wpAnyH P md ops Q S fuel (listed.setIfInBounds i true) ⟨tm.setIfInBounds d v, df⟩ w) : wpAnyH P md ops Q S (fuel + 1) listed ⟨tm, df⟩ w :=
  wpAnyH_take hi hs hf hr hQ (.inl ⟨hw, hrun⟩) hS h
theorem mv_skip (i d : Nat) {gd : Option (Nat × Bool)} (hi : ops[i]? = some ⟨some d, op, ty0, pos, aft, gd⟩) (hw : Region.wanted ⟨some d, op, ty0, pos, aft, gd⟩ (yielded ops tm) = false) (hs : Region.noSelect ops = true) (hf : Region.free md ops listed i = true) (hr : (Region.ready md ops listed).contains i = true)
    (hQ : ∀ c a w, Q (.panic c) (a.put (some d) undef) w → Q (.panic c) a w) (hS : S w)
    (h : wpAnyH P md ops Q S fuel (listed.setIfInBounds i true) ⟨tm.setIfInBounds d undef, df⟩ w) : wpAnyH P md ops Q S (fuel + 1) listed ⟨tm, df⟩ w :=
  wpAnyH_take hi hs hf hr hQ (.inr ⟨hw, rfl⟩) hS h
theorem mv_rowg (i d : Nat) (ty : TypeId) (x : Operand) {gd : Option (Nat × Bool)} (hi : ops[i]? = some ⟨some d, .load ty x, ty0, pos, aft, gd⟩) (hw : Region.wanted ⟨some d, .load ty x, ty0, pos, aft, gd⟩ (yielded ops tm) = true) (g : Nat) (t : TypeId) (cs : Array Value) (fr : Nat × Nat) (hx : Act.eval ⟨tm, df⟩ x = .pointer (some ⟨g, 0, none⟩))
    (hs : Region.noSelect ops = true) (hf : Region.free md ops listed i = true) (hr : (Region.ready md ops listed).contains i = true)
    (hQ : ∀ c a w, Q (.panic c) (a.put (some d) (.agg cs)) w → Q (.panic c) a w) (D : TypeDesc) (hrow : ∀ w, S w → w.heap[g]? = some (.cells cs t fr)) (hu : P.underlying ty = some D)
    (hd : (match D with | .struct _ | .array _ _ => true | _ => false) = true) (hsz : (P.info? ty).map (·.size) = some cs.size) (hS : S w)
    (h : wpAnyH P md ops Q S fuel (listed.setIfInBounds i true) ⟨tm.setIfInBounds d (.agg cs), df⟩ w) : wpAnyH P md ops Q S (fuel + 1) listed ⟨tm, df⟩ w :=
  mv_rung i d (.agg cs) hi hw hs hf hr hQ (fun w' hw' => by
    unfold execOp
    simp only [hx, Instr.loadAt, Instr.sureAddr, Sem.run_bind, Sem.run_pure, Result.andThen_ok, run_loadVar_row w' g t ty cs fr D (hrow w' hw') hu hd hsz]) hS h
theorem mv_nextg (i : Nat) {dst : Option Tmp} {gd : Option (Nat × Bool)} (hi : ops[i]? = some ⟨dst, op, ty0, pos, aft, gd⟩) (hw : Region.wanted ⟨dst, op, ty0, pos, aft, gd⟩ (yielded ops tm) = true) (hr : Region.ready md ops listed = [i])
    (h : Oper.wp P ⟨dst, op, ty0, pos, aft, gd⟩ ⟨tm, df⟩ w (fun a' w' => S w' ∧ wpAnyH P md ops Q S fuel (listed.setIfInBounds i true) a' w') Q) : wpAnyH P md ops Q S (fuel + 1) listed ⟨tm, df⟩ w := by
  refine wpAnyH_all hr (by simp) fun j hj => ?_
  obtain rfl : j = i := by simpa using hj
  unfold wpOp
  simp only [hi, hw, if_true]
  exact .inl h
end
end Go.Proofs.YtbadafkfjfbnlaaGreatDoor

namespace Go.Proofs.YtbadafkfjfbnlaaGreatDoor
open Go.RowKit

/-- A lexer's cells: the last token, the text, the place, the tokens. -/
def lxC (t : Tok) (tv : Value) (p : Nat) (vt : Value) : Array Value := #[.int .i64 t.kind, .string t.text, .int .i64 t.pos, tv, .int .i64 p, vt]
theorem OwnG.ne {α : Type} {e : TypeId} {m : Nat} {f : α → Array Value} {B : Nat} {w : World} {v : Value} {xs : List α} (h : OwnG e m f B w v xs) {g : Nat} {cs : Array Value} {e' : TypeId} {fr : Nat × Nat} (hg : w.heap[g]? = some (.cells cs e' fr)) (hne : e ≠ e') : v.ownBlock ≠ some g := by
  rcases h.2 with ⟨rfl, h0⟩ | ⟨g', cap, cur, rfl, h1, h2, h3⟩
  · exact fun h => by cases h
  · intro hh
    have e1 : g' = g := by simpa [Value.ownBlock] using hh
    subst e1
    rw [hg] at h2
    injection h2 with h2
    injection h2 with h2 h4
    exact hne h4.symm
/-- All but a block and a slice's own row is as it was. -/
structure Kept (g : Nat) (v : Value) (w w' : World) : Prop where
  os : w'.os = w.os
  tape : w'.tape = w.tape
  output : w'.output = w.output
  size : w.heap.size ≤ w'.heap.size
  block : ∀ k, k < w.heap.size → k ≠ g → v.ownBlock ≠ some k → w'.heap[k]? = w.heap[k]?
theorem Kept.below {g : Nat} {v : Value} {w w' : World} (h : Kept g v w w') {B : Nat} {e : TypeId} {m : Nat} {α : Type} {f : α → Array Value} {xs : List α} (ho : OwnG e m f B w v xs) (hB : B ≤ g) (hw : B ≤ w.heap.size) : Below B w w' :=
  ⟨h.os, h.tape, h.output, h.size, fun k hk => h.block k (by omega) (by omega) (fun e => by have := (ho.lt e).1; omega)⟩
theorem Kept.row {g : Nat} {v : Value} {w w' : World} (h : Kept g v w w') {α : Type} {e : TypeId} {m : Nat} {f : α → Array Value} {B : Nat} {xs : List α} (ho : OwnG e m f B w v xs) {j : Nat} {cs : Array Value} {e' : TypeId} {fr : Nat × Nat} (hj : w.heap[j]? = some (.cells cs e' fr)) (hne : e ≠ e') (hg : j ≠ g) : w'.heap[j]? = some (.cells cs e' fr) :=
  (h.block j (lt_of_row hj) hg (ho.ne hj hne)).trans hj
theorem bldTok (e : Tok) (W : World) : (Instr.buildSlice 32 1 #[(0, .agg e.cells)]).run Tryz.prog W = .ok (.slice (some ⟨W.heap.size, 0, none⟩) 1 1) (W.alloc (.cells e.cells 60)) := by kernel_rfl
theorem wpOp_plain {P : Program} {ops : Array Oper} {Q : Exit → Act → World → Prop} {K : Act → World → Prop} {a : Act} {w : World} {i : Nat} {oi : Oper} (hi : ops[i]? = some oi) (hg : oi.guard = none) (h : oi.wp P a w K Q) : wpOp P ops Q i K a w := by
  unfold wpOp
  simp only [hi, wanted_plain hg, if_true]
  exact .inl h
theorem op_buildOne {P : Program} {Q : Exit → Act → World → Prop} {K : Act → World → Prop} {a : Act} {w w' : World} {o : Oper} {v : Value} (ty : TypeId) (x : Operand) (ho : o.op = .buildSlice ty 1 #[(0, x)]) (u : Value) (hx : a.eval x = u)
    (hr : (Instr.buildSlice ty 1 #[(0, u)]).run P w = .ok v w') (h : K (a.put o.dst v) w') : o.wp P a w K Q := by
  unfold Oper.wp execOp
  simp only [ho, Sem.run_bind, Sem.run_pure, Result.andThen_ok, List.map_toArray, List.map_cons, List.map_nil, hx, hr]
  exact h
theorem op_value {P : Program} {Q : Exit → Act → World → Prop} {K : Act → World → Prop} {a : Act} {w : World} {o : Oper} (v : Value) (hr : (execOp a.eval o).run P w = .ok (.value v) w) (h : K (a.put o.dst v) w) : o.wp P a w K Q := by
  unfold Oper.wp
  simp only [hr]
  exact h
theorem load_lx {w : World} {g : Nat} {t : Tok} {tv vt : Value} {p : Nat} (h : w.heap[g]? = some (.cells (lxC t tv p vt) 77 (0, 0))) : (loadVar 60 ⟨g, 0, none⟩).run Tryz.prog w = .ok (.agg t.cells) w :=
  run_mid (cs := t.cells) (fun j u hu => by
    have hj : j < 3 := (Array.getElem?_eq_some_iff.1 hu).1
    rw [cell_of_row _ _ _ _ _ _ h, Nat.zero_add, ← hu]
    match j, hj with
    | 0, _ => rfl
    | 1, _ => rfl
    | 2, _ => rfl) Tryz.underlying60 rfl (by kernel_rfl)
theorem load_toks {w : World} {a : Addr} {st : Option Addr} {n c : Nat} (h : w.cell? a = some (.slice st n c)) : (loadVar 32 a).run Tryz.prog w = .ok (.slice st n c) w := by go_simp
theorem exec_load {P : Program} {ρ : Operand → Value} {o : Oper} {ty : TypeId} {x : Operand} {p : Addr} {v : Value} {w : World} (ho : o.op = .load ty x) (hx : ρ x = .pointer (some p)) (hl : (loadVar ty p).run P w = .ok v w) : (execOp ρ o).run P w = .ok (.value v) w := by
  unfold execOp
  simp only [ho, hx, Instr.loadAt, Instr.sureAddr, Sem.run_bind, Sem.run_pure, Result.andThen_ok, hl]
set_option maxRecDepth 100000 in
set_option maxHeartbeats 4000000 in
theorem take_any (B g : Nat) (t : Tok) (b o cap p : Nat) (L : List UInt8) (vt : Value) (ts : List Tok) (k : Int) (n : Nat) (w : World) (hrow : w.heap[g]? = some (.cells (lxC t (.slice (some ⟨b, o, none⟩) L.length cap) p vt) 77 (0, 0)))
    (hL : BA w (some ⟨b, o, none⟩) L) (hT : OwnT B w vt ts) (hlen : p + n ≤ L.length) (hcap : L.length ≤ cap) (hl : L.length ≤ 100000) (hts : ts.length < 1024) (hk : k ≠ 0) (hB : B ≤ g) :
    Calls Tryz.prog 37 #[.pointer (some ⟨g, 0, none⟩), .int .i64 k, .int .i64 n] w fun e w' => e = .returned (.int .i64 0) ∧ ∃ vt', w'.heap[g]? = some (.cells (lxC ⟨k, strU ((L.drop p).take n), p⟩ (.slice (some ⟨b, o, none⟩) L.length cap) (p + n) vt') 77 (0, 0)) ∧ OwnT B w' vt' (ts ++ [⟨k, strU ((L.drop p).take n), p⟩]) ∧ Kept g vt w w' := by
  obtain ⟨st, ct, rfl⟩ := OwnG.shape hT
  have HR : Hid (w.heap[g]? = some (.cells (lxC t (.slice (some ⟨b, o, none⟩) L.length cap) p (.slice st ts.length ct)) 77 (0, 0))) := hrow
  unfold lxC at hrow
  have c0 := (cell_of_row w g 0 _ _ _ hrow).trans rfl
  have c1 := (cell_of_row w g 1 _ _ _ hrow).trans rfl
  have c2 := (cell_of_row w g 2 _ _ _ hrow).trans rfl
  have c3 := (cell_of_row w g 3 _ _ _ hrow).trans rfl
  have c4 := (cell_of_row w g 4 _ _ _ hrow).trans rfl
  have c5 := (cell_of_row w g 5 _ _ _ hrow).trans rfl
  have z0 : ∀ j, w.frozen? ⟨g, j, none⟩ = false := fun j => frozen_of_row _ _ _ _ _ hrow
  have hk' : (k != 0) = true := by simpa using hk
  have hts' : ((ts.length : Int) == 1024) = false := by rw [beq_eq_false_iff_ne]; omega
  have hb1 : Below w.heap.size w w.drew := (Below.refl _ _).drew
  have hdl : ((L.drop p).take n).length = p + n - p := by rw [List.length_take, List.length_drop]; omega
  have hcv := conv_str ((BA.cut (hL.below hb1) p hcap).take n) (cap - p)
  rw [hdl] at hcv
  have hcv2 := hcv
  rw [show p + n - p = n by omega] at hcv2
  obtain ⟨s1, HS1⟩ : ∃ s1, Hid (strU ((L.drop p).take n) = s1) := ⟨_, rfl⟩
  rw [HS1.out] at hcv hcv2 ⊢
  have HT : Hid (OwnT B w (.slice st ts.length ct) ts) := hT
  clear hL hT hrow hb1 hdl
  go_enter Tryz.func37, Tryz.ntmps37
  go_wp2
  go_region
  generalize (if cap = p then some (⟨b, o, none⟩ : Addr) else some ⟨b, o + p, none⟩) = X
  go_wp2
  clear hcv hcv2 c0 c1 c2 c3 c4 c5 z0
  have r1 : (w.setCell ⟨g, 0, none⟩ (.int .i64 k)).heap[g]? = _ := heap_setCell_same _ _ _ _ _ _ HR.out
  have r2 : ((w.setCell ⟨g, 0, none⟩ (.int .i64 k)).setCell ⟨g, 1, none⟩ (.string s1)).heap[g]? = _ := heap_setCell_same _ _ _ _ _ _ r1
  have r3 : (((w.setCell ⟨g, 0, none⟩ (.int .i64 k)).setCell ⟨g, 1, none⟩ (.string s1)).setCell ⟨g, 2, none⟩ (.int .i64 p)).heap[g]? = _ := heap_setCell_same _ _ _ _ _ _ r2
  have ho : ∀ j, j ≠ g → (((w.setCell ⟨g, 0, none⟩ (.int .i64 k)).setCell ⟨g, 1, none⟩ (.string s1)).setCell ⟨g, 2, none⟩ (.int .i64 p)).heap[j]? = w.heap[j]? := fun j hj => (heap_setCell_other _ _ _ _ hj).trans ((heap_setCell_other _ _ _ _ hj).trans (heap_setCell_other _ _ _ _ hj))
  refine wp_gen (fun W => W.heap[g]? = some (.cells (lxC ⟨k, s1, p⟩ (.slice (some ⟨b, o, none⟩) L.length cap) p (.slice st ts.length ct)) 77 (0, 0)) ∧ OwnT B W (.slice st ts.length ct) ts ∧ Kept g (.slice st ts.length ct) w W) ⟨r3, ?_, ?_⟩ ?_
  · exact OwnG.keep HT.out fun j hj => ho j (fun e => OwnG.ne HT.out HR.out (by decide) (e ▸ hj))
  · exact ⟨rfl, rfl, rfl, by simp, fun j _ hj _ => ho j hj⟩
  clear r1 r2 r3 ho HR HT
  intro W2 ⟨hrow, hT, hK⟩
  have HR : Hid (W2.heap[g]? = some (.cells (lxC ⟨k, s1, p⟩ (.slice (some ⟨b, o, none⟩) L.length cap) p (.slice st ts.length ct)) 77 (0, 0))) := hrow
  have HK : Hid (Kept g (.slice st ts.length ct) w W2) := hK
  have HT : Hid (OwnT B W2 (.slice st ts.length ct) ts) := hT
  unfold lxC at hrow
  have c0 := (cell_of_row W2 g 0 _ _ _ hrow).trans rfl
  have c1 := (cell_of_row W2 g 1 _ _ _ hrow).trans rfl
  have c2 := (cell_of_row W2 g 2 _ _ _ hrow).trans rfl
  have c5 := (cell_of_row W2 g 5 _ _ _ hrow).trans rfl
  clear hT hK hrow
  have hsz : W2.drew.heap.size = W2.heap.size := rfl
  have bA : Below W2.heap.size W2 (W2.drew.alloc (.cells #[.int .i64 k, .string s1, .int .i64 p] 60)) := (Below.refl _ _).drew.alloc (Nat.le_refl _) _
  have hTA : OwnT B (W2.drew.alloc (.cells #[.int .i64 k, .string s1, .int .i64 p] 60)) (.slice st ts.length ct) ts := OwnG.below HT.out bA
  have hBs : B ≤ W2.heap.size := by have := lt_of_row HR.out; omega
  obtain ⟨v', W3, hr, hT3, hg3, hbk⟩ := own_run elT (ys := [(⟨k, s1, p⟩ : Tok)]) (sp := some ⟨W2.heap.size, 0, none⟩) (cap := 1) 32 hTA (fun h => by cases h) (oneG_rows (x := (⟨k, s1, p⟩ : Tok)) (heap_alloc_new W2.drew _)) (by simp; omega) (by simp; omega)
  obtain ⟨st3, ct3, rfl⟩ := OwnG.shape hT3
  rw [show (ts ++ [(⟨k, s1, p⟩ : Tok)]).length = ts.length + 1 by simp] at hr hT3
  have R3 : W3.heap[g]? = some (.cells (lxC ⟨k, s1, p⟩ (.slice (some ⟨b, o, none⟩) L.length cap) p (.slice st ts.length ct)) 77 (0, 0)) := by
    have rA := (bA.block g (lt_of_row HR.out)).trans HR.out
    exact (hg3.block g (lt_of_row rA) (fun e => OwnG.ne hTA rA (by decide) e.symm)).trans rA
  have d4 : W3.cell? ⟨g, 4, none⟩ = some (.int .i64 p) := (cell_of_row W3 g 4 _ _ _ R3).trans rfl
  have d5 : W3.cell? ⟨g, 5, none⟩ = some (.slice st ts.length ct) := (cell_of_row W3 g 5 _ _ _ R3).trans rfl
  have z3 : ∀ j, W3.frozen? ⟨g, j, none⟩ = false := fun j => frozen_of_row _ _ _ _ _ R3
  have HR3 : Hid (W3.heap[g]? = some (.cells (lxC ⟨k, s1, p⟩ (.slice (some ⟨b, o, none⟩) L.length cap) p (.slice st ts.length ct)) 77 (0, 0))) := R3
  have HT3 : Hid (OwnT B W3 (.slice st3 (ts.length + 1) ct3) (ts ++ [⟨k, s1, p⟩])) := hT3
  have HK3 : Hid (Kept g (.slice st ts.length ct) w W3) := ⟨hg3.os.trans (bA.os.trans HK.out.os), hg3.tape.trans (bA.tape.trans HK.out.tape), hg3.output.trans (bA.output.trans HK.out.output), Nat.le_trans HK.out.size (Nat.le_trans bA.size hg3.size), fun j hj hjg hjv =>
    (hg3.block j (Nat.lt_of_lt_of_le hj (Nat.le_trans HK.out.size bA.size)) (fun e => hjv e.symm)).trans ((bA.block j (Nat.lt_of_lt_of_le hj HK.out.size)).trans (HK.out.block j hj hjg hjv))⟩
  clear hT3 hg3 hbk hTA HT HK
  have hS0 : ∃ x, W2.drew.heap[g]? = some (.cells (lxC ⟨k, s1, p⟩ (.slice (some ⟨b, o, none⟩) L.length cap) p x) 77 (0, 0)) := ⟨_, HR.out⟩
  have hS1 : ∃ x, (W2.drew.alloc (.cells #[.int .i64 k, .string s1, .int .i64 p] 60)).heap[g]? = some (.cells (lxC ⟨k, s1, p⟩ (.slice (some ⟨b, o, none⟩) L.length cap) p x) 77 (0, 0)) := ⟨_, (bA.block g (lt_of_row HR.out)).trans HR.out⟩
  have hS2 : ∃ x, W3.heap[g]? = some (.cells (lxC ⟨k, s1, p⟩ (.slice (some ⟨b, o, none⟩) L.length cap) p x) 77 (0, 0)) := ⟨_, R3⟩
  have e5 : (W2.drew.alloc (.cells #[.int .i64 k, .string s1, .int .i64 p] 60)).cell? ⟨g, 5, none⟩ = some (.slice st ts.length ct) := (cell_of_row _ g 5 _ _ _ ((bA.block g (lt_of_row HR.out)).trans HR.out)).trans rfl
  clear R3 bA
  refine mv_begin (S := fun w' => ∃ x, w'.heap[g]? = some (.cells (lxC ⟨k, s1, p⟩ (.slice (some ⟨b, o, none⟩) L.length cap) p x) 77 (0, 0))) 15 rfl (by kernel_rfl) ?_
  refine mv_rung 0 41 (.pointer (some ⟨g, 0, none⟩)) rfl (by rfl) (by kernel_rfl) (by kernel_rfl) (by kernel_rfl) (fun _ _ _ h => h) (fun w' _ => by first | rfl | go_simp) hS0 ?_
  simp only [List.setIfInBounds_toArray, List.set_cons_succ, List.set_cons_zero]
  refine mv_rung 1 42 (.pointer (some ⟨g, 0, none⟩)) rfl (by rfl) (by kernel_rfl) (by kernel_rfl) (by kernel_rfl) (fun _ _ _ h => h) (fun w' _ => by first | rfl | go_simp) hS0 ?_
  simp only [List.setIfInBounds_toArray, List.set_cons_succ, List.set_cons_zero]
  refine mv_rung 2 43 (.pointer (some ⟨g, 0, none⟩)) rfl (by rfl) (by kernel_rfl) (by kernel_rfl) (by kernel_rfl) (fun _ _ _ h => h) (fun w' _ => by first | rfl | go_simp) hS0 ?_
  simp only [List.setIfInBounds_toArray, List.set_cons_succ, List.set_cons_zero]
  refine mv_rung 3 44 (.pointer (some ⟨g, 5, none⟩)) rfl (by rfl) (by kernel_rfl) (by kernel_rfl) (by kernel_rfl) (fun _ _ _ h => h) (fun w' _ => by first | rfl | go_simp) hS0 ?_
  simp only [List.setIfInBounds_toArray, List.set_cons_succ, List.set_cons_zero]
  refine mv_rung 5 46 (.pointer (some ⟨g, 0, none⟩)) rfl (by rfl) (by kernel_rfl) (by kernel_rfl) (by kernel_rfl) (fun _ _ _ h => h) (fun w' _ => by first | rfl | go_simp) hS0 ?_
  simp only [List.setIfInBounds_toArray, List.set_cons_succ, List.set_cons_zero]
  refine mv_rung 6 47 (.pointer (some ⟨g, 0, none⟩)) rfl (by rfl) (by kernel_rfl) (by kernel_rfl) (by kernel_rfl) (fun _ _ _ h => h) (fun w' _ => by first | rfl | go_simp) hS0 ?_
  simp only [List.setIfInBounds_toArray, List.set_cons_succ, List.set_cons_zero]
  refine mv_rung 7 48 (.pointer (some ⟨g, 0, none⟩)) rfl (by rfl) (by kernel_rfl) (by kernel_rfl) (by kernel_rfl) (fun _ _ _ h => h) (fun w' _ => by first | rfl | go_simp) hS0 ?_
  simp only [List.setIfInBounds_toArray, List.set_cons_succ, List.set_cons_zero]
  refine mv_rung 8 49 (.pointer (some ⟨g, 0, none⟩)) rfl (by rfl) (by kernel_rfl) (by kernel_rfl) (by kernel_rfl) (fun _ _ _ h => h) (fun w' _ => by first | rfl | go_simp) hS0 ?_
  simp only [List.setIfInBounds_toArray, List.set_cons_succ, List.set_cons_zero]
  refine mv_rung 9 50 (.agg #[.int .i64 k, .string s1, .int .i64 p]) rfl (by rfl) (by kernel_rfl) (by kernel_rfl) (by kernel_rfl) (fun _ _ _ h => h) (fun w' hw' => by obtain ⟨x, hx⟩ := hw'; exact exec_load rfl rfl (load_lx hx)) hS0 ?_
  simp only [List.setIfInBounds_toArray, List.set_cons_succ, List.set_cons_zero]
  refine wpAnyH_all (rs := [4, 10]) (by kernel_rfl) (by simp) fun i hi => ?_
  simp only [List.mem_cons, List.not_mem_nil, or_false] at hi
  rcases hi with rfl | rfl
  · refine wpOp_plain rfl rfl ?_
    refine op_value (.slice st ts.length ct) (by go_simp) ?_
    refine ⟨hS0, ?_⟩
    simp only [Act.put]
    refine mv_next 10 rfl (by kernel_rfl) ?_
    refine op_buildOne 32 (.tmp 50) rfl (.agg #[.int .i64 k, .string s1, .int .i64 p]) rfl (bldTok ⟨k, s1, p⟩ _) ?_
    refine ⟨hS1, ?_⟩
    simp only [Act.put]
    refine mv_next 11 rfl (by kernel_rfl) ?_
    refine op_append (.tmp 45) (.tmp 51) 32 rfl rfl rfl hr ?_
    refine ⟨hS2, ?_⟩
    simp only [Act.put]
    refine mv_rung 12 53 (.pointer (some ⟨g, 0, none⟩)) rfl (by rfl) (by kernel_rfl) (by kernel_rfl) (by kernel_rfl) (fun _ _ _ h => h) (fun w' _ => by first | rfl | go_simp) hS2 ?_
    simp only [List.setIfInBounds_toArray, List.set_cons_succ, List.set_cons_zero]
    refine mv_rung 13 54 (.pointer (some ⟨g, 5, none⟩)) rfl (by rfl) (by kernel_rfl) (by kernel_rfl) (by kernel_rfl) (fun _ _ _ h => h) (fun w' _ => by first | rfl | go_simp) hS2 ?_
    simp only [List.setIfInBounds_toArray, List.set_cons_succ, List.set_cons_zero]
    refine mv_next 14 rfl (by kernel_rfl) ?_
    go_simp
    have r4 : (W3.setCell ⟨g, 5, none⟩ (.slice st3 (ts.length + 1) ct3)).heap[g]? = some (.cells (lxC ⟨k, s1, p⟩ (.slice (some ⟨b, o, none⟩) L.length cap) p (.slice st3 (ts.length + 1) ct3)) 77 (0, 0)) := heap_setCell_same _ _ _ _ _ _ HR3.out
    have ho : ∀ j, j ≠ g → (W3.setCell ⟨g, 5, none⟩ (.slice st3 (ts.length + 1) ct3)).heap[j]? = W3.heap[j]? := fun j hj => heap_setCell_other _ _ _ _ hj
    refine ⟨⟨_, r4⟩, ?_⟩
    refine wpAnyH_done (by kernel_rfl) ?_ _
    have hT4 : OwnT B (W3.setCell ⟨g, 5, none⟩ (.slice st3 (ts.length + 1) ct3)) (.slice st3 (ts.length + 1) ct3) (ts ++ [⟨k, s1, p⟩]) := OwnG.keep HT3.out fun j hj => ho j (fun e => OwnG.ne HT3.out HR3.out (by decide) (e ▸ hj))
    have hK4 : Kept g (.slice st ts.length ct) w (W3.setCell ⟨g, 5, none⟩ (.slice st3 (ts.length + 1) ct3)) := ⟨HK3.out.os, HK3.out.tape, HK3.out.output, by have := HK3.out.size; simpa using this, fun j h1 h2 h3 => (ho j h2).trans (HK3.out.block j h1 h2 h3)⟩
    clear ho d4 d5 z3 hS0 hS1 hS2 hr e5 c0 c1 c2 c5 HR3 HT3 HK3
    generalize W3.setCell ⟨g, 5, none⟩ (.slice st3 (ts.length + 1) ct3) = W4 at r4 hT4 hK4
    have HR4 : Hid (W4.heap[g]? = some (.cells (lxC ⟨k, s1, p⟩ (.slice (some ⟨b, o, none⟩) L.length cap) p (.slice st3 (ts.length + 1) ct3)) 77 (0, 0))) := r4
    have HT4 : Hid (OwnT B W4 (.slice st3 (ts.length + 1) ct3) (ts ++ [⟨k, s1, p⟩])) := hT4
    have HK4 : Hid (Kept g (.slice st ts.length ct) w W4) := hK4
    have d4 : W4.cell? ⟨g, 4, none⟩ = some (.int .i64 p) := (cell_of_row W4 g 4 _ _ _ r4).trans rfl
    have z4 : W4.frozen? ⟨g, 4, none⟩ = false := frozen_of_row _ _ _ _ _ r4
    clear r4 hT4 hK4
    go_wp2
    go_ret
    have r5 : (W4.setCell ⟨g, 4, none⟩ (.int .i64 (p + n))).heap[g]? = some (.cells (lxC ⟨k, s1, p⟩ (.slice (some ⟨b, o, none⟩) L.length cap) (p + n) (.slice st3 (ts.length + 1) ct3)) 77 (0, 0)) := (heap_setCell_same _ _ _ _ _ _ HR4.out).trans rfl
    have ho : ∀ j, j ≠ g → (W4.setCell ⟨g, 4, none⟩ (.int .i64 (p + n))).heap[j]? = W4.heap[j]? := fun j hj => heap_setCell_other _ _ _ _ hj
    exact ⟨rfl, _, r5, OwnG.keep HT4.out fun j hj => ho j (fun e => OwnG.ne HT4.out HR4.out (by decide) (e ▸ hj)), ⟨HK4.out.os, HK4.out.tape, HK4.out.output, by have := HK4.out.size; simpa using this, fun j h1 h2 h3 => (ho j h2).trans (HK4.out.block j h1 h2 h3)⟩⟩
  · refine wpOp_plain rfl rfl ?_
    refine op_buildOne 32 (.tmp 50) rfl (.agg #[.int .i64 k, .string s1, .int .i64 p]) rfl (bldTok ⟨k, s1, p⟩ _) ?_
    refine ⟨hS1, ?_⟩
    simp only [Act.put]
    refine mv_next 4 rfl (by kernel_rfl) ?_
    refine op_value (.slice st ts.length ct) (exec_load (p := ⟨g, 5, none⟩) rfl rfl (load_toks e5)) ?_
    refine ⟨hS1, ?_⟩
    simp only [Act.put]
    refine mv_next 11 rfl (by kernel_rfl) ?_
    refine op_append (.tmp 45) (.tmp 51) 32 rfl rfl rfl hr ?_
    refine ⟨hS2, ?_⟩
    simp only [Act.put]
    refine mv_rung 12 53 (.pointer (some ⟨g, 0, none⟩)) rfl (by rfl) (by kernel_rfl) (by kernel_rfl) (by kernel_rfl) (fun _ _ _ h => h) (fun w' _ => by first | rfl | go_simp) hS2 ?_
    simp only [List.setIfInBounds_toArray, List.set_cons_succ, List.set_cons_zero]
    refine mv_rung 13 54 (.pointer (some ⟨g, 5, none⟩)) rfl (by rfl) (by kernel_rfl) (by kernel_rfl) (by kernel_rfl) (fun _ _ _ h => h) (fun w' _ => by first | rfl | go_simp) hS2 ?_
    simp only [List.setIfInBounds_toArray, List.set_cons_succ, List.set_cons_zero]
    refine mv_next 14 rfl (by kernel_rfl) ?_
    go_simp
    have r4 : (W3.setCell ⟨g, 5, none⟩ (.slice st3 (ts.length + 1) ct3)).heap[g]? = some (.cells (lxC ⟨k, s1, p⟩ (.slice (some ⟨b, o, none⟩) L.length cap) p (.slice st3 (ts.length + 1) ct3)) 77 (0, 0)) := heap_setCell_same _ _ _ _ _ _ HR3.out
    have ho : ∀ j, j ≠ g → (W3.setCell ⟨g, 5, none⟩ (.slice st3 (ts.length + 1) ct3)).heap[j]? = W3.heap[j]? := fun j hj => heap_setCell_other _ _ _ _ hj
    refine ⟨⟨_, r4⟩, ?_⟩
    refine wpAnyH_done (by kernel_rfl) ?_ _
    have hT4 : OwnT B (W3.setCell ⟨g, 5, none⟩ (.slice st3 (ts.length + 1) ct3)) (.slice st3 (ts.length + 1) ct3) (ts ++ [⟨k, s1, p⟩]) := OwnG.keep HT3.out fun j hj => ho j (fun e => OwnG.ne HT3.out HR3.out (by decide) (e ▸ hj))
    have hK4 : Kept g (.slice st ts.length ct) w (W3.setCell ⟨g, 5, none⟩ (.slice st3 (ts.length + 1) ct3)) := ⟨HK3.out.os, HK3.out.tape, HK3.out.output, by have := HK3.out.size; simpa using this, fun j h1 h2 h3 => (ho j h2).trans (HK3.out.block j h1 h2 h3)⟩
    clear ho d4 d5 z3 hS0 hS1 hS2 hr e5 c0 c1 c2 c5 HR3 HT3 HK3
    generalize W3.setCell ⟨g, 5, none⟩ (.slice st3 (ts.length + 1) ct3) = W4 at r4 hT4 hK4
    have HR4 : Hid (W4.heap[g]? = some (.cells (lxC ⟨k, s1, p⟩ (.slice (some ⟨b, o, none⟩) L.length cap) p (.slice st3 (ts.length + 1) ct3)) 77 (0, 0))) := r4
    have HT4 : Hid (OwnT B W4 (.slice st3 (ts.length + 1) ct3) (ts ++ [⟨k, s1, p⟩])) := hT4
    have HK4 : Hid (Kept g (.slice st ts.length ct) w W4) := hK4
    have d4 : W4.cell? ⟨g, 4, none⟩ = some (.int .i64 p) := (cell_of_row W4 g 4 _ _ _ r4).trans rfl
    have z4 : W4.frozen? ⟨g, 4, none⟩ = false := frozen_of_row _ _ _ _ _ r4
    clear r4 hT4 hK4
    go_wp2
    go_ret
    have r5 : (W4.setCell ⟨g, 4, none⟩ (.int .i64 (p + n))).heap[g]? = some (.cells (lxC ⟨k, s1, p⟩ (.slice (some ⟨b, o, none⟩) L.length cap) (p + n) (.slice st3 (ts.length + 1) ct3)) 77 (0, 0)) := (heap_setCell_same _ _ _ _ _ _ HR4.out).trans rfl
    have ho : ∀ j, j ≠ g → (W4.setCell ⟨g, 4, none⟩ (.int .i64 (p + n))).heap[j]? = W4.heap[j]? := fun j hj => heap_setCell_other _ _ _ _ hj
    exact ⟨rfl, _, r5, OwnG.keep HT4.out fun j hj => ho j (fun e => OwnG.ne HT4.out HR4.out (by decide) (e ▸ hj)), ⟨HK4.out.os, HK4.out.tape, HK4.out.output, by have := HK4.out.size; simpa using this, fun j h1 h2 h3 => (ho j h2).trans (HK4.out.block j h1 h2 h3)⟩⟩
end Go.Proofs.YtbadafkfjfbnlaaGreatDoor

namespace Go.Proofs.YtbadafkfjfbnlaaGreatDoor
open Go.RowKit

set_option maxRecDepth 100000 in
set_option maxHeartbeats 1000000 in
theorem take_gap (g : Nat) (t : Tok) (tv : Value) (p : Nat) (vt : Value) (n : Nat) (w : World) (hrow : w.heap[g]? = some (.cells (lxC t tv p vt) 77 (0, 0))) (hlen : p + n ≤ 1000000) :
    Calls Tryz.prog 37 #[.pointer (some ⟨g, 0, none⟩), .int .i64 0, .int .i64 n] w fun e w' => e = .returned (.int .i64 0) ∧ w'.heap[g]? = some (.cells (lxC t tv (p + n) vt) 77 (0, 0)) ∧ Kept g (.slice none 0 0) w w' := by
  have HR : Hid (w.heap[g]? = some (.cells (lxC t tv p vt) 77 (0, 0))) := hrow
  have d4 : w.cell? ⟨g, 4, none⟩ = some (.int .i64 p) := (cell_of_row w g 4 _ _ _ hrow).trans rfl
  have z4 : w.frozen? ⟨g, 4, none⟩ = false := frozen_of_row _ _ _ _ _ hrow
  clear hrow
  go_enter Tryz.func37, Tryz.ntmps37
  go_wp2
  go_ret
  have r5 : (w.setCell ⟨g, 4, none⟩ (.int .i64 (p + n))).heap[g]? = some (.cells (lxC t tv (p + n) vt) 77 (0, 0)) := (heap_setCell_same _ _ _ _ _ _ HR.out).trans rfl
  exact ⟨rfl, r5, ⟨rfl, rfl, rfl, by simp, fun j _ h2 _ => heap_setCell_other _ _ _ _ h2⟩⟩
set_option maxRecDepth 100000 in
set_option maxHeartbeats 1000000 in
theorem take_full (g : Nat) (t : Tok) (tv : Value) (p : Nat) (st : Option Addr) (ct : Nat) (k : Int) (n : Nat) (w : World) (hrow : w.heap[g]? = some (.cells (lxC t tv p (.slice st 1024 ct)) 77 (0, 0))) (hk : k ≠ 0) :
    Calls Tryz.prog 37 #[.pointer (some ⟨g, 0, none⟩), .int .i64 k, .int .i64 n] w fun e w' => e = .returned (.int .i64 3) ∧ w' = w := by
  have d5 : w.cell? ⟨g, 5, none⟩ = some (.slice st 1024 ct) := (cell_of_row w g 5 _ _ _ hrow).trans rfl
  have hk' : (k != 0) = true := by simpa using hk
  clear hrow
  go_enter Tryz.func37, Tryz.ntmps37
  go_wp2
  go_ret
  exact ⟨rfl, rfl⟩
end Go.Proofs.YtbadafkfjfbnlaaGreatDoor

namespace Go.Proofs.YtbadafkfjfbnlaaGreatDoor
open Go.RowKit

theorem runN_pos {p : UInt8 → Bool} {c : UInt8} {r : List UInt8} (h : p c = true) : 0 < runN p (c :: r) := by
  rw [runN_cons, h]
  simp
/-- What look tells without an error has a size, or is an end where a line ends. -/
theorem look_size {L : List UInt8} {en : Bool} {k : Int} {n : Nat} (h : lookR L en = (k, n, 0)) (hL : L = [] → en = true) : n ≤ L.length ∧ (0 < n ∨ (k = 5 ∧ n = 0 ∧ en = true)) := by
  cases L with
  | nil =>
    simp only [lookR, Prod.mk.injEq] at h
    obtain ⟨rfl, rfl, -⟩ := h
    exact ⟨Nat.zero_le _, .inr ⟨rfl, rfl, hL rfl⟩⟩
  | cons c r =>
    unfold lookR at h
    simp only at h
    rw [List.length_cons]
    split at h
    · split at h
      · rename_i hen
        simp only [Prod.mk.injEq] at h
        exact ⟨by omega, .inr ⟨by omega, by omega, hen⟩⟩
      · simp only [Prod.mk.injEq] at h
        omega
    · split at h
      · simp only [Prod.mk.injEq] at h
        omega
      · split at h
        · simp only [Prod.mk.injEq] at h
          omega
        · split at h
          · rename_i h3
            unfold wordR at h
            split at h
            · simp only [Prod.mk.injEq] at h
              omega
            · simp only [Prod.mk.injEq] at h
              have h1 := runN_le (inC [3, 4]) (c :: r)
              have h2 := runN_pos (p := inC [3, 4]) (c := c) (r := r) (by simp [inC, h3])
              rw [List.length_cons] at h1
              omega
          · split at h
            · rename_i h4
              unfold numR at h
              split at h
              · simp only [Prod.mk.injEq] at h
                omega
              · simp only [Prod.mk.injEq] at h
                have h1 := runN_le (inC [4]) (c :: r)
                have h2 := runN_pos (p := inC [4]) (c := c) (r := r) (by simp [inC, h4])
                rw [List.length_cons] at h1
                omega
            · split at h
              · unfold quoR at h
                split at h
                · simp only [Prod.mk.injEq] at h
                  omega
                · rename_i v m hq
                  simp only [Prod.mk.injEq] at h
                  have := unqO_size hq
                  rw [List.length_cons] at this
                  omega
              · split at h
                · rename_i hp
                  simp only [Prod.mk.injEq] at h
                  have hc : (c != 10) = true := by
                    have : c = 47 := by
                      simp [Lib.hasPrefix, List.isPrefixOf] at hp
                      exact hp.1.symm
                    rw [this]
                    decide
                  have h1 := runN_le (fun c => c != 10) (c :: r)
                  have h2 := runN_pos (p := fun c => c != 10) (c := c) (r := r) hc
                  rw [List.length_cons] at h1
                  have h3 : n = runN (fun c => c != 10) (c :: r) := h.2.1.symm
                  omega
                · unfold sigR at h
                  split at h
                  · rename_i hs
                    simp only [Prod.mk.injEq] at h
                    have : 0 < r.length := by
                      cases r with
                      | nil => simp [sig2] at hs
                      | cons => simp
                    omega
                  · simp only at h
                    split at h <;> (simp only [Prod.mk.injEq] at h; omega)
/-- The last token. -/
def lastT (ts : List Tok) : Tok := ts.getLast?.getD ⟨0, ⟨#[]⟩, 0⟩
theorem lastT_nil : lastT [] = ⟨0, ⟨#[]⟩, 0⟩ := rfl
theorem lastT_push (ts : List Tok) (t : Tok) : lastT (ts ++ [t]) = t := by simp [lastT]
/-- Tokens, an error, its place: from place p on, behind the tokens ts. -/
def lexG (L : List UInt8) : Nat → Nat → List Tok → List Tok × Int × Nat
  | 0, _, ts => (ts, 0, 0)
  | f + 1, p, ts =>
    if p < L.length ∨ clo (lastT ts) = true then
      if (lookR (L.drop p) (clo (lastT ts))).2.2 ≠ 0 then ([], (lookR (L.drop p) (clo (lastT ts))).2.2, p)
      else if (lookR (L.drop p) (clo (lastT ts))).1 = 0 then lexG L f (p + (lookR (L.drop p) (clo (lastT ts))).2.1) ts
      else if ts.length = 1024 then ([], 3, p)
      else lexG L f (p + (lookR (L.drop p) (clo (lastT ts))).2.1) (ts ++ [⟨(lookR (L.drop p) (clo (lastT ts))).1, strU ((L.drop p).take (lookR (L.drop p) (clo (lastT ts))).2.1), p⟩])
    else (ts, 0, 0)
/-- How much is left. -/
def lexMu (L : List UInt8) (p : Nat) (ts : List Tok) : Nat := 2 * (L.length - p) + (if clo (lastT ts) = true then 1 else 0)
/-- The tokens of a text, its error and its place. -/
def lexO (L : List UInt8) : List Tok × Int × Nat := if 4096 < L.length then ([], 3, 0) else lexG L (2 * L.length + 1) 0 []
theorem lexG_end {L : List UInt8} {f p : Nat} {ts : List Tok} (h1 : ¬ p < L.length) (h2 : clo (lastT ts) = false) : lexG L (f + 1) p ts = (ts, 0, 0) := by
  rw [lexG, if_neg (by rw [h2]; simp; omega)]
theorem lexG_err {L : List UInt8} {f p : Nat} {ts : List Tok} {k : Int} {n : Nat} {e : Int} (h1 : p < L.length ∨ clo (lastT ts) = true) (h2 : lookR (L.drop p) (clo (lastT ts)) = (k, n, e)) (he : e ≠ 0) : lexG L (f + 1) p ts = ([], e, p) := by
  rw [lexG, if_pos h1, h2, if_pos he]
theorem lexG_gap {L : List UInt8} {f p : Nat} {ts : List Tok} {n : Nat} (h1 : p < L.length ∨ clo (lastT ts) = true) (h2 : lookR (L.drop p) (clo (lastT ts)) = (0, n, 0)) : lexG L (f + 1) p ts = lexG L f (p + n) ts := by
  rw [lexG, if_pos h1, h2, if_neg (by simp), if_pos rfl]
theorem lexG_full {L : List UInt8} {f p : Nat} {ts : List Tok} {k : Int} {n : Nat} (h1 : p < L.length ∨ clo (lastT ts) = true) (h2 : lookR (L.drop p) (clo (lastT ts)) = (k, n, 0)) (hk : k ≠ 0) (ht : ts.length = 1024) : lexG L (f + 1) p ts = ([], 3, p) := by
  rw [lexG, if_pos h1, h2, if_neg (by simp), if_neg hk, if_pos ht]
theorem lexG_tok {L : List UInt8} {f p : Nat} {ts : List Tok} {k : Int} {n : Nat} (h1 : p < L.length ∨ clo (lastT ts) = true) (h2 : lookR (L.drop p) (clo (lastT ts)) = (k, n, 0)) (hk : k ≠ 0) (ht : ts.length ≠ 1024) : lexG L (f + 1) p ts = lexG L f (p + n) (ts ++ [⟨k, strU ((L.drop p).take n), p⟩]) := by
  rw [lexG, if_pos h1, h2, if_neg (by simp), if_neg hk, if_neg ht]
theorem mu_gap {L : List UInt8} {p n : Nat} {ts : List Tok} (h1 : p < L.length ∨ clo (lastT ts) = true) (hp : p ≤ L.length) (h2 : lookR (L.drop p) (clo (lastT ts)) = (0, n, 0)) : p + n ≤ L.length ∧ lexMu L (p + n) ts < lexMu L p ts := by
  have hs := look_size h2 (fun e => by
    rcases h1 with h1 | h1
    · have := congrArg List.length e; rw [List.length_drop] at this; simp at this; omega
    · exact h1)
  rw [List.length_drop] at hs
  unfold lexMu
  rcases hs with ⟨h3, h4 | ⟨h4, -⟩⟩
  · omega
  · omega
theorem mu_tok {L : List UInt8} {p n : Nat} {ts : List Tok} {k : Int} {t : Tok} (h1 : p < L.length ∨ clo (lastT ts) = true) (hp : p ≤ L.length) (h2 : lookR (L.drop p) (clo (lastT ts)) = (k, n, 0)) (ht : t = ⟨k, strU ((L.drop p).take n), p⟩) : p + n ≤ L.length ∧ lexMu L (p + n) (ts ++ [t]) < lexMu L p ts := by
  have hs := look_size h2 (fun e => by
    rcases h1 with h1 | h1
    · have := congrArg List.length e; rw [List.length_drop] at this; simp at this; omega
    · exact h1)
  rw [List.length_drop] at hs
  unfold lexMu
  rw [lastT_push]
  rcases hs with ⟨h3, h4 | ⟨h4, h5, h6⟩⟩
  · refine ⟨by omega, ?_⟩
    split <;> split <;> omega
  · have hc : clo t = false := by rw [ht, h4]; rfl
    rw [hc, h6]
    simp
    omega
end Go.Proofs.YtbadafkfjfbnlaaGreatDoor
