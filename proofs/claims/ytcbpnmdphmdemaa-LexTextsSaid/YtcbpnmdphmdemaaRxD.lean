/- The contracts of the document's Word and Value. -/
import Derived.Test.YtcbpnmdphmdemaaRxC
import Derived.Test.YtcbpnmdphmdemaaLxH
namespace Go.Proofs.Ytcbpnmdphmdemaa
open Go.RowKit

set_option maxRecDepth 100000 in
set_option maxHeartbeats 1000000 in
theorem sword_is (s : ByteArray) (w : World) (hs : s.size ≤ 100000) : Calls Try.prog 25 #[.string s] w fun e w' => e = .returned (.bool (wordB s.data.toList)) ∧ w' = w := by
  have HS : Hid (s.size = s.data.toList.length) := by show s.size = s.data.toList.length; simp
  have HT : Hid (s.toList = s.data.toList) := ByteArray.toList_eq s
  by_cases h0 : s.data.toList = []
  · have e0 : s.toList.isEmpty = true := by rw [HT.out, h0]; rfl
    have HN : Hid (wordB s.data.toList = false) := by rw [h0]; exact rfl
    clear h0
    go_enter Try.func25, Try.ntmps25
    go_wp2
    go_ret
    exact ⟨ret_bool HN.out.symm, rfl⟩
  have e0 : s.toList.isEmpty = false := by rw [HT.out]; cases h : s.data.toList with | nil => exact absurd h h0 | cons a l => rfl
  have hwf := wrd_full s.data.toList h0
  have hem : s.data.toList.isEmpty = false := by rw [← HT.out]; exact e0
  have HW : Hid (wordB s.data.toList = (decide (wrdN s.data.toList = s.data.toList.length) && decide (s.data.toList.length ≤ 24))) := by
    show wordB s.data.toList = _
    unfold wordB
    rw [hem, ← hwf]
    simp
  clear h0 hwf hem
  by_cases hq : wrdN s.data.toList = s.data.toList.length
  · have hq' : (((wrdN s.data.toList : Nat) : Int) == s.size) = true := by rw [beq_iff_eq, hq, HS.out]
    by_cases h24 : s.size ≤ 24
    · have h24' : (s.size : Int) ≤ 24 := by omega
      have HN : Hid (wordB s.data.toList = true) := by rw [HW.out, decide_eq_true hq, decide_eq_true (by rw [← HS.out]; exact h24)]; exact rfl
      clear hq
      go_enter Try.func25, Try.ntmps25
      go_wp2_with (go_at_call 48; refine (sword_any s _ hs).mono ?_; rintro e W1 ⟨rfl, hW1⟩; rw [hW1]; clear hW1)
      go_ret
      exact ⟨ret_bool HN.out.symm, rfl⟩
    · have h24' : ¬ (s.size : Int) ≤ 24 := by omega
      have HN : Hid (wordB s.data.toList = false) := by rw [HW.out, decide_eq_false (p := s.data.toList.length ≤ 24) (by rw [← HS.out]; exact h24), Bool.and_false]; exact rfl
      clear hq
      go_enter Try.func25, Try.ntmps25
      go_wp2_with (go_at_call 48; refine (sword_any s _ hs).mono ?_; rintro e W1 ⟨rfl, hW1⟩; rw [hW1]; clear hW1)
      go_ret
      exact ⟨ret_bool (by rw [HN.out]; exact decide_eq_false (by omega)), rfl⟩
  · have hq' : (((wrdN s.data.toList : Nat) : Int) == s.size) = false := by rw [beq_eq_false_iff_ne]; have := HS.out; omega
    have HN : Hid (wordB s.data.toList = false) := by rw [HW.out, decide_eq_false hq, Bool.false_and]; exact rfl
    clear hq
    go_enter Try.func25, Try.ntmps25
    go_wp2_with (go_at_call 48; refine (sword_any s _ hs).mono ?_; rintro e W1 ⟨rfl, hW1⟩; rw [hW1]; clear hW1)
    go_ret
    exact ⟨ret_bool HN.out.symm, rfl⟩
def strB (o : Option (List UInt8)) : Value := match o with | none => .tuple #[.string ⟨#[]⟩, .bool false] | some x => .tuple #[.string (strU x), .bool true]
theorem qu_size {L : List UInt8} (h : L ≠ []) : (quN L = L.length ↔ ∃ v, unqO L = some (v, L.length)) := by
  unfold quN
  cases hu : unqO L with
  | none =>
    constructor
    · intro h1; exact absurd (List.eq_nil_of_length_eq_zero h1.symm) h
    · rintro ⟨v, hv⟩; cases hv
  | some p =>
    obtain ⟨v, n⟩ := p
    constructor
    · intro h1; exact ⟨v, by rw [← h1]⟩
    · rintro ⟨v', hv⟩; injection hv with hv; injection hv with h1 h2
/-- The text between the quotes. -/
theorem inner_at (s : ByteArray) (h2 : 2 ≤ s.size) : ∃ x : ByteArray, s.extract 1 (s.size - 1) = x ∧ x.size = s.size - 2 ∧ ∀ (i : Nat) (h : i < x.size), s.data.toList[i + 1]? = some (x[i]'h) := by
  refine ⟨_, rfl, ?_, fun i h => ?_⟩
  · rw [ByteArray.size_extract]; omega
  · rw [ByteArray.size_extract] at h
    have h1 : i + 1 < s.size := by omega
    rw [byte_at h1, ByteArray.getElem_extract]
    simp [Nat.add_comm]
theorem unqO_cons (c : UInt8) (r : List UInt8) : unqO (c :: r) = if c.toNat = 34 then unqA [] 1 r else none := rfl
theorem unqO_in {L v : List UInt8} {n : Nat} (h : unqO L = some (v, n)) : unqA [] 1 (L.drop 1) = some (v, n) := by
  cases L with
  | nil => cases h
  | cons c r =>
    rw [unqO_cons] at h
    by_cases hc : c.toNat = 34
    · rw [if_pos hc] at h; exact h
    · rw [if_neg hc] at h; cases h
theorem unqA_last {acc v L : List UInt8} {i n : Nat} (h : unqA acc i (L.drop i) = some (v, n)) (hi : i + 1 = L.length) : acc = v := by
  obtain ⟨c, hc⟩ : ∃ c, L[i]? = some c := ⟨_, List.getElem?_eq_getElem (by omega)⟩
  rw [drop_at hc, List.drop_eq_nil_of_le (by omega), unqA_cons] at h
  by_cases h1 : c.toNat = 34
  · rw [if_pos h1] at h
    injection h with h
    injection h with h _
  · rw [if_neg h1] at h
    by_cases h2 : c.toNat = 92
    · rw [if_pos h2] at h; cases h
    · rw [if_neg h2] at h
      by_cases h3 : plnB c.toNat = true
      · rw [if_pos h3] at h; cases h
      · rw [if_neg h3] at h; cases h
theorem pair_ten {d y : UInt8} (h : pairU d = some y) (hd : d.toNat = 110) : y = 10 := by
  unfold pairU at h
  rw [if_neg (by omega), if_pos hd] at h
  injection h with h
  exact h.symm
theorem pair_self {d y : UInt8} (h : pairU d = some y) (hd : ¬ d.toNat = 110) : y = d := by
  unfold pairU at h
  by_cases h1 : d.toNat = 34 ∨ d.toNat = 92
  · rw [if_pos h1] at h; injection h with h; exact h.symm
  · rw [if_neg h1, if_neg hd] at h; cases h
theorem val_three {t : Tok} (h : t.kind = 3) : valO t = match unqO t.text.data.toList with | some (v, n) => if n = t.text.size then some v else none | none => none := by
  unfold valO
  rw [if_pos h]
  rfl
set_option maxRecDepth 100000 in
set_option maxHeartbeats 4000000 in
theorem svalue_is (t : Tok) (w : World) (hs : t.text.size ≤ 100000) : Calls Try.prog 21 #[.agg t.cells] w fun e w' => e = .returned (strB (valO t)) ∧ Below w.heap.size w w' := by
  unfold Tok.cells
  have HS : Hid (t.text.size = t.text.data.toList.length) := by show t.text.size = t.text.data.toList.length; simp
  have HT : Hid (t.text.toList = t.text.data.toList) := ByteArray.toList_eq t.text
  have hcr : ∀ n, (w.alloc (.cells #[.int .i64 t.kind, .string t.text, .int .i64 t.pos] 32)).drewN n = (w.drewN n).alloc (.cells #[.int .i64 t.kind, .string t.text, .int .i64 t.pos] 32) := fun n => rfl
  have hbD : Below w.heap.size w (w.alloc (.cells #[.int .i64 t.kind, .string t.text, .int .i64 t.pos] 32)) := (Below.refl _ _).alloc (Nat.le_refl _) _
  have hrD := heap_alloc_new w (.cells #[.int .i64 t.kind, .string t.text, .int .i64 t.pos] 32)
  go_enter Try.func21, Try.ntmps21
  go_wp2
  refine wp_gen (fun W => W.heap[w.heap.size]? = some (.cells #[.int .i64 t.kind, .string t.text, .int .i64 t.pos] 32 (0, 0)) ∧ Below w.heap.size w W) ⟨hrD, hbD⟩ ?_
  rintro W0 ⟨hr0, b0⟩
  clear hrD hbD hcr
  have c0 : W0.cell? ⟨w.heap.size, 0, none⟩ = some (.int .i64 t.kind) := (cell_of_row _ _ 0 _ _ _ hr0).trans rfl
  have c1 : W0.cell? ⟨w.heap.size, 1, none⟩ = some (.string t.text) := (cell_of_row _ _ 1 _ _ _ hr0).trans rfl
  clear hr0
  cases hk : (t.kind == 3)
  · have hk' : (t.kind != 3) = true := by rw [bne, hk]; rfl
    have HX : Hid (valO t = none) := by unfold valO; rw [if_neg (by simpa using hk)]; exact rfl
    clear hk
    go_quiet ((go_at_call 44; refine Calls.quiet_of_same (squoted_any _ _ hs)))
    go_wp2
    go_ret2
    refine ⟨?_, b0.trans (below_drawn' _ _)⟩
    rw [HX.out]
    exact rfl
  have hk' : (t.kind != 3) = false := by rw [bne, hk]; rfl
  have HVK : Hid (valO t = match unqO t.text.data.toList with | some (v, n) => if n = t.text.size then some v else none | none => none) := by
    exact val_three (by simpa using hk)
  clear hk
  by_cases h0 : t.text.data.toList = []
  · have e0 : t.text.toList.isEmpty = true := by rw [HT.out, h0]; rfl
    have HX : Hid (valO t = none) := by rw [HVK.out, h0]; exact rfl
    clear h0
    go_quiet ((go_at_call 44; refine Calls.quiet_of_same (squoted_any _ _ hs)))
    go_wp2
    go_ret2
    refine ⟨?_, b0.trans (below_drawn' _ _)⟩
    rw [HX.out]
    exact rfl
  have e0 : t.text.toList.isEmpty = false := by rw [HT.out]; cases h : t.text.data.toList with | nil => exact absurd h h0 | cons a l => rfl
  by_cases hq : quN t.text.data.toList = t.text.data.toList.length
  · have hq' : (((quN t.text.data.toList : Nat) : Int) != t.text.size) = false := by rw [bne_eq_false_iff_eq]; have := HS.out; omega
    obtain ⟨v, hv⟩ := (qu_size h0).1 hq
    have HX : Hid (valO t = some v) := by rw [HVK.out, hv]; exact if_pos HS.out.symm
    have HUV : Hid (unqO t.text.data.toList = some (v, t.text.data.toList.length)) := hv
    have hsz := unqO_size hv
    clear h0 hq hv HVK
    go_quiet ((go_at_call 44; refine Calls.quiet_of_same (squoted_any _ _ hs)))
    have hsz2 : 2 ≤ t.text.size := by have := HS.out; omega
    obtain ⟨x, hx, hxs, hxa⟩ := inner_at t.text hsz2
    have HXS : Hid (x.size = t.text.size - 2) := hxs
    have HXA : Hid (∀ (i : Nat) (h : i < x.size), t.text.data.toList[i + 1]? = some (x[i]'h)) := hxa
    have hxb : x.size ≤ 100000 := by omega
    clear hxa hxs
    have hw1 : IntKind.i64.wrap ((t.text.size : Int) - 1) = (t.text.size : Int) - 1 := wrap64 (by omega) (by omega)
    have hto : ((t.text.size : Int) - 1).toNat = t.text.size - 1 := by omega
    have hx' : t.text.extract 1 ((t.text.size : Int) - 1).toNat = x := by rw [hto]; exact hx
    have b1 := b0.trans (below_drawn' (B := w.heap.size) W0 nq)
    have c1' : (W0.drewN nq).cell? ⟨w.heap.size, 1, none⟩ = some (.string t.text) := c1
    generalize W0.drewN nq = W1 at b1 c1' ⊢
    clear b0 c0 c1
    go_wp2
    clear hx' hto hw1 hx c1'
    have HB1 : Hid (Below w.heap.size w W1) := b1
    clear b1
    have HG : Hid (unqA [] 1 (t.text.data.toList.drop 1) = some (v, t.text.data.toList.length)) := unqO_in HUV.out
    go_loopw [4, 6] (fun u i wr => ∃ (k : Nat) (acc : List UInt8), k ≤ x.size ∧ i = .int .i64 k ∧ OwnB w.heap.size wr u acc ∧ Below w.heap.size w wr ∧ acc.length ≤ k ∧ unqA acc (k + 1) (t.text.data.toList.drop (k + 1)) = some (v, t.text.data.toList.length)) (fun _ i _ => x.size - (intOf i).toNat)
    case atStart => exact ⟨0, [], Nat.zero_le _, rfl, ownG_nil _ _, HB1.out, Nat.zero_le _, HG.out⟩
    case round =>
      clear HG HB1
      obtain ⟨k, acc, hkx, rfl, hown, hbel, hal, hun⟩ := hrel
      have HO : Hid (OwnB w.heap.size wr u4 acc) := hown
      have HB : Hid (Below w.heap.size w wr) := hbel
      have HN : Hid (unqA acc (k + 1) (t.text.data.toList.drop (k + 1)) = some (v, t.text.data.toList.length)) := hun
      clear hown hbel hun
      by_cases hlt : k < x.size
      · have hd : decide ((k : Int) < x.size) = true := decide_eq_true (by omega)
        have hB := HXA.out k hlt
        obtain ⟨c, HC⟩ : ∃ c, Hid (x[k]'hlt = c) := ⟨_, rfl⟩
        rw [HC.out] at hB
        have HBY : Hid (t.text.data.toList[k + 1]? = some c) := hB
        clear hB
        have h34 : ¬ c.toNat = 34 := fun h => by
          have := HN.out
          rw [unqA_end HBY.out h] at this
          injection this with this
          injection this with _ this
          have := HS.out
          have := HXS.out
          omega
        by_cases h92 : c.toNat = 92
        · have a92 : (((x[k]'hlt).toNat : Int) == 92) = true := by rw [HC.out, beq_iff_eq]; omega
          have hp0 : pairI (t.text.data.toList.drop (k + 1 + 1)) ≠ 0 := fun h => by
            have := HN.out
            rw [unqA_bad HBY.out h92 h] at this
            cases this
          obtain ⟨d, y, hd1, hd2, -⟩ := pair_some hp0
          have HE : Hid (unqA (acc ++ [y]) (k + 1 + 2) (t.text.data.toList.drop (k + 1 + 2)) = some (v, t.text.data.toList.length)) := by rw [← unqA_esc HBY.out h92 hd1 hd2]; exact HN.out
          have hszE := unqA_size _ (Nat.le_refl _) HE.out
          have hl2 : k + 1 < x.size := by have := HS.out; have := HXS.out; omega
          have hB2 := HXA.out (k + 1) hl2
          rw [hd1] at hB2
          injection hB2 with hB2
          have HD : Hid (x[k + 1]'hl2 = d) := hB2.symm
          clear hB2 hszE hp0 hd1
          have REL : ∀ (v' : Value) (w' : World), OwnB w.heap.size w' v' (acc ++ [y]) → Below w.heap.size w w' → Hid (∃ (k' : Nat) (acc : List UInt8), k' ≤ x.size ∧ Value.int .i64 ((k : Int) + 1 + 1) = .int .i64 k' ∧ OwnB w.heap.size w' v' acc ∧ Below w.heap.size w w' ∧ acc.length ≤ k' ∧ unqA acc (k' + 1) (t.text.data.toList.drop (k' + 1)) = some (v, t.text.data.toList.length)) := fun v' w' ho' hb' => ⟨k + 2, acc ++ [y], by omega, by go_num, ho', hb', by rw [List.length_append, List.length_singleton]; omega, HE.out⟩
          by_cases h110 : d.toNat = 110
          · have p1 : (((x[k + 1]'hl2).toNat : Int) == 110) = true := by rw [HD.out, beq_iff_eq]; omega
            have hy := pair_ten hd2 h110
            subst hy
            obtain ⟨v', w', hr, ho', hb'⟩ := push_byte 10 HO.out HB.out HB.out.size (by omega)
            have RR := REL v' w' ho' hb'
            clear REL ho' hb' hd2
            go_wp2_with (at_builtin; refine list_appendg (.tmp 50) (.tmp 52) 58 (by rfl) (by rfl) (by rfl) (by rfl) hr ?_)
            exact ⟨RR.out, by simp [intOf]; omega⟩
          · have p1 : (((x[k + 1]'hl2).toNat : Int) == 110) = false := by rw [HD.out, beq_eq_false_iff_ne]; omega
            have hy := pair_self hd2 h110
            subst hy
            obtain ⟨v', w', hr, ho', hb'⟩ := push_byte y HO.out HB.out HB.out.size (by omega)
            have RR := REL v' w' ho' hb'
            rw [← HD.out] at hr
            clear REL ho' hb' hd2
            go_wp2_with (at_builtin; refine list_appendg (.tmp 50) (.tmp 52) 58 (by rfl) (by rfl) (by rfl) (by rfl) hr ?_)
            exact ⟨RR.out, by simp [intOf]; omega⟩
        · have a92 : (((x[k]'hlt).toNat : Int) == 92) = false := by rw [HC.out, beq_eq_false_iff_ne]; omega
          cases hpl : plnB c.toNat
          · have := HN.out
            rw [unqA_not HBY.out h34 h92 hpl] at this
            cases this
          · have HE : Hid (unqA (acc ++ [c]) (k + 1 + 1) (t.text.data.toList.drop (k + 1 + 1)) = some (v, t.text.data.toList.length)) := by rw [← unqA_plain HBY.out h34 h92 hpl]; exact HN.out
            obtain ⟨v', w', hr, ho', hb'⟩ := push_byte c HO.out HB.out HB.out.size (by omega)
            have RR : Hid (∃ (k' : Nat) (acc : List UInt8), k' ≤ x.size ∧ Value.int .i64 ((k : Int) + 1) = .int .i64 k' ∧ OwnB w.heap.size w' v' acc ∧ Below w.heap.size w w' ∧ acc.length ≤ k' ∧ unqA acc (k' + 1) (t.text.data.toList.drop (k' + 1)) = some (v, t.text.data.toList.length)) := ⟨k + 1, acc ++ [c], by omega, by go_num, ho', hb', by rw [List.length_append, List.length_singleton]; omega, HE.out⟩
            rw [← HC.out] at hr
            clear ho' hb' hpl
            go_wp2_with (at_builtin; refine list_appendg (.tmp 50) (.tmp 52) 58 (by rfl) (by rfl) (by rfl) (by rfl) hr ?_)
            exact ⟨RR.out, by simp [intOf]; omega⟩
      · have hd : decide ((k : Int) < x.size) = false := decide_eq_false (by omega)
        obtain ⟨su, cu, rfl, hRu, -, -, -⟩ := OwnG.rows elB HO.out
        have hcv := conv_str (BA.of_rows hRu) cu
        have HVA : Hid (acc = v) := unqA_last HN.out (by have := HS.out; have := HXS.out; omega)
        clear hRu
        go_wp2
        go_ret2
        refine ⟨?_, HB.out⟩
        rw [HX.out, HVA.out]
        exact rfl
  · have hq' : (((quN t.text.data.toList : Nat) : Int) != t.text.size) = true := by rw [bne_iff_ne]; have := HS.out; omega
    have HX : Hid (valO t = none) := by
      rw [HVK.out]
      cases hu : unqO t.text.data.toList with
      | none => exact rfl
      | some p =>
        obtain ⟨v, n⟩ := p
        show (if _ = _ then _ else _) = _
        exact if_neg (fun hn => hq (by unfold quN; rw [hu]; show n = _; rw [hn, HS.out]))
    clear h0 hq HVK
    go_quiet ((go_at_call 44; refine Calls.quiet_of_same (squoted_any _ _ hs)))
    go_wp2
    go_ret2
    refine ⟨?_, b0.trans (below_drawn' _ _)⟩
    rw [HX.out]
    exact rfl
end Go.Proofs.Ytcbpnmdphmdemaa
