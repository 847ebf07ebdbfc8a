/- The contracts of the document's quoted, Number and Word. -/
import Derived.Test.YtcbpnmdphmdemaaRxB
namespace Go.Proofs.Ytcbpnmdphmdemaa
open Go.RowKit

/-- How many bytes of a quoted text a text begins with. -/
def quN (L : List UInt8) : Nat := match unqO L with | none => 0 | some (_, n) => n
theorem pair_none {c : UInt8} (h1 : ¬ c.toNat = 34) (h2 : ¬ c.toNat = 92) (h3 : ¬ c.toNat = 110) : pairU c = none := by
  unfold pairU
  rw [if_neg (by omega), if_neg h3]
theorem pair_yes {c : UInt8} (h : c.toNat = 34 ∨ c.toNat = 92 ∨ c.toNat = 110) : ∃ x, pairU c = some x := by
  unfold pairU
  by_cases h1 : c.toNat = 34 ∨ c.toNat = 92
  · rw [if_pos h1]; exact ⟨_, rfl⟩
  · rw [if_neg h1, if_pos (by omega)]; exact ⟨_, rfl⟩
set_option maxRecDepth 100000 in
set_option maxHeartbeats 4000000 in
theorem squoted_any (s : ByteArray) (w : World) (hs : s.size ≤ 100000) : Calls Try.prog 44 #[.string s] w fun e w' => e = .returned (.int .i64 (quN s.data.toList)) ∧ w' = w := by
  have HS : Hid (s.size = s.data.toList.length) := by show s.size = s.data.toList.length; simp
  have HT : Hid (s.toList = s.data.toList) := ByteArray.toList_eq s
  by_cases h0 : s.data.toList = []
  · have e0 : s.toList.isEmpty = true := by rw [HT.out, h0]; rfl
    have HN : Hid (quN s.data.toList = 0) := by rw [h0]; exact rfl
    clear h0
    go_enter Try.func44, Try.ntmps44
    go_wp2
    go_ret
    exact ⟨ret_int (by rw [HN.out]; rfl), rfl⟩
  have hpos : 0 < s.size := by rw [HS.out]; exact List.length_pos_iff.2 h0
  have e0 : s.toList.isEmpty = false := by rw [HT.out]; cases h : s.data.toList with | nil => exact absurd h h0 | cons a l => rfl
  have b0 := byte_at hpos
  have HU : Hid (unqO s.data.toList = if (s[0]'hpos).toNat = 34 then unqA [] 1 (s.data.toList.drop 1) else none) := by
    have e := drop_at b0
    rw [List.drop_zero] at e
    rw [e]
    exact rfl
  clear h0 b0
  by_cases hq : (s[0]'hpos).toNat = 34
  · have HG : Hid (unqA [] 1 (s.data.toList.drop 1) = unqO s.data.toList) := by rw [HU.out, if_pos hq]; exact rfl
    have hq' : (((s[0]'hpos).toNat : Int) != 34) = false := by rw [bne_eq_false_iff_eq]; omega
    clear HU hq
    go_enter Try.func44, Try.ntmps44
    go_wp2
    generalize (s[0]'hpos).toNat = z0
    go_loopw [3] (fun i wr => ∃ (t : Nat) (acc : List UInt8), 1 ≤ t ∧ t ≤ s.size ∧ i = .int .i64 t ∧ wr = w ∧ unqA acc t (s.data.toList.drop t) = unqO s.data.toList) (fun i _ => s.size - (intOf i).toNat)
    case atStart => exact ⟨1, [], Nat.le_refl _, hpos, rfl, rfl, HG.out⟩
    case round =>
      clear HG
      obtain ⟨t, acc, ht1, ht, rfl, rfl, hun⟩ := hrel
      have HN : Hid (unqA acc t (s.data.toList.drop t) = unqO s.data.toList) := hun
      clear hun
      by_cases hlt : t < s.size
      · have hd : decide ((t : Int) < s.size) = true := decide_eq_true (by omega)
        have hge : ¬ (t : Int) ≥ s.size := by omega
        have hB := byte_at hlt
        obtain ⟨c, HC⟩ : ∃ c, Hid (s[t]'hlt = c) := ⟨_, rfl⟩
        rw [HC.out] at hB
        have HB : Hid (s.data.toList[t]? = some c) := hB
        clear hB
        by_cases h34 : c.toNat = 34
        · have HE : Hid (quN s.data.toList = t + 1) := by unfold quN; rw [← HN.out, unqA_end HB.out h34]; exact rfl
          have a34 : (((s[t]'hlt).toNat : Int) != 34) = false := by rw [HC.out, bne_eq_false_iff_eq]; omega
          go_wp2
          go_ret
          exact ⟨ret_int (by rw [HE.out]; rfl), rfl⟩
        · have a34 : (((s[t]'hlt).toNat : Int) != 34) = true := by rw [HC.out, bne_iff_ne]; omega
          by_cases h92 : c.toNat = 92
          · have a32 : ¬ ((s[t]'hlt).toNat : Int) < 32 := by rw [HC.out]; omega
            have a126 : ¬ ((s[t]'hlt).toNat : Int) > 126 := by rw [HC.out]; omega
            have a92 : (((s[t]'hlt).toNat : Int) == 92) = true := by rw [HC.out, beq_iff_eq]; omega
            by_cases hl2 : t + 1 < s.size
            · have hB2 := byte_at hl2
              obtain ⟨d, HD⟩ : ∃ d, Hid (s[t + 1]'hl2 = d) := ⟨_, rfl⟩
              rw [HD.out] at hB2
              have HB2 : Hid (s.data.toList[t + 1]? = some d) := hB2
              clear hB2
              have hne : (((t : Int) + 1) == (s.size : Int)) = false := by rw [beq_eq_false_iff_ne]; omega
              by_cases hp : d.toNat = 34 ∨ d.toNat = 92 ∨ d.toNat = 110
              · obtain ⟨x, hx⟩ := pair_yes hp
                have HE : Hid (unqA (acc ++ [x]) (t + 2) (s.data.toList.drop (t + 2)) = unqO s.data.toList) := by rw [← HN.out, unqA_esc HB.out h92 HB2.out hx]; exact rfl
                clear hx
                have REL : Hid (∃ (t' : Nat) (acc : List UInt8), 1 ≤ t' ∧ t' ≤ s.size ∧ Value.int .i64 ((t : Int) + 1 + 1) = .int .i64 t' ∧ True ∧ unqA acc t' (s.data.toList.drop t') = unqO s.data.toList) := ⟨t + 2, acc ++ [x], by omega, by omega, by go_num, trivial, HE.out⟩
                rcases hp with hp | hp | hp
                · have p1 : (((s[t + 1]'hl2).toNat : Int) != 34) = false := by rw [HD.out, bne_eq_false_iff_eq]; omega
                  clear hp
                  go_wp2
                  exact ⟨REL.out, by simp [intOf]; omega⟩
                · have p1 : (((s[t + 1]'hl2).toNat : Int) != 34) = true := by rw [HD.out, bne_iff_ne]; omega
                  have p2 : (((s[t + 1]'hl2).toNat : Int) != 92) = false := by rw [HD.out, bne_eq_false_iff_eq]; omega
                  clear hp
                  go_wp2
                  exact ⟨REL.out, by simp [intOf]; omega⟩
                · have p1 : (((s[t + 1]'hl2).toNat : Int) != 34) = true := by rw [HD.out, bne_iff_ne]; omega
                  have p2 : (((s[t + 1]'hl2).toNat : Int) != 92) = true := by rw [HD.out, bne_iff_ne]; omega
                  have p3 : (((s[t + 1]'hl2).toNat : Int) != 110) = false := by rw [HD.out, bne_eq_false_iff_eq]; omega
                  clear hp
                  go_wp2
                  exact ⟨REL.out, by simp [intOf]; omega⟩
              · have p1 : (((s[t + 1]'hl2).toNat : Int) != 34) = true := by rw [HD.out, bne_iff_ne]; omega
                have p2 : (((s[t + 1]'hl2).toNat : Int) != 92) = true := by rw [HD.out, bne_iff_ne]; omega
                have p3 : (((s[t + 1]'hl2).toNat : Int) != 110) = true := by rw [HD.out, bne_iff_ne]; omega
                have HE : Hid (quN s.data.toList = 0) := by
                  unfold quN
                  rw [← HN.out, unqA_bad HB.out h92 (by rw [drop_at HB2.out, pairI_cons, pair_none (by omega) (by omega) (by omega)])]
                  exact rfl
                clear hp
                go_wp2
                go_ret
                exact ⟨ret_int (by rw [HE.out]; rfl), rfl⟩
            · have hne : (((t : Int) + 1) == (s.size : Int)) = true := by rw [beq_iff_eq]; omega
              have HE : Hid (quN s.data.toList = 0) := by
                unfold quN
                rw [← HN.out, unqA_bad HB.out h92 (by rw [List.drop_eq_nil_of_le (by have := HS.out; omega)]; rfl)]
                exact rfl
              go_wp2
              go_ret
              exact ⟨ret_int (by rw [HE.out]; rfl), rfl⟩
          · have a92 : (((s[t]'hlt).toNat : Int) == 92) = false := by rw [HC.out, beq_eq_false_iff_ne]; omega
            cases hpl : plnB c.toNat
            · have HE : Hid (quN s.data.toList = 0) := by unfold quN; rw [← HN.out, unqA_not HB.out h34 h92 hpl]; exact rfl
              by_cases h32 : c.toNat < 32
              · have a32 : ((s[t]'hlt).toNat : Int) < 32 := by rw [HC.out]; omega
                go_wp2
                go_ret
                exact ⟨ret_int (by rw [HE.out]; rfl), rfl⟩
              · have a32 : ¬ ((s[t]'hlt).toNat : Int) < 32 := by rw [HC.out]; omega
                have a126 : ((s[t]'hlt).toNat : Int) > 126 := by
                  rw [HC.out]
                  simp [plnB] at hpl
                  omega
                go_wp2
                go_ret
                exact ⟨ret_int (by rw [HE.out]; rfl), rfl⟩
            · have hpl' : 32 ≤ (c.toNat : Int) ∧ (c.toNat : Int) ≤ 126 := by simpa [plnB] using hpl
              have a32 : ¬ ((s[t]'hlt).toNat : Int) < 32 := by rw [HC.out]; omega
              have a126 : ¬ ((s[t]'hlt).toNat : Int) > 126 := by rw [HC.out]; omega
              have HE : Hid (unqA (acc ++ [c]) (t + 1) (s.data.toList.drop (t + 1)) = unqO s.data.toList) := by rw [← HN.out, unqA_plain HB.out h34 h92 hpl]; exact rfl
              have REL : Hid (∃ (t' : Nat) (acc : List UInt8), 1 ≤ t' ∧ t' ≤ s.size ∧ Value.int .i64 ((t : Int) + 1) = .int .i64 t' ∧ True ∧ unqA acc t' (s.data.toList.drop t') = unqO s.data.toList) := ⟨t + 1, acc ++ [c], by omega, by omega, by go_num, trivial, HE.out⟩
              clear hpl hpl'
              go_wp2
              exact ⟨REL.out, by simp [intOf]; omega⟩
      · have hd : decide ((t : Int) < s.size) = false := decide_eq_false (by omega)
        have hge : (t : Int) ≥ s.size := by omega
        have HE : Hid (quN s.data.toList = 0) := by unfold quN; rw [← HN.out, List.drop_eq_nil_of_le (by have := HS.out; omega)]; exact rfl
        go_wp2
        go_ret
        exact ⟨ret_int (by rw [HE.out]; rfl), rfl⟩
  · have HN : Hid (quN s.data.toList = 0) := by unfold quN; rw [HU.out, if_neg hq]; exact rfl
    have hq' : (((s[0]'hpos).toNat : Int) != 34) = true := by rw [bne_iff_ne]; omega
    clear HU hq
    go_enter Try.func44, Try.ntmps44
    go_wp2
    go_ret
    exact ⟨ret_int (by rw [HN.out]; rfl), rfl⟩
set_option maxRecDepth 100000 in
set_option maxHeartbeats 1000000 in
theorem snumber_is (t : Tok) (w : World) (hs : t.text.size ≤ 100000) : Calls Try.prog 19 #[.agg t.cells] w fun e w' => e = .returned (decV (numO t)) ∧ Below w.heap.size w w' := by
  unfold Tok.cells
  cases hk : (t.kind == 2)
  · have hk' : (t.kind != 2) = true := by rw [bne, hk]; rfl
    have HN : Hid (numO t = none) := by unfold numO; rw [if_neg (by simpa using hk)]; exact rfl
    clear hk
    go_enter Try.func19, Try.ntmps19
    go_wp2
    go_ret2
    exact ⟨ret_none HN.out, (Below.refl _ _).alloc (Nat.le_refl _) _⟩
  · have hk' : (t.kind != 2) = false := by rw [bne, hk]; rfl
    have HN : Hid (numO t = decO t.text.data.toList) := by unfold numO; rw [if_pos (by simpa using hk)]; exact rfl
    clear hk
    go_enter Try.func19, Try.ntmps19
    go_wp2_with fail
    refine (whole_any t.text _ hs).mono ?_
    rintro e W1 ⟨rfl, hW1⟩
    rw [hW1]
    unfold decV
    go_wp2
    go_ret2
    refine ⟨?_, (Below.refl _ _).alloc (Nat.le_refl _) _⟩
    rw [HN.out]
    exact rfl
theorem wrd_full : ∀ (L : List UInt8), L ≠ [] → (decide (wrdN L = L.length) = allW 0 L)
  | [], h => absurd rfl h
  | c :: r, _ => by
    have key : ∀ (r : List UInt8) (k : Nat), (decide (runN (inC [3, 4]) r = r.length) = allW (k + 1) r) := by
      intro r
      induction r with
      | nil => intro k; rfl
      | cons a q ih =>
        intro k
        rw [runN_cons, List.length_cons, allW]
        have e : okW (k + 1) a = inC [3, 4] a := by unfold okW; rw [inC34]; simp
        rw [e, ← ih (k + 1)]
        cases inC [3, 4] a with
        | true => simp
        | false => simp
    rw [allW, ← key r 0]
    have e : okW 0 c = inC [3] c := by unfold okW; simp
    rw [e]
    show decide ((if inC [3] c then 1 + runN (inC [3, 4]) r else 0) = _) = _
    rw [List.length_cons]
    cases inC [3] c with
    | true => simp; omega
    | false => simp
end Go.Proofs.Ytcbpnmdphmdemaa
