/- Tokens that Check lets by are good; all tokens of a good tree may be written. No function of the program is walked here. -/
/- The places of what is read are in order. No function of the program is walked here. -/
/- Tokens that stand in a text stand one behind the other. No function of the program is walked here. -/
/- What is read ends, or is wrong, at a place of the tokens. No function of the program is walked here. -/
import Derived.Test.YtbadafkfjfbnlaaGreatDoorMrgR
import Derived.Test.YtbadafkfjfbnlaaGreatDoorMrgS
import Derived.Test.YtbadafkfjfbnlaaGreatDoorMrgP
import Derived.Test.YtbadafkfjfbnlaaGreatDoorMrgF
namespace Go.Proofs.YtbadafkfjfbnlaaGreatDoor
set_option maxRecDepth 100000
open Go.RowKit

theorem dd_step {acc d : Nat} (h : acc ≠ 0) (hd : d < 10) : Lib.decDigits (acc * 10 + d) = Lib.decDigits acc ++ [UInt8.ofNat (48 + d)] := by
  rw [Lib.decDigits, dif_neg (by omega), show (acc * 10 + d) / 10 = acc by omega, show (acc * 10 + d) % 10 = d by omega]
theorem dig_back {c : UInt8} (h : clsI c.toNat = 4) : c.toNat - 48 < 10 ∧ UInt8.ofNat (48 + (c.toNat - 48)) = c ∧ 48 ≤ c.toNat := by
  have h1 := cls4.1 h
  refine ⟨by omega, ?_, h1.1⟩
  rw [show 48 + (c.toNat - 48) = c.toNat by omega, UInt8.ofNat_toNat]
theorem decF_digits : ∀ (L : List UInt8) (acc m : Nat), acc ≠ 0 → decF acc L = some m → Lib.decDigits m = Lib.decDigits acc ++ L
  | [], acc, m, _, h => by
    rw [decF] at h
    injection h with h
    rw [h, List.append_nil]
  | c :: r, acc, m, ha, h => by
    rw [decF] at h
    split at h
    · rename_i hc
      obtain ⟨h1, h2, h3⟩ := dig_back hc.1
      rw [decF_digits r _ m (by omega) h, dd_step ha h1, h2, List.append_assoc]
      rfl
    · cases h
/-- A number that may be is told by its digits. -/
theorem decO_digits {L : List UInt8} {m : Nat} (h : decO L = some m) : Lib.decDigits m = L := by
  unfold decO at h
  split at h
  · cases h
  rename_i hn
  cases L with
  | nil => exact absurd (.inl rfl) hn
  | cons c r =>
    rw [decF] at h
    split at h
    · rename_i hc
      obtain ⟨h1, h2, h3⟩ := dig_back hc.1
      rw [show 0 * 10 + (c.toNat - 48) = c.toNat - 48 by omega] at h
      have hs : Lib.decDigits (c.toNat - 48) = [c] := by rw [Lib.decDigits, dif_pos h1, h2]
      cases r with
      | nil =>
        rw [decF] at h
        injection h with h
        rw [← h, hs]
      | cons d r =>
        have h48 : c.toNat ≠ 48 := fun e => hn (.inr ⟨by simp, by rw [List.head?_cons, show c = 48 from UInt8.toNat_inj.1 e]⟩)
        rw [decF_digits _ _ m (by omega) h, hs]
        rfl
    · cases h
theorem decO_le {L : List UInt8} {m : Nat} (h : decO L = some m) : m ≤ 9223372036854775807 := by
  unfold decO at h
  split at h
  · cases h
  · exact decF_le (by omega) h
/-- A text that says something is what that is quoted as. -/
theorem unqA_quo : ∀ (k : Nat) (L acc : List UInt8) (i : Nat) (v : List UInt8), L.length ≤ k → unqA acc i L = some (v, i + L.length) → ∃ v', v = acc ++ v' ∧ v'.length ≤ L.length ∧ ∀ a, quoG a v' = some (a ++ L) := by
  intro k
  induction k with
  | zero =>
    intro L acc i v hk h
    cases L with
    | nil => simp [unqA] at h
    | cons c r => simp at hk
  | succ k ih =>
    intro L acc i v hk h
    cases L with
    | nil => simp [unqA] at h
    | cons c r =>
      rw [unqA_cons] at h
      split at h
      · rename_i hc
        simp only [Option.some.injEq, Prod.mk.injEq, List.length_cons] at h
        obtain ⟨rfl, h2⟩ := h
        have hr : r = [] := List.eq_nil_of_length_eq_zero (by omega)
        have hc' : c = 34 := UInt8.toNat_inj.1 hc
        subst hr hc'
        exact ⟨[], by simp, by simp, fun a => by rw [quoG]⟩
      rename_i hc
      split at h
      · rename_i h92
        have hc' : c = 92 := UInt8.toNat_inj.1 h92
        subst hc'
        cases r with
        | nil => simp at h
        | cons d r' =>
          simp only at h
          cases hp : pairU d with
          | none => rw [hp] at h; cases h
          | some x =>
            rw [hp] at h
            simp only [List.length_cons] at h hk
            obtain ⟨v', e1, e2, e3⟩ := ih r' (acc ++ [x]) (i + 2) v (by omega) (by rw [h]; congr 2; omega)
            have hq : quoB x = some [92, d] := by
              unfold pairU at hp
              split at hp
              · rename_i hd
                injection hp with hp
                subst hp
                unfold quoB
                rw [if_pos hd]
              · split at hp
                · rename_i h110
                  injection hp with hp
                  subst hp
                  rw [show d = 110 from UInt8.toNat_inj.1 h110]
                  rfl
                · cases hp
            refine ⟨x :: v', by rw [e1]; simp, by simp; omega, fun a => ?_⟩
            rw [quoG, hq]
            simp only
            rw [e3]
            simp
      rename_i h92
      split at h
      · rename_i hpl
        simp only [List.length_cons] at h hk
        obtain ⟨v', e1, e2, e3⟩ := ih r (acc ++ [c]) (i + 1) v (by omega) (by rw [h]; congr 2; omega)
        have hq : quoB c = some [c] := by
          unfold quoB
          rw [if_neg (by omega)]
          have h10 : ¬ c.toNat = 10 := fun e => by rw [e] at hpl; revert hpl; decide
          rw [if_neg h10, if_pos hpl]
        refine ⟨c :: v', by rw [e1]; simp, by simp; omega, fun a => ?_⟩
        rw [quoG, hq]
        simp only
        rw [e3]
        simp
      · cases h
theorem unqO_quo {L v : List UInt8} (h : unqO L = some (v, L.length)) : quoO v = some L ∧ v.length ≤ L.length := by
  cases L with
  | nil => simp [unqO] at h
  | cons c r =>
    rw [unqO] at h
    split at h
    · rename_i hc
      have hc' : c = 34 := UInt8.toNat_inj.1 hc
      subst hc'
      obtain ⟨v', e1, e2, e3⟩ := unqA_quo r.length r [] 1 v (Nat.le_refl _) (by rw [h]; simp only [List.length_cons]; congr 2; omega)
      rw [List.nil_append] at e1
      subst e1
      exact ⟨e3 [34], by simp; omega⟩
    · cases h
theorem aln_same {t u : Tok} (h : alnB t = true) (hk : u.kind = t.kind) (hx : u.text = t.text) : alnB u = true := by
  unfold alnB at h ⊢
  rw [hx]
  cases hl : (lexO t.text.data.toList).1 with
  | nil => rw [hl] at h; cases h
  | cons x r =>
    rw [hl] at h
    simp only [tkEq] at h ⊢
    rw [hk, hx]
    exact h
theorem bare_no {t : Tok} (h : t.kind ≠ 5) : bareB t = false := by
  unfold bareB
  rw [show (t.kind == 5) = false by simpa using h]
  rfl
theorem cls3_pl {c : UInt8} (h : clsI c.toNat = 3) : plB c = true := by
  unfold clsI at h
  unfold plB
  simp only [Bool.or_eq_true, Bool.and_eq_true, decide_eq_true_eq, UInt8.le_iff_toNat_le, beq_iff_eq, ← UInt8.toNat_inj]
  have e1 : (65 : UInt8).toNat = 65 := rfl
  have e2 : (90 : UInt8).toNat = 90 := rfl
  have e3 : (95 : UInt8).toNat = 95 := rfl
  have e4 : (97 : UInt8).toNat = 97 := rfl
  have e5 : (122 : UInt8).toNat = 122 := rfl
  have e6 : (48 : UInt8).toNat = 48 := rfl
  have e7 : (57 : UInt8).toNat = 57 := rfl
  have e8 : (34 : UInt8).toNat = 34 := rfl
  rw [e1, e2, e3, e4, e5, e6, e7, e8]
  repeat' split at h
  all_goals first | omega | (exfalso; revert h; decide)
/-- Which token of its kind a token that is one by itself is. -/
theorem aln_kinds {t : Tok} (h : alnB t = true) : (t.kind = 1 → plF t.text) ∧ (t.kind = 2 → ∃ m, decO t.text.data.toList = some m) ∧ (t.kind = 3 → ∃ v, unqO t.text.data.toList = some (v, t.text.data.toList.length)) := by
  obtain ⟨h1, h2, h3⟩ := aln_look h
  generalize hL : t.text.data.toList = L at h1 h3 ⊢
  cases L with
  | nil => exact absurd rfl h3
  | cons c r =>
    unfold lookR at h1
    simp only at h1
    split at h1
    · simp at h1; refine ⟨fun hk => ?_, fun hk => ?_, fun hk => ?_⟩ <;> (rw [hk] at h1; simp at h1)
    split at h1
    · simp at h1; refine ⟨fun hk => ?_, fun hk => ?_, fun hk => ?_⟩ <;> (rw [hk] at h1; simp at h1)
    split at h1
    · simp at h1; refine ⟨fun hk => ?_, fun hk => ?_, fun hk => ?_⟩ <;> (rw [hk] at h1; simp at h1)
    split at h1
    · rename_i hc
      simp only [Prod.mk.injEq] at h1
      exact ⟨fun _ => ⟨c, r, hL, cls3_pl hc⟩, fun hk => by rw [hk] at h1; exact absurd h1.1 (by decide), fun hk => by rw [hk] at h1; exact absurd h1.1 (by decide)⟩
    split at h1
    · simp only [Prod.mk.injEq] at h1
      refine ⟨fun hk => by rw [hk] at h1; exact absurd h1.1 (by decide), fun _ => ?_, fun hk => by rw [hk] at h1; exact absurd h1.1 (by decide)⟩
      have h4 := h1.2
      unfold numR at h4
      split at h4
      · simp at h4
      · rename_i hn
        simp only [Prod.mk.injEq] at h4
        have hd : (decO ((c :: r).take (runN (inC [4]) (c :: r)))).isSome = true := by
          cases hs : (decO ((c :: r).take (runN (inC [4]) (c :: r)))).isSome with
          | true => rfl
          | false => exact absurd (.inl hs) hn
        rw [h4.1, List.take_length] at hd
        exact Option.isSome_iff_exists.1 hd
    split at h1
    · simp only [Prod.mk.injEq] at h1
      refine ⟨fun hk => by rw [hk] at h1; exact absurd h1.1 (by decide), fun hk => by rw [hk] at h1; exact absurd h1.1 (by decide), fun _ => ?_⟩
      have h4 := h1.2
      unfold quoR at h4
      cases hu : unqO (c :: r) with
      | none => rw [hu] at h4; simp at h4
      | some p =>
        obtain ⟨v, n⟩ := p
        rw [hu] at h4
        simp only [Prod.mk.injEq] at h4
        exact ⟨v, by rw [h4.1]⟩
    split at h1
    · simp at h1; refine ⟨fun hk => ?_, fun hk => ?_, fun hk => ?_⟩ <;> (rw [hk] at h1; simp at h1)
    · simp only [Prod.mk.injEq] at h1
      refine ⟨fun hk => ?_, fun hk => ?_, fun hk => ?_⟩ <;> (rw [hk] at h1; exact absurd h1.1 (by decide))
theorem txt_toList (x : ByteArray) : (⟨x.data.toList.toArray⟩ : ByteArray) = x := rfl
theorem aln_good {t : Tok} (h : alnB t = true) : tgood t := by
  obtain ⟨g1, g2, g3⟩ := aln_kinds h
  have hs : t.text.size ≤ 4096 := aln_small h
  have hsl : t.text.data.toList.length ≤ 4096 := by have : t.text.size = t.text.data.toList.length := by simp
                                                    omega
  refine ⟨fun hk => ⟨g1 hk, wrA_of (bare_no (by show (1 : Int) ≠ 5; decide)) (aln_same h hk.symm rfl), hs⟩, fun hk => ?_, fun hk => ?_⟩
  · obtain ⟨m, hm⟩ := g2 hk
    have hn : numT t = m := by unfold numT numO; rw [if_pos hk, hm]
    have hd := decO_digits hm
    have hi : Lib.itoa (numT t) = t.text.data.toList := by rw [hn]; unfold Lib.itoa; rw [if_neg (by omega), Int.toNat_natCast, hd]
    have hx : (⟨(Lib.itoa (numT t)).toArray⟩ : ByteArray) = t.text := by rw [hi]
    have hle := decO_le hm
    refine ⟨fun u hu hut => ?_, ?_, ?_, by rw [hi]; exact hsl, by omega, by omega⟩
    · rw [hx] at hut
      show (match numO u with | some n => (n : Int) | none => 0) = numT t
      have : numO u = some m := by unfold numO; rw [if_pos hu, hut, hm]
      rw [this, hn]
    · rw [hx]
      obtain ⟨c, r, e, hc⟩ := dd_ne m
      rw [hd] at e
      refine ⟨c, r, e, ?_⟩
      unfold plB
      simp [hc.1, hc.2]
    · refine wrA_of (bare_no (by show (2 : Int) ≠ 5; decide)) (aln_same h hk.symm ?_)
      exact hx
  · obtain ⟨v, hv⟩ := g3 hk
    obtain ⟨hq, hl⟩ := unqO_quo hv
    have hz : t.text.size = t.text.data.toList.length := by simp
    have hval : ∀ u : Tok, u.kind = 3 → u.text = t.text → valT u = strU v := fun u hu hut => by
      unfold valT valO
      rw [if_pos hu, hut, hv]
      simp only [hz, if_true]
    have hqt : quoT (strU v) = t.text := by
      unfold quoT
      rw [show (strU v).data.toList = v by simp [strU], hq]
      rfl
    rw [hval t hk rfl]
    refine ⟨fun u hu hut => hval u hu (by rw [hut, hqt]), ?_, ?_, by rw [hqt]; exact hs, ?_⟩
    · rw [hqt]
      cases hL : t.text.data.toList with
      | nil => rw [hL] at hv; simp [unqO] at hv
      | cons c r =>
        rw [hL, unqO] at hv
        split at hv
        · rename_i hc
          exact ⟨c, r, hL, by rw [show c = 34 from UInt8.toNat_inj.1 hc]; decide⟩
        · cases hv
    · rw [hqt]
      exact wrA_of (bare_no (by show (3 : Int) ≠ 5; decide)) (aln_same h hk.symm rfl)
    · have : (strU v).size = v.length := by simp [strU, ByteArray.size]
      omega
theorem chkF_good : ∀ (ts : List Tok) (last : Tok), chkF last ts = true → ∀ t ∈ ts, tgood t
  | [], _, _ => fun t ht => by simp at ht
  | x :: r, last, h => fun t ht => by
    rw [chkF] at h
    split at h
    · rename_i hb
      split at h
      · rcases List.mem_cons.1 ht with rfl | ht
        · have hk : t.kind = 5 := (bare_clo hb).2.1
          exact ⟨fun e => by rw [hk] at e; exact absurd e (by decide), fun e => by rw [hk] at e; exact absurd e (by decide), fun e => by rw [hk] at e; exact absurd e (by decide)⟩
        · exact chkF_good r x h t ht
      · cases h
    · split at h
      · rename_i ha
        rcases List.mem_cons.1 ht with rfl | ht
        · exact aln_good ha
        · exact chkF_good r x h t ht
      · cases h
theorem chk_good {ts : List Tok} (h : chkO ts = 0) : ∀ p, tgood (nxT ts p) := by
  intro p
  unfold chkO at h
  split at h
  · cases h
  split at h
  · rename_i hc
    by_cases hp : p < ts.length
    · exact chkF_good ts _ hc _ (by unfold nxT; rw [List.getD_eq_getElem?_getD, List.getElem?_eq_getElem hp]; simp)
    · have : nxT ts p = tokZ := by unfold nxT; rw [List.getD_eq_getElem?_getD, List.getElem?_eq_none (by omega)]; rfl
      rw [this]
      exact ⟨fun e => absurd e (by decide), fun e => absurd e (by decide), fun e => absurd e (by decide)⟩
  · cases h
/-- A token that may be written. -/
def tOk (u : Tok) : Prop := wrA u = false ∧ u.text.size ≤ 4096 ∧ u.pos = 0
def aT (ws : List Tok) : Prop := ∀ u ∈ ws, tOk u
theorem aT_nil : aT [] := fun u hu => by simp at hu
theorem aT_app {a b : List Tok} (h : aT a) (h' : aT b) : aT (a ++ b) := fun u hu => (List.mem_append.1 hu).elim (h u) (h' u)
theorem aT_one {u : Tok} (h : tOk u) : aT [u] := fun v hv => by obtain rfl := List.mem_singleton.1 hv; exact h
theorem aT_cons {u : Tok} {a : List Tok} (h : tOk u) (h' : aT a) : aT (u :: a) := fun v hv => (List.mem_cons.1 hv).elim (fun e => by rw [e]; exact h) (h' v)
theorem aT_flat {os : List (List Tok)} (h : ∀ o ∈ os, aT o) : aT os.flatten := fun u hu => by
  obtain ⟨o, ho, hu⟩ := List.mem_flatten.1 hu
  exact h o ho u hu
theorem ok_en : tOk enT := ⟨by kernel_rfl, by decide, rfl⟩
theorem ok_40 : tOk (sgT [40]) := ⟨by kernel_rfl, by decide, rfl⟩
theorem ok_41 : tOk (sgT [41]) := ⟨by kernel_rfl, by decide, rfl⟩
theorem ok_44 : tOk (sgT [44]) := ⟨by kernel_rfl, by decide, rfl⟩
theorem ok_46 : tOk (sgT [46]) := ⟨by kernel_rfl, by decide, rfl⟩
theorem ok_61 : tOk (sgT [61]) := ⟨by kernel_rfl, by decide, rfl⟩
theorem ok_123 : tOk (sgT [123]) := ⟨by kernel_rfl, by decide, rfl⟩
theorem ok_125 : tOk (sgT [125]) := ⟨by kernel_rfl, by decide, rfl⟩
theorem ok_sho : tOk (sgT [58, 61]) := ⟨by kernel_rfl, by decide, rfl⟩
theorem aT_end {os : List (List Tok)} (h : ∀ o ∈ os, aT o) : aT (wEnd os) := aT_flat fun o ho => by
  obtain ⟨a, ha, rfl⟩ := List.mem_map.1 ho
  exact aT_app (h a ha) (aT_one ok_en)
theorem aT_par {s : List UInt8} (hs : tOk (sgT s)) {os : List (List Tok)} (h : ∀ o ∈ os, aT o) : aT (wPar s os) := by
  cases os with
  | nil => exact aT_nil
  | cons o r =>
    refine aT_app (h o (by simp)) (aT_flat fun o ho => ?_)
    obtain ⟨a, ha, rfl⟩ := List.mem_map.1 ho
    exact aT_cons hs (h a (by simp [ha]))
theorem aT_brk {os : List (List Tok)} (h : ∀ o ∈ os, aT o) : aT (wBrk os) := aT_app (aT_app (aT_one ok_40) (aT_par ok_44 h)) (aT_one ok_41)
theorem aT_bra {os : List (List Tok)} (h : ∀ o ∈ os, aT o) : aT (wBra os) := aT_app (aT_app (aT_one ok_123) (aT_end h)) (aT_one ok_125)
theorem aT_take {os : List (List Tok)} (n : Nat) (h : ∀ o ∈ os, aT o) : ∀ o ∈ os.take n, aT o := fun o ho => h o (List.mem_of_mem_take ho)
theorem aT_drop {os : List (List Tok)} (n : Nat) (h : ∀ o ∈ os, aT o) : ∀ o ∈ os.drop n, aT o := fun o ho => h o (List.mem_of_mem_drop ho)
theorem aT_if {os : List (List Tok)} (h : ∀ o ∈ os, aT o) : aT (wIf os) := by
  unfold wIf
  refine aT_app (aT_app (aT_flat (aT_take 2 h)) ?_) (aT_flat (aT_drop 2 h))
  split
  · exact aT_one ⟨by kernel_rfl, by decide, rfl⟩
  · exact aT_nil
theorem aT_ope {k : Int} {x : ByteArray} {hs : List (Int × ByteArray)} {os : List (List Tok)} (i : Nat) (h : ∀ o ∈ os, aT o) : aT (wOpe k x hs os i) := by
  unfold wOpe
  split
  · rename_i a o _ ho
    have hm : aT o := h o (List.mem_of_getElem? ho)
    split
    · exact aT_brk fun o' ho' => by obtain rfl := List.mem_singleton.1 ho'; exact hm
    · exact hm
  · exact aT_nil
theorem ok_word {x : ByteArray} (h : gW x) : tOk (tkW 1 x) := ⟨h.2.1, h.2.2, rfl⟩
theorem ok_quo {x : ByteArray} (h : gQ x) : tOk (tkW 3 (quoT x)) := ⟨h.2.2.1, h.2.2.2.1, rfl⟩
theorem ok_num {n : Int} (h : gI n) : tOk (nuT n) := ⟨h.2.2.1, by have := h.2.2.2.1; show (Lib.itoa n).toArray.size ≤ 4096; simpa using this, rfl⟩
theorem ok_sig {x : ByteArray} (h : gS x) : tOk (tkW 4 x) := ⟨h.1, h.2, rfl⟩
theorem aT_fun {x : ByteArray} {hs : List (Int × ByteArray)} {os : List (List Tok)} (hx : gW x) (h : ∀ o ∈ os, aT o) : aT (wFun x hs os) := by
  unfold wFun
  refine aT_app (aT_app (aT_app (aT_app (aT_one ⟨by kernel_rfl, by decide, rfl⟩) ?_) (aT_one (ok_word hx))) (aT_brk (aT_take _ (aT_drop _ h)))) (aT_flat (aT_drop _ (aT_drop _ h)))
  split
  · exact aT_brk (aT_take _ h)
  · exact aT_nil
theorem aT_X {k n : Int} {x : ByteArray} {hs : List (Int × ByteArray)} {os : List (List Tok)} (hn : NdOk k x n) (h : ∀ o ∈ os, aT o) : aT (wrX k x n hs os) := by
  unfold wrX
  split
  · rename_i e; exact aT_one (ok_num (hn.i e))
  split
  · rename_i e; exact aT_one (ok_quo (hn.q (by omega)))
  split
  · rename_i e; exact aT_one (ok_word (hn.w (by omega)))
  split
  · rename_i e; exact aT_app (aT_app (aT_ope 0 h) (aT_one ok_46)) (aT_one (ok_word (hn.w (by omega))))
  split
  · exact aT_app (aT_ope 0 h) (aT_brk (aT_drop 1 h))
  split
  · rename_i e; exact aT_app (aT_one (ok_sig (hn.g (by omega)))) (aT_ope 0 h)
  split
  · rename_i e; exact aT_app (aT_app (aT_ope 0 h) (aT_one (ok_sig (hn.g (by omega))))) (aT_ope 1 h)
  · exact aT_nil
theorem aT_S {k n : Int} {x : ByteArray} {hs : List (Int × ByteArray)} {os : List (List Tok)} (hn : NdOk k x n) (h : ∀ o ∈ os, aT o) : aT (wrS k x n hs os) := by
  unfold wrS
  split
  · exact aT_bra h
  split
  · exact aT_app (aT_one ⟨by kernel_rfl, by decide, rfl⟩) (aT_if h)
  split
  · exact aT_app (aT_one ⟨by kernel_rfl, by decide, rfl⟩) (aT_flat h)
  split
  · exact aT_app (aT_one ⟨by kernel_rfl, by decide, rfl⟩) (aT_flat h)
  split
  · rename_i e; exact aT_app (aT_app (aT_one (ok_word (hn.w (by omega)))) (aT_one ok_sho)) (aT_flat h)
  split
  · exact aT_par ok_61 h
  split
  · exact aT_flat h
  · exact aT_X hn h
theorem aT_K {k n : Int} {x : ByteArray} {hs : List (Int × ByteArray)} {os : List (List Tok)} (hn : NdOk k x n) (h : ∀ o ∈ os, aT o) : aT (wrK k x n hs os) := by
  unfold wrK
  split
  · rename_i e; exact aT_app (aT_app (aT_cons ⟨by kernel_rfl, by decide, rfl⟩ (aT_one (ok_word (hn.w (by omega))))) (aT_one ok_en)) (aT_end h)
  split
  · rename_i e; exact aT_app (aT_one ⟨by kernel_rfl, by decide, rfl⟩) (aT_one (ok_quo (hn.q (by omega))))
  split
  · rename_i e; exact aT_app (aT_app (aT_cons ⟨by kernel_rfl, by decide, rfl⟩ (aT_one (ok_word (hn.w (by omega))))) (aT_one ok_61)) (aT_flat h)
  split
  · rename_i e; exact aT_app (aT_cons ⟨by kernel_rfl, by decide, rfl⟩ (aT_one (ok_word (hn.w (by omega))))) (aT_par ok_61 h)
  split
  · rename_i e; exact aT_app (aT_cons ⟨by kernel_rfl, by decide, rfl⟩ (aT_cons (ok_word (hn.w (by omega))) (aT_one ⟨by kernel_rfl, by decide, rfl⟩))) (aT_bra h)
  split
  · rename_i e; exact aT_fun (hn.w (by omega)) h
  split
  · rename_i e; exact aT_app (aT_one (ok_word (hn.w (by omega)))) (aT_flat h)
  split
  · rename_i e; exact aT_one (ok_word (hn.w (by omega)))
  split
  · rename_i e; exact aT_app (aT_app (aT_flat h) (aT_one ok_46)) (aT_one (ok_word (hn.w (by omega))))
  · exact aT_S hn h
mutual
/-- All tokens of a tree whose words may stand may be written. -/
theorem ok_aT : ∀ t : Pt, okP t → aT (wrP t)
  | .mk k x n a f e l, h => by
    rw [okP] at h
    rw [wrP]
    exact aT_K h.1 (ok_aTs l h.2)
theorem ok_aTs : ∀ l : List Pt, okL l → ∀ o ∈ wrM l, aT o
  | [], _ => fun o ho => by simp [wrM] at ho
  | t :: r, h => fun o ho => by
    rw [okL] at h
    rw [wrM] at ho
    rcases List.mem_cons.1 ho with rfl | ho
    · exact ok_aT t h.1
    · exact ok_aTs r h.2 o ho
end
mutual
theorem ok_gd : ∀ t : Pt, okP t → GdP t
  | .mk k x n a f e l, h => by
    rw [okP] at h
    rw [GdP]
    have h1 := h.1.s
    have h2 := h.1.r
    exact ⟨by omega, ⟨by omega, h2.2⟩, ok_gds l h.2⟩
theorem ok_gds : ∀ l : List Pt, okL l → GdL l
  | [], _ => by rw [GdL]; trivial
  | t :: r, h => by
    rw [okL] at h
    rw [GdL]
    exact ⟨ok_gd t h.1, ok_gds r h.2⟩
end
end Go.Proofs.YtbadafkfjfbnlaaGreatDoor

namespace Go.Proofs.YtbadafkfjfbnlaaGreatDoor
set_option maxRecDepth 100000
open Go.RowKit

def frmP : Pt → Int | .mk _ _ _ _ f _ _ => f
def toP : Pt → Int | .mk _ _ _ _ _ t _ => t
/-- Kinds whose Text stands in the text, at At. -/
def wordK (k : Int) : Bool := !(k == 13 || k == 14 || k == 15 || k == 16 || k == 18 || k == 19 || k == 25 || k == 20 || k == 21 || k == 2)
/-- Tokens that stand one behind the other, in a text of that length. -/
structure Std (ts : List Tok) (N : Int) : Prop where
  zero : 0 ≤ N
  one : ∀ p, p < ts.length → 0 ≤ (nxT ts p).pos ∧ (nxT ts p).pos + (nxT ts p).text.size ≤ N
  two : ∀ p, p + 1 < ts.length → (nxT ts p).pos + (nxT ts p).text.size ≤ (nxT ts (p + 1)).pos
mutual
/-- A part's places are in order. -/
def plP (ts : List Tok) (N : Int) : Pt → Prop
  | .mk k x _ a f t l => (f ≤ a ∧ a ≤ t ∧ 0 ≤ f ∧ t ≤ N ∧ (wordK k = true → ∃ p, p < ts.length ∧ x = (nxT ts p).text ∧ a = (nxT ts p).pos)) ∧ plL ts N f t l
def plL (ts : List Tok) (N : Int) (lo hi : Int) : List Pt → Prop
  | [] => True
  | t :: r => (lo ≤ frmP t ∧ toP t ≤ hi) ∧ plP ts N t ∧ plL ts N (toP t) hi r
end
def plR (ts : List Tok) (N : Int) (lo : Int) (p : Nat) (r : Rs Pt) : Prop := match r with | .ok t q => p ≤ q ∧ q ≤ ts.length ∧ lo ≤ frmP t ∧ toP t ≤ behI ts q ∧ plP ts N t | _ => True
def plS (ts : List Tok) (N : Int) (lo : Int) (p : Nat) (r : Rs (List Pt)) : Prop := match r with | .ok l q => p ≤ q ∧ q ≤ ts.length ∧ plL ts N lo (behI ts q) l | _ => True
section
variable {ts : List Tok} {N : Int}
theorem plP_le {t : Pt} (h : plP ts N t) : frmP t ≤ toP t ∧ 0 ≤ frmP t := by
  cases t with
  | mk k x n a f t l =>
    rw [plP] at h
    show f ≤ t ∧ 0 ≤ f
    omega
theorem Std.hp {p : Nat} (h : p < ts.length) : herI ts p = (nxT ts p).pos := by unfold herI; rw [if_pos h]
theorem Std.bh (hs : Std ts N) {p : Nat} (_h : p ≤ ts.length) : behI ts p ≤ herI ts p := by
  unfold herI
  split
  · rename_i hp
    unfold behI
    split
    · exact (hs.one p hp).1
    · have := hs.two (p - 1) (by omega)
      rw [show p - 1 + 1 = p by omega] at this
      exact this
  · exact Int.le_refl _
theorem Std.hb {p : Nat} (h : p < ts.length) : herI ts p ≤ behI ts (p + 1) := by
  rw [Std.hp h]
  unfold behI
  rw [if_neg (by omega), show p + 1 - 1 = p by omega]
  omega
theorem Std.bb (hs : Std ts N) {p q : Nat} (h : p ≤ q) (hq : q ≤ ts.length) : behI ts p ≤ behI ts q := by
  induction q with
  | zero => obtain rfl : p = 0 := by omega
            exact Int.le_refl _
  | succ q ih =>
    rcases Nat.lt_or_ge p (q + 1) with h1 | h1
    · have h2 := ih (by omega) (by omega)
      have h3 := hs.bh (p := q) (by omega)
      have h4 := Std.hb (ts := ts) (p := q) (by omega)
      omega
    · obtain rfl : p = q + 1 := by omega
      exact Int.le_refl _
theorem Std.hq (hs : Std ts N) {p q : Nat} (h : p < q) (hq : q ≤ ts.length) : herI ts p ≤ behI ts q := by
  have h1 := Std.hb (ts := ts) (p := p) (by omega)
  have h2 := hs.bb (p := p + 1) (q := q) (by omega) hq
  omega
theorem Std.hh (hs : Std ts N) {p q : Nat} (h : p ≤ q) (hq : q ≤ ts.length) : herI ts p ≤ herI ts q := by
  rcases Nat.lt_or_ge p q with h1 | h1
  · have h2 := hs.hq h1 hq
    have h3 := hs.bh hq
    omega
  · obtain rfl : p = q := by omega
    exact Int.le_refl _
theorem Std.z (hs : Std ts N) {p : Nat} (h : p ≤ ts.length) : 0 ≤ behI ts p ∧ behI ts p ≤ N := by
  refine ⟨hs.bb (p := 0) (Nat.zero_le _) h, ?_⟩
  unfold behI
  split
  · exact hs.zero
  · exact (hs.one (p - 1) (by omega)).2
theorem Std.hz (hs : Std ts N) {p : Nat} (h : p ≤ ts.length) : 0 ≤ herI ts p := by
  have := hs.z h
  have := hs.bh h
  omega
theorem plL_lo {lo lo' hi : Int} {l : List Pt} (h : plL ts N lo hi l) (hl : lo' ≤ lo) : plL ts N lo' hi l := by
  cases l with
  | nil => rw [plL]; trivial
  | cons t r => rw [plL] at h ⊢; exact ⟨⟨by omega, h.1.2⟩, h.2⟩
theorem plL_nil (lo hi : Int) : plL ts N lo hi [] := by rw [plL]; trivial
theorem plL_app {b : List Pt} {h2 : Int} : ∀ {a : List Pt} {lo h : Int}, plL ts N lo h a → plL ts N h h2 b → lo ≤ h → h ≤ h2 → plL ts N lo h2 (a ++ b)
  | [], lo, h, _, hb, h1, _ => plL_lo hb h1
  | t :: r, lo, h, ha, hb, h1, h3 => by
    rw [List.cons_append, plL]
    rw [plL] at ha
    exact ⟨⟨ha.1.1, by omega⟩, ha.2.1, plL_app ha.2.2 hb ha.1.2 h3⟩
theorem plL_one {t : Pt} {lo hi : Int} (h : plP ts N t) (h1 : lo ≤ frmP t) (h2 : toP t ≤ hi) : plL ts N lo hi [t] := by
  rw [plL, plL]
  exact ⟨⟨h1, h2⟩, h, trivial⟩
theorem pl_mk (hs : Std ts N) {k n : Int} {x : ByteArray} {a f : Int} {l : List Pt} {i q : Nat} (hi : i < q) (hq : q ≤ ts.length) (hx : x = (nxT ts i).text) (ha : a = (nxT ts i).pos) (hf : f ≤ herI ts i) (h0 : 0 ≤ f) (hl : plL ts N f (behI ts q) l) : plP ts N (.mk k x n a f (behI ts q) l) := by
  have h1 := hs.hq hi hq
  have h2 := Std.hp (ts := ts) (p := i) (by omega)
  have h3 := hs.z hq
  rw [plP]
  exact ⟨⟨by omega, by omega, h0, h3.2, fun _ => ⟨i, by omega, hx, ha⟩⟩, hl⟩
theorem pl_no (hs : Std ts N) {k n : Int} {x : ByteArray} {a f : Int} {l : List Pt} {q : Nat} (hk : wordK k = false) (hq : q ≤ ts.length) (hf : f ≤ a) (ha : a ≤ behI ts q) (h0 : 0 ≤ f) (hl : plL ts N f (behI ts q) l) : plP ts N (.mk k x n a f (behI ts q) l) := by
  have h3 := hs.z hq
  rw [plP]
  exact ⟨⟨hf, ha, h0, h3.2, fun h => by rw [hk] at h; cases h⟩, hl⟩
theorem pl_ok {lo : Int} {p q : Nat} {k n : Int} {x : ByteArray} {a f : Int} {l : List Pt} (h1 : p ≤ q) (h2 : q ≤ ts.length) (h3 : lo ≤ f) (h : plP ts N (.mk k x n a f (behI ts q) l)) : plR ts N lo p (.ok (.mk k x n a f (behI ts q) l) q) := ⟨h1, h2, h3, Int.le_refl _, h⟩
theorem pl_need {lo : Int} {p : Nat} {b : Bool} {s : Int} {k : Rs Pt} (h : b = true → plR ts N lo p k) : plR ts N lo p (Rs.need b s k) := by
  unfold Rs.need
  split
  · rename_i hb; exact h hb
  · trivial
theorem ps_need {lo : Int} {p : Nat} {b : Bool} {s : Int} {k : Rs (List Pt)} (h : b = true → plS ts N lo p k) : plS ts N lo p (Rs.need b s k) := by
  unfold Rs.need
  split
  · rename_i hb; exact h hb
  · trivial
theorem pl_ite {lo : Int} {p : Nat} {c : Prop} [Decidable c] {a b : Rs Pt} (h : c → plR ts N lo p a) (h' : ¬ c → plR ts N lo p b) : plR ts N lo p (if c then a else b) := by
  split
  · rename_i hc; exact h hc
  · rename_i hc; exact h' hc
theorem ps_ite {lo : Int} {p : Nat} {c : Prop} [Decidable c] {a b : Rs (List Pt)} (h : c → plS ts N lo p a) (h' : ¬ c → plS ts N lo p b) : plS ts N lo p (if c then a else b) := by
  split
  · rename_i hc; exact h hc
  · rename_i hc; exact h' hc
theorem pl_bind {lo lo' : Int} {p p' : Nat} {r : Rs Pt} {f : Pt → Nat → Rs Pt} (h : plR ts N lo' p' r) (hf : ∀ t q, p' ≤ q → q ≤ ts.length → lo' ≤ frmP t → toP t ≤ behI ts q → plP ts N t → plR ts N lo p (f t q)) : plR ts N lo p (r.bind f) := by
  cases r with
  | ok t q => exact hf t q h.1 h.2.1 h.2.2.1 h.2.2.2.1 h.2.2.2.2
  | bad s => trivial
  | out => trivial
theorem pl_binds {lo lo' : Int} {p p' : Nat} {r : Rs (List Pt)} {f : List Pt → Nat → Rs Pt} (h : plS ts N lo' p' r) (hf : ∀ l q, p' ≤ q → q ≤ ts.length → plL ts N lo' (behI ts q) l → plR ts N lo p (f l q)) : plR ts N lo p (r.bind f) := by
  cases r with
  | ok l q => exact hf l q h.1 h.2.1 h.2.2
  | bad s => trivial
  | out => trivial
theorem ps_bind {lo lo' : Int} {p p' : Nat} {r : Rs Pt} {f : Pt → Nat → Rs (List Pt)} (h : plR ts N lo' p' r) (hf : ∀ t q, p' ≤ q → q ≤ ts.length → lo' ≤ frmP t → toP t ≤ behI ts q → plP ts N t → plS ts N lo p (f t q)) : plS ts N lo p (r.bind f) := by
  cases r with
  | ok t q => exact hf t q h.1 h.2.1 h.2.2.1 h.2.2.2.1 h.2.2.2.2
  | bad s => trivial
  | out => trivial
theorem ps_binds {lo lo' : Int} {p p' : Nat} {r : Rs (List Pt)} {f : List Pt → Nat → Rs (List Pt)} (h : plS ts N lo' p' r) (hf : ∀ l q, p' ≤ q → q ≤ ts.length → plL ts N lo' (behI ts q) l → plS ts N lo p (f l q)) : plS ts N lo p (r.bind f) := by
  cases r with
  | ok l q => exact hf l q h.1 h.2.1 h.2.2
  | bad s => trivial
  | out => trivial
theorem pl_mono {lo lo' : Int} {p p' : Nat} {r : Rs Pt} (h : plR ts N lo' p' r) (h1 : lo ≤ lo') (h2 : p ≤ p') : plR ts N lo p r := by
  cases r with
  | ok t q => exact ⟨Nat.le_trans h2 h.1, h.2.1, Int.le_trans h1 h.2.2.1, h.2.2.2⟩
  | bad s => trivial
  | out => trivial
theorem ps_mono {lo : Int} {p p' : Nat} {r : Rs (List Pt)} (h : plS ts N lo p' r) (h2 : p ≤ p') : plS ts N lo p r := by
  cases r with
  | ok t q => exact ⟨Nat.le_trans h2 h.1, h.2⟩
  | bad s => trivial
  | out => trivial
theorem pl_exp {lo : Int} {p m : Nat} {s : List UInt8} {k : Nat → Rs Pt} (hs : s ≠ []) (h : p < ts.length → plR ts N lo m (k (p + 1))) : plR ts N lo m (expP ts s p k) := pl_need fun hb => h (is_lt hb hs)
theorem pl_kin {lo : Int} {n : Int} {p m : Nat} {k : Tok → Nat → Rs Pt} (hn : n ≠ 0) (h : p < ts.length → plR ts N lo m (k (nxT ts p) (p + 1))) : plR ts N lo m (kinP ts n p k) := pl_need fun hb => h (kin_lt hb hn)
theorem pl_nam {lo : Int} {p m : Nat} {k : Tok → Nat → Rs Pt} (h : p < ts.length → plR ts N lo m (k (nxT ts p) (p + 1))) : plR ts N lo m (namP ts p k) := pl_need fun hb => h (nam_lt hb)
theorem ps_exp {lo : Int} {p m : Nat} {s : List UInt8} {k : Nat → Rs (List Pt)} (hs : s ≠ []) (h : p < ts.length → plS ts N lo m (k (p + 1))) : plS ts N lo m (expP ts s p k) := ps_need fun hb => h (is_lt hb hs)
theorem ps_kin {lo : Int} {n : Int} {p m : Nat} {k : Tok → Nat → Rs (List Pt)} (hn : n ≠ 0) (h : p < ts.length → plS ts N lo m (k (nxT ts p) (p + 1))) : plS ts N lo m (kinP ts n p k) := ps_need fun hb => h (kin_lt hb hn)
theorem ps_ok {lo : Int} {p q : Nat} {l : List Pt} (h1 : p ≤ q) (h2 : q ≤ ts.length) (h : plL ts N lo (behI ts q) l) : plS ts N lo p (.ok l q) := ⟨h1, h2, h⟩
theorem pl_lea (hs : Std ts N) (k : Int) {p : Nat} (h : p < ts.length) : plR ts N (herI ts p) (p + 1) (leaP ts k p) :=
  pl_ok (Nat.le_refl _) (by omega) (Int.le_refl _) (pl_mk hs (i := p) (by omega) (by omega) rfl rfl (Int.le_refl _) (hs.hz (by omega)) (plL_nil _ _))
theorem pl_wor (hs : Std ts N) (k : Int) (p : Nat) : plR ts N (herI ts p) (p + 1) (worP ts k p) := pl_need fun hb => pl_lea hs k (nam_lt hb)
theorem pl_va1 (hs : Std ts N) (p : Nat) : plR ts N (herI ts p) (p + 1) (va1P ts p) := by
  unfold va1P
  refine pl_ite (fun h => ?_) fun _ => pl_ite (fun h => ?_) fun _ => pl_ite (fun h => pl_lea hs _ ?_) fun _ => trivial
  · have hp := kin_lt h (by decide)
    exact pl_ok (Nat.le_refl _) (by omega) (Int.le_refl _) (pl_no hs rfl (by omega) (by rw [Std.hp hp]; exact Int.le_refl _) (by have := Std.hb hp; rw [Std.hp hp] at this; exact this) (hs.hz (by omega)) (plL_nil _ _))
  · have hp := kin_lt h (by decide)
    exact pl_ok (Nat.le_refl _) (by omega) (Int.le_refl _) (pl_no hs rfl (by omega) (by rw [Std.hp hp]; exact Int.le_refl _) (by have := Std.hb hp; rw [Std.hp hp] at this; exact this) (hs.hz (by omega)) (plL_nil _ _))
  · rw [Bool.or_eq_true] at h
    rcases h with h | h <;> exact is_lt h (by simp)
theorem pl_val (hs : Std ts N) (p : Nat) : plR ts N (herI ts p) (p + 1) (valP ts p) := by
  unfold valP
  refine pl_ite (fun h => ?_) fun _ => pl_va1 hs p
  have hp := is_lt h (by simp)
  refine pl_ite (fun h2 => pl_bind (pl_va1 hs _) fun v q h1 h2 h3 h4 h5 => ?_) fun _ => trivial
  have := hs.hh (p := p) (q := p + 1) (by omega) (by omega)
  exact pl_ok (by omega) h2 (Int.le_refl _) (pl_mk hs (i := p) (by omega) h2 rfl rfl (Int.le_refl _) (hs.hz (by omega)) (plL_one h5 (by omega) h4))
theorem pl_typ (hs : Std ts N) (p : Nat) : plR ts N (herI ts p) (p + 1) (typP ts p) := by
  unfold typP
  refine pl_ite (fun h => pl_lea hs _ ?_) fun _ => pl_ite (fun _ => pl_bind (pl_wor hs 23 p) fun v q h1 h2 h3 h4 h5 => pl_exp (by simp) fun _ => pl_nam fun hn => ?_) fun _ => pl_wor hs _ _
  · rw [Bool.or_eq_true, Bool.or_eq_true] at h
    rcases h with (h | h) | h <;> exact is_lt h (by simp)
  · have e1 := hs.hh (p := p) (q := q + 1) (by omega) (by omega)
    have e2 := hs.bb (p := q) (q := q + 1 + 1) (by omega) (by omega)
    exact pl_ok (by omega) (by omega) (Int.le_refl _) (pl_mk hs (i := q + 1) (by omega) (by omega) rfl rfl e1 (hs.hz (by omega)) (plL_one h5 h3 (by omega)))
theorem pl_tyd (hs : Std ts N) (k : Int) (p : Nat) : plR ts N (herI ts p) (p + 1) (tydP ts k p) := by
  unfold tydP
  refine pl_nam fun hp => pl_bind (pl_typ hs _) fun v q h1 h2 h3 h4 h5 => ?_
  have e1 := hs.hh (p := p) (q := p + 1) (by omega) (by omega)
  exact pl_ok (by omega) h2 (Int.le_refl _) (pl_mk hs (i := p) (by omega) h2 rfl rfl (Int.le_refl _) (hs.hz (by omega)) (plL_one h5 (by omega) h4))
theorem pl_imp (hs : Std ts N) (p : Nat) : plR ts N (herI ts p) (p + 1) (impP ts p) := by
  unfold impP
  refine pl_exp (by simp) fun hp => pl_kin (by simp) fun h1 => ?_
  have e1 := hs.hh (p := p) (q := p + 1) (by omega) (by omega)
  have e2 := hs.hq (p := p + 1) (q := p + 1 + 1) (by omega) (by omega)
  rw [Std.hp h1] at e1 e2
  exact pl_ok (by omega) (by omega) (Int.le_refl _) (pl_no hs rfl (by omega) e1 e2 (hs.hz (by omega)) (plL_nil _ _))
theorem pl_con (hs : Std ts N) (p : Nat) : plR ts N (herI ts p) (p + 1) (conP ts p) := by
  unfold conP
  refine pl_exp (by simp) fun hp => pl_nam fun h1 => pl_exp (by simp) fun h2 => pl_bind (pl_val hs _) fun v q h3 h4 h5 h6 h7 => ?_
  have e1 := hs.hh (p := p) (q := p + 1) (by omega) (by omega)
  have e2 := hs.hh (p := p) (q := p + 1 + 1 + 1) (by omega) (by omega)
  exact pl_ok (by omega) h4 (Int.le_refl _) (pl_mk hs (i := p + 1) (by omega) h4 rfl rfl e1 (hs.hz (by omega)) (plL_one h7 (by omega) h6))
theorem pl_rec (hs : Std ts N) (p : Nat) : plR ts N (herI ts p) (p + 1) (recP ts p) := by
  unfold recP
  refine pl_nam fun hp => pl_bind (pl_wor hs _ _) fun v q h3 h4 h5 h6 h7 => ?_
  have e1 := hs.hh (p := p) (q := p + 1) (by omega) (by omega)
  exact pl_ok (by omega) h4 (Int.le_refl _) (pl_mk hs (i := p) (by omega) h4 rfl rfl (Int.le_refl _) (hs.hz (by omega)) (plL_one h7 (by omega) h6))
structure PlA (ts : List Tok) (N : Int) (n : Nat) : Prop where
  bin : ∀ l p, plR ts N (herI ts p) (p + 1) ((fns ts n).bin l p)
  binL : ∀ l fr t p, p ≤ ts.length → 0 ≤ fr → fr ≤ frmP t → toP t ≤ behI ts p → plP ts N t → plR ts N fr p ((fns ts n).binL l fr t p)
  una : ∀ p, plR ts N (herI ts p) (p + 1) ((fns ts n).una p)
  post : ∀ p, plR ts N (herI ts p) (p + 1) ((fns ts n).post p)
  posL : ∀ fr t p, p ≤ ts.length → 0 ≤ fr → fr ≤ frmP t → toP t ≤ behI ts p → plP ts N t → plR ts N fr p ((fns ts n).posL fr t p)
  prim : ∀ p, plR ts N (herI ts p) (p + 1) ((fns ts n).prim p)
  argL : ∀ lo l p, p ≤ ts.length → lo ≤ behI ts p → plL ts N lo (behI ts p) l → plS ts N lo p ((fns ts n).argL l p)
  parL : ∀ lo l p, p ≤ ts.length → lo ≤ behI ts p → plL ts N lo (behI ts p) l → plS ts N lo p ((fns ts n).parL l p)
  fieL : ∀ lo l p, p ≤ ts.length → lo ≤ behI ts p → plL ts N lo (behI ts p) l → plS ts N lo p ((fns ts n).fieL l p)
  stmt : ∀ p, plR ts N (herI ts p) (p + 1) ((fns ts n).stmt p)
  bran : ∀ p, plR ts N (herI ts p) (p + 1) ((fns ts n).bran p)
  stmL : ∀ lo l p, p ≤ ts.length → lo ≤ behI ts p → plL ts N lo (behI ts p) l → plS ts N lo p ((fns ts n).stmL l p)
  impL : ∀ lo l p, p ≤ ts.length → lo ≤ behI ts p → plL ts N lo (behI ts p) l → plS ts N lo p ((fns ts n).impL l p)
  decL : ∀ lo l p, p ≤ ts.length → lo ≤ behI ts p → plL ts N lo (behI ts p) l → plS ts N lo p ((fns ts n).decL l p)
/-- A part more. -/
theorem pl_more (hs : Std ts N) {lo : Int} {l : List Pt} {t : Pt} {p p' q : Nat} (hl : plL ts N lo (behI ts p) l) (h0 : lo ≤ behI ts p) (hp : p ≤ p') (hq : p' ≤ q) (hl2 : q ≤ ts.length) (h1 : herI ts p' ≤ frmP t) (h2 : toP t ≤ behI ts q) (h3 : plP ts N t) : plL ts N lo (behI ts q) (l ++ [t]) := by
  have e1 := hs.bb (p := p) (q := p') hp (by omega)
  have e2 := hs.bh (p := p') (by omega)
  have e3 := hs.bb (p := p) (q := q) (by omega) hl2
  exact plL_app hl (plL_one h3 (by omega) h2) h0 e3
theorem pl_keep (hs : Std ts N) {lo : Int} {l : List Pt} {p q : Nat} (hl : plL ts N lo (behI ts p) l) (h0 : lo ≤ behI ts p) (hp : p ≤ q) (hq : q ≤ ts.length) : plL ts N lo (behI ts q) l := by
  have e3 := hs.bb (p := p) (q := q) hp hq
  have := plL_app (b := []) hl (plL_nil _ _) h0 e3
  rw [List.append_nil] at this
  exact this
theorem pl_lis (hs : Std ts N) {one : Nat → Rs Pt} {more : List Pt → Nat → Rs (List Pt)} {p : Nat} (h1 : ∀ q, plR ts N (herI ts q) (q + 1) (one q)) (h2 : ∀ lo l q, q ≤ ts.length → lo ≤ behI ts q → plL ts N lo (behI ts q) l → plS ts N lo q (more l q)) : plS ts N (herI ts p) (p + 1) (lisP ts one more p) := by
  unfold lisP
  refine ps_exp (by simp) fun hp => ps_ite (fun h => ps_ok (by omega) (by have := is_lt h (by simp); omega) (plL_nil _ _)) fun _ => ps_bind (h1 _) fun v q a1 a2 a3 a4 a5 => ps_binds (lo' := herI ts p) (h2 _ _ _ a2 (hs.hq (by omega) a2) ?_) fun l q' b1 b2 b3 => ps_exp (by simp) fun h => ps_ok (by omega) (by omega) (pl_keep hs b3 (hs.hq (by omega) b2) (by omega) (by omega))
  have e1 := hs.hh (p := p) (q := p + 1) (by omega) (by omega)
  exact plL_one a5 (by omega) a4
theorem pl_lin (hs : Std ts N) {more : List Pt → Nat → Rs (List Pt)} {p : Nat} (h2 : ∀ lo l q, q ≤ ts.length → lo ≤ behI ts q → plL ts N lo (behI ts q) l → plS ts N lo q (more l q)) : plS ts N (herI ts p) (p + 1) (linP ts more p) := by
  unfold linP
  exact ps_exp (by simp) fun hp => ps_binds (h2 (herI ts p) [] _ hp (Std.hb hp) (plL_nil _ _)) fun l q' b1 b2 b3 => ps_exp (by simp) fun h => ps_ok (by omega) (by omega) (pl_keep hs b3 (hs.hq (by omega) b2) (by omega) (by omega))
theorem pl_blo (hs : Std ts N) {n : Nat} (ih : PlA ts N n) (p : Nat) : plR ts N (herI ts p) (p + 1) (bloP ts (fns ts n) p) := by
  unfold bloP
  refine pl_binds (pl_lin hs ih.stmL) fun l q h1 h2 h3 => ?_
  exact pl_ok h1 h2 (Int.le_refl _) (pl_no hs rfl h2 (Int.le_refl _) (hs.hq (by omega) h2) (hs.hz (by omega)) h3)
theorem pl_var (hs : Std ts N) {n : Nat} (ih : PlA ts N n) (p : Nat) : plR ts N (herI ts p) (p + 1) (varP ts (fns ts n) p) := by
  unfold varP
  refine pl_exp (by simp) fun h1 => pl_nam fun h2 => pl_bind (pl_typ hs _) fun v q a1 a2 a3 a4 a5 => pl_ite (fun h => pl_bind (ih.bin 0 _) fun x q' b1 b2 b3 b4 b5 => ?_) fun _ => ?_
  · have e1 := hs.hh (p := p) (q := p + 1) (by omega) (by omega)
    have e2 := hs.hh (p := p) (q := p + 1 + 1) (by omega) (by omega)
    have hl : plL ts N (herI ts p) (behI ts q') ([v] ++ [x]) := pl_more hs (p := q) (p' := q + 1) (plL_one a5 (by omega) a4) (hs.hq (by omega) a2) (by omega) (by omega) b2 b3 b4 b5
    exact pl_ok (by omega) b2 (Int.le_refl _) (pl_mk hs (i := p + 1) (by omega) b2 rfl rfl e1 (hs.hz (by omega)) hl)
  · have e1 := hs.hh (p := p) (q := p + 1) (by omega) (by omega)
    have e2 := hs.hh (p := p) (q := p + 1 + 1) (by omega) (by omega)
    exact pl_ok (by omega) a2 (Int.le_refl _) (pl_mk hs (i := p + 1) (by omega) a2 rfl rfl e1 (hs.hz (by omega)) (plL_one a5 (by omega) a4))
theorem pl_dec (hs : Std ts N) {n : Nat} (ih : PlA ts N n) (p : Nat) : plR ts N (herI ts p) (p + 1) (decP ts (fns ts n) p) := by
  have hfun : ∀ fr l q, q ≤ ts.length → 0 ≤ fr → fr ≤ behI ts q → plL ts N fr (behI ts q) l → plR ts N fr (q + 1) (funR ts (fns ts n) fr l q) := fun fr l q hq h0 hf hl => by
    unfold funR
    have e0 := hs.bh hq
    refine pl_nam fun h1 => pl_binds (pl_lis hs (pl_tyd hs 9) ih.parL) fun ps q1 a1 a2 a3 => ?_
    have e1 := hs.bb (p := q) (q := q1) (by omega) a2
    have hl1 : plL ts N fr (behI ts q1) (l ++ ps) := plL_app hl (plL_lo a3 (by have := hs.bh (p := q + 1) (by omega); have := hs.bb (p := q) (q := q + 1) (by omega) (by omega); omega)) hf e1
    refine pl_ite (fun _ => pl_bind (pl_blo hs ih _) fun b q2 b1 b2 b3 b4 b5 => ?_) fun _ => pl_bind (pl_typ hs _) fun v q2 c1 c2 c3 c4 c5 => pl_bind (pl_blo hs ih _) fun b q3 b1 b2 b3 b4 b5 => ?_
    · exact pl_ok (by omega) b2 (Int.le_refl _) (pl_mk hs (i := q) (by omega) b2 rfl rfl (by omega) h0 (pl_more hs hl1 (by omega) (Nat.le_refl _) (by omega) b2 b3 b4 b5))
    · have hl2 := pl_more hs hl1 (by omega) (Nat.le_refl _) (by omega) c2 c3 c4 c5
      have e2 := hs.bb (p := q1) (q := q2) (by omega) c2
      exact pl_ok (by omega) b2 (Int.le_refl _) (pl_mk hs (i := q) (by omega) b2 rfl rfl (by omega) h0 (pl_more hs hl2 (by omega) (Nat.le_refl _) (by omega) b2 b3 b4 b5))
  unfold decP
  refine pl_ite (fun _ => pl_con hs p) fun _ => pl_ite (fun _ => pl_var hs ih p) fun _ => pl_ite (fun _ => ?_) fun _ => pl_ite (fun _ => ?_) fun _ => trivial
  · unfold strP
    refine pl_exp (by simp) fun h1 => pl_nam fun h2 => pl_exp (by simp) fun h3 => pl_binds (pl_lin hs ih.fieL) fun l q a1 a2 a3 => ?_
    have e1 := hs.hh (p := p) (q := p + 1) (by omega) (by omega)
    have e2 := hs.hh (p := p) (q := p + 1 + 1 + 1) (by omega) (by omega)
    exact pl_ok (by omega) a2 (Int.le_refl _) (pl_mk hs (i := p + 1) (by omega) a2 rfl rfl e1 (hs.hz (by omega)) (plL_lo a3 e2))
  · unfold funP
    refine pl_exp (by simp) fun h1 => pl_ite (fun h => pl_bind (pl_rec hs _) fun v q a1 a2 a3 a4 a5 => pl_exp (by simp) fun h2 => ?_) fun _ => ?_
    · have e1 := hs.hh (p := p) (q := p + 1 + 1) (by omega) (by omega)
      have e2 := hs.hq (p := p) (q := q) (by omega) a2
      have e3 := hs.hq (p := p) (q := q + 1) (by omega) (by omega)
      exact pl_mono (hfun _ _ _ (by omega) (hs.hz (by omega)) e3 (pl_keep hs (plL_one a5 (by omega) a4) e2 (by omega) (by omega))) (Int.le_refl _) (by omega)
    · have e3 := hs.hq (p := p) (q := p + 1) (by omega) (by omega)
      exact pl_mono (hfun _ _ _ (by omega) (hs.hz (by omega)) e3 (plL_nil _ _)) (Int.le_refl _) (by omega)
theorem plA (hs : Std ts N) (n : Nat) : PlA ts N n := by
  induction n with
  | zero => constructor <;> (intros; trivial)
  | succ n ih =>
    constructor
    · intro l p
      show plR ts N (herI ts p) (p + 1) (if l = 5 then (fns ts n).una p else ((fns ts n).bin (l + 1) p).bind fun t q => (fns ts n).binL l (herI ts p) t q)
      exact pl_ite (fun _ => ih.una p) fun _ => pl_bind (ih.bin _ _) fun t q a1 a2 a3 a4 a5 => pl_mono (ih.binL _ _ _ _ a2 (hs.hz (by omega)) a3 a4 a5) (Int.le_refl _) (by omega)
    · intro l fr t p h1 h0 h2 h3 h4
      refine pl_ite (fun h => ?_) fun _ => ⟨Nat.le_refl _, h1, h2, h3, h4⟩
      have hp := row_lt h
      have e0 := plP_le h4
      have e1 := hs.bh h1
      refine pl_bind (ih.bin _ _) fun u q a1 a2 a3 a4 a5 => ?_
      have hn : plP ts N (.mk 27 (nxT ts p).text 0 (nxT ts p).pos fr (behI ts q) [t, u]) := pl_mk hs (i := p) (by omega) a2 rfl rfl (by omega) h0 (pl_more hs (l := [t]) (p := p) (p' := p + 1) (plL_one h4 h2 h3) (by omega) (by omega) (by omega) a2 a3 a4 a5)
      exact pl_ite (fun _ => pl_ok (by omega) a2 (Int.le_refl _) hn) fun _ => pl_mono (ih.binL _ _ _ _ a2 h0 (Int.le_refl _) (Int.le_refl _) hn) (Int.le_refl _) (by omega)
    · intro p
      refine pl_ite (fun h => ?_) fun _ => ih.post p
      have hp : p < ts.length := by
        rw [Bool.or_eq_true] at h
        rcases h with h | h <;> exact is_lt h (by simp)
      refine pl_bind (ih.una _) fun u q a1 a2 a3 a4 a5 => ?_
      have e1 := hs.hh (p := p) (q := p + 1) (by omega) (by omega)
      exact pl_ok (by omega) a2 (Int.le_refl _) (pl_mk hs (i := p) (by omega) a2 rfl rfl (Int.le_refl _) (hs.hz (by omega)) (plL_one a5 (by omega) a4))
    · intro p
      exact pl_bind (ih.prim p) fun t q a1 a2 a3 a4 a5 => pl_mono (ih.posL _ _ _ a2 (hs.hz (by omega)) a3 a4 a5) (Int.le_refl _) (by omega)
    · intro fr t p h1 h0 h2 h3 h4
      have e0 := plP_le h4
      have e1 := hs.bh h1
      refine pl_ite (fun h => ?_) fun _ => pl_ite (fun h => ?_) fun _ => ⟨Nat.le_refl _, h1, h2, h3, h4⟩
      · have hp := is_lt h (by simp)
        refine pl_nam fun hn => ?_
        have e2 := hs.hh (p := p) (q := p + 1) (by omega) (by omega)
        have e3 := hs.bb (p := p) (q := p + 1 + 1) (by omega) (by omega)
        have hn : plP ts N (.mk 24 (nxT ts (p + 1)).text 0 (nxT ts (p + 1)).pos fr (behI ts (p + 1 + 1)) [t]) := pl_mk hs (i := p + 1) (by omega) (by omega) rfl rfl (by omega) h0 (plL_one h4 h2 (by omega))
        exact pl_mono (ih.posL _ _ _ (by omega) h0 (Int.le_refl _) (Int.le_refl _) hn) (Int.le_refl _) (by omega)
      · have hp := is_lt h (by simp)
        refine pl_binds (pl_lis hs (ih.bin 0) ih.argL) fun l q a1 a2 a3 => ?_
        have e2 := hs.bb (p := p) (q := q) (by omega) a2
        have hn : plP ts N (.mk 25 ⟨#[]⟩ 0 fr fr (behI ts q) ([t] ++ l)) := pl_no hs rfl a2 (Int.le_refl _) (by omega) h0 (plL_app (plL_one h4 h2 h3) (plL_lo a3 e1) (by omega) e2)
        exact pl_mono (ih.posL _ _ _ a2 h0 (Int.le_refl _) (Int.le_refl _) hn) (Int.le_refl _) (by omega)
    · intro p
      refine pl_ite (fun h => ?_) fun _ => pl_ite (fun h => pl_lea hs _ (nam_lt h)) fun _ => pl_va1 hs p
      have hp := is_lt h (by simp)
      refine pl_bind (ih.bin _ _) fun t q a1 a2 a3 a4 a5 => pl_exp (by simp) fun hq => ?_
      have e1 := hs.hh (p := p) (q := p + 1) (by omega) (by omega)
      have e2 := hs.bb (p := q) (q := q + 1) (by omega) (by omega)
      exact ⟨by omega, by omega, by omega, by omega, a5⟩
    · intro lo l p h1 h0 hl
      refine ps_ite (fun h => ?_) fun _ => ps_ok (Nat.le_refl _) h1 hl
      have hp := is_lt h (by simp)
      refine ps_bind (ih.bin _ _) fun t q a1 a2 a3 a4 a5 => ?_
      have e2 := hs.bb (p := p) (q := q) (by omega) a2
      exact ps_mono (ih.argL lo _ _ a2 (by omega) (pl_more hs hl h0 (p' := p + 1) (by omega) (by omega) a2 a3 a4 a5)) (by omega)
    · intro lo l p h1 h0 hl
      refine ps_ite (fun h => ?_) fun _ => ps_ok (Nat.le_refl _) h1 hl
      have hp := is_lt h (by simp)
      refine ps_bind (pl_tyd hs _ _) fun t q a1 a2 a3 a4 a5 => ?_
      have e2 := hs.bb (p := p) (q := q) (by omega) a2
      exact ps_mono (ih.parL lo _ _ a2 (by omega) (pl_more hs hl h0 (p' := p + 1) (by omega) (by omega) a2 a3 a4 a5)) (by omega)
    · intro lo l p h1 h0 hl
      refine ps_ite (fun h => ps_ok (Nat.le_refl _) h1 hl) fun _ => ps_bind (pl_tyd hs _ _) fun t q a1 a2 a3 a4 a5 => ?_
      have e2 := hs.bb (p := p) (q := q) (by omega) a2
      have hm := pl_more hs hl h0 (Nat.le_refl _) (by omega) a2 a3 a4 a5
      refine ps_ite (fun _ => ps_mono (ih.fieL lo _ _ a2 (by omega) hm) (by omega)) fun _ => ps_kin (by simp) fun hq => ?_
      have e3 := hs.bb (p := q) (q := q + 1) (by omega) (by omega)
      exact ps_mono (ih.fieL lo _ _ (by omega) (by omega) (pl_keep hs hm (by omega) (by omega) (by omega))) (by omega)
    · intro p
      refine pl_ite (fun _ => pl_blo hs ih p) fun _ => pl_ite (fun _ => pl_var hs ih p) fun _ => pl_ite (fun _ => ih.bran p) fun _ => pl_ite (fun _ => ?_) fun _ => pl_ite (fun _ => ?_) fun _ => pl_ite (fun _ => ?_) fun _ => ?_
      · unfold looP
        refine pl_exp (by simp) fun h1 => pl_bind (ih.bin _ _) fun x q a1 a2 a3 a4 a5 => pl_bind (pl_blo hs ih _) fun b q' b1 b2 b3 b4 b5 => ?_
        have e1 := hs.hh (p := p) (q := p + 1) (by omega) (by omega)
        have hl : plL ts N (herI ts p) (behI ts q') ([x] ++ [b]) := pl_more hs (plL_one a5 (by omega) a4) (hs.hq (by omega) a2) (Nat.le_refl _) (by omega) b2 b3 b4 b5
        exact pl_ok (by omega) b2 (Int.le_refl _) (pl_no hs rfl b2 (Int.le_refl _) (hs.hq (by omega) b2) (hs.hz (by omega)) hl)
      · unfold resP
        refine pl_exp (by simp) fun h1 => pl_ite (fun _ => pl_bind (ih.bin _ _) fun x q a1 a2 a3 a4 a5 => ?_) fun _ => ?_
        · have e1 := hs.hh (p := p) (q := p + 1) (by omega) (by omega)
          exact pl_ok (by omega) a2 (Int.le_refl _) (pl_no hs rfl a2 (Int.le_refl _) (hs.hq (by omega) a2) (hs.hz (by omega)) (plL_one a5 (by omega) a4))
        · exact pl_ok (by omega) (by omega) (Int.le_refl _) (pl_no hs rfl (by omega) (Int.le_refl _) (hs.hq (by omega) (by omega)) (hs.hz (by omega)) (plL_nil _ _))
      · unfold shoP
        refine pl_nam fun h1 => pl_exp (by simp) fun h2 => pl_bind (ih.bin _ _) fun x q a1 a2 a3 a4 a5 => ?_
        have e1 := hs.hh (p := p) (q := p + 1 + 1) (by omega) (by omega)
        exact pl_ok (by omega) a2 (Int.le_refl _) (pl_mk hs (i := p) (by omega) a2 rfl rfl (Int.le_refl _) (hs.hz (by omega)) (plL_one a5 (by omega) a4))
      · unfold simP
        refine pl_bind (ih.bin _ _) fun x q a1 a2 a3 a4 a5 => pl_ite (fun h => pl_bind (ih.bin _ _) fun y q' b1 b2 b3 b4 b5 => ?_) fun _ => ?_
        · have hl : plL ts N (herI ts p) (behI ts q') ([x] ++ [y]) := pl_more hs (p := q) (p' := q + 1) (plL_one a5 a3 a4) (hs.hq (by omega) a2) (by omega) (by omega) b2 b3 b4 b5
          exact pl_ok (by omega) b2 (Int.le_refl _) (pl_no hs rfl b2 (Int.le_refl _) (hs.hq (by omega) b2) (hs.hz (by omega)) hl)
        · exact pl_ok (by omega) a2 (Int.le_refl _) (pl_no hs rfl a2 (Int.le_refl _) (hs.hq (by omega) a2) (hs.hz (by omega)) (plL_one a5 a3 a4))
    · intro p
      unfold fns
      dsimp only
      refine pl_exp (by simp) fun h1 => pl_bind (ih.bin _ _) fun x q a1 a2 a3 a4 a5 => pl_bind (pl_blo hs ih _) fun b q' b1 b2 b3 b4 b5 => ?_
      have e1 := hs.hh (p := p) (q := p + 1) (by omega) (by omega)
      have hl : plL ts N (herI ts p) (behI ts q') ([x] ++ [b]) := pl_more hs (plL_one a5 (by omega) a4) (hs.hq (by omega) a2) (Nat.le_refl _) (by omega) b2 b3 b4 b5
      refine pl_ite (fun h => pl_bind (pl_ite (fun _ => ih.bran _) fun _ => pl_blo hs ih _) fun c q'' c1 c2 c3 c4 c5 => ?_) fun _ => ?_
      · have hl2 := pl_more hs (p := q') (p' := q' + 1) hl (hs.hq (by omega) b2) (by omega) (by omega) c2 c3 c4 c5
        exact pl_ok (by omega) c2 (Int.le_refl _) (pl_no hs rfl c2 (Int.le_refl _) (hs.hq (by omega) c2) (hs.hz (by omega)) hl2)
      · exact pl_ok (by omega) b2 (Int.le_refl _) (pl_no hs rfl b2 (Int.le_refl _) (hs.hq (by omega) b2) (hs.hz (by omega)) hl)
    · intro lo l p h1 h0 hl
      refine ps_ite (fun h => ps_ok (Nat.le_refl _) h1 hl) fun _ => ps_bind (ih.stmt _) fun t q a1 a2 a3 a4 a5 => ?_
      have e2 := hs.bb (p := p) (q := q) (by omega) a2
      have hm := pl_more hs hl h0 (Nat.le_refl _) (by omega) a2 a3 a4 a5
      refine ps_ite (fun _ => ps_mono (ih.stmL lo _ _ a2 (by omega) hm) (by omega)) fun _ => ps_kin (by simp) fun hq => ?_
      have e3 := hs.bb (p := q) (q := q + 1) (by omega) (by omega)
      exact ps_mono (ih.stmL lo _ _ (by omega) (by omega) (pl_keep hs hm (by omega) (by omega) (by omega))) (by omega)
    · intro lo l p h1 h0 hl
      refine ps_ite (fun h => ps_bind (pl_imp hs _) fun t q a1 a2 a3 a4 a5 => ps_kin (by simp) fun hq => ?_) fun _ => ps_ok (Nat.le_refl _) h1 hl
      have e2 := hs.bb (p := p) (q := q) (by omega) a2
      have e3 := hs.bb (p := q) (q := q + 1) (by omega) (by omega)
      have hm := pl_more hs hl h0 (Nat.le_refl _) (by omega) a2 a3 a4 a5
      exact ps_mono (ih.impL lo _ _ (by omega) (by omega) (pl_keep hs hm (by omega) (by omega) (by omega))) (by omega)
    · intro lo l p h1 h0 hl
      refine ps_ite (fun h => ps_bind (pl_dec hs ih _) fun t q a1 a2 a3 a4 a5 => ps_kin (by simp) fun hq => ?_) fun _ => ps_ok (Nat.le_refl _) h1 hl
      have e2 := hs.bb (p := p) (q := q) (by omega) a2
      have e3 := hs.bb (p := q) (q := q + 1) (by omega) (by omega)
      have hm := pl_more hs hl h0 (Nat.le_refl _) (by omega) a2 a3 a4 a5
      exact ps_mono (ih.decL lo _ _ (by omega) (by omega) (pl_keep hs hm (by omega) (by omega) (by omega))) (by omega)
/-- The places of a file that was read are in order. -/
theorem fil_places (hs : Std ts N) {t : Pt} {q : Nat} (h : filO ts = .ok t q) : plP ts N t := by
  have ih := plA hs (12 * ts.length + 12)
  have hp : plR ts N (herI ts 0) 1 (filO ts) := by
    unfold filO filP
    refine pl_exp (by simp) fun h1 => pl_nam fun h2 => pl_kin (by simp) fun h3 => pl_binds (lo' := herI ts 0) (ih.impL _ [] _ (by omega) (hs.hq (by omega) (by omega)) (plL_nil _ _)) fun l q a1 a2 a3 => pl_binds (ih.decL _ l _ a2 (hs.hq (by omega) a2) a3) fun l' q' b1 b2 b3 => ?_
    exact pl_ok (by omega) b2 (Int.le_refl _) (pl_mk hs (i := 0 + 1) (by omega) b2 rfl rfl (hs.hh (by omega) (by omega)) (hs.hz (by omega)) b3)
  rw [h] at hp
  exact hp.2.2.2.2
end
end Go.Proofs.YtbadafkfjfbnlaaGreatDoor

namespace Go.Proofs.YtbadafkfjfbnlaaGreatDoor
set_option maxRecDepth 100000
open Go.RowKit

theorem nx_cons (t : Tok) (r : List Tok) (p : Nat) : nxT (t :: r) (p + 1) = nxT r p := rfl
/-- Tokens that stand in a text stand one behind the other. -/
theorem stl_std {L : List UInt8} : ∀ (ms : List Tok) (e : Nat), StL L e ms →
    (∀ p, p < ms.length → ∃ a : Nat, (nxT ms p).pos = a ∧ e ≤ a ∧ a + (nxT ms p).text.size ≤ L.length ∧ (L.drop a).take (nxT ms p).text.size = (nxT ms p).text.data.toList) ∧
    ∀ p, p + 1 < ms.length → (nxT ms p).pos + (nxT ms p).text.size ≤ (nxT ms (p + 1)).pos
  | [], e, _ => ⟨fun p hp => by simp at hp, fun p hp => by simp at hp⟩
  | t :: r, e, h => by
    obtain ⟨a, h1, h2, h3, h4, -, h5⟩ := h
    have hsz : t.text.data.toList.length = t.text.size := by rw [Array.length_toList]; rfl
    rw [hsz] at h3 h4 h5
    obtain ⟨i1, i2⟩ := stl_std r _ h5
    constructor
    · intro p hp
      cases p with
      | zero => exact ⟨a, h1, h2, h3, h4⟩
      | succ p =>
        obtain ⟨b, k1, k2, k3, k4⟩ := i1 p (by simpa using hp)
        exact ⟨b, k1, by omega, k3, k4⟩
    · intro p hp
      cases p with
      | zero =>
        obtain ⟨b, k1, k2, k3, k4⟩ := i1 0 (by simpa using hp)
        rw [nx_cons, k1]
        show t.pos + t.text.size ≤ (b : Int)
        rw [h1]
        omega
      | succ p => exact i2 p (by simpa using hp)
theorem stl_of {L : List UInt8} {ms : List Tok} (h : StL L 0 ms) : Std ms L.length := by
  obtain ⟨h1, h2⟩ := stl_std ms 0 h
  refine ⟨by omega, fun p hp => ?_, h2⟩
  obtain ⟨a, e, -, h3, -⟩ := h1 p hp
  omega
end Go.Proofs.YtbadafkfjfbnlaaGreatDoor

namespace Go.Proofs.YtbadafkfjfbnlaaGreatDoor
set_option maxRecDepth 100000
open Go.RowKit

/-- What is read ends, or is wrong, at a place of the tokens, not ahead of that one. -/
def bd (ts : List Tok) {α : Type} (r : Rs α) (p : Nat) : Prop := match r with | .ok _ q => p ≤ q ∧ q ≤ ts.length | .bad s => ∃ p', p ≤ p' ∧ p' ≤ ts.length ∧ s = herI ts p' | .out => True
section
variable {ts : List Tok} {α β : Type}
theorem bd_mono {r : Rs α} {p m : Nat} (h : bd ts r p) (hm : m ≤ p) : bd ts r m := by
  cases r with
  | ok v q => exact ⟨Nat.le_trans hm h.1, h.2⟩
  | bad s => obtain ⟨p', h1, h2, h3⟩ := h; exact ⟨p', Nat.le_trans hm h1, h2, h3⟩
  | out => trivial
theorem bd_bind {r : Rs α} {f : α → Nat → Rs β} {p m : Nat} (h : bd ts r p) (hm : m ≤ p) (hf : ∀ v q, p ≤ q → q ≤ ts.length → bd ts (f v q) q) : bd ts (r.bind f) m := by
  cases r with
  | ok v q => exact bd_mono (hf v q h.1 h.2) (Nat.le_trans hm h.1)
  | bad s => exact bd_mono (r := (.bad s : Rs β)) h hm
  | out => trivial
theorem bd_ite {c : Prop} [Decidable c] {a b : Rs α} {m : Nat} (h : c → bd ts a m) (h' : ¬ c → bd ts b m) : bd ts (if c then a else b) m := by
  split
  · rename_i hc; exact h hc
  · rename_i hc; exact h' hc
theorem bd_bad {p : Nat} (h : p ≤ ts.length) : bd ts (.bad (herI ts p) : Rs α) p := ⟨p, Nat.le_refl _, h, rfl⟩
theorem bd_need {b : Bool} {p : Nat} {k : Rs α} (hp : p ≤ ts.length) (h : b = true → bd ts k p) : bd ts (Rs.need b (herI ts p) k) p := by
  unfold Rs.need
  exact bd_ite h fun _ => bd_bad hp
theorem bd_ok {v : α} {p q : Nat} (h : p ≤ q) (hq : q ≤ ts.length) : bd ts (.ok v q) p := ⟨h, hq⟩
theorem bd_exp {p : Nat} {s : List UInt8} {k : Nat → Rs α} (hs : s ≠ []) (hp : p ≤ ts.length) (h : p < ts.length → bd ts (k (p + 1)) (p + 1)) : bd ts (expP ts s p k) p := bd_need hp fun hb => bd_mono (h (is_lt hb hs)) (by omega)
theorem bd_kin {p : Nat} {n : Int} {k : Tok → Nat → Rs α} (hn : n ≠ 0) (hp : p ≤ ts.length) (h : p < ts.length → bd ts (k (nxT ts p) (p + 1)) (p + 1)) : bd ts (kinP ts n p k) p := bd_need hp fun hb => bd_mono (h (kin_lt hb hn)) (by omega)
theorem bd_nam {p : Nat} {k : Tok → Nat → Rs α} (hp : p ≤ ts.length) (h : p < ts.length → bd ts (k (nxT ts p) (p + 1)) (p + 1)) : bd ts (namP ts p k) p := bd_need hp fun hb => bd_mono (h (nam_lt hb)) (by omega)
theorem bd_lea (k : Int) {p : Nat} (h : p < ts.length) : bd ts (leaP ts k p) p := ⟨by omega, by omega⟩
theorem bd_wor (k : Int) {p : Nat} (h : p ≤ ts.length) : bd ts (worP ts k p) p := bd_need h fun hb => bd_lea k (nam_lt hb)
theorem bd_va1 {p : Nat} (h : p ≤ ts.length) : bd ts (va1P ts p) p := by
  unfold va1P
  refine bd_ite (fun hc => bd_ok (by omega) (by have := kin_lt hc (by decide); omega)) fun _ => bd_ite (fun hc => bd_ok (by omega) (by have := kin_lt hc (by decide); omega)) fun _ => bd_ite (fun hc => bd_lea _ ?_) fun _ => bd_bad h
  rw [Bool.or_eq_true] at hc
  rcases hc with hc | hc <;> exact is_lt hc (by simp)
theorem bd_val {p : Nat} (h : p ≤ ts.length) : bd ts (valP ts p) p := by
  unfold valP
  refine bd_ite (fun hc => ?_) fun _ => bd_va1 h
  have hp := is_lt hc (by simp)
  exact bd_ite (fun _ => bd_bind (bd_va1 hp) (by omega) fun v q h1 h2 => bd_ok (Nat.le_refl _) h2) fun _ => bd_mono (bd_bad hp) (by omega)
theorem bd_typ {p : Nat} (h : p ≤ ts.length) : bd ts (typP ts p) p := by
  unfold typP
  refine bd_ite (fun hc => bd_lea _ ?_) fun _ => bd_ite (fun _ => bd_bind (bd_wor _ h) (Nat.le_refl _) fun v q h1 h2 => bd_exp (by simp) h2 fun h3 => bd_nam h3 fun h4 => bd_ok (Nat.le_refl _) h4) fun _ => bd_wor _ h
  rw [Bool.or_eq_true, Bool.or_eq_true] at hc
  rcases hc with (hc | hc) | hc <;> exact is_lt hc (by simp)
theorem bd_tyd (k : Int) {p : Nat} (h : p ≤ ts.length) : bd ts (tydP ts k p) p := by
  unfold tydP
  exact bd_nam h fun h1 => bd_bind (bd_typ h1) (Nat.le_refl _) fun v q _ h2 => bd_ok (Nat.le_refl _) h2
theorem bd_imp {p : Nat} (h : p ≤ ts.length) : bd ts (impP ts p) p := by
  unfold impP
  exact bd_exp (by simp) h fun h1 => bd_kin (by simp) h1 fun h2 => bd_ok (Nat.le_refl _) h2
theorem bd_con {p : Nat} (h : p ≤ ts.length) : bd ts (conP ts p) p := by
  unfold conP
  exact bd_exp (by simp) h fun h1 => bd_nam h1 fun h2 => bd_exp (by simp) h2 fun h3 => bd_bind (bd_val h3) (Nat.le_refl _) fun v q _ h4 => bd_ok (Nat.le_refl _) h4
theorem bd_rec {p : Nat} (h : p ≤ ts.length) : bd ts (recP ts p) p := by
  unfold recP
  exact bd_nam h fun h1 => bd_bind (bd_wor _ h1) (Nat.le_refl _) fun v q _ h4 => bd_ok (Nat.le_refl _) h4
structure BdA (ts : List Tok) (n : Nat) : Prop where
  bin : ∀ l p, p ≤ ts.length → bd ts ((fns ts n).bin l p) p
  binL : ∀ l fr t p, p ≤ ts.length → bd ts ((fns ts n).binL l fr t p) p
  una : ∀ p, p ≤ ts.length → bd ts ((fns ts n).una p) p
  post : ∀ p, p ≤ ts.length → bd ts ((fns ts n).post p) p
  posL : ∀ fr t p, p ≤ ts.length → bd ts ((fns ts n).posL fr t p) p
  prim : ∀ p, p ≤ ts.length → bd ts ((fns ts n).prim p) p
  argL : ∀ l p, p ≤ ts.length → bd ts ((fns ts n).argL l p) p
  parL : ∀ l p, p ≤ ts.length → bd ts ((fns ts n).parL l p) p
  fieL : ∀ l p, p ≤ ts.length → bd ts ((fns ts n).fieL l p) p
  stmt : ∀ p, p ≤ ts.length → bd ts ((fns ts n).stmt p) p
  bran : ∀ p, p ≤ ts.length → bd ts ((fns ts n).bran p) p
  stmL : ∀ l p, p ≤ ts.length → bd ts ((fns ts n).stmL l p) p
  impL : ∀ l p, p ≤ ts.length → bd ts ((fns ts n).impL l p) p
  decL : ∀ l p, p ≤ ts.length → bd ts ((fns ts n).decL l p) p
theorem bd_lis {one : Nat → Rs Pt} {more : List Pt → Nat → Rs (List Pt)} {p : Nat} (h1 : ∀ q, q ≤ ts.length → bd ts (one q) q) (h2 : ∀ l q, q ≤ ts.length → bd ts (more l q) q) (hp : p ≤ ts.length) : bd ts (lisP ts one more p) p := by
  unfold lisP
  exact bd_exp (by simp) hp fun h => bd_ite (fun hc => bd_ok (by omega) (is_lt hc (by simp))) fun _ => bd_bind (h1 _ h) (Nat.le_refl _) fun v q _ hq => bd_bind (h2 _ _ hq) (Nat.le_refl _) fun l q' _ hq' => bd_exp (by simp) hq' fun h' => bd_ok (Nat.le_refl _) h'
theorem bd_lin {more : List Pt → Nat → Rs (List Pt)} {p : Nat} (h2 : ∀ l q, q ≤ ts.length → bd ts (more l q) q) (hp : p ≤ ts.length) : bd ts (linP ts more p) p := by
  unfold linP
  exact bd_exp (by simp) hp fun h => bd_bind (h2 _ _ h) (Nat.le_refl _) fun l q' _ hq' => bd_exp (by simp) hq' fun h' => bd_ok (Nat.le_refl _) h'
theorem bd_blo {n p : Nat} (ih : BdA ts n) (hp : p ≤ ts.length) : bd ts (bloP ts (fns ts n) p) p := by
  unfold bloP
  exact bd_bind (bd_lin ih.stmL hp) (Nat.le_refl _) fun l q _ hq => bd_ok (Nat.le_refl _) hq
theorem bd_var {n p : Nat} (ih : BdA ts n) (hp : p ≤ ts.length) : bd ts (varP ts (fns ts n) p) p := by
  unfold varP
  exact bd_exp (by simp) hp fun h1 => bd_nam h1 fun h2 => bd_bind (bd_typ h2) (Nat.le_refl _) fun v q _ hq => bd_ite (fun hc => bd_bind (ih.bin _ _ (is_lt hc (by simp))) (by omega) fun x q' _ hq' => bd_ok (Nat.le_refl _) hq') fun _ => bd_ok (Nat.le_refl _) hq
theorem bd_dec {n p : Nat} (ih : BdA ts n) (hp : p ≤ ts.length) : bd ts (decP ts (fns ts n) p) p := by
  have hfun : ∀ fr l q, q ≤ ts.length → bd ts (funR ts (fns ts n) fr l q) q := fun fr l q hq => by
    unfold funR
    exact bd_nam hq fun h1 => bd_bind (bd_lis (fun _ => bd_tyd 9) ih.parL h1) (Nat.le_refl _) fun ps q1 _ h2 => bd_ite (fun _ => bd_bind (bd_blo ih h2) (Nat.le_refl _) fun b q2 _ h3 => bd_ok (Nat.le_refl _) h3) fun _ => bd_bind (bd_typ h2) (Nat.le_refl _) fun v q2 _ h3 => bd_bind (bd_blo ih h3) (Nat.le_refl _) fun b q3 _ h4 => bd_ok (Nat.le_refl _) h4
  unfold decP
  refine bd_ite (fun _ => bd_con hp) fun _ => bd_ite (fun _ => bd_var ih hp) fun _ => bd_ite (fun _ => ?_) fun _ => bd_ite (fun _ => ?_) fun _ => bd_bad hp
  · unfold strP
    exact bd_exp (by simp) hp fun h1 => bd_nam h1 fun h2 => bd_exp (by simp) h2 fun h3 => bd_bind (bd_lin ih.fieL h3) (Nat.le_refl _) fun l q _ hq => bd_ok (Nat.le_refl _) hq
  · unfold funP
    exact bd_exp (by simp) hp fun h1 => bd_ite (fun hc => bd_bind (bd_rec (is_lt hc (by simp))) (by omega) fun v q _ hq => bd_exp (by simp) hq fun h2 => hfun _ _ _ h2) fun _ => hfun _ _ _ h1
theorem bdA (n : Nat) : BdA ts n := by
  induction n with
  | zero => constructor <;> (intros; trivial)
  | succ n ih =>
    constructor
    · intro l p hp
      show bd ts (if l = 5 then (fns ts n).una p else ((fns ts n).bin (l + 1) p).bind fun t q => (fns ts n).binL l (herI ts p) t q) p
      exact bd_ite (fun _ => ih.una p hp) fun _ => bd_bind (ih.bin _ _ hp) (Nat.le_refl _) fun t q _ hq => ih.binL _ _ _ _ hq
    · intro l fr t p hp
      refine bd_ite (fun h => ?_) fun _ => bd_ok (Nat.le_refl _) hp
      have h1 := row_lt h
      exact bd_bind (ih.bin _ _ h1) (by omega) fun u q _ hq => bd_ite (fun _ => bd_ok (Nat.le_refl _) hq) fun _ => ih.binL _ _ _ _ hq
    · intro p hp
      refine bd_ite (fun h => ?_) fun _ => ih.post p hp
      have h1 : p < ts.length := by
        rw [Bool.or_eq_true] at h
        rcases h with h | h <;> exact is_lt h (by simp)
      exact bd_bind (ih.una _ h1) (by omega) fun u q _ hq => bd_ok (Nat.le_refl _) hq
    · intro p hp
      exact bd_bind (ih.prim p hp) (Nat.le_refl _) fun t q _ hq => ih.posL _ _ _ hq
    · intro fr t p hp
      refine bd_ite (fun h => ?_) fun _ => bd_ite (fun h => ?_) fun _ => bd_ok (Nat.le_refl _) hp
      · have h1 := is_lt h (by simp)
        exact bd_mono (bd_nam h1 fun h2 => ih.posL _ _ _ h2) (by omega)
      · exact bd_bind (bd_lis (ih.bin 0) ih.argL hp) (Nat.le_refl _) fun l q _ hq => ih.posL _ _ _ hq
    · intro p hp
      refine bd_ite (fun h => ?_) fun _ => bd_ite (fun h => bd_lea _ (nam_lt h)) fun _ => bd_va1 hp
      exact bd_bind (ih.bin _ _ (is_lt h (by simp))) (by omega) fun t q _ hq => bd_exp (by simp) hq fun h' => bd_ok (Nat.le_refl _) h'
    · intro l p hp
      exact bd_ite (fun h => bd_bind (ih.bin _ _ (is_lt h (by simp))) (by omega) fun t q _ hq => ih.argL _ _ hq) fun _ => bd_ok (Nat.le_refl _) hp
    · intro l p hp
      exact bd_ite (fun h => bd_bind (bd_tyd _ (is_lt h (by simp))) (by omega) fun t q _ hq => ih.parL _ _ hq) fun _ => bd_ok (Nat.le_refl _) hp
    · intro l p hp
      exact bd_ite (fun _ => bd_ok (Nat.le_refl _) hp) fun _ => bd_bind (bd_tyd _ hp) (Nat.le_refl _) fun t q _ hq => bd_ite (fun _ => ih.fieL _ _ hq) fun _ => bd_kin (by simp) hq fun h => ih.fieL _ _ h
    · intro p hp
      refine bd_ite (fun _ => bd_blo ih hp) fun _ => bd_ite (fun _ => bd_var ih hp) fun _ => bd_ite (fun _ => ih.bran p hp) fun _ => bd_ite (fun _ => ?_) fun _ => bd_ite (fun _ => ?_) fun _ => bd_ite (fun _ => ?_) fun _ => ?_
      · unfold looP
        exact bd_exp (by simp) hp fun h1 => bd_bind (ih.bin _ _ h1) (Nat.le_refl _) fun x q _ hq => bd_bind (bd_blo ih hq) (Nat.le_refl _) fun b q' _ hq' => bd_ok (Nat.le_refl _) hq'
      · unfold resP
        exact bd_exp (by simp) hp fun h1 => bd_ite (fun _ => bd_bind (ih.bin _ _ h1) (Nat.le_refl _) fun x q _ hq => bd_ok (Nat.le_refl _) hq) fun _ => bd_ok (Nat.le_refl _) h1
      · unfold shoP
        exact bd_nam hp fun h1 => bd_exp (by simp) h1 fun h2 => bd_bind (ih.bin _ _ h2) (Nat.le_refl _) fun x q _ hq => bd_ok (Nat.le_refl _) hq
      · unfold simP
        exact bd_bind (ih.bin _ _ hp) (Nat.le_refl _) fun x q _ hq => bd_ite (fun hc => bd_bind (ih.bin _ _ (is_lt hc (by simp))) (by omega) fun y q' _ hq' => bd_ok (Nat.le_refl _) hq') fun _ => bd_ok (Nat.le_refl _) hq
    · intro p hp
      unfold fns
      dsimp only
      exact bd_exp (by simp) hp fun h1 => bd_bind (ih.bin _ _ h1) (Nat.le_refl _) fun x q _ hq => bd_bind (bd_blo ih hq) (Nat.le_refl _) fun b q' _ hq' => bd_ite (fun hc => bd_bind (p := q' + 1) (bd_ite (fun _ => ih.bran _ (is_lt hc (by simp))) fun _ => bd_blo ih (is_lt hc (by simp))) (by omega) fun c q'' _ hq'' => bd_ok (Nat.le_refl _) hq'') fun _ => bd_ok (Nat.le_refl _) hq'
    · intro l p hp
      exact bd_ite (fun _ => bd_ok (Nat.le_refl _) hp) fun _ => bd_bind (ih.stmt _ hp) (Nat.le_refl _) fun t q _ hq => bd_ite (fun _ => ih.stmL _ _ hq) fun _ => bd_kin (by simp) hq fun h => ih.stmL _ _ h
    · intro l p hp
      exact bd_ite (fun _ => bd_bind (bd_imp hp) (Nat.le_refl _) fun t q _ hq => bd_kin (by simp) hq fun h => ih.impL _ _ h) fun _ => bd_ok (Nat.le_refl _) hp
    · intro l p hp
      exact bd_ite (fun _ => bd_bind (bd_dec ih hp) (Nat.le_refl _) fun t q _ hq => bd_kin (by simp) hq fun h => ih.decL _ _ h) fun _ => bd_ok (Nat.le_refl _) hp
theorem bd_fil (n : Nat) {p : Nat} (hp : p ≤ ts.length) : bd ts (filP ts n p) p := by
  have ih := bdA (ts := ts) n
  unfold filP
  exact bd_exp (by simp) hp fun h1 => bd_nam h1 fun h2 => bd_kin (by simp) h2 fun h3 => bd_bind (ih.impL _ _ h3) (Nat.le_refl _) fun l q _ hq => bd_bind (ih.decL _ _ hq) (Nat.le_refl _) fun l' q' _ hq' => bd_ok (Nat.le_refl _) hq'
end
end Go.Proofs.YtbadafkfjfbnlaaGreatDoor
