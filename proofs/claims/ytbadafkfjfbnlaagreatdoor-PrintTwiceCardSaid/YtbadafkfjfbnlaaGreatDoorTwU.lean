import Derived.Test.YtbadafkfjfbnlaaGreatDoorTwT
import Derived.Test.YtbadafkfjfbnlaaGreatDoorTwQ
import Derived.Test.YtbadafkfjfbnlaaGreatDoorTwE
import Derived.Test.YtbadafkfjfbnlaaGreatDoorTwN
namespace Go.Proofs.YtbadafkfjfbnlaaGreatDoor
set_option maxRecDepth 100000
open Go.RowKit
theorem dd_step {acc d : Nat} (h : acc ≠ 0) (hd : d < 10) : Lib.decDigits (acc * 10 + d) = Lib.decDigits acc ++ [UInt8.ofNat (48 + d)] := by
  rw [Lib.decDigits, dif_neg (by omega), show (acc * 10 + d) / 10 = acc by omega, show (acc * 10 + d) % 10 = d by omega]
theorem dig_back {c : UInt8} (h : clsI c.toNat = 4) : c.toNat - 48 < 10 ∧ UInt8.ofNat (48 + (c.toNat - 48)) = c ∧ 48 <= c.toNat := by
  have h1 := cls4.1 h
  refine ⟨by omega, ?_, h1.1⟩
  rw [show 48 + (c.toNat - 48) = c.toNat by omega, UInt8.ofNat_toNat]
theorem decF_digits : ∀ (L : List UInt8) (acc m : Nat), acc ≠ 0 -> decF acc L = some m -> Lib.decDigits m = Lib.decDigits acc ++ L
  | [], acc, m, _, h => by
    rw [decF] at h
    injection h with h
    rw [h, List.append_nil]
  | c :: r, acc, m, ha, h => by
    rw [decF] at h
    split at h
    · rename_i hc
      obtain ⟨h1, h2, h3⟩ := dig_back hc.1
      rw [decF_digits r _ m (by omega) h, dd_step ha h1, h2, List.append_assoc]
      rfl
    · cases h
theorem decO_digits {L : List UInt8} {m : Nat} (h : decO L = some m) : Lib.decDigits m = L := by
  unfold decO at h
  split at h
  · cases h
  rename_i hn
  cases L with
  | nil => exact absurd (.inl rfl) hn
  | cons c r =>
    rw [decF] at h
    split at h
    · rename_i hc
      obtain ⟨h1, h2, h3⟩ := dig_back hc.1
      rw [show 0 * 10 + (c.toNat - 48) = c.toNat - 48 by omega] at h
      have hs : Lib.decDigits (c.toNat - 48) = [c] := by rw [Lib.decDigits, dif_pos h1, h2]
      cases r with
      | nil =>
        rw [decF] at h
        injection h with h
        rw [<- h, hs]
      | cons d r =>
        have h48 : c.toNat ≠ 48 := fun e => hn (.inr ⟨by simp, by rw [List.head?_cons, show c = 48 from UInt8.toNat_inj.1 e]⟩)
        rw [decF_digits _ _ m (by omega) h, hs]
        rfl
    · cases h
theorem decO_le {L : List UInt8} {m : Nat} (h : decO L = some m) : m <= 9223372036854775807 := by
  unfold decO at h
  split at h
  · cases h
  · exact decF_le (by omega) h
theorem unqA_quo : ∀ (k : Nat) (L acc : List UInt8) (i : Nat) (v : List UInt8), L.length <= k -> unqA acc i L = some (v, i + L.length) -> ∃ v', v = acc ++ v' ∧ v'.length <= L.length ∧ ∀ a, quoG a v' = some (a ++ L) := by
  intro k
  induction k with
  | zero =>
    intro L acc i v hk h
    cases L with
    | nil => simp [unqA] at h
    | cons c r => simp at hk
  | succ k ih =>
    intro L acc i v hk h
    cases L with
    | nil => simp [unqA] at h
    | cons c r =>
      rw [unqA_cons] at h
      split at h
      · rename_i hc
        simp only [Option.some.injEq, Prod.mk.injEq, List.length_cons] at h
        obtain ⟨rfl, h2⟩ := h
        have hr : r = [] := List.eq_nil_of_length_eq_zero (by omega)
        have hc' : c = 34 := UInt8.toNat_inj.1 hc
        subst hr hc'
        exact ⟨[], by simp, by simp, fun a => by rw [quoG]⟩
      rename_i hc
      split at h
      · rename_i h92
        have hc' : c = 92 := UInt8.toNat_inj.1 h92
        subst hc'
        cases r with
        | nil => simp at h
        | cons d r' =>
          simp only at h
          cases hp : pairU d with
          | none => rw [hp] at h; cases h
          | some x =>
            rw [hp] at h
            simp only [List.length_cons] at h hk
            obtain ⟨v', e1, e2, e3⟩ := ih r' (acc ++ [x]) (i + 2) v (by omega) (by rw [h]; congr 2; omega)
            have hq : quoB x = some [92, d] := by
              unfold pairU at hp
              split at hp
              · rename_i hd
                injection hp with hp
                subst hp
                unfold quoB
                rw [if_pos hd]
              · split at hp
                · rename_i h110
                  injection hp with hp
                  subst hp
                  rw [show d = 110 from UInt8.toNat_inj.1 h110]
                  rfl
                · cases hp
            refine ⟨x :: v', by rw [e1]; simp, by simp; omega, fun a => ?_⟩
            rw [quoG, hq]
            simp only
            rw [e3]
            simp
      rename_i h92
      split at h
      · rename_i hpl
        simp only [List.length_cons] at h hk
        obtain ⟨v', e1, e2, e3⟩ := ih r (acc ++ [c]) (i + 1) v (by omega) (by rw [h]; congr 2; omega)
        have hq : quoB c = some [c] := by
          unfold quoB
          rw [if_neg (by omega)]
          have h10 : ¬ c.toNat = 10 := fun e => by rw [e] at hpl; revert hpl; decide
          rw [if_neg h10, if_pos hpl]
        refine ⟨c :: v', by rw [e1]; simp, by simp; omega, fun a => ?_⟩
        rw [quoG, hq]
        simp only
        rw [e3]
        simp
      · cases h
theorem unqO_quo {L v : List UInt8} (h : unqO L = some (v, L.length)) : quoO v = some L ∧ v.length <= L.length := by
  cases L with
  | nil => simp [unqO] at h
  | cons c r =>
    rw [unqO] at h
    split at h
    · rename_i hc
      have hc' : c = 34 := UInt8.toNat_inj.1 hc
      subst hc'
      obtain ⟨v', e1, e2, e3⟩ := unqA_quo r.length r [] 1 v (Nat.le_refl _) (by rw [h]; simp only [List.length_cons]; congr 2; omega)
      rw [List.nil_append] at e1
      subst e1
      exact ⟨e3 [34], by simp; omega⟩
    · cases h
theorem aln_same {t u : Tok} (h : alnB t = true) (hk : u.kind = t.kind) (hx : u.text = t.text) : alnB u = true := by
  unfold alnB at h ⊢
  rw [hx]
  cases hl : (lexO t.text.data.toList).1 with
  | nil => rw [hl] at h; cases h
  | cons x r =>
    rw [hl] at h
    simp only [tkEq] at h ⊢
    rw [hk, hx]
    exact h
theorem bare_no {t : Tok} (h : t.kind ≠ 5) : bareB t = false := by
  unfold bareB
  rw [show (t.kind == 5) = false by simpa using h]
  rfl
theorem cls3_pl {c : UInt8} (h : clsI c.toNat = 3) : plB c = true := by
  unfold clsI at h
  unfold plB
  simp only [Bool.or_eq_true, Bool.and_eq_true, decide_eq_true_eq, UInt8.le_iff_toNat_le, beq_iff_eq, <- UInt8.toNat_inj]
  have e1 : (65 : UInt8).toNat = 65 := rfl
  have e2 : (90 : UInt8).toNat = 90 := rfl
  have e3 : (95 : UInt8).toNat = 95 := rfl
  have e4 : (97 : UInt8).toNat = 97 := rfl
  have e5 : (122 : UInt8).toNat = 122 := rfl
  have e6 : (48 : UInt8).toNat = 48 := rfl
  have e7 : (57 : UInt8).toNat = 57 := rfl
  have e8 : (34 : UInt8).toNat = 34 := rfl
  rw [e1, e2, e3, e4, e5, e6, e7, e8]
  repeat' split at h
  all_goals first | omega | (exfalso; revert h; decide)
theorem aln_kinds {t : Tok} (h : alnB t = true) : (t.kind = 1 -> plF t.text) ∧ (t.kind = 2 -> ∃ m, decO t.text.data.toList = some m) ∧ (t.kind = 3 -> ∃ v, unqO t.text.data.toList = some (v, t.text.data.toList.length)) := by
  obtain ⟨h1, h2, h3⟩ := aln_look h
  generalize hL : t.text.data.toList = L at h1 h3 ⊢
  cases L with
  | nil => exact absurd rfl h3
  | cons c r =>
    unfold lookR at h1
    simp only at h1
    split at h1
    · simp at h1; refine ⟨fun hk => ?_, fun hk => ?_, fun hk => ?_⟩ <;> (rw [hk] at h1; simp at h1)
    split at h1
    · simp at h1; refine ⟨fun hk => ?_, fun hk => ?_, fun hk => ?_⟩ <;> (rw [hk] at h1; simp at h1)
    split at h1
    · simp at h1; refine ⟨fun hk => ?_, fun hk => ?_, fun hk => ?_⟩ <;> (rw [hk] at h1; simp at h1)
    split at h1
    · rename_i hc
      simp only [Prod.mk.injEq] at h1
      exact ⟨fun _ => ⟨c, r, hL, cls3_pl hc⟩, fun hk => by rw [hk] at h1; exact absurd h1.1 (by decide), fun hk => by rw [hk] at h1; exact absurd h1.1 (by decide)⟩
    split at h1
    · simp only [Prod.mk.injEq] at h1
      refine ⟨fun hk => by rw [hk] at h1; exact absurd h1.1 (by decide), fun _ => ?_, fun hk => by rw [hk] at h1; exact absurd h1.1 (by decide)⟩
      have h4 := h1.2
      unfold numR at h4
      split at h4
      · simp at h4
      · rename_i hn
        simp only [Prod.mk.injEq] at h4
        have hd : (decO ((c :: r).take (runN (inC [4]) (c :: r)))).isSome = true := by
          cases hs : (decO ((c :: r).take (runN (inC [4]) (c :: r)))).isSome with
          | true => rfl
          | false => exact absurd (.inl hs) hn
        rw [h4.1, List.take_length] at hd
        exact Option.isSome_iff_exists.1 hd
    split at h1
    · simp only [Prod.mk.injEq] at h1
      refine ⟨fun hk => by rw [hk] at h1; exact absurd h1.1 (by decide), fun hk => by rw [hk] at h1; exact absurd h1.1 (by decide), fun _ => ?_⟩
      have h4 := h1.2
      unfold quoR at h4
      cases hu : unqO (c :: r) with
      | none => rw [hu] at h4; simp at h4
      | some p =>
        obtain ⟨v, n⟩ := p
        rw [hu] at h4
        simp only [Prod.mk.injEq] at h4
        exact ⟨v, by rw [h4.1]⟩
    split at h1
    · simp at h1; refine ⟨fun hk => ?_, fun hk => ?_, fun hk => ?_⟩ <;> (rw [hk] at h1; simp at h1)
    · simp only [Prod.mk.injEq] at h1
      refine ⟨fun hk => ?_, fun hk => ?_, fun hk => ?_⟩ <;> (rw [hk] at h1; exact absurd h1.1 (by decide))
theorem aln_good {t : Tok} (h : alnB t = true) : tgood t := by
  obtain ⟨g1, g2, g3⟩ := aln_kinds h
  have hs : t.text.size <= 4096 := aln_small h
  have hsl : t.text.data.toList.length <= 4096 := by
   have : t.text.size = t.text.data.toList.length := by simp
   omega
  refine ⟨fun hk => ⟨g1 hk, wrA_of (bare_no (by show (1 : Int) ≠ 5; decide)) (aln_same h hk.symm rfl), hs⟩, fun hk => ?_, fun hk => ?_⟩
  · obtain ⟨m, hm⟩ := g2 hk
    have hn : numT t = m := by unfold numT numO; rw [if_pos hk, hm]
    have hd := decO_digits hm
    have hi : Lib.itoa (numT t) = t.text.data.toList := by rw [hn]; unfold Lib.itoa; rw [if_neg (by omega), Int.toNat_natCast, hd]
    have hx : (⟨(Lib.itoa (numT t)).toArray⟩ : ByteArray) = t.text := by rw [hi]
    have hle := decO_le hm
    refine ⟨fun u hu hut => ?_, ?_, ?_, by rw [hi]; exact hsl, by omega, by omega⟩
    · rw [hx] at hut
      show (match numO u with | some n => (n : Int) | none => 0) = numT t
      have : numO u = some m := by unfold numO; rw [if_pos hu, hut, hm]
      rw [this, hn]
    · rw [hx]
      obtain ⟨c, r, e, hc⟩ := dd_ne m
      rw [hd] at e
      refine ⟨c, r, e, ?_⟩
      unfold plB
      simp [hc.1, hc.2]
    · refine wrA_of (bare_no (by show (2 : Int) ≠ 5; decide)) (aln_same h hk.symm ?_)
      exact hx
  · obtain ⟨v, hv⟩ := g3 hk
    obtain ⟨hq, hl⟩ := unqO_quo hv
    have hz : t.text.size = t.text.data.toList.length := by simp
    have hval : ∀ u : Tok, u.kind = 3 -> u.text = t.text -> valT u = strU v := fun u hu hut => by
      unfold valT valO
      rw [if_pos hu, hut, hv]
      simp only [hz, if_true]
    have hqt : quoT (strU v) = t.text := by
      unfold quoT
      rw [show (strU v).data.toList = v by simp [strU], hq]
      rfl
    rw [hval t hk rfl]
    refine ⟨fun u hu hut => hval u hu (by rw [hut, hqt]), ?_, ?_, by rw [hqt]; exact hs, ?_⟩
    · rw [hqt]
      cases hL : t.text.data.toList with
      | nil => rw [hL] at hv; simp [unqO] at hv
      | cons c r =>
        rw [hL, unqO] at hv
        split at hv
        · rename_i hc
          exact ⟨c, r, hL, by rw [show c = 34 from UInt8.toNat_inj.1 hc]; decide⟩
        · cases hv
    · rw [hqt]
      exact wrA_of (bare_no (by show (3 : Int) ≠ 5; decide)) (aln_same h hk.symm rfl)
    · have : (strU v).size = v.length := by simp [strU, ByteArray.size]
      omega
theorem chkF_good : ∀ (ts : List Tok) (last : Tok), chkF last ts = true -> ∀ t ∈ ts, tgood t
  | [], _, _ => fun t ht => by simp at ht
  | x :: r, last, h => fun t ht => by
    rw [chkF] at h
    split at h
    · rename_i hb
      split at h
      · rcases List.mem_cons.1 ht with rfl | ht
        · have hk : t.kind = 5 := (bare_clo hb).2.1
          exact ⟨fun e => by rw [hk] at e; exact absurd e (by decide), fun e => by rw [hk] at e; exact absurd e (by decide), fun e => by rw [hk] at e; exact absurd e (by decide)⟩
        · exact chkF_good r x h t ht
      · cases h
    · split at h
      · rename_i ha
        rcases List.mem_cons.1 ht with rfl | ht
        · exact aln_good ha
        · exact chkF_good r x h t ht
      · cases h
theorem chk_good {ts : List Tok} (h : chkO ts = 0) : ∀ p, tgood (nxT ts p) := by
  intro p
  unfold chkO at h
  split at h
  · cases h
  split at h
  · rename_i hc
    by_cases hp : p < ts.length
    · exact chkF_good ts _ hc _ (by unfold nxT; rw [List.getD_eq_getElem?_getD, List.getElem?_eq_getElem hp]; simp)
    · have : nxT ts p = tokZ := by unfold nxT; rw [List.getD_eq_getElem?_getD, List.getElem?_eq_none (by omega)]; rfl
      rw [this]
      exact ⟨fun e => absurd e (by decide), fun e => absurd e (by decide), fun e => absurd e (by decide)⟩
  · cases h
def tOk (u : Tok) : Prop := wrA u = false ∧ u.text.size <= 4096 ∧ u.pos = 0
def aT (ws : List Tok) : Prop := ∀ u ∈ ws, tOk u
theorem aT_nil : aT [] := fun u hu => by simp at hu
theorem aT_app {a b : List Tok} (h : aT a) (h' : aT b) : aT (a ++ b) := fun u hu => (List.mem_append.1 hu).elim (h u) (h' u)
theorem aT_one {u : Tok} (h : tOk u) : aT [u] := fun v hv => by obtain rfl := List.mem_singleton.1 hv; exact h
theorem aT_cons {u : Tok} {a : List Tok} (h : tOk u) (h' : aT a) : aT (u :: a) := fun v hv => (List.mem_cons.1 hv).elim (fun e => by rw [e]; exact h) (h' v)
theorem aT_flat {os : List (List Tok)} (h : ∀ o ∈ os, aT o) : aT os.flatten := fun u hu => by
  obtain ⟨o, ho, hu⟩ := List.mem_flatten.1 hu
  exact h o ho u hu
theorem ok_en : tOk enT := ⟨by kernel_rfl, by decide, rfl⟩
theorem ok_40 : tOk (sgT [40]) := ⟨by kernel_rfl, by decide, rfl⟩
theorem ok_41 : tOk (sgT [41]) := ⟨by kernel_rfl, by decide, rfl⟩
theorem ok_44 : tOk (sgT [44]) := ⟨by kernel_rfl, by decide, rfl⟩
theorem ok_46 : tOk (sgT [46]) := ⟨by kernel_rfl, by decide, rfl⟩
theorem ok_61 : tOk (sgT [61]) := ⟨by kernel_rfl, by decide, rfl⟩
theorem ok_123 : tOk (sgT [123]) := ⟨by kernel_rfl, by decide, rfl⟩
theorem ok_125 : tOk (sgT [125]) := ⟨by kernel_rfl, by decide, rfl⟩
theorem ok_sho : tOk (sgT [58, 61]) := ⟨by kernel_rfl, by decide, rfl⟩
theorem aT_end {os : List (List Tok)} (h : ∀ o ∈ os, aT o) : aT (wEnd os) := aT_flat fun o ho => by
  obtain ⟨a, ha, rfl⟩ := List.mem_map.1 ho
  exact aT_app (h a ha) (aT_one ok_en)
theorem aT_par {s : List UInt8} (hs : tOk (sgT s)) {os : List (List Tok)} (h : ∀ o ∈ os, aT o) : aT (wPar s os) := by
  cases os with
  | nil => exact aT_nil
  | cons o r =>
    refine aT_app (h o (by simp)) (aT_flat fun o ho => ?_)
    obtain ⟨a, ha, rfl⟩ := List.mem_map.1 ho
    exact aT_cons hs (h a (by simp [ha]))
theorem aT_brk {os : List (List Tok)} (h : ∀ o ∈ os, aT o) : aT (wBrk os) := aT_app (aT_app (aT_one ok_40) (aT_par ok_44 h)) (aT_one ok_41)
theorem aT_bra {os : List (List Tok)} (h : ∀ o ∈ os, aT o) : aT (wBra os) := aT_app (aT_app (aT_one ok_123) (aT_end h)) (aT_one ok_125)
theorem aT_take {os : List (List Tok)} (n : Nat) (h : ∀ o ∈ os, aT o) : ∀ o ∈ os.take n, aT o := fun o ho => h o (List.mem_of_mem_take ho)
theorem aT_drop {os : List (List Tok)} (n : Nat) (h : ∀ o ∈ os, aT o) : ∀ o ∈ os.drop n, aT o := fun o ho => h o (List.mem_of_mem_drop ho)
theorem aT_if {os : List (List Tok)} (h : ∀ o ∈ os, aT o) : aT (wIf os) := by
  unfold wIf
  refine aT_app (aT_app (aT_flat (aT_take 2 h)) ?_) (aT_flat (aT_drop 2 h))
  split
  · exact aT_one ⟨by kernel_rfl, by decide, rfl⟩
  · exact aT_nil
theorem aT_ope {k : Int} {x : ByteArray} {hs : List (Int × ByteArray)} {os : List (List Tok)} (i : Nat) (h : ∀ o ∈ os, aT o) : aT (wOpe k x hs os i) := by
  unfold wOpe
  split
  · rename_i a o _ ho
    have hm : aT o := h o (List.mem_of_getElem? ho)
    split
    · exact aT_brk fun o' ho' => by obtain rfl := List.mem_singleton.1 ho'; exact hm
    · exact hm
  · exact aT_nil
theorem ok_word {x : ByteArray} (h : gW x) : tOk (tkW 1 x) := ⟨h.2.1, h.2.2, rfl⟩
theorem ok_quo {x : ByteArray} (h : gQ x) : tOk (tkW 3 (quoT x)) := ⟨h.2.2.1, h.2.2.2.1, rfl⟩
theorem ok_num {n : Int} (h : gI n) : tOk (nuT n) := ⟨h.2.2.1, by have := h.2.2.2.1; show (Lib.itoa n).toArray.size <= 4096; simpa using this, rfl⟩
theorem ok_sig {x : ByteArray} (h : gS x) : tOk (tkW 4 x) := ⟨h.1, h.2, rfl⟩
theorem aT_fun {x : ByteArray} {hs : List (Int × ByteArray)} {os : List (List Tok)} (hx : gW x) (h : ∀ o ∈ os, aT o) : aT (wFun x hs os) := by
  unfold wFun
  refine aT_app (aT_app (aT_app (aT_app (aT_one ⟨by kernel_rfl, by decide, rfl⟩) ?_) (aT_one (ok_word hx))) (aT_brk (aT_take _ (aT_drop _ h)))) (aT_flat (aT_drop _ (aT_drop _ h)))
  split
  · exact aT_brk (aT_take _ h)
  · exact aT_nil
theorem aT_X {k n : Int} {x : ByteArray} {hs : List (Int × ByteArray)} {os : List (List Tok)} (hn : NdOk k x n) (h : ∀ o ∈ os, aT o) : aT (wrX k x n hs os) := by
  unfold wrX
  split
  · rename_i e; exact aT_one (ok_num (hn.i e))
  split
  · rename_i e; exact aT_one (ok_quo (hn.q (by omega)))
  split
  · rename_i e; exact aT_one (ok_word (hn.w (by omega)))
  split
  · rename_i e; exact aT_app (aT_app (aT_ope 0 h) (aT_one ok_46)) (aT_one (ok_word (hn.w (by omega))))
  split
  · exact aT_app (aT_ope 0 h) (aT_brk (aT_drop 1 h))
  split
  · rename_i e; exact aT_app (aT_one (ok_sig (hn.g (by omega)))) (aT_ope 0 h)
  split
  · rename_i e; exact aT_app (aT_app (aT_ope 0 h) (aT_one (ok_sig (hn.g (by omega))))) (aT_ope 1 h)
  · exact aT_nil
theorem aT_S {k n : Int} {x : ByteArray} {hs : List (Int × ByteArray)} {os : List (List Tok)} (hn : NdOk k x n) (h : ∀ o ∈ os, aT o) : aT (wrS k x n hs os) := by
  unfold wrS
  split
  · exact aT_bra h
  split
  · exact aT_app (aT_one ⟨by kernel_rfl, by decide, rfl⟩) (aT_if h)
  split
  · exact aT_app (aT_one ⟨by kernel_rfl, by decide, rfl⟩) (aT_flat h)
  split
  · exact aT_app (aT_one ⟨by kernel_rfl, by decide, rfl⟩) (aT_flat h)
  split
  · rename_i e; exact aT_app (aT_app (aT_one (ok_word (hn.w (by omega)))) (aT_one ok_sho)) (aT_flat h)
  split
  · exact aT_par ok_61 h
  split
  · exact aT_flat h
  · exact aT_X hn h
theorem aT_K {k n : Int} {x : ByteArray} {hs : List (Int × ByteArray)} {os : List (List Tok)} (hn : NdOk k x n) (h : ∀ o ∈ os, aT o) : aT (wrK k x n hs os) := by
  unfold wrK
  split
  · rename_i e; exact aT_app (aT_app (aT_cons ⟨by kernel_rfl, by decide, rfl⟩ (aT_one (ok_word (hn.w (by omega))))) (aT_one ok_en)) (aT_end h)
  split
  · rename_i e; exact aT_app (aT_one ⟨by kernel_rfl, by decide, rfl⟩) (aT_one (ok_quo (hn.q (by omega))))
  split
  · rename_i e; exact aT_app (aT_app (aT_cons ⟨by kernel_rfl, by decide, rfl⟩ (aT_one (ok_word (hn.w (by omega))))) (aT_one ok_61)) (aT_flat h)
  split
  · rename_i e; exact aT_app (aT_cons ⟨by kernel_rfl, by decide, rfl⟩ (aT_one (ok_word (hn.w (by omega))))) (aT_par ok_61 h)
  split
  · rename_i e; exact aT_app (aT_cons ⟨by kernel_rfl, by decide, rfl⟩ (aT_cons (ok_word (hn.w (by omega))) (aT_one ⟨by kernel_rfl, by decide, rfl⟩))) (aT_bra h)
  split
  · rename_i e; exact aT_fun (hn.w (by omega)) h
  split
  · rename_i e; exact aT_app (aT_one (ok_word (hn.w (by omega)))) (aT_flat h)
  split
  · rename_i e; exact aT_one (ok_word (hn.w (by omega)))
  split
  · rename_i e; exact aT_app (aT_app (aT_flat h) (aT_one ok_46)) (aT_one (ok_word (hn.w (by omega))))
  · exact aT_S hn h
mutual
theorem ok_aT : ∀ t : Pt, okP t -> aT (wrP t)
  | .mk k x n a f e l, h => by
    rw [okP] at h
    rw [wrP]
    exact aT_K h.1 (ok_aTs l h.2)
theorem ok_aTs : ∀ l : List Pt, okL l -> ∀ o ∈ wrM l, aT o
  | [], _ => fun o ho => by simp [wrM] at ho
  | t :: r, h => fun o ho => by
    rw [okL] at h
    rw [wrM] at ho
    rcases List.mem_cons.1 ho with rfl | ho
    · exact ok_aT t h.1
    · exact ok_aTs r h.2 o ho
end
mutual
theorem ok_gd : ∀ t : Pt, okP t -> GdP t
  | .mk k x n a f e l, h => by
    rw [okP] at h
    rw [GdP]
    have h1 := h.1.s
    have h2 := h.1.r
    exact ⟨by omega, ⟨by omega, h2.2⟩, ok_gds l h.2⟩
theorem ok_gds : ∀ l : List Pt, okL l -> GdL l
  | [], _ => by rw [GdL]; trivial
  | t :: r, h => by
    rw [okL] at h
    rw [GdL]
    exact ⟨ok_gd t h.1, ok_gds r h.2⟩
end
def stL (k : Int) (L : List UInt8) (n : Option UInt8) : Bool := match n with
 | none => true
 | some c => if k = 1 ∨ k = 2 then !(inC [3, 4] c) else if k = 4 then (match L with | [a] => !(sig2 [a, c]) && !((a == 47) && (c == 47)) | _ => true) else true
theorem inC_34 {c : UInt8} (h : inC [3, 4] c = false) : inC [3, 4] c = false ∧ inC [4] c = false ∧ inC [3] c = false := by
 refine ⟨h, ?_, ?_⟩
 all_goals
  unfold inC at h ⊢
  simp only [List.contains_cons, List.contains_nil, Bool.or_false, Bool.or_eq_false_iff] at h ⊢
 ·exact h.2
 ·exact h.1
theorem st_w {k : Int} {L : List UInt8} {n : Option UInt8} (hk : k = 1 ∨ k = 2) (h : stL k L n = true) (c : UInt8) (hc : n = some c) : inC [3, 4] c = false ∧ inC [4] c = false ∧ inC [3] c = false := by
 subst hc
 unfold stL at h
 simp only [if_pos hk, Bool.not_eq_true'] at h
 exact inC_34 h
theorem run_hd {p : UInt8 -> Bool} {R : List UInt8} (hR : ∀ c, R.head? = some c -> p c = false) : ∀ L : List UInt8, runN p L = L.length -> runN p (L ++ R) = L.length
 | [], _ => by
  cases R with
  | nil => rfl
  | cons c r =>
   rw [List.nil_append, runN_cons, hR c rfl]
   rfl
 | a :: L, h => by
  rw [runN_cons, List.length_cons] at h
  rw [List.cons_append, runN_cons, List.length_cons]
  cases ha : p a with
  | false => rw [ha] at h; simp at h
  | true =>
   rw [ha] at h
   simp only [if_true] at h ⊢
   rw [run_hd hR L (by omega)]
theorem look_st {L R : List UInt8} {k : Int} (h : lookR L false = (k, L.length, 0)) (hk : k ≠ 0) (hL : L ≠ []) (hR : stL k L R.head? = true) (en : Bool) : lookR (L ++ R) en = (k, L.length, 0) := by
 cases L with
 | nil => exact absurd rfl hL
 | cons c r =>
  rw [List.cons_append]
  unfold lookR at h ⊢
  simp only at h ⊢
  by_cases c2 : clsI c.toNat = 2
  ·rw [if_pos c2] at h
   simp at h
   exact absurd h.1.symm hk
  rw [if_neg c2] at h ⊢
  by_cases c1 : clsI c.toNat = 1
  ·rw [if_pos c1] at h
   simp at h
   exact absurd h.1.symm hk
  rw [if_neg c1] at h ⊢
  by_cases c6 : clsI c.toNat = 6
  ·rw [if_pos c6] at h ⊢
   exact h
  rw [if_neg c6] at h ⊢
  by_cases c3 : clsI c.toNat = 3
  ·rw [if_pos c3] at h ⊢
   injection h with h1 h
   rw [<- h1]
   congr 1
   unfold wordR at h ⊢
   by_cases hw : runN (inC [3, 4]) (c :: r) > 24
   ·rw [if_pos hw] at h; injection h with _ h; cases h
   ·rw [if_neg hw] at h
    injection h with h _
    have := run_hd (fun d hd => by subst h1; exact (st_w (.inl rfl) hR d hd).1) (c :: r) h
    rw [List.cons_append] at this
    rw [this, if_neg (by omega)]
  rw [if_neg c3] at h ⊢
  by_cases c4 : clsI c.toNat = 4
  ·rw [if_pos c4] at h ⊢
   injection h with h1 h
   rw [<- h1]
   congr 1
   unfold numR at h ⊢
   split at h
   ·injection h with _ h; cases h
   ·rename_i hn
    injection h with h _
    have e1 := run_hd (p := inC [4]) (fun d hd => by subst h1; exact (st_w (.inr rfl) hR d hd).2.1) (c :: r) h
    rw [List.cons_append] at e1
    rw [h] at hn
    rw [e1]
    have e2 : (c :: (r ++ R)).take (c :: r).length = c :: r := by rw [<- List.cons_append]; exact List.take_left
    have e3 : (c :: (r ++ R)).drop (c :: r).length = R := by rw [<- List.cons_append]; exact List.drop_left
    rw [e2, e3, show runN (inC [3]) R = 0 from run_hd (p := inC [3]) (fun d hd => by subst h1; exact (st_w (.inr rfl) hR d hd).2.2) [] rfl]
    rw [List.take_length] at hn
    rw [if_neg (fun hh => hn (hh.elim .inl (fun hh => absurd hh (by omega))))]
  rw [if_neg c4] at h ⊢
  by_cases c5 : clsI c.toNat = 5
  ·rw [if_pos c5] at h ⊢
   injection h with h1 h
   rw [<- h1]
   congr 1
   unfold quoR unqO at h ⊢
   by_cases h34 : c.toNat = 34
   ·simp only [h34, if_true] at h ⊢
    cases hu : unqA [] 1 r with
    | none => rw [hu] at h; injection h with _ h; cases h
    | some v =>
     rw [hu] at h
     rw [unqA_app R _ r [] 1 v (Nat.le_refl _) hu]
     exact h
   ·simp only [h34, if_false] at h
    injection h with _ h
    cases h
  rw [if_neg c5] at h ⊢
  by_cases cp : Lib.hasPrefix (c :: r) [47, 47] = true
  ·rw [if_pos cp] at h
   simp at h
   exact absurd h.1.symm hk
  rw [if_neg cp] at h
  have cp' : ¬ Lib.hasPrefix (c :: (r ++ R)) [47, 47] = true := by
   intro hh
   apply cp
   unfold Lib.hasPrefix at hh ⊢
   cases r with
   | cons d r' => simpa [List.isPrefixOf] using hh
   | nil =>
    cases R with
    | nil => exact hh
    | cons d R' =>
     exfalso
     simp [List.isPrefixOf] at hh
     obtain ⟨rfl, rfl⟩ := hh
     have h4 : k = 4 := by injection h with h _; exact h.symm
     subst h4
     have hR' : stL 4 [47] (some 47) = true := hR
     exact absurd hR' (by decide)
  rw [if_neg cp']
  injection h with h1 h
  rw [<- h1]
  congr 1
  unfold sigR at h ⊢
  by_cases s2 : sig2 ((c :: r).take 2) = true
  ·rw [if_pos s2] at h
   injection h with h _
   cases r with
   | nil => simp at h
   | cons d r' =>
    cases r' with
    | cons => simp at h
    | nil =>
     have e : (c :: ([d] ++ R)).take 2 = (c :: [d]).take 2 := rfl
     rw [e, if_pos s2]
     rfl
  ·rw [if_neg s2] at h
   simp only at h ⊢
   split at h
   ·rename_i s1
    injection h with h _
    have hr : r = [] := by
     cases r with
     | nil => rfl
     | cons => simp at h
    subst hr
    have s2' : ¬ sig2 ((c :: ([] ++ R)).take 2) = true := by
     cases R with
     | nil => exact s2
     | cons d R' =>
      have h4 : k = 4 := h1.symm
      subst h4
      have := hR
      simp only [stL, List.head?_cons] at this
      rw [List.nil_append]
      intro hh
      have e : (c :: d :: R').take 2 = [c, d] := rfl
      rw [e] at hh
      rw [hh] at this
      simp at this
    rw [if_neg s2', if_pos s1]
    rfl
   ·injection h with _ h; cases h
theorem wrA_alnP {u : Tok} (h : wrA u = false) : bareB u = false ∧ alnB u = true := by
 unfold wrA at h
 have h0 : chkO [u, enT] = 0 := by simpa using h
 unfold chkO at h0
 rw [if_neg (by simp)] at h0
 have h1 : chkF ⟨0, ⟨#[]⟩, 0⟩ [u, enT] = true := by
  cases hc : chkF ⟨0, ⟨#[]⟩, 0⟩ [u, enT] with
  | true => rfl
  | false => rw [hc] at h0; simp at h0
 rw [chkF] at h1
 cases hb : bareB u with
 | true => rw [hb] at h1; simp [clo] at h1
 | false =>
  rw [hb] at h1
  cases ha : alnB u with
  | true => exact ⟨rfl, rfl⟩
  | false => rw [ha] at h1; simp at h1
def okI : Tok -> List Pe -> Prop
 | last, [] => clo last = false
 | _, .t x :: r => stL x.kind x.text.data.toList (rn r).head? = true ∧ okI x r
 | last, .w c :: r => (c = 32 ∨ c = 9 ∨ (c = 10 ∧ clo last = false)) ∧ okI last r
 | last, .e :: r => clo last = true ∧ okI enT r
def tkE (a b : Tok) : Bool := (a.kind == b.kind) && ((a.text.toList == b.text.toList) || ((a.kind == 5) && b.text.toList.isEmpty))
theorem lex_pe (L : List UInt8) : ∀ (l : List Pe) (ds : List Tok) (last : Tok) (p f : Nat), L.drop p = rn l -> p <= L.length -> okI last l -> (∀ x ∈ tks l, wrA x = false) -> clo (lastT ds) = clo last -> ds.length + (tks l).length <= 1024 -> lexMu L p ds < f ->
  ∃ ms, lexG L f p ds = (ds ++ ms, 0, 0) ∧ eqAll tkE (tks l) ms = true := by
 intro l
 induction l with
 | nil =>
  intro ds last p f hd hp hc _ hcl hn hf
  obtain ⟨f, rfl⟩ : ∃ f', f = f' + 1 := ⟨f - 1, by omega⟩
  have hd' : L.drop p = [] := hd
  have hcl' : clo (lastT ds) = false := by rw [hcl]; exact hc
  refine ⟨[], ?_, rfl⟩
  rw [List.append_nil]
  exact lexG_end (by have := congrArg List.length hd'; rw [List.length_drop] at this; simp at this; omega) hcl'
 | cons a r ih =>
  intro ds last p f hd hp hc hw hcl hn hf
  rw [rn_cons] at hd
  rw [tks_cons] at hn hw
  cases a with
  | w c =>
   rw [okI] at hc
   have hd' : L.drop p = c :: rn r := hd
   obtain ⟨hd1, hlt⟩ := drop_one hd'
   obtain ⟨f, rfl⟩ : ∃ f', f = f' + 1 := ⟨f - 1, by omega⟩
   have hlk : lookR (L.drop p) (clo (lastT ds)) = (0, 1, 0) := by
    rw [hd']
    rcases hc.1 with rfl | rfl | ⟨rfl, h⟩
    ·rfl
    ·rfl
    ·rw [hcl, h]; rfl
   obtain ⟨-, hm⟩ := mu_gap (.inl hlt) hp hlk
   rw [lexG_gap (.inl hlt) hlk, tks_cons]
   exact ih ds last (p + 1) f hd1 (by omega) hc.2 (fun x hx => hw x (by simp [hx])) hcl (by simpa [Pe.tk] using hn) (by omega)
  | e =>
   rw [okI] at hc
   have hd' : L.drop p = 10 :: rn r := hd
   obtain ⟨hd1, hlt⟩ := drop_one hd'
   obtain ⟨f, rfl⟩ : ∃ f', f = f' + 1 := ⟨f - 1, by omega⟩
   have hlk : lookR (L.drop p) (clo (lastT ds)) = (5, 0, 0) := by rw [hd', hcl, hc.1]; rfl
   have hn' : ds.length + (1 + (tks r).length) <= 1024 := by simpa [Pe.tk, Nat.add_comm] using hn
   obtain ⟨-, hm1⟩ := mu_tok (.inl hlt) hp hlk (t := ⟨5, strU ((L.drop p).take 0), p⟩) rfl
   rw [lexG_tok (.inl hlt) hlk (by decide) (by omega)]
   rw [Nat.add_zero] at hm1 ⊢
   have hl1 : lastT (ds ++ [⟨5, strU ((L.drop p).take 0), (p : Int)⟩]) = ⟨5, strU [], p⟩ := by rw [lastT_push, List.take_zero]
   rw [List.take_zero] at hl1 hm1 ⊢
   have hlk2 : lookR (L.drop p) (clo (lastT (ds ++ [⟨5, strU [], (p : Int)⟩]))) = (0, 1, 0) := by rw [hl1, hd']; rfl
   obtain ⟨f, rfl⟩ : ∃ f', f = f' + 1 := ⟨f - 1, by omega⟩
   obtain ⟨-, hm2⟩ := mu_gap (.inl hlt) hp hlk2
   rw [lexG_gap (.inl hlt) hlk2]
   obtain ⟨ms, g1, g2⟩ := ih (ds ++ [⟨5, strU [], (p : Int)⟩]) enT (p + 1) f hd1 (by omega) hc.2 (fun x hx => hw x (by simp [hx])) (by rw [hl1]; rfl) (by simp; omega) (by omega)
   refine ⟨⟨5, strU [], p⟩ :: ms, by rw [g1]; simp, ?_⟩
   rw [tks_cons]
   show (tkE enT ⟨5, strU [], (p : Int)⟩ && eqAll tkE (tks r) ms) = true
   rw [g2]
   simp [tkE, enT, tkW, strU_list]
  | t x =>
   rw [okI] at hc
   obtain ⟨-, ha⟩ := wrA_alnP (hw x (by simp [Pe.tk]))
   obtain ⟨q1, q2, q3⟩ := aln_look ha
   have hd' : L.drop p = x.text.data.toList ++ rn r := hd
   have hn' : ds.length + (1 + (tks r).length) <= 1024 := by simpa [Pe.tk, Nat.add_comm] using hn
   obtain ⟨f, rfl⟩ : ∃ f', f = f' + 1 := ⟨f - 1, by omega⟩
   have hlt : p < L.length := by
    by_cases h : p < L.length
    ·exact h
    ·rw [List.drop_eq_nil_of_le (by omega)] at hd'
     exact absurd (List.append_eq_nil_iff.1 hd'.symm).1 q3
   have hlk : lookR (L.drop p) (clo (lastT ds)) = (x.kind, x.text.data.toList.length, 0) := by rw [hd']; exact look_st q1 q2 q3 hc.1 _
   have htk : (L.drop p).take x.text.data.toList.length = x.text.data.toList := by rw [hd']; exact List.take_left
   obtain ⟨hm0, hm1⟩ := mu_tok (.inl hlt) hp hlk (t := ⟨x.kind, strU ((L.drop p).take x.text.data.toList.length), p⟩) rfl
   rw [lexG_tok (.inl hlt) hlk q2 (by omega)]
   rw [htk] at hm1 ⊢
   have hte : tkEq x ⟨x.kind, strU x.text.data.toList, p⟩ = true := by simp [tkEq, strU_of]
   have hd1 : L.drop (p + x.text.data.toList.length) = rn r := by rw [<- List.drop_drop, hd']; exact List.drop_left
   obtain ⟨ms, g1, g2⟩ := ih (ds ++ [⟨x.kind, strU x.text.data.toList, (p : Int)⟩]) x _ f hd1 hm0 hc.2 (fun y hy => hw y (by simp [hy])) (by rw [lastT_push]; exact (clo_tk hte).symm) (by simp; omega) (by omega)
   refine ⟨⟨x.kind, strU x.text.data.toList, p⟩ :: ms, by rw [g1]; simp, ?_⟩
   rw [tks_cons]
   show (tkE x ⟨x.kind, strU x.text.data.toList, (p : Int)⟩ && eqAll tkE (tks r) ms) = true
   rw [g2]
   simp [tkE, strU_of]
theorem pe_lex {l : List Pe} (hc : okI ⟨0, ⟨#[]⟩, 0⟩ l) (hw : ∀ x ∈ tks l, wrA x = false) (hn : (tks l).length <= 1024) (hl : ¬ 4096 < (rn l).length) : ∃ ms, lexO (rn l) = (ms, 0, 0) ∧ eqAll tkE (tks l) ms = true := by
 unfold lexO
 rw [if_neg hl]
 obtain ⟨ms, g1, g2⟩ := lex_pe (rn l) l [] ⟨0, ⟨#[]⟩, 0⟩ 0 (2 * (rn l).length + 1) rfl (Nat.zero_le _) hc hw rfl (by simpa using hn) (by unfold lexMu; rw [lastT_nil]; simp [clo])
 exact ⟨ms, by rw [g1]; rfl, g2⟩
end Go.Proofs.YtbadafkfjfbnlaaGreatDoor
