/- Tokens that were printed are lexed as they were: the whole text. Lists alone: no function of the program is walked here. -/
import Derived.Test.YtcbpnmdphmdemaaLxY
namespace Go.Proofs.Ytcbpnmdphmdemaa
open Go.RowKit

/-- A token told from place p on is no longer than what is left. -/
theorem lex_len {L : List UInt8} : ∀ (f p : Nat) (ts : List Tok), ∀ x ∈ (lexG L f p ts).1, x ∈ ts ∨ x.text.data.toList.length ≤ L.length - p := by
  intro f
  induction f with
  | zero => exact fun p ts x hx => .inl hx
  | succ f ih =>
    intro p ts x hx
    obtain ⟨k, n, e, hl⟩ : ∃ k n e, lookR (L.drop p) (clo (lastT ts)) = (k, n, e) := ⟨_, _, _, rfl⟩
    by_cases h1 : p < L.length ∨ clo (lastT ts) = true
    · by_cases he : e = 0
      · subst he
        by_cases hk : k = 0
        · subst hk
          rw [lexG_gap h1 hl] at hx
          rcases ih _ _ x hx with h | h
          · exact .inl h
          · exact .inr (by omega)
        · by_cases ht : ts.length = 1024
          · rw [lexG_full h1 hl hk ht] at hx
            simp at hx
          · rw [lexG_tok h1 hl hk ht] at hx
            rcases ih _ _ x hx with h | h
            · rcases List.mem_append.1 h with h | h
              · exact .inl h
              · rw [List.mem_singleton] at h
                subst h
                refine .inr ?_
                show ((L.drop p).take n).length ≤ _
                rw [List.length_take, List.length_drop]
                omega
            · exact .inr (by omega)
      · rw [lexG_err h1 hl he] at hx
        simp at hx
    · rw [lexG, if_neg h1] at hx
      exact .inl hx
/-- Tokens that were told stay ahead. -/
theorem lex_pre {L : List UInt8} : ∀ (f p : Nat) (ts : List Tok), (lexG L f p ts).1 = [] ∨ ∃ z, (lexG L f p ts).1 = ts ++ z := by
  intro f
  induction f with
  | zero => exact fun p ts => .inr ⟨[], by rw [List.append_nil]; rfl⟩
  | succ f ih =>
    intro p ts
    obtain ⟨k, n, e, hl⟩ : ∃ k n e, lookR (L.drop p) (clo (lastT ts)) = (k, n, e) := ⟨_, _, _, rfl⟩
    by_cases h1 : p < L.length ∨ clo (lastT ts) = true
    · by_cases he : e = 0
      · subst he
        by_cases hk : k = 0
        · subst hk
          rw [lexG_gap h1 hl]
          exact ih _ _
        · by_cases ht : ts.length = 1024
          · rw [lexG_full h1 hl hk ht]
            exact .inl rfl
          · rw [lexG_tok h1 hl hk ht]
            rcases ih (p + n) (ts ++ [⟨k, strU ((L.drop p).take n), p⟩]) with h | ⟨z, h⟩
            · exact .inl h
            · exact .inr ⟨_, by rw [h, List.append_assoc]⟩
      · rw [lexG_err h1 hl he]
        exact .inl rfl
    · rw [lexG, if_neg h1]
      exact .inr ⟨[], by rw [List.append_nil]⟩
/-- A token that is one by itself fills its text. -/
theorem aln_look {t : Tok} (h : alnB t = true) : lookR t.text.data.toList false = (t.kind, t.text.data.toList.length, 0) ∧ t.kind ≠ 0 ∧ t.text.data.toList ≠ [] := by
  have h4 := aln_small h
  have e4 : t.text.size = t.text.data.toList.length := by simp
  unfold alnB lexO at h
  generalize hLe : t.text.data.toList = L at h e4 ⊢
  rw [if_neg (by omega)] at h
  by_cases h0 : 0 < L.length
  · obtain ⟨k, n, e, hl⟩ : ∃ k n e, lookR (L.drop 0) (clo (lastT [])) = (k, n, e) := ⟨_, _, _, rfl⟩
    have hl' : lookR L false = (k, n, e) := hl
    by_cases he : e = 0
    · subst he
      have hs := look_size hl' (fun e => by rw [e] at h0; simp at h0)
      by_cases hk : k = 0
      · subst hk
        rw [lexG_gap (.inl h0) hl] at h
        exfalso
        have hx := lex_len (L := L) (2 * L.length) (0 + n) []
        cases hr : (lexG L (2 * L.length) (0 + n) []).1 with
        | nil => rw [hr] at h; cases h
        | cons x xs =>
          rw [hr] at h hx
          have h5 := hx x (by simp)
          simp only [tkEq, Bool.and_eq_true, beq_iff_eq] at h
          rw [ByteArray.toList_eq, ByteArray.toList_eq, hLe] at h
          rw [h.2] at h5
          rcases h5 with h5 | h5
          · simp at h5
          · rcases hs.2 with h6 | h6
            · omega
            · exact absurd h6.1 (by decide)
      · rw [lexG_tok (.inl h0) hl hk (by simp)] at h
        rcases lex_pre (L := L) (2 * L.length) (0 + n) ([] ++ [⟨k, strU ((L.drop 0).take n), ((0 : Nat) : Int)⟩]) with h5 | ⟨z, h5⟩
        · rw [h5] at h; cases h
        · rw [h5] at h
          simp only [List.nil_append, List.cons_append, tkEq, Bool.and_eq_true, beq_iff_eq] at h
          rw [strU_list, ByteArray.toList_eq, hLe, List.drop_zero] at h
          have h6 := congrArg List.length h.2
          rw [List.length_take] at h6
          have hn : n = L.length := by omega
          rw [hl', hn, h.1]
          refine ⟨rfl, ?_, fun e => by rw [e] at h0; simp at h0⟩
          rw [← h.1]
          exact hk
    · rw [lexG_err (.inl h0) hl he] at h
      cases h
  · rw [lexG_end h0 rfl] at h
    cases h
theorem prtF_acc : ∀ (rs : List Tok) (acc : List UInt8) (fr : Bool), prtF acc fr rs = acc ++ prtF [] fr rs
  | [], acc, fr => by rw [prtF, prtF, List.append_nil]
  | t :: r, acc, fr => by
    rw [prtF, prtF]
    cases bareB t
    · simp only [Bool.false_eq_true, if_false]
      rw [prtF_acc r, prtF_acc r ([] ++ _ ++ _)]
      simp
    · simp only [if_true]
      rw [prtF_acc r, prtF_acc r ([] ++ _ ++ _)]
      simp
theorem sep_prt (rs : List Tok) : SepB (prtF [] false rs) := by
  cases rs with
  | nil => exact .inl rfl
  | cons t r =>
    rw [prtF]
    cases bareB t
    · simp only [Bool.false_eq_true, if_false]
      rw [prtF_acc]
      exact .inr ⟨32, _, by simp; rfl, .inl rfl⟩
    · simp only [if_true]
      rw [prtF_acc]
      exact .inr ⟨10, _, by simp; rfl, .inr rfl⟩
theorem bare_clo {t : Tok} (h : bareB t = true) : clo t = false ∧ t.kind = 5 ∧ t.text.toList = [] := by
  unfold bareB at h
  rw [Bool.and_eq_true, beq_iff_eq, List.isEmpty_iff] at h
  refine ⟨?_, h.1, h.2⟩
  unfold clo
  rw [h.1]
  rfl
theorem clo_tk {a b : Tok} (h : tkEq a b = true) : clo a = clo b := by
  unfold tkEq at h
  rw [Bool.and_eq_true, beq_iff_eq, beq_iff_eq] at h
  unfold clo
  rw [h.1, h.2]
theorem look_blank (r : List UInt8) (en : Bool) : lookR (32 :: r) en = (0, 1, 0) := rfl
theorem look_feed0 (r : List UInt8) : lookR (10 :: r) false = (0, 1, 0) := rfl
theorem look_feed1 (r : List UInt8) : lookR (10 :: r) true = (5, 0, 0) := rfl
theorem drop_one {L S : List UInt8} {p : Nat} {c : UInt8} (h : L.drop p = c :: S) : L.drop (p + 1) = S ∧ p < L.length := by
  refine ⟨by rw [← List.drop_drop, h]; rfl, ?_⟩
  by_cases hp : p < L.length
  · exact hp
  · rw [List.drop_eq_nil_of_le (by omega)] at h; cases h
theorem back_go (L : List UInt8) : ∀ (rs ds : List Tok) (last : Tok) (fr : Bool) (p f : Nat), L.drop p = prtF [] fr rs → p ≤ L.length → chkF last rs = true → clo (lastT ds) = clo last → ds.length + rs.length ≤ 1024 → lexMu L p ds < f →
    ∃ ms, lexG L f p ds = (ds ++ ms, 0, 0) ∧ eqAll tkEq rs ms = true := by
  intro rs
  induction rs with
  | nil =>
    intro ds last fr p f hd hp hc hcl hn hf
    obtain ⟨f, rfl⟩ : ∃ f', f = f' + 1 := ⟨f - 1, by omega⟩
    have hd' : L.drop p = [] := hd
    have hcl' : clo (lastT ds) = false := by rw [hcl]; simpa [chkF] using hc
    refine ⟨[], ?_, rfl⟩
    rw [List.append_nil]
    exact lexG_end (by have := congrArg List.length hd'; rw [List.length_drop] at this; simp at this; omega) hcl'
  | cons t r ih =>
    intro ds last fr p f hd hp hc hcl hn hf
    rw [List.length_cons] at hn
    rw [chkF] at hc
    rw [prtF] at hd
    cases hb : bareB t with
    | true =>
      rw [hb] at hc hd
      simp only [if_true] at hc hd
      cases hl : clo last with
      | false => rw [hl] at hc; simp at hc
      | true =>
        rw [hl] at hc hcl
        simp only [if_true] at hc
        obtain ⟨q1, q2, q3⟩ := bare_clo hb
        rw [ByteArray.toList_eq] at q3
        rw [q3, prtF_acc] at hd
        have hd' : L.drop p = 10 :: prtF [] true r := by rw [hd]; rfl
        obtain ⟨hd1, hlt⟩ := drop_one hd'
        obtain ⟨f, rfl⟩ : ∃ f', f = f' + 1 := ⟨f - 1, by omega⟩
        have hlk : lookR (L.drop p) (clo (lastT ds)) = (5, 0, 0) := by rw [hd', hcl]; rfl
        obtain ⟨-, hm1⟩ := mu_tok (.inl hlt) hp hlk (t := ⟨5, strU ((L.drop p).take 0), p⟩) rfl
        rw [lexG_tok (.inl hlt) hlk (by decide) (by omega)]
        rw [Nat.add_zero] at hm1 ⊢
        have hl1 : lastT (ds ++ [⟨5, strU ((L.drop p).take 0), (p : Int)⟩]) = ⟨5, strU [], p⟩ := by rw [lastT_push, List.take_zero]
        rw [List.take_zero] at hl1 hm1 ⊢
        have hlk2 : lookR (L.drop p) (clo (lastT (ds ++ [⟨5, strU [], (p : Int)⟩]))) = (0, 1, 0) := by rw [hl1, hd']; rfl
        obtain ⟨f, rfl⟩ : ∃ f', f = f' + 1 := ⟨f - 1, by omega⟩
        obtain ⟨-, hm2⟩ := mu_gap (.inl hlt) hp hlk2
        rw [lexG_gap (.inl hlt) hlk2]
        obtain ⟨ms, g1, g2⟩ := ih (ds ++ [⟨5, strU [], (p : Int)⟩]) t true (p + 1) f hd1 (by omega) hc (by rw [hl1, q1]; rfl) (by simp; omega) (by omega)
        refine ⟨⟨5, strU [], p⟩ :: ms, by rw [g1]; simp, ?_⟩
        rw [eqAll, g2]
        simp only [tkEq, q2, Bool.and_true, Bool.and_eq_true, beq_iff_eq]
        refine ⟨trivial, ?_⟩
        rw [strU_list, ByteArray.toList_eq, q3]
    | false =>
      rw [hb] at hc hd
      simp only [Bool.false_eq_true, if_false] at hc hd
      cases ha : alnB t with
      | false => rw [ha] at hc; simp at hc
      | true =>
        rw [ha] at hc
        simp only [if_true] at hc
        obtain ⟨q1, q2, q3⟩ := aln_look ha
        have key : ∀ (p f : Nat), L.drop p = t.text.data.toList ++ prtF [] false r → p ≤ L.length → lexMu L p ds < f → ∃ ms, lexG L f p ds = (ds ++ ms, 0, 0) ∧ eqAll tkEq (t :: r) ms = true := by
          intro p f hd hp hf
          obtain ⟨f, rfl⟩ : ∃ f', f = f' + 1 := ⟨f - 1, by omega⟩
          have hlt : p < L.length := by
            by_cases h : p < L.length
            · exact h
            · rw [List.drop_eq_nil_of_le (by omega)] at hd
              exact absurd (List.append_eq_nil_iff.1 hd.symm).1 q3
          have hlk : lookR (L.drop p) (clo (lastT ds)) = (t.kind, t.text.data.toList.length, 0) := by rw [hd]; exact look_app q1 q2 q3 (sep_prt r) _
          have htk : (L.drop p).take t.text.data.toList.length = t.text.data.toList := by rw [hd]; exact List.take_left
          obtain ⟨hm0, hm1⟩ := mu_tok (.inl hlt) hp hlk (t := ⟨t.kind, strU ((L.drop p).take t.text.data.toList.length), p⟩) rfl
          rw [lexG_tok (.inl hlt) hlk q2 (by omega)]
          rw [htk] at hm1 ⊢
          have hte : tkEq t ⟨t.kind, strU t.text.data.toList, p⟩ = true := by simp [tkEq, strU_of]
          have hd1 : L.drop (p + t.text.data.toList.length) = prtF [] false r := by rw [← List.drop_drop, hd]; exact List.drop_left
          obtain ⟨ms, g1, g2⟩ := ih (ds ++ [⟨t.kind, strU t.text.data.toList, (p : Int)⟩]) t false _ f hd1 hm0 hc (by rw [lastT_push]; exact (clo_tk hte).symm) (by simp; omega) (by omega)
          refine ⟨⟨t.kind, strU t.text.data.toList, p⟩ :: ms, by rw [g1]; simp, ?_⟩
          rw [eqAll, g2, hte]
          rfl
        cases fr with
        | true =>
          refine key p f ?_ hp hf
          rw [hd, prtF_acc]
          simp
        | false =>
          have hd' : L.drop p = 32 :: (t.text.data.toList ++ prtF [] false r) := by rw [hd, prtF_acc]; simp
          obtain ⟨hd1, hlt⟩ := drop_one hd'
          obtain ⟨f, rfl⟩ : ∃ f', f = f' + 1 := ⟨f - 1, by omega⟩
          have hlk : lookR (L.drop p) (clo (lastT ds)) = (0, 1, 0) := by rw [hd']; rfl
          obtain ⟨-, hm⟩ := mu_gap (.inl hlt) hp hlk
          rw [lexG_gap (.inl hlt) hlk]
          exact key (p + 1) f hd1 (by omega) (by omega)
/-- What was printed is lexed as it was. -/
theorem print_back {ts : List Tok} (h : chkO ts = 0) (hl : ¬ 4096 < (prtF [] true ts).length) : ∃ ms, lexO (prtF [] true ts) = (ms, 0, 0) ∧ eqAll tkEq ts ms = true := by
  unfold chkO at h
  by_cases h4 : 1024 < ts.length
  · rw [if_pos h4] at h; cases h
  rw [if_neg h4] at h
  cases hc : chkF ⟨0, ⟨#[]⟩, 0⟩ ts with
  | false => rw [hc] at h; cases h
  | true =>
    unfold lexO
    rw [if_neg hl]
    obtain ⟨ms, g1, g2⟩ := back_go (prtF [] true ts) ts [] ⟨0, ⟨#[]⟩, 0⟩ true 0 (2 * (prtF [] true ts).length + 1) rfl (Nat.zero_le _) hc rfl (by simp; omega) (by unfold lexMu; rw [lastT_nil]; simp [clo])
    exact ⟨ms, by rw [g1]; rfl, g2⟩
end Go.Proofs.Ytcbpnmdphmdemaa
