/- Tokens stand where they say, and between them there is nothing. Lists alone: no function of the program is walked here. -/
import Derived.Test.YtcbpnmdphmdemaaLxZ
namespace Go.Proofs.Ytcbpnmdphmdemaa
open Go.RowKit

theorem run_take {p : UInt8 → Bool} : ∀ (L : List UInt8) (m : Nat), runN p L ≤ m → runN p (L.take m) = runN p L
  | [], m, _ => by rw [List.take_nil]
  | a :: L, 0, h => by rw [List.take_zero, runN_nil]; omega
  | a :: L, m + 1, h => by
    rw [runN_cons] at h
    rw [List.take_succ_cons, runN_cons, runN_cons]
    cases ha : p a with
    | false => rfl
    | true =>
      rw [ha] at h
      simp only [if_true] at h ⊢
      rw [run_take L m (by omega)]
theorem unqA_take : ∀ (m : Nat) (L acc : List UInt8) (i : Nat) (v : List UInt8) (n : Nat), L.length ≤ m → unqA acc i L = some (v, n) → i < n ∧ n - i ≤ L.length ∧ unqA acc i (L.take (n - i)) = some (v, n) := by
  intro m
  induction m with
  | zero =>
    intro L acc i v n hm h
    have : L = [] := List.eq_nil_of_length_eq_zero (by omega)
    subst this
    rw [unqA] at h
    cases h
  | succ m ih =>
    intro L acc i v n hm h
    cases L with
    | nil => rw [unqA] at h; cases h
    | cons c r =>
      rw [List.length_cons] at hm ⊢
      rw [unqA_cons] at h
      by_cases h1 : c.toNat = 34
      · rw [if_pos h1] at h
        injection h with h
        injection h with h2 h3
        subst h2 h3
        refine ⟨by omega, by omega, ?_⟩
        rw [show i + 1 - i = 0 + 1 by omega, List.take_succ_cons, unqA_cons, if_pos h1]
      · rw [if_neg h1] at h
        by_cases h2 : c.toNat = 92
        · rw [if_pos h2] at h
          cases r with
          | nil => cases h
          | cons d r' =>
            rw [List.length_cons] at hm ⊢
            cases hp : pairU d with
            | none => simp only [hp] at h; cases h
            | some x =>
              simp only [hp] at h
              obtain ⟨q1, q2, q3⟩ := ih r' _ _ _ _ (by omega) h
              refine ⟨by omega, by omega, ?_⟩
              rw [show n - i = (n - (i + 2)) + 1 + 1 by omega, List.take_succ_cons, List.take_succ_cons, unqA_cons, if_neg h1, if_pos h2]
              simp only [hp]
              exact q3
        · rw [if_neg h2] at h
          cases hp : plnB c.toNat with
          | false => rw [hp] at h; simp at h
          | true =>
            rw [hp] at h
            simp only [if_true] at h
            obtain ⟨q1, q2, q3⟩ := ih r _ _ _ _ (by omega) h
            refine ⟨by omega, by omega, ?_⟩
            rw [show n - i = (n - (i + 1)) + 1 by omega, List.take_succ_cons, unqA_cons, if_neg h1, if_neg h2, hp]
            simp only [if_true]
            exact q3
/-- A token's own bytes are that token. -/
theorem look_cut {S : List UInt8} {en : Bool} {k : Int} {n : Nat} (h : lookR S en = (k, n, 0)) (hk : k ≠ 0) (hn : 0 < n) : lookR (S.take n) false = (k, n, 0) := by
  cases S with
  | nil =>
    simp only [lookR, Prod.mk.injEq] at h
    omega
  | cons c r =>
    obtain ⟨m, rfl⟩ : ∃ m, n = m + 1 := ⟨n - 1, by omega⟩
    rw [List.take_succ_cons]
    unfold lookR at h ⊢
    simp only at h ⊢
    by_cases c2 : clsI c.toNat = 2
    · rw [if_pos c2] at h
      split at h
      · simp at h
      · simp only [Prod.mk.injEq] at h
        exact absurd h.1.symm hk
    rw [if_neg c2] at h ⊢
    by_cases c1 : clsI c.toNat = 1
    · rw [if_pos c1] at h
      simp only [Prod.mk.injEq] at h
      exact absurd h.1.symm hk
    rw [if_neg c1] at h ⊢
    by_cases c6 : clsI c.toNat = 6
    · rw [if_pos c6] at h ⊢
      exact h
    rw [if_neg c6] at h ⊢
    by_cases c3 : clsI c.toNat = 3
    · rw [if_pos c3] at h ⊢
      injection h with h1 h
      rw [← h1]
      congr 1
      unfold wordR at h ⊢
      by_cases hw : runN (inC [3, 4]) (c :: r) > 24
      · rw [if_pos hw] at h; injection h with _ h; cases h
      · rw [if_neg hw] at h
        injection h with h _
        have e := run_take (p := inC [3, 4]) (c :: r) (m + 1) (by omega)
        rw [List.take_succ_cons] at e
        rw [e, if_neg hw, h]
    rw [if_neg c3] at h ⊢
    by_cases c4 : clsI c.toNat = 4
    · rw [if_pos c4] at h ⊢
      injection h with h1 h
      rw [← h1]
      congr 1
      unfold numR at h ⊢
      split at h
      · injection h with _ h; cases h
      · rename_i hq
        injection h with h _
        have e := run_take (p := inC [4]) (c :: r) (m + 1) (by omega)
        rw [List.take_succ_cons] at e
        rw [e]
        rw [h] at hq ⊢
        have e2 : (c :: r.take m).take (m + 1) = (c :: r).take (m + 1) := by rw [List.take_succ_cons, List.take_succ_cons, List.take_take, Nat.min_self]
        have e3 : (c :: r.take m).drop (m + 1) = [] := by rw [List.drop_succ_cons, List.drop_eq_nil_of_le (by rw [List.length_take]; omega)]
        rw [e2, e3, runN_nil]
        rw [if_neg (fun hh => hq (hh.elim .inl (fun hh => absurd hh (by omega))))]
    rw [if_neg c4] at h ⊢
    by_cases c5 : clsI c.toNat = 5
    · rw [if_pos c5] at h ⊢
      injection h with h1 h
      rw [← h1]
      congr 1
      unfold quoR unqO at h ⊢
      by_cases h34 : c.toNat = 34
      · simp only [h34, if_true] at h ⊢
        cases hu : unqA [] 1 r with
        | none => rw [hu] at h; injection h with _ h; cases h
        | some v =>
          obtain ⟨v, nn⟩ := v
          rw [hu] at h
          injection h with h _
          subst h
          have := (unqA_take _ r [] 1 v (m + 1) (Nat.le_refl _) hu).2.2
          rw [show m + 1 - 1 = m by omega] at this
          rw [this]
      · simp only [h34, if_false] at h
        injection h with _ h
        cases h
    rw [if_neg c5] at h ⊢
    by_cases cp : Lib.hasPrefix (c :: r) [47, 47] = true
    · rw [if_pos cp] at h
      simp only [Prod.mk.injEq] at h
      exact absurd h.1.symm hk
    rw [if_neg cp] at h
    injection h with h1 h
    rw [← h1]
    unfold sigR at h
    by_cases s2 : sig2 ((c :: r).take 2) = true
    · rw [if_pos s2] at h
      injection h with h _
      obtain rfl : m = 1 := by omega
      cases r with
      | nil => simp [sig2] at s2
      | cons d r' =>
        have cp' : ¬ Lib.hasPrefix (c :: (d :: r').take 1) [47, 47] = true := by
          intro hh
          apply cp
          unfold Lib.hasPrefix at hh ⊢
          simpa [List.isPrefixOf] using hh
        rw [if_neg cp']
        congr 1
        unfold sigR
        have e : (c :: (d :: r').take 1).take 2 = (c :: d :: r').take 2 := rfl
        rw [e, if_pos s2]
    · rw [if_neg s2] at h
      simp only at h
      split at h
      · rename_i s1
        injection h with h _
        obtain rfl : m = 0 := by omega
        rw [List.take_zero, if_neg (by simp [Lib.hasPrefix, List.isPrefixOf])]
        congr 1
        unfold sigR
        rw [if_neg (by simp [sig2])]
        simp only
        rw [if_pos s1]
      · injection h with _ h; cases h
/-- A gap is one too where less follows. -/
theorem look_gap {S : List UInt8} {en : Bool} {n m : Nat} (h : lookR S en = (0, n, 0)) (hm : n ≤ m) : lookR (S.take m) false = (0, n, 0) := by
  cases S with
  | nil => simp [lookR] at h
  | cons c r =>
    have hn := (look_size h (fun e => by cases e)).2
    have hn' : 0 < n := by
      rcases hn with hn | ⟨hn, -⟩
      · exact hn
      · exact absurd hn (by decide)
    obtain ⟨m, rfl⟩ : ∃ m', m = m' + 1 := ⟨m - 1, by omega⟩
    rw [List.take_succ_cons]
    unfold lookR at h ⊢
    simp only at h ⊢
    by_cases c2 : clsI c.toNat = 2
    · rw [if_pos c2] at h ⊢
      split at h
      · simp at h
      · exact h
    rw [if_neg c2] at h ⊢
    by_cases c1 : clsI c.toNat = 1
    · rw [if_pos c1] at h ⊢
      exact h
    rw [if_neg c1] at h ⊢
    by_cases c6 : clsI c.toNat = 6
    · rw [if_pos c6] at h; simp at h
    rw [if_neg c6] at h ⊢
    by_cases c3 : clsI c.toNat = 3
    · rw [if_pos c3] at h; simp at h
    rw [if_neg c3] at h ⊢
    by_cases c4 : clsI c.toNat = 4
    · rw [if_pos c4] at h; simp at h
    rw [if_neg c4] at h ⊢
    by_cases c5 : clsI c.toNat = 5
    · rw [if_pos c5] at h; simp at h
    rw [if_neg c5] at h ⊢
    by_cases cp : Lib.hasPrefix (c :: r) [47, 47] = true
    · rw [if_pos cp] at h
      simp only [Prod.mk.injEq] at h
      have hc := h.2.1
      unfold comN at hc
      have hn2 : 2 ≤ n := by
        cases r with
        | nil => simp [Lib.hasPrefix, List.isPrefixOf] at cp
        | cons d r' =>
          simp [Lib.hasPrefix, List.isPrefixOf] at cp
          obtain ⟨rfl, rfl⟩ := cp
          rw [runN_cons, runN_cons] at hc
          simp at hc
          omega
      have cp' : Lib.hasPrefix (c :: r.take m) [47, 47] = true := by
        cases r with
        | nil => rw [List.take_nil]; exact cp
        | cons d r' =>
          obtain ⟨m, rfl⟩ : ∃ m', m = m' + 1 := ⟨m - 1, by omega⟩
          rw [List.take_succ_cons]
          unfold Lib.hasPrefix at cp ⊢
          simpa [List.isPrefixOf] using cp
      have e := run_take (p := fun c => c != 10) (c :: r) (m + 1) (by omega)
      rw [List.take_succ_cons] at e
      rw [if_pos cp', comN, e, hc]
    · rw [if_neg cp] at h; simp at h
/-- Bytes in which no token begins. -/
inductive GapL : List UInt8 → Prop
  | nil : GapL []
  | step {S : List UInt8} {n : Nat} : S ≠ [] → lookR S false = (0, n, 0) → GapL (S.drop n) → GapL S
theorem GapL.go {S : List UInt8} (h : GapL S) : ∀ (G : List UInt8) (p f : Nat), G.drop p = S → p ≤ G.length → lexMu G p [] < f → lexG G f p [] = ([], 0, 0) := by
  induction h with
  | nil =>
    intro G p f hd hp hf
    obtain ⟨f, rfl⟩ : ∃ f', f = f' + 1 := ⟨f - 1, by omega⟩
    exact lexG_end (by have := congrArg List.length hd; rw [List.length_drop] at this; simp at this; omega) rfl
  | @step S n hS hl _ ih =>
    intro G p f hd hp hf
    obtain ⟨f, rfl⟩ : ∃ f', f = f' + 1 := ⟨f - 1, by omega⟩
    have hlt : p < G.length := by
      by_cases h : p < G.length
      · exact h
      · rw [List.drop_eq_nil_of_le (by omega)] at hd
        exact absurd hd.symm hS
    have hlk : lookR (G.drop p) (clo (lastT [])) = (0, n, 0) := by rw [hd]; exact hl
    obtain ⟨h1, h2⟩ := mu_gap (.inl hlt) hp hlk
    rw [lexG_gap (.inl hlt) hlk]
    exact ih G (p + n) f (by rw [← List.drop_drop, hd]) h1 (by omega)
theorem GapL.lexO {S : List UInt8} (h : GapL S) (hl : S.length ≤ 4096) : lexO S = ([], 0, 0) := by
  unfold Go.Proofs.Ytcbpnmdphmdemaa.lexO
  rw [if_neg (by omega)]
  exact h.go S 0 _ rfl (Nat.zero_le _) (by unfold lexMu; rw [lastT_nil]; simp [clo])
/-- Tokens stand where they say from place e on, and between them there is nothing. -/
def StL (L : List UInt8) : Nat → List Tok → Prop
  | e, [] => GapL (L.drop e)
  | e, t :: r => ∃ a : Nat, t.pos = a ∧ e ≤ a ∧ a + t.text.data.toList.length ≤ L.length ∧ (L.drop a).take t.text.data.toList.length = t.text.data.toList ∧ GapL ((L.drop e).take (a - e)) ∧ StL L (a + t.text.data.toList.length) r
theorem stl_gap {L : List UInt8} {p n : Nat} {en : Bool} (h : lookR (L.drop p) en = (0, n, 0)) (hp : p < L.length) : ∀ ts : List Tok, StL L (p + n) ts → StL L p ts := by
  have hne : L.drop p ≠ [] := fun e => by have := congrArg List.length e; rw [List.length_drop] at this; simp at this; omega
  intro ts hs
  have hn0 : 0 < n := by
    rcases (look_size h (fun e => absurd e hne)).2 with h | ⟨h, -⟩
    · exact h
    · exact absurd h (by decide)
  have hnl := (look_size h (fun e => absurd e hne)).1
  cases ts with
  | nil =>
    have e := look_gap (m := (L.drop p).length) h hnl
    rw [List.take_length] at e
    exact .step hne e (by rw [List.drop_drop]; exact hs)
  | cons t r =>
    obtain ⟨a, h1, h2, h3, h4, h5, h6⟩ := hs
    refine ⟨a, h1, by omega, h3, h4, ?_, h6⟩
    have e := look_gap (m := a - p) h (by omega)
    refine .step (fun e => ?_) e ?_
    · have := congrArg List.length e
      rw [List.length_take] at this
      rw [List.length_drop] at this
      simp at this
      omega
    · rw [List.drop_take, List.drop_drop, show a - p - n = a - (p + n) by omega]
      exact h5
theorem aln_of_look {S : List UInt8} {k : Int} (h : lookR S false = (k, S.length, 0)) (hk : k ≠ 0) (hS : 0 < S.length) (hl : S.length ≤ 4096) (p : Int) : alnB ⟨k, strU S, p⟩ = true := by
  unfold alnB lexO
  show (match (if 4096 < S.length then (([], 3, 0) : List Tok × Int × Nat) else lexG S (2 * S.length + 1) 0 []).1 with
    | [] => false
    | x :: _ => tkEq x ⟨k, strU S, p⟩) = true
  rw [if_neg (by omega)]
  have hl0 : lookR (S.drop 0) (clo (lastT [])) = (k, S.length, 0) := h
  rw [lexG_tok (.inl hS) hl0 hk (by simp)]
  obtain ⟨f, hf⟩ : ∃ f, 2 * S.length = f + 1 + 1 := ⟨2 * S.length - 2, by omega⟩
  rw [hf, Nat.zero_add, List.nil_append, List.drop_zero, List.take_length]
  have hte : tkEq ⟨k, strU S, ((0 : Nat) : Int)⟩ ⟨k, strU S, p⟩ = true := by simp [tkEq]
  have hlt : lastT [⟨k, strU S, ((0 : Nat) : Int)⟩] = ⟨k, strU S, ((0 : Nat) : Int)⟩ := rfl
  cases hc : clo ⟨k, strU S, ((0 : Nat) : Int)⟩ with
  | false =>
    rw [lexG_end (by omega) (by rw [hlt]; exact hc)]
    exact hte
  | true =>
    have hle : lookR (S.drop S.length) (clo (lastT [⟨k, strU S, ((0 : Nat) : Int)⟩])) = (5, 0, 0) := by rw [hlt, hc, List.drop_length]; rfl
    rw [lexG_tok (.inr (by rw [hlt]; exact hc)) hle (by decide) (by simp)]
    rw [lexG_end (by omega) (by rw [lastT_push]; rfl)]
    exact hte
/-- What Lex tells: an error and its place, or tokens that stand. -/
theorem lex_stands {L : List UInt8} (hL : L.length ≤ 4096) : ∀ (f p : Nat) (ds : List Tok), p ≤ L.length → ds.length ≤ 1024 → lexMu L p ds < f →
    (∃ e q, lexG L f p ds = ([], e, q) ∧ e ≠ 0 ∧ q ≤ L.length) ∨ ∃ ms, lexG L f p ds = (ds ++ ms, 0, 0) ∧ StL L p ms ∧ chkF (lastT ds) ms = true ∧ (ds ++ ms).length ≤ 1024 := by
  intro f
  induction f with
  | zero => intro p ds _ _ h; omega
  | succ f ih =>
    intro p ds hp hn hf
    obtain ⟨k, n, e, hl⟩ : ∃ k n e, lookR (L.drop p) (clo (lastT ds)) = (k, n, e) := ⟨_, _, _, rfl⟩
    by_cases h1 : p < L.length ∨ clo (lastT ds) = true
    · by_cases he : e = 0
      · subst he
        by_cases hk : k = 0
        · subst hk
          obtain ⟨hm0, hm1⟩ := mu_gap h1 hp hl
          have hlt : p < L.length := by
            by_cases h : p < L.length
            · exact h
            · rw [List.drop_eq_nil_of_le (by omega)] at hl
              simp [lookR] at hl
          rw [lexG_gap h1 hl]
          rcases ih (p + n) ds hm0 hn (by omega) with h | ⟨ms, g1, g2, g3, g4⟩
          · exact .inl h
          · exact .inr ⟨ms, g1, stl_gap hl hlt ms g2, g3, g4⟩
        · by_cases ht : ds.length = 1024
          · exact .inl ⟨3, p, lexG_full h1 hl hk ht, by decide, hp⟩
          · obtain ⟨hm0, hm1⟩ := mu_tok h1 hp hl (t := ⟨k, strU ((L.drop p).take n), p⟩) rfl
            rw [lexG_tok h1 hl hk ht]
            have hsz := look_size hl (fun e => by
              rcases h1 with h1 | h1
              · have := congrArg List.length e; rw [List.length_drop] at this; simp at this; omega
              · exact h1)
            have hlen : ((L.drop p).take n).length = n := by rw [List.length_take, List.length_drop]; omega
            rcases ih (p + n) (ds ++ [⟨k, strU ((L.drop p).take n), p⟩]) hm0 (by simp; omega) (by omega) with h | ⟨ms, g1, g2, g3, g4⟩
            · exact .inl h
            · rw [lastT_push] at g3
              refine .inr ⟨⟨k, strU ((L.drop p).take n), p⟩ :: ms, by rw [g1]; simp, ⟨p, rfl, Nat.le_refl _, ?_, ?_, ?_, ?_⟩, ?_, by simpa using g4⟩
              · rw [strU_data, hlen]; exact hm0
              · rw [strU_data, hlen]
              · rw [Nat.sub_self, List.take_zero]; exact .nil
              · rw [strU_data, hlen]; exact g2
              · rw [chkF]
                rcases hsz.2 with h0 | ⟨hk5, h0, hen⟩
                · have hb : bareB ⟨k, strU ((L.drop p).take n), p⟩ = false := by
                    cases hb : bareB ⟨k, strU ((L.drop p).take n), p⟩ with
                    | false => rfl
                    | true =>
                      have := (bare_clo hb).2.2
                      rw [strU_list] at this
                      rw [this] at hlen
                      simp at hlen
                      omega
                  have hlc := look_cut hl hk h0
                  have ha : alnB ⟨k, strU ((L.drop p).take n), p⟩ = true := aln_of_look (by rw [hlen]; exact hlc) hk (by omega) (by omega) _
                  rw [hb, ha]
                  exact g3
                · subst hk5 h0
                  rw [hen]
                  rw [List.take_zero] at g3 ⊢
                  have hb : bareB ⟨5, strU [], p⟩ = true := by unfold bareB; rw [strU_list]; rfl
                  rw [hb]
                  exact g3
      · exact .inl ⟨e, p, lexG_err h1 hl he, he, hp⟩
    · have hc : clo (lastT ds) = false := by
        cases hc : clo (lastT ds) with
        | false => rfl
        | true => exact absurd (.inr hc) h1
      refine .inr ⟨[], ?_, ?_, by rw [chkF, hc]; rfl, by simpa using hn⟩
      · rw [lexG_end (fun h => h1 (.inl h)) hc, List.append_nil]
      · show GapL (L.drop p)
        rw [List.drop_eq_nil_of_le (by
          by_cases h : p < L.length
          · exact absurd (.inl h) h1
          · omega)]
        exact .nil
theorem lexO_stands {L : List UInt8} (hL : L.length ≤ 4096) : (∃ e q, lexO L = ([], e, q) ∧ e ≠ 0 ∧ q ≤ L.length) ∨ ∃ ms, lexO L = (ms, 0, 0) ∧ StL L 0 ms ∧ chkO ms = 0 ∧ ms.length ≤ 1024 := by
  have h := lex_stands hL (2 * L.length + 1) 0 [] (Nat.zero_le _) (by simp) (by unfold lexMu; rw [lastT_nil]; simp [clo])
  unfold lexO
  rw [if_neg (by omega)]
  rcases h with h | ⟨ms, g1, g2, g3, g4⟩
  · exact .inl h
  · rw [List.nil_append] at g1 g4
    refine .inr ⟨ms, g1, g2, ?_, g4⟩
    unfold chkO
    rw [if_neg (by omega)]
    rw [lastT_nil] at g3
    rw [g3]
    rfl
end Go.Proofs.Ytcbpnmdphmdemaa
