/- Lists: how far the document's Lex has come; a token is put behind a slice of one's own. -/
import Derived.Test.YtcbpnmdphmdemaaSxB
import Derived.Test.YtcbpnmdphmdemaaLxL
namespace Go.Proofs.Ytcbpnmdphmdemaa
open Go.RowKit

/-- Place p is come to, behind the tokens ts, on the way to O. -/
def AtL (L : List UInt8) (O : List Tok × Int × Nat) (p : Nat) (ts : List Tok) : Prop :=
  (p ≤ L.length ∧ ∃ f, lexMu L p ts < f ∧ lexG L f p ts = O) ∨ (p = L.length + 1 ∧ O = (ts, 0, 0))
variable {L : List UInt8} {O : List Tok × Int × Nat} {p n : Nat} {ts : List Tok} {k : Int}
theorem AtL.le (h : AtL L O p ts) : p ≤ L.length + 1 := by rcases h with ⟨h, -⟩ | ⟨h, -⟩ <;> omega
theorem AtL.start (h : L.length ≤ 4096) : AtL L (lexO L) 0 [] := by
  refine .inl ⟨Nat.zero_le _, 2 * L.length + 1, ?_, ?_⟩
  · unfold lexMu; rw [lastT_nil]; simp [clo]
  · unfold lexO; rw [if_neg (by omega)]
theorem AtL.over (h : AtL L O p ts) (hp : L.length < p) : O = (ts, 0, 0) := by
  rcases h with ⟨h, -⟩ | ⟨-, h⟩
  · omega
  · exact h
theorem AtL.gap (h : AtL L O p ts) (hp : p < L.length) (h2 : lookR (L.drop p) (clo (lastT ts)) = (0, n, 0)) : AtL L O (p + n) ts := by
  rcases h with ⟨-, f, hf, hg⟩ | ⟨h, -⟩
  · obtain ⟨f, rfl⟩ : ∃ f', f = f' + 1 := ⟨f - 1, by omega⟩
    rw [lexG_gap (.inl hp) h2] at hg
    have := mu_gap (.inl hp) (by omega) h2
    exact .inl ⟨this.1, f, by omega, hg⟩
  · omega
theorem AtL.tok (h : AtL L O p ts) (hp : p ≤ L.length) (h1 : p < L.length ∨ clo (lastT ts) = true) (h2 : lookR (L.drop p) (clo (lastT ts)) = (k, n, 0)) (hk : k ≠ 0) (ht : ts.length ≠ 1024) : p + n ≤ L.length ∧ AtL L O (p + n) (ts ++ [⟨k, strU ((L.drop p).take n), p⟩]) := by
  rcases h with ⟨-, f, hf, hg⟩ | ⟨h, -⟩
  · obtain ⟨f, rfl⟩ : ∃ f', f = f' + 1 := ⟨f - 1, by omega⟩
    rw [lexG_tok h1 h2 hk ht] at hg
    have := mu_tok h1 hp h2 rfl
    exact ⟨this.1, .inl ⟨this.1, f, by omega, hg⟩⟩
  · omega
theorem AtL.err {e : Int} (h : AtL L O p ts) (hp : p ≤ L.length) (h1 : p < L.length ∨ clo (lastT ts) = true) (h2 : lookR (L.drop p) (clo (lastT ts)) = (k, n, e)) (he : e ≠ 0) : O = ([], e, p) := by
  rcases h with ⟨-, f, hf, hg⟩ | ⟨h, -⟩
  · obtain ⟨f, rfl⟩ : ∃ f', f = f' + 1 := ⟨f - 1, by omega⟩
    rw [lexG_err h1 h2 he] at hg
    exact hg.symm
  · omega
theorem AtL.full (h : AtL L O p ts) (hp : p ≤ L.length) (h1 : p < L.length ∨ clo (lastT ts) = true) (h2 : lookR (L.drop p) (clo (lastT ts)) = (k, n, 0)) (hk : k ≠ 0) (ht : ts.length = 1024) : O = ([], 3, p) := by
  rcases h with ⟨-, f, hf, hg⟩ | ⟨h, -⟩
  · obtain ⟨f, rfl⟩ : ∃ f', f = f' + 1 := ⟨f - 1, by omega⟩
    rw [lexG_full h1 h2 hk ht] at hg
    exact hg.symm
  · omega
theorem drop_cons {c : UInt8} (h : L[p]? = some c) : L.drop p = c :: L.drop (p + 1) := by
  obtain ⟨hlt, he⟩ := List.getElem?_eq_some_iff.1 h
  rw [List.drop_eq_getElem_cons hlt, he]
/-- A line ends at p. -/
def LineE (L : List UInt8) (p : Nat) : Prop := p = L.length ∨ L[p]? = some 10
theorem LineE.le (h : LineE L p) : p ≤ L.length := by
  rcases h with h | h
  · omega
  · have := (List.getElem?_eq_some_iff.1 h).1
    omega
theorem LineE.look (h : LineE L p) : lookR (L.drop p) true = (5, 0, 0) := by
  rcases h with h | h
  · rw [List.drop_eq_nil_of_le (by omega)]; rfl
  · rw [drop_cons h]; rfl
theorem AtL.feed (h : AtL L O p ts) (hl : LineE L p) (hc : clo (lastT ts) = false) : AtL L O (p + 1) ts := by
  rcases hl with hl | hl
  · rcases h with ⟨-, f, hf, hg⟩ | ⟨h, -⟩
    · obtain ⟨f, rfl⟩ : ∃ f', f = f' + 1 := ⟨f - 1, by omega⟩
      rw [lexG_end (by omega) hc] at hg
      exact .inr ⟨by omega, hg.symm⟩
    · omega
  · have hlt := (List.getElem?_eq_some_iff.1 hl).1
    exact h.gap hlt (by rw [hc, drop_cons hl]; rfl)
theorem AtL.ends (h : AtL L O p ts) (hl : LineE L p) (hc : clo (lastT ts) = true) (ht : ts.length ≠ 1024) : AtL L O (p + 1) (ts ++ [⟨5, ⟨#[]⟩, p⟩]) := by
  have h1 := (h.tok hl.le (.inr hc) (by rw [hc]; exact hl.look) (by omega) ht).2
  rw [Nat.add_zero, List.take_zero] at h1
  exact h1.feed hl (by rw [lastT_push]; rfl)
theorem AtL.endsFull (h : AtL L O p ts) (hl : LineE L p) (hc : clo (lastT ts) = true) (ht : ts.length = 1024) : O = ([], 3, p) :=
  h.full hl.le (.inr hc) (by rw [hc]; exact hl.look) (by omega) ht
theorem nextR_kind {M : List UInt8} (h : nextR M = (k, n, 0)) : k ≠ 0 := by
  match M with
  | [] => simp [nextR] at h
  | c :: r =>
    simp only [nextR] at h
    repeat' split at h
    all_goals (simp only [Prod.mk.injEq] at h; omega)
/-- What stands at p is neither a blank nor the end of a line nor a comment. -/
def Word0 (L : List UInt8) (p : Nat) : Prop := ∃ c, L[p]? = some c ∧ clsI c.toNat ≠ 1 ∧ clsI c.toNat ≠ 2 ∧ Lib.hasPrefix (L.drop p) [47, 47] = false
theorem Word0.look {en : Bool} (h : Word0 L p) : lookR (L.drop p) en = nextR (L.drop p) := by
  obtain ⟨c, h1, h2, h3, h4⟩ := h
  rw [drop_cons h1] at h4 ⊢
  exact look_next h2 h3 h4
theorem Word0.lt (h : Word0 L p) : p < L.length := by
  obtain ⟨c, h1, -⟩ := h
  exact (List.getElem?_eq_some_iff.1 h1).1
theorem AtL.word (h : AtL L O p ts) (hw : Word0 L p) (h2 : nextR (L.drop p) = (k, n, 0)) (ht : ts.length ≠ 1024) : p + n ≤ L.length ∧ AtL L O (p + n) (ts ++ [⟨k, strU ((L.drop p).take n), p⟩]) :=
  h.tok (by have := hw.lt; omega) (.inl hw.lt) (by rw [hw.look]; exact h2) (nextR_kind h2) ht
theorem AtL.wordFull (h : AtL L O p ts) (hw : Word0 L p) (h2 : nextR (L.drop p) = (k, n, 0)) (ht : ts.length = 1024) : O = ([], 3, p) :=
  h.full (by have := hw.lt; omega) (.inl hw.lt) (by rw [hw.look]; exact h2) (nextR_kind h2) ht
theorem AtL.wordErr {e : Int} (h : AtL L O p ts) (hw : Word0 L p) (h2 : nextR (L.drop p) = (k, n, e)) (he : e ≠ 0) : O = ([], e, p) :=
  h.err (by have := hw.lt; omega) (.inl hw.lt) (by rw [hw.look]; exact h2) he
theorem AtL.blank {c : UInt8} (h : AtL L O p ts) (hc : L[p]? = some c) (h1 : clsI c.toNat = 1) : AtL L O (p + 1) ts :=
  h.gap (List.getElem?_eq_some_iff.1 hc).1 (by rw [drop_cons hc]; simp only [lookR, h1]; rfl)
theorem AtL.note (h : AtL L O p ts) (hp : p < L.length) (hc : Lib.hasPrefix (L.drop p) [47, 47] = true) : AtL L O (p + comN (L.drop p)) ts := by
  refine h.gap hp ?_
  obtain ⟨c, hcc⟩ : ∃ c, L[p]? = some c := ⟨_, List.getElem?_eq_getElem hp⟩
  rw [drop_cons hcc] at hc ⊢
  have h47 : c = 47 := by
    have h := hc
    simp [Lib.hasPrefix] at h
    exact h.1.symm
  subst h47
  simp only [lookR, hc]
  rfl
/-- A token is put behind a slice of one's own. -/
theorem push_tok {B : Nat} {w wr : World} {v : Value} (t : Tok) (ho : OwnT B wr v ts) (hb : Below B w wr) (hB : B ≤ wr.heap.size) (hl : ts.length ≤ 900000) :
    ∃ v' w', (Builtin.append_ #[24, 24] 24 #[v, .slice (some ⟨wr.heap.size, 0, none⟩) 1 1]).run Try.prog (wr.alloc (.cells t.cells 32)) = .ok v' w' ∧ OwnT B w' v' (ts ++ [t]) ∧ Below B w w' := by
  have ba : Below wr.heap.size wr (wr.alloc (.cells t.cells 32)) := (Below.refl _ _).alloc (Nat.le_refl _) _
  have ho' := ho.below ba
  have hr : RowsT (wr.alloc (.cells t.cells 32)) (some ⟨wr.heap.size, 0, none⟩) [t] := oneG_rows (heap_alloc_new wr _)
  obtain ⟨v', w', hr, q1, q2, -⟩ := own_run elT (ys := [t]) (sp := some ⟨wr.heap.size, 0, none⟩) (cap := 1) 24 ho' (fun h => by cases h) hr (by simp; omega) (by simp; omega)
  exact ⟨v', w', hr, q1, OwnG.grown ho' (Nat.le_refl _) (by simp; omega) (hb.alloc hB _) q2⟩
end Go.Proofs.Ytcbpnmdphmdemaa
