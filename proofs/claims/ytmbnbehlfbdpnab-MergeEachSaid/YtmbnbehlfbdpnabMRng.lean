/- A loop over an iterator that writes rows of its own between two rounds; the loop's body goes on each time. No function of the program is walked here. -/
import Derived.RangeFuncNested
import Derived.Test.YtmbnbehlfbdpnabTPth
namespace Go.Proofs.Ytmbnbehlfbdpnab
open Go.RowKit

/-- The types of the rows that the iterator writes. -/
def ItT (t : TypeId) : Prop := t = 50 ∨ t = 67 ∨ t = 68
/-- What holds stays so when the iterator writes such a row of its own, from block B on. -/
def Stays {β : Type} (B : Nat) (J : β → World → Prop) : Prop :=
  ∀ s W W' row, J s W → W.grownBy W' row → (∀ r, row = some r → B ≤ r ∧ ∃ cs t, W.heap[r]? = some (.cells cs t (0, 0)) ∧ ItT t) → J s W'
/-- Such rows lie as they lay. -/
structure KeepsT (W W' : World) : Prop where
  size : W.heap.size ≤ W'.heap.size
  same : ∀ (r : Nat) (cs : Array Value) (t : TypeId), W.heap[r]? = some (Obj.cells cs t (0, 0)) → ItT t → W'.heap[r]? = some (Obj.cells cs t (0, 0))
theorem KeepsT.refl (W : World) : KeepsT W W := ⟨Nat.le_refl _, fun _ _ _ h _ => h⟩
theorem KeepsT.trans {A B C : World} (h : KeepsT A B) (k : KeepsT B C) : KeepsT A C := ⟨Nat.le_trans h.size k.size, fun r cs t hr ht => k.same r cs t (h.same r cs t hr ht) ht⟩
theorem KeepsT.grown {W W' : World} {row : Option Nat} (h : W.grownBy W' row) (hr : ∀ r, row = some r → ∀ cs t, W.heap[r]? = some (.cells cs t (0, 0)) → ¬ ItT t) : KeepsT W W' :=
  ⟨h.size, fun r cs t hc ht => (h.block r (lt_of_row hc) (fun e => hr r e.symm cs t hc ht)).trans hc⟩
theorem KeepsT.putObj {W : World} {l : Nat} {o o' : Obj} (hl : W.heap[l]? = some o) (ho : o.isCells = false) : KeepsT W (W.putObj l o') :=
  KeepsT.grown (grownBy_putObj' W l o') fun r e cs t hc => by
    injection e with e
    subst e
    rw [hl] at hc
    injection hc with hc
    subst hc
    cases ho
/-- The promise of such an iterator. -/
def Gives {α : Type} (F : Fence) (n : Nat) (P : Program) (gf : Nat) (lb : Array Value) (encs : α → Array Value) (S : List α → Prop) (N : Nat) (E : World → Prop) (w : World) : Prop :=
  ∀ (l : Nat) (J : List α → World → Prop) (W : World), Below w.heap.size w W → E W → Stays W.heap.size J → (∀ pre W1, J pre W1 → Below w.heap.size w W1) →
    (∀ pre x W1, J pre W1 → pre.length < N → YieldAt F (n - 1) P l (encs x) W1 fun e W' => e = .returned (.bool true) ∧ J (pre ++ [x]) W' ∧ KeepsT W1 W') →
    J [] W → CallsIn F n P gf (#[.func (.yield l) #[] #[]] ++ lb) W fun e W' => (∃ v, e = .returned v) ∧ ∃ xs, S xs ∧ J xs W'

theorem stays_not {W W' : World} {row : Option Nat} {B k : Nat} {o : Obj} (hg : W.grownBy W' row) (hr : ∀ r, row = some r → B ≤ r ∧ ∃ cs t, W.heap[r]? = some (.cells cs t (0, 0)) ∧ ItT t) (hk : W.heap[k]? = some o) (ho : o.isCells = false) : W'.heap[k]? = some o := by
  refine (hg.block k (lt_of_row hk) fun e => ?_).trans hk
  obtain ⟨-, cs, t, hc, -⟩ := hr k e.symm
  rw [hk] at hc
  injection hc with hc
  subst hc
  cases ho

theorem range_goes {F : Fence} {n : Nat} {P : Program} {α : Type} {g : Operand} {ps : Array Tmp} {assign body : Code} {Q : Exit → Act → World → Prop} {a : Act} {w : World}
    (hro : F.round = none) (h1 : 1 ≤ n) {gf : Nat} {lb : Array Value} (hg : a.eval g = .func (.func gf) #[] lb) (hFg : F.fn gf) (eg : ∀ args w, (callFunc gf args).run P w = .ok (.enter gf args) w)
    {encs : α → Array Value} {S : List α → Prop} {N : Nat} {E : World → Prop} {w0 : World} (hseq : Gives F (n - 1) P gf lb encs S N E w0) (hE0 : E w) (hE : OwnFrom w.heap.size (fun (_ : Unit) W => E W)) (hb0 : Below w0.heap.size w0 w) (hps : ∀ x, (encs x).size = ps.size)
    (I : List α → World → Prop) (hI : OwnFrom w.heap.size I) (hIs : Stays w.heap.size I) (hIB : ∀ pre W, I pre W → Below w0.heap.size w0 W) (h0 : I [] w) (Ax : α → Act → World → Prop) (hAx : ∀ x a', OwnFrom w.heap.size (fun (_ : Unit) W => Ax x a' W))
    (hassign : ∀ (l : Nat) (pre : List α) (x : α) (W : World) (K : Act → World → Prop), I pre W → (∀ a' W', KeepsOthers W W' → KeepsT W W' → I pre W' → Ax x a' W' → K a' W') →
      assign.wpIn (F.inRound l) (n - 1 - 1) P (Exit.then K (fun _ _ _ => False)) { tmps := (ps.zip (encs x)).foldl (fun t (p, v) => t.setIfInBounds p v) a.tmps, defers := [] } W)
    (hbody : ∀ (l : Nat) (pre : List α) (x : α) (a' : Act) (W : World), I pre W → Ax x a' W → pre.length < N → body.wpIn (F.inRound l) (n - 1 - 1) P (fun e _ W' => e = .normal ∧ KeepsOthers W W' ∧ KeepsT W W' ∧ I (pre ++ [x]) W') a' W)
    (hdone : ∀ (D : Nat) (xs : List α) (W : World), w.heap.size ≤ D → S xs → I xs W → W.heap[D]? = some (.deferred (some [])) → Q .normal { a with defers := { target := .collected D, args := #[] } :: a.defers } W) :
    (Code.rangeFunc g ps assign body).wpIn F n P Q a w := by
  refine wpIn_rangeFunc fun fn hfn => ?_
  rw [hro]
  -- the loop's record, ready and busy
  obtain ⟨rd, hrd⟩ : ∃ rd : LoopState → Loop, ∀ s, rd s = { state := s, pending := none, fn, tmps := a.tmps, params := ps, assign, body, defers := w.heap.size } := ⟨_, fun _ => rfl⟩
  let D := w.heap.size
  let L := w.heap.size + 1
  let Bk : World → Prop := fun W => W.heap[L]? = some (.loop (rd .ready)) ∧ W.heap[D]? = some (.deferred (some []))
  obtain ⟨W1, e1⟩ : ∃ W1, W1 = (w.alloc (.deferred (some []))).alloc (.loop (rd .ready)) := ⟨_, rfl⟩
  have z1 : W1.heap.size = w.heap.size + 2 := by rw [e1]; simp
  have k1 : Bk W1 := by
    constructor
    · have := World.alloc_heap_new (w.alloc (.deferred (some []))) (.loop (rd .ready))
      rw [World.size_alloc, ← e1] at this
      exact this
    · rw [e1]
      exact (Below.heap_alloc _ _ _ (by simp [D])).trans (World.alloc_heap_new w _)
  have i1 : I [] W1 := by rw [e1]; exact hI.alloc _ (hI.alloc _ h0)
  have b1 : Below w0.heap.size w0 W1 := by rw [e1]; exact (hb0.alloc hb0.size _).alloc (by have := hb0.size; simp; omega) _
  refine ⟨L, [{ target := .collected D, args := #[] }], W1, { target := .fn (.func gf) lb, args := #[.func (.yield L) #[] #[]] }, W1, gf, #[.func (.yield L) #[] #[]] ++ lb, W1, ?_, ?_, ?_, ?_, fun _ => h1, ?_⟩
  · rw [e1, hrd]
    exact run_enterLoop_outer _ _ _ _ _
  · simp only [resolve, hg]
    simp [go_sem]
  · intro f' hf'
    simp [Target.leads] at hf'
    subst hf'
    exact hFg
  · simp [invoke, go_sem, eg]
  refine (hseq L (fun pre W => I pre W ∧ Bk W) W1 b1 (by rw [e1]; exact hE.alloc (s := ()) _ (hE.alloc (s := ()) _ hE0)) ?_ (fun pre W h => hIB pre W h.1) ?_ ⟨i1, k1⟩).mono ?_
  · rintro s A B row ⟨hi, hl, hd⟩ hgr hrow
    exact ⟨hIs s A B row hi hgr fun r e => ⟨by have := (hrow r e).1; omega, (hrow r e).2⟩, stays_not hgr hrow hl rfl, stays_not hgr hrow hd rfl⟩
  · rintro pre x W ⟨hi, hl, hd⟩ hlen
    have hy := run_yield (P := P) (args := encs x) hl (by rw [hrd]; exact hps x)
    rw [hrd] at hy
    refine ⟨fn, _, assign, body, hy, roundIn_of_wpIn hfn (hassign L pre x W _ hi fun a' W2 ko kt hi2 hax => ?_)⟩
    have hl2 := ko.same L _ hl rfl
    have hd2 := ko.same D _ hd rfl
    refine ⟨_, run_beginRound hl2 (by rw [hrd]), ?_⟩
    generalize hW3 : W2.putObj L (.loop { rd .ready with state := .busy }) = W3
    have hl3 : W3.heap[L]? = some (.loop (rd .busy)) := by
      rw [← hW3, World.putObj_heap_same (lt_of_row hl2)]
      simp only [hrd]
    have hd3 : W3.heap[D]? = some (.deferred (some [])) := by rw [← hW3, World.putObj_heap_other (by simp [L, D])]; exact hd2
    have hi3 : I pre W3 := by rw [← hW3]; exact hI.putObj _ hi2 (by simp [L]) hl2 rfl
    have hax3 : Ax x a' W3 := by rw [← hW3]; exact (hAx x a').putObj (s := ()) _ hax (by simp [L]) hl2 rfl
    have kt3 : KeepsT W2 W3 := by rw [← hW3]; exact KeepsT.putObj hl2 rfl
    refine wpIn_mono (hbody L pre x a' W3 hi3 hax3 hlen) ?_
    rintro e a4 W4 ⟨rfl, ko4, kt4, hi4⟩
    have hl4 := ko4.same L _ hl3 rfl
    have hd4 := ko4.same D _ hd3 rfl
    refine ⟨_, _, run_endRound none hl4, rfl, ⟨hI.putObj _ hi4 (by simp [L]) hl4 rfl, ?_, ?_⟩, kt.trans (kt3.trans (kt4.trans (KeepsT.putObj hl4 rfl)))⟩
    · rw [World.putObj_heap_same (lt_of_row hl4)]
      simp only [hrd]
      rfl
    · rw [World.putObj_heap_other (by simp [L, D])]
      exact hd4
  · rintro e W2 ⟨⟨v, rfl⟩, xs, hS, hi, hl, hd⟩
    refine ⟨none, _, ?_, hdone D xs (W2.putObj L (.loop { rd .ready with state := .exhausted })) (Nat.le_refl _) hS (hI.putObj _ hi (by simp [L]) hl rfl) ?_⟩
    · have := run_endLoop (P := P) hl (by rw [hrd]; simp)
      rw [this]
      simp only [hrd]
    · rw [World.putObj_heap_other (by simp [L, D])]
      exact hd
end Go.Proofs.Ytmbnbehlfbdpnab
