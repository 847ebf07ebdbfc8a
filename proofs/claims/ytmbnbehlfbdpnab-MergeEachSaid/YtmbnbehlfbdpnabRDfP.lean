/- Rising paths: what sort and compact leave. -/
import Derived.Test.YtmbnbehlfbdpnabMDif
import Derived.Test.YtmbnbehlfbdpnabMTrn
namespace Go.Proofs.Ytmbnbehlfbdpnab
open Go.RowKit

abbrev LessP (x y : List UInt8) : Prop := Op.bytesLess x y = true
/-- Two that rise and have the same are the same. -/
theorem up_same : ∀ (a b : List (List UInt8)), a.Pairwise LessP → b.Pairwise LessP → (∀ x, x ∈ a ↔ x ∈ b) → a = b
  | [], [], _, _, _ => rfl
  | [], y :: b, _, _, h => absurd ((h y).2 (List.mem_cons_self ..)) (by simp)
  | x :: a, [], _, _, h => absurd ((h x).1 (List.mem_cons_self ..)) (by simp)
  | x :: a, y :: b, ha, hb, h => by
    rw [List.pairwise_cons] at ha hb
    have hxy : x = y := by
      rcases List.mem_cons.1 ((h x).1 (List.mem_cons_self ..)) with e | h1
      · exact e
      · rcases List.mem_cons.1 ((h y).2 (List.mem_cons_self ..)) with e | h2
        · exact e.symm
        · have := less_asym (hb.1 x h1)
          rw [show Op.bytesLess x y = true from ha.1 y h2] at this
          cases this
    subst hxy
    rw [up_same a b ha.2 hb.2 fun z => ⟨fun hz => ?_, fun hz => ?_⟩]
    · rcases List.mem_cons.1 ((h z).1 (List.mem_cons_of_mem _ hz)) with e | h1
      · have := ha.1 z hz
        rw [e] at this
        have h2 := less_irrefl x
        rw [show Op.bytesLess x x = true from this] at h2
        cases h2
      · exact h1
    · rcases List.mem_cons.1 ((h z).2 (List.mem_cons_of_mem _ hz)) with e | h1
      · have := hb.1 z hz
        rw [e] at this
        have h2 := less_irrefl x
        rw [show Op.bytesLess x x = true from this] at h2
        cases h2
      · exact h1
theorem less_lt : ∀ (x y : List UInt8), Op.bytesLess x y = decide (x < y)
  | [], [] => by simp [Op.bytesLess]
  | _ :: _, [] => by simp [Op.bytesLess]
  | [], _ :: _ => by simp [Op.bytesLess]
  | a :: x, b :: y => by
    rw [Op.bytesLess, less_lt x y, Bool.eq_iff_iff]
    simp only [Bool.or_eq_true, Bool.and_eq_true, decide_eq_true_eq, beq_iff_eq]
    exact List.cons_lt_cons_iff.symm
theorem le_not (x y : List UInt8) : decide (x ≤ y) = !(Op.bytesLess y x) := by
  rw [less_lt, ← decide_not]
  exact decide_eq_decide.2 Iff.rfl
theorem sortS_up (ss : List (List UInt8)) : (sortS ss).Pairwise fun x y => Op.bytesLess y x = false := by
  unfold sortS
  have := List.pairwise_mergeSort (le := fun x y : List UInt8 => decide (x ≤ y)) (fun a b c h1 h2 => by
    rw [le_not] at h1 h2 ⊢
    simp only [Bool.not_eq_true'] at h1 h2 ⊢
    cases h3 : Op.bytesLess c a with
    | false => rfl
    | true =>
      by_cases e : a = b
      · rw [e, h2] at h3
        cases h3
      · have h4 := less_of_not _ _ h1 (Ne.symm e)
        have h5 := less_trans _ _ _ h3 h4
        rw [h2] at h5
        cases h5) (fun a b => by
    rw [le_not, le_not]
    cases h : Op.bytesLess b a with
    | false => rfl
    | true => rw [less_asym h]; rfl) ss
  exact this.imp fun {a b} h => by
    rw [le_not] at h
    simpa using h
theorem upTo_up (zs : List (List UInt8)) (hs : zs.Pairwise fun x y => Op.bytesLess y x = false) : ∀ m, m ≤ zs.length → (Lib.compactUpTo zs.toArray m).Pairwise LessP ∧ ∀ x, x ∈ Lib.compactUpTo zs.toArray m ↔ ∃ j, j < m ∧ zs[j]? = some x
  | 0, _ => ⟨List.Pairwise.nil, fun x => by simp [Lib.compactUpTo]⟩
  | m + 1, hm => by
    obtain ⟨h1, h2⟩ := upTo_up zs hs m (by omega)
    have hat : ∀ j, j < zs.length → zs[j]? = some (zs.toArray[j]!) := fun j hj => by
      rw [List.getElem?_eq_getElem hj]
      simp [hj]
    rw [Lib.compactUpTo_succ]
    cases hk : Lib.keeps zs.toArray m with
    | true =>
      rw [if_pos rfl]
      refine ⟨?_, fun x => ?_⟩
      · rw [List.pairwise_append]
        refine ⟨h1, List.pairwise_singleton _ _, fun a ha b hb => ?_⟩
        rw [List.mem_singleton.1 hb]
        obtain ⟨j, hj, hja⟩ := (h2 a).1 ha
        have hle : ∀ i k, i < k → k < zs.length → Op.bytesLess (zs.toArray[k]!) (zs.toArray[i]!) = false := fun i k hik hk' => by
          have := List.pairwise_iff_getElem.1 hs i k (by omega) hk' hik
          have e1 := hat i (by omega)
          have e2 := hat k hk'
          rw [List.getElem?_eq_getElem (by omega)] at e1 e2
          rw [← Option.some.inj e1, ← Option.some.inj e2]
          exact this
        have hja2 : zs.toArray[j]! = a := Option.some.inj ((hat j (by omega)).symm.trans hja)
        have hm0 : m ≠ 0 := by omega
        have hne : zs.toArray[m]! ≠ zs.toArray[m - 1]! := by
          unfold Lib.keeps at hk
          simpa [hm0] using hk
        have hlt : LessP (zs.toArray[m - 1]!) (zs.toArray[m]!) := less_of_not _ _ (hle (m - 1) m (by omega) (by omega)) hne
        rw [← hja2]
        by_cases hjm : j = m - 1
        · rw [hjm]
          exact hlt
        · have h3 := hle j (m - 1) (by omega) (by omega)
          by_cases e : zs.toArray[j]! = zs.toArray[m - 1]!
          · rw [e]
            exact hlt
          · exact less_trans _ _ _ (less_of_not _ _ h3 (Ne.symm e)) hlt
      · rw [List.mem_append, h2 x, List.mem_singleton]
        constructor
        · rintro (⟨j, hj, e⟩ | e)
          · exact ⟨j, by omega, e⟩
          · exact ⟨m, by omega, by rw [e]; exact hat m (by omega)⟩
        · rintro ⟨j, hj, e⟩
          by_cases hjm : j = m
          · subst hjm
            exact .inr (Option.some.inj (e.symm.trans (hat j (by omega))))
          · exact .inl ⟨j, by omega, e⟩
    | false =>
      rw [if_neg (by simp), List.append_nil]
      refine ⟨h1, fun x => (h2 x).trans ⟨fun ⟨j, hj, e⟩ => ⟨j, by omega, e⟩, fun ⟨j, hj, e⟩ => ?_⟩⟩
      by_cases hjm : j = m
      · subst hjm
        have hm0 : j ≠ 0 := fun e => by subst e; simp [Lib.keeps] at hk
        have heq : zs.toArray[j]! = zs.toArray[j - 1]! := by
          unfold Lib.keeps at hk
          simpa [hm0] using hk
        refine ⟨j - 1, by omega, ?_⟩
        rw [hat (j - 1) (by omega), ← heq, ← hat j (by omega)]
        exact e
      · exact ⟨j, by omega, e⟩
theorem compact_up (zs : List (List UInt8)) (hs : zs.Pairwise fun x y => Op.bytesLess y x = false) : (Lib.compact zs).Pairwise LessP ∧ ∀ x, x ∈ Lib.compact zs ↔ x ∈ zs := by
  have := upTo_up zs hs zs.length (Nat.le_refl _)
  refine ⟨this.1, fun x => (this.2 x).trans ⟨fun ⟨j, _, e⟩ => List.mem_of_getElem? e, fun h => ?_⟩⟩
  obtain ⟨j, hj⟩ := List.getElem?_of_mem h
  exact ⟨j, (List.getElem?_eq_some_iff.1 hj).1, hj⟩
end Go.Proofs.Ytmbnbehlfbdpnab
