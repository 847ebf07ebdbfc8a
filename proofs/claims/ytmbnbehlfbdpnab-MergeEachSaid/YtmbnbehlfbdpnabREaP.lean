/- What differs from the base behind a merge is what one of both has changed, as that one has it. -/
import Derived.Test.YtmbnbehlfbdpnabRMgP
import Derived.Test.YtmbnbehlfbdpnabMChg
namespace Go.Proofs.Ytmbnbehlfbdpnab
open Go.RowKit

theorem atM_no {l : List Fi} {q : ByteArray} (h : (atM l q).there = false) : atM l q = no := by
  by_cases hm : q.data.toList ∈ pathsOf l
  · exfalso
    induction l with
    | nil => simp [pathsOf] at hm
    | cons f r ih =>
      rw [atM_cons] at h
      split at h
      · cases h
      · next hne =>
        rcases List.mem_cons.1 hm with e | hm
        · exact hne (by rw [bytes_data, bytes_data, e]; simp)
        · exact ih h hm
  · exact atM_none hm
theorem chg_filter (a x : List Fi) : changedL a x = (diffPs a x).filter fun q => deltaB (deltaOf a x q) := by
  unfold changedL diffL
  rw [List.filter_map, List.map_map]
  have : ((fun d : De => d.path.data.toList) ∘ deltaOf a x) = id := funext fun q => rfl
  rw [this, List.map_id]
  rfl
theorem delta_at (a x : List Fi) (q : List UInt8) : deltaB (deltaOf a x q) = !(mayEq (atM a ⟨q.toArray⟩) (atM x ⟨q.toArray⟩)) := by
  unfold deltaB deltaOf mayEq atM
  dsimp only
  generalize (findB a ⟨q.toArray⟩).2 = u
  generalize (findB x ⟨q.toArray⟩).2 = v
  generalize ((findB a ⟨q.toArray⟩).1.toList) = s
  generalize ((findB x ⟨q.toArray⟩).1.toList) = t
  cases h : (s == t) <;> cases u <;> cases v <;> simp [bne, h]
theorem diffPs_up (a x : List Fi) : (diffPs a x).Pairwise LessP ∧ ∀ q, q ∈ diffPs a x ↔ q ∈ pathsOf (a ++ x) := by
  have h2 := compact_up _ (sortS_up (pathsOf (a ++ x)))
  refine ⟨h2.1, fun q => (h2.2 q).trans ?_⟩
  unfold sortS
  rw [List.mem_mergeSort]
theorem changed_up (a x : List Fi) : (changedL a x).Pairwise LessP := by
  rw [chg_filter]
  exact (diffPs_up a x).1.filter _
theorem changed_mem (a x : List Fi) (q : List UInt8) : q ∈ changedL a x ↔ atM a ⟨q.toArray⟩ ≠ atM x ⟨q.toArray⟩ := by
  rw [chg_filter, List.mem_filter, (diffPs_up a x).2 q, delta_at]
  constructor
  · rintro ⟨-, h⟩ e
    rw [mayEq_iff.2 e] at h
    cases h
  · intro hne
    refine ⟨?_, ?_⟩
    · by_cases hm : q ∈ pathsOf (a ++ x)
      · exact hm
      · rw [pathsOf_app, List.mem_append, not_or] at hm
        exact absurd ((atM_none (p := ⟨q.toArray⟩) hm.1).trans (atM_none (p := ⟨q.toArray⟩) hm.2).symm) hne
    · cases h : mayEq (atM a ⟨q.toArray⟩) (atM x ⟨q.toArray⟩) with
      | false => rfl
      | true => exact absurd (mayEq_iff.1 h) hne
theorem up_nodup {l : List (List UInt8)} (h : l.Pairwise LessP) : l.Nodup := h.imp fun {x y} hl e => by
  rw [e] at hl
  have h4 := less_irrefl y
  rw [show Op.bytesLess y y = true from hl] at h4
  cases h4
theorem atM_app (l r : List Fi) (q : ByteArray) (h : q.data.toList ∉ pathsOf l) : atM (l ++ r) q = atM r q := by
  induction l with
  | nil => rfl
  | cons f s ih =>
    rw [List.cons_append, atM_cons, if_neg, ih fun hm => h (List.mem_cons_of_mem _ hm)]
    intro e
    have e := eq_of_beq e
    rw [bytes_data, bytes_data] at e
    exact h (e ▸ List.mem_cons_self)
theorem mayF_paths {p : ByteArray} {m : May} {x : List UInt8} (h : x ∈ pathsOf (mayF p m)) : x = p.data.toList := by
  unfold mayF at h
  split at h
  · simpa [pathsOf] using h
  · simp [pathsOf] at h
theorem flat_at (a b c : List Fi) : ∀ ps : List Ps, (ps.map fun p => p.1.data.toList).Pairwise LessP → (∀ p ∈ ps, p.2 = ⟨atM a p.1, atM b p.1, atM c p.1⟩) → ∀ q : ByteArray,
    (q.data.toList ∈ (ps.map fun p => p.1.data.toList) → atM (ps.flatMap fun p => mayF p.1 (pickM p.2)) q = pickM ⟨atM a q, atM b q, atM c q⟩) ∧ (q.data.toList ∉ (ps.map fun p => p.1.data.toList) → atM (ps.flatMap fun p => mayF p.1 (pickM p.2)) q = no)
  | [], _, _, q => ⟨fun h => by simp at h, fun _ => rfl⟩
  | p :: r, hp, ha, q => by
    rw [List.map_cons] at hp
    obtain ⟨h1, h2⟩ := List.pairwise_cons.1 hp
    have ih := flat_at a b c r h2 (fun p' hp' => ha p' (List.mem_cons_of_mem _ hp')) q
    have h3 := ha p List.mem_cons_self
    rw [List.flatMap_cons, List.map_cons, List.mem_cons]
    by_cases e : q.data.toList = p.1.data.toList
    · have eq : q = p.1 := by
        have : q = ⟨p.1.data.toList.toArray⟩ := by rw [← e]
        exact this
      subst eq
      have hnr : p.1.data.toList ∉ (r.map fun p => p.1.data.toList) := fun hm => by
        have h4 := h1 _ hm
        have h5 := less_irrefl p.1.data.toList
        rw [show Op.bytesLess p.1.data.toList p.1.data.toList = true from h4] at h5
        cases h5
      refine ⟨fun _ => ?_, fun h => absurd (.inl rfl) h⟩
      rw [← h3]
      cases ht : (pickM p.2).there with
      | true =>
        unfold mayF
        rw [ht, if_pos rfl, List.singleton_append, atM_cons, if_pos (by simp), ← ht]
      | false =>
        unfold mayF
        rw [ht, if_neg (by decide), List.nil_append]
        show atM (r.flatMap fun p => mayF p.1 (pickM p.2)) p.1 = _
        rw [ih.2 hnr]
        have h6 : pickM p.2 = no := by
          rw [h3] at ht ⊢
          unfold pickM at ht ⊢
          split at ht
          · next hh => rw [if_pos hh]; exact atM_no ht
          · next hh => rw [if_neg hh]; exact atM_no ht
        exact h6.symm
    · have hn : q.data.toList ∉ pathsOf (mayF p.1 (pickM p.2)) := fun hm => e (mayF_paths hm)
      rw [atM_app _ _ _ hn]
      exact ⟨fun h => ih.1 (h.resolve_left e), fun h => ih.2 fun hm => h (.inr hm)⟩
theorem merged_at {a b c : List Fi} (h : right3 a b c = true) (hn : joinC (pathsA a b c) = []) (q : ByteArray) : atM (joinF (pathsA a b c)) q = pickM ⟨atM a q, atM b q, atM c q⟩ ∧ clashB ⟨atM a q, atM b q, atM c q⟩ = false := by
  simp only [right3, Bool.and_eq_true] at h
  obtain ⟨i1, i2, i3⟩ := pathsL_at (len3 a b c) a b c (upF_of_repo h.1) (upF_of_repo h.2.1) (upF_of_repo h.2.2) (Nat.le_refl _)
  have i1' : ((pathsA a b c).map fun p => p.1.data.toList).Pairwise LessP := i1
  have i2' : ∀ x, x ∈ ((pathsA a b c).map fun p => p.1.data.toList) ↔ x ∈ pathsOf (a ++ b ++ c) := i2
  have i3' : ∀ p ∈ pathsA a b c, p.2 = ⟨atM a p.1, atM b p.1, atM c p.1⟩ := i3
  have hcl : ∀ p ∈ pathsA a b c, clashB p.2 = false := fun p hp => by
    have h1 : clashOf p = [] := List.flatMap_eq_nil_iff.1 hn p hp
    have h2 := merged_clash p.2
    cases hc : clashB p.2 with
    | false => rfl
    | true =>
      rw [hc] at h2
      unfold clashOf at h1
      rw [h2.1] at h1
      cases h1
  have hjf : joinF (pathsA a b c) = (pathsA a b c).flatMap fun p => mayF p.1 (pickM p.2) := by
    unfold joinF
    refine flat_congr fun p hp => ?_
    have h2 := merged_clash p.2
    rw [hcl p hp] at h2
    have h3 := h2.2 rfl
    unfold fileOf
    rw [h2.1, h3]
    rfl
  have hf := flat_at a b c (pathsA a b c) i1' i3' q
  rw [hjf]
  by_cases hm : q.data.toList ∈ ((pathsA a b c).map fun p => p.1.data.toList)
  · refine ⟨hf.1 hm, ?_⟩
    obtain ⟨p, hp, e⟩ := List.mem_map.1 hm
    have eq : q = p.1 := by
      have : q = ⟨p.1.data.toList.toArray⟩ := by rw [e]
      exact this
    rw [eq, ← i3' p hp]
    exact hcl p hp
  · have hm' : ¬ q.data.toList ∈ pathsOf (a ++ b ++ c) := fun h => hm ((i2' _).2 h)
    rw [pathsOf_app, pathsOf_app, List.mem_append, List.mem_append, not_or, not_or] at hm'
    rw [hf.2 hm, atM_none hm'.1.1, atM_none hm'.1.2, atM_none hm'.2]
    exact ⟨by unfold pickM; split <;> rfl, by unfold clashB; rw [mayEq_iff.2 rfl]; rfl⟩
/-- What is said of each path. -/
theorem each_at {a b c : List Fi} (h : right3 a b c = true) (hn : joinC (pathsA a b c) = []) (q : List UInt8) :
    (q ∈ changedL a (joinF (pathsA a b c)) ↔ q ∈ changedL a b ∨ q ∈ changedL a c) ∧ (q ∈ changedL a b → atM (joinF (pathsA a b c)) ⟨q.toArray⟩ = atM b ⟨q.toArray⟩) ∧ (q ∈ changedL a c → atM (joinF (pathsA a b c)) ⟨q.toArray⟩ = atM c ⟨q.toArray⟩) := by
  rw [changed_mem, changed_mem, changed_mem]
  obtain ⟨e, hc⟩ := merged_at h hn ⟨q.toArray⟩
  rw [e]
  generalize atM a ⟨q.toArray⟩ = A at *
  generalize atM b ⟨q.toArray⟩ = B at *
  generalize atM c ⟨q.toArray⟩ = C at *
  unfold clashB at hc
  unfold pickM
  dsimp only at hc ⊢
  have hc : mayEq A B = true ∨ mayEq A C = true ∨ mayEq B C = true := by
    cases h1 : mayEq A B <;> cases h2 : mayEq A C <;> cases h3 : mayEq B C <;> simp_all
  rw [mayEq_iff, mayEq_iff, mayEq_iff] at hc
  by_cases hba : B = A
  · rw [if_pos (mayEq_iff.2 hba)]
    subst hba
    exact ⟨⟨.inr, fun h => h.resolve_left (fun h => h rfl)⟩, fun h => absurd rfl h, fun _ => rfl⟩
  · rw [if_neg (fun h => hba (mayEq_iff.1 h))]
    refine ⟨⟨.inl, fun _ e => hba e.symm⟩, fun _ => rfl, fun hac => ?_⟩
    rcases hc with h1 | h1 | h1
    · exact absurd h1.symm hba
    · exact absurd h1 hac
    · exact h1
theorem len_le_of {α : Type} [BEq α] [LawfulBEq α] : ∀ (a b : List α), a.Nodup → (∀ x ∈ a, x ∈ b) → a.length ≤ b.length
  | [], b, _, _ => Nat.zero_le _
  | x :: r, b, hn, hs => by
    obtain ⟨h1, h2⟩ := List.nodup_cons.1 hn
    have hx := hs x List.mem_cons_self
    have ih := len_le_of r (b.erase x) h2 fun y hy => (List.mem_erase_of_ne (fun (e : y = x) => h1 (e ▸ hy))).2 (hs y (List.mem_cons_of_mem _ hy))
    rw [List.length_erase_of_mem hx] at ih
    have := List.length_pos_of_mem hx
    rw [List.length_cons]
    omega
/-- All that one of both has changed, each once. -/
def bothL (a b c : List Fi) : List (List UInt8) := changedL a b ++ (changedL a c).filter fun q => !((changedL a b).contains q)
theorem both_len {a b c : List Fi} (h : right3 a b c = true) (hn : joinC (pathsA a b c) = []) : (bothL a b c).length = (changedL a (joinF (pathsA a b c))).length := by
  have n1 := up_nodup (changed_up a (joinF (pathsA a b c)))
  have n2 : (bothL a b c).Nodup := by
    unfold bothL
    refine List.nodup_append.2 ⟨up_nodup (changed_up a b), (up_nodup (changed_up a c)).filter _, fun x hx y hy e => ?_⟩
    subst e
    have := (List.mem_filter.1 hy).2
    rw [List.contains_iff_mem.2 hx] at this
    cases this
  have hm : ∀ q, q ∈ bothL a b c ↔ q ∈ changedL a (joinF (pathsA a b c)) := fun q => by
    rw [(each_at h hn q).1]
    unfold bothL
    rw [List.mem_append, List.mem_filter]
    constructor
    · rintro (h | h)
      · exact .inl h
      · exact .inr h.1
    · rintro (h | h)
      · exact .inl h
      · by_cases hb : q ∈ changedL a b
        · exact .inl hb
        · exact .inr ⟨h, by rw [show (changedL a b).contains q = false from by simpa using hb]; rfl⟩
  exact Nat.le_antisymm (len_le_of _ _ n2 fun x hx => (hm x).1 hx) (len_le_of _ _ n1 fun x hx => (hm x).2 hx)
end Go.Proofs.Ytmbnbehlfbdpnab
