/- Branches that rise, by lists. -/
import Derived.Test.YtgfjjglejlnfbaaGreatDoorFsC
import Derived.Test.YtgfjjglejlnfbaaGreatDoorFsP
namespace Go.Proofs.YtgfjjglejlnfbaaGreatDoor
open Go.RowKit

theorem less_iff : ∀ (a b : List UInt8), Lib.compareBytes a b < 0 ↔ Op.bytesLess a b = true
  | [], [] => by simp [Lib.compareBytes, Op.bytesLess]
  | [], _ :: _ => by simp [Lib.compareBytes, Op.bytesLess]
  | _ :: _, [] => by simp [Lib.compareBytes, Op.bytesLess]
  | a :: x, b :: y => by
    have ih := less_iff x y
    unfold Lib.compareBytes Op.bytesLess
    by_cases h1 : a < b
    · simp [h1]
    · by_cases h2 : b < a
      · have : ¬ a = b := fun e => by subst e; exact h1 h2
        simp [h1, h2, this]
      · have : a = b := UInt8.toNat_inj.1 (by rw [UInt8.lt_iff_toNat_lt] at h1 h2; omega)
        simp [this, ih]
theorem same_iff : ∀ (a b : List UInt8), Lib.compareBytes a b = 0 ↔ a = b
  | [], [] => by simp [Lib.compareBytes]
  | [], _ :: _ => by simp [Lib.compareBytes]
  | _ :: _, [] => by simp [Lib.compareBytes]
  | a :: x, b :: y => by
    have ih := same_iff x y
    unfold Lib.compareBytes
    by_cases h1 : a < b
    · have : ¬ a = b := fun e => by subst e; rw [UInt8.lt_iff_toNat_lt] at h1; omega
      simp [h1, this]
    · by_cases h2 : b < a
      · have : ¬ a = b := fun e => by subst e; exact h1 h2
        simp [h1, h2, this]
      · have : a = b := UInt8.toNat_inj.1 (by rw [UInt8.lt_iff_toNat_lt] at h1 h2; omega)
        simp [this, ih]
theorem less_trans : ∀ (a b c : List UInt8), Op.bytesLess a b = true → Op.bytesLess b c = true → Op.bytesLess a c = true
  | a, [], _, h1, _ => by cases a <;> simp [Op.bytesLess] at h1
  | [], _ :: _, [], _, h2 => by simp [Op.bytesLess] at h2
  | [], _ :: _, _ :: _, _, _ => by simp [Op.bytesLess]
  | _ :: _, _ :: _, [], _, h2 => by simp [Op.bytesLess] at h2
  | a :: x, b :: y, c :: z, h1, h2 => by
    have ih := less_trans x y z
    unfold Op.bytesLess at h1 h2 ⊢
    simp only [Bool.or_eq_true, decide_eq_true_eq, Bool.and_eq_true, beq_iff_eq, UInt8.lt_iff_toNat_lt] at h1 h2 ⊢
    rcases h1 with h1 | ⟨rfl, h1⟩ <;> rcases h2 with h2 | ⟨rfl, h2⟩
    · exact .inl (by omega)
    · exact .inl h1
    · exact .inl h2
    · exact .inr ⟨rfl, ih h1 h2⟩
theorem less_of_not : ∀ (a b : List UInt8), Op.bytesLess a b = false → a ≠ b → Op.bytesLess b a = true
  | [], [], _, h => absurd rfl h
  | [], _ :: _, h, _ => by simp [Op.bytesLess] at h
  | _ :: _, [], _, _ => by simp [Op.bytesLess]
  | a :: x, b :: y, h, hn => by
    have ih := less_of_not x y
    unfold Op.bytesLess at h ⊢
    simp only [Bool.or_eq_false_iff, decide_eq_false_iff_not, Bool.and_eq_false_iff, beq_eq_false_iff_ne, UInt8.lt_iff_toNat_lt] at h
    simp only [Bool.or_eq_true, decide_eq_true_eq, Bool.and_eq_true, beq_iff_eq, UInt8.lt_iff_toNat_lt]
    by_cases e : a = b
    · subst e
      refine .inr ⟨rfl, ih ?_ fun e => hn (by rw [e])⟩
      exact h.2.resolve_left (fun h => h rfl)
    · exact .inl (by have : a.toNat ≠ b.toNat := fun h => e (UInt8.toNat_inj.1 h); omega)
theorem less_irrefl : ∀ (a : List UInt8), Op.bytesLess a a = false
  | [] => rfl
  | a :: x => by
    unfold Op.bytesLess
    simp [less_irrefl x]

theorem bytes_list (b : ByteArray) : b.toList = b.data.toList := Lib.toList_data b
/-- What is not at most another one is above it. -/
theorem less_asym {a b : List UInt8} (h : Op.bytesLess a b = true) : Op.bytesLess b a = false := by
  cases h2 : Op.bytesLess b a with
  | false => rfl
  | true =>
    have := less_trans _ _ _ h h2
    rw [less_irrefl] at this
    cases this
theorem leB_no {a b : ByteArray} (h : leB a b = false) : Op.bytesLess b.data.toList a.data.toList = true := by
  unfold leB at h
  rw [Bool.or_eq_false_iff, beq_eq_false_iff_ne, bytes_list, bytes_list] at h
  exact less_of_not _ _ h.1 h.2
/-- Branches whose names rise. -/
abbrev UpR (rs : List Re) : Prop := rs.Pairwise fun a b => Op.bytesLess a.name.data.toList b.name.data.toList = true
theorem rises_upR : ∀ (rs : List Re) (last : ByteArray), risesR last rs = true → UpR rs ∧ ∀ e ∈ rs, Op.bytesLess last.data.toList e.name.data.toList = true ∧ nameB e.name = true
  | [], _, _ => ⟨List.Pairwise.nil, fun e he => by cases he⟩
  | e :: r, last, h => by
    simp only [risesR, Bool.and_eq_true, Bool.not_eq_true'] at h
    obtain ⟨⟨h1, h2⟩, h3⟩ := h
    have hl := leB_no h2
    obtain ⟨hu, hx⟩ := rises_upR r e.name h3
    refine ⟨List.Pairwise.cons (fun x hm => (hx x hm).1) hu, fun x hm => ?_⟩
    rcases List.mem_cons.1 hm with rfl | hm
    · exact ⟨hl, h1⟩
    · exact ⟨less_trans _ _ _ hl (hx x hm).1, (hx x hm).2⟩
theorem upR_of {rs : List Re} (h : refsB rs = true) : UpR rs ∧ rs.length ≤ 8 := by
  simp only [refsB, Bool.and_eq_true, decide_eq_true_eq] at h
  exact ⟨(rises_upR _ _ h.2).1, h.1⟩
theorem up_ltR {rs : List Re} (h : UpR rs) {i j : Nat} {f g : Re} (hij : i < j) (hf : rs[i]? = some f) (hg : rs[j]? = some g) : Op.bytesLess f.name.data.toList g.name.data.toList = true := by
  obtain ⟨hi, rfl⟩ := List.getElem?_eq_some_iff.1 hf
  obtain ⟨hj, rfl⟩ := List.getElem?_eq_some_iff.1 hg
  exact List.pairwise_iff_getElem.1 h i j hi hj hij
theorem mono_of {rs : List Re} (h : UpR rs) (name : ByteArray) : MonoR rs name := fun i j f g hij hf hg hlt => by
  by_cases e : i = j
  · subst e
    rw [hf] at hg
    injection hg with hg
    rw [hg]
    exact hlt
  · have h1 := up_ltR h (by omega) hf hg
    exact (less_iff _ _).2 (less_trans _ _ _ h1 ((less_iff _ _).1 hlt))
theorem found_name {rs : List Re} {name : ByteArray} {k : Nat} (h : foundR rs name k = true) : ∃ f, rs[k]? = some f ∧ f.name = name := by
  unfold foundR at h
  split at h
  · next f hf =>
    have h1 : f.name.data.toList = name.data.toList := (same_iff _ _).1 (show cmpR f name = 0 by simpa using h)
    refine ⟨f, hf, ?_⟩
    have : f.name = ⟨name.data.toList.toArray⟩ := by rw [← h1]
    exact this
  · cases h
theorem none_named {rs : List Re} {name : ByteArray} {k : Nat} (hu : UpR rs) (hp : PartsR rs name k) (hn : foundR rs name k = false) : ∀ f ∈ rs, f.name ≠ name := fun f hf e => by
  obtain ⟨i, hi⟩ := List.getElem?_of_mem hf
  have h0 : cmpR f name = 0 := by rw [← e]; exact (same_iff _ _).2 rfl
  have hki : k ≤ i := by
    by_cases h : i < k
    · have := hp.2.1 i f h hi
      omega
    · omega
  have hil := (List.getElem?_eq_some_iff.1 hi).1
  obtain ⟨g, hg⟩ : ∃ g, rs[k]? = some g := ⟨_, List.getElem?_eq_getElem (by omega)⟩
  have hgn := hp.2.2 k g (Nat.le_refl _) hg
  by_cases hik : k = i
  · subst hik
    unfold foundR at hn
    rw [hi] at hn
    simp [h0] at hn
  · have h1 := up_ltR hu (show k < i by omega) hg hi
    rw [e] at h1
    have := (less_iff _ _).2 h1
    unfold cmpR at hgn
    omega
end Go.Proofs.YtgfjjglejlnfbaaGreatDoor
