/- What stands at all paths of three repositories, by lists. -/
import Derived.Test.YtmbnbehlfbdpnabRDfP
namespace Go.Proofs.Ytmbnbehlfbdpnab
open Go.RowKit

def atM (fs : List Fi) (p : ByteArray) : May := ⟨(findB fs p).1, (findB fs p).2⟩
/-- What stands at a path in three. -/
def atC (a b c : List Fi) (p : ByteArray) : Cl := ⟨p, ⟨atM a p, atM b p, atM c p⟩⟩
def clashB (s : St3) : Bool := !(mayEq s.b s.o || mayEq s.b s.t || mayEq s.o s.t)
def pickM (s : St3) : May := if mayEq s.o s.b then s.t else s.o
abbrev UpF (l : List Fi) : Prop := (pathsOf l).Pairwise LessP

theorem leB_false {a b : ByteArray} : leB a b = false ↔ Op.bytesLess b.toList a.toList = true := by
  unfold leB
  rw [Bool.or_eq_false_iff, beq_eq_false_iff_ne]
  refine ⟨fun h => less_of_not _ _ h.1 h.2, fun h => ⟨less_asym h, fun e => ?_⟩⟩
  rw [e, less_irrefl] at h
  cases h
theorem takeL_cons (p : ByteArray) (f : Fi) (r : List Fi) : takeL p (f :: r) = if f.path.toList == p.toList then r else f :: r := rfl
theorem takeM_cons (p : ByteArray) (f : Fi) (r : List Fi) : takeM p (f :: r) = if f.path.toList == p.toList then ⟨f.text, true⟩ else no := rfl
theorem leastS_cons (m : May) (f : Fi) (r : List Fi) : leastS m (f :: r) = if !m.there || Op.bytesLess f.path.toList m.value.toList then ⟨f.path, true⟩ else m := rfl
theorem bytes_data (b : ByteArray) : b.toList = b.data.toList := Lib.toList_data b
theorem ge_trans {x y z : List UInt8} (h1 : Op.bytesLess x y = false) (h2 : Op.bytesLess y z = false) : Op.bytesLess x z = false := by
  cases h : Op.bytesLess x z with
  | false => rfl
  | true =>
    by_cases e : x = y
    · subst e; rw [h] at h2; cases h2
    · have := less_trans _ _ _ (less_of_not _ _ h1 e) h
      rw [this] at h2; cases h2
theorem chk_upF (all : List Fi) : ∀ (fs : List Fi) (last : ByteArray) (sz : Nat), chkFrom all last sz fs = true → UpF fs ∧ ∀ x ∈ pathsOf fs, LessP last.data.toList x
  | [], _, _, _ => ⟨List.Pairwise.nil, fun x hx => by simp [pathsOf] at hx⟩
  | f :: r, last, sz, h => by
    simp only [chkFrom, Bool.and_eq_true, Bool.not_eq_true'] at h
    obtain ⟨-, h1, -, -, -, h2⟩ := h
    have hl := leB_false.1 h1
    rw [bytes_data, bytes_data] at hl
    obtain ⟨hu, hx⟩ := chk_upF all r f.path _ h2
    refine ⟨List.Pairwise.cons hx hu, fun x hm => ?_⟩
    rcases List.mem_cons.1 hm with rfl | hm
    · exact hl
    · exact less_trans _ _ _ hl (hx x hm)
theorem upF_of_repo {fs : List Fi} (h : repoB fs = true) : UpF fs := by
  simp only [repoB, Bool.and_eq_true] at h
  exact (chk_upF _ _ _ _ h.2).1
theorem find_cons (f : Fi) (r : List Fi) (p : ByteArray) : findB (f :: r) p = if f.path.toList == p.toList then (f.text, true) else findB r p := by
  unfold findB
  rw [List.findIdx?_cons]
  unfold fiB
  cases f.path.toList == p.toList with
  | true => rfl
  | false =>
    simp only [Bool.false_eq_true, if_false]
    cases List.findIdx? (fun f => f.path.toList == p.toList) r with
    | none => rfl
    | some i => rfl
theorem atM_cons (f : Fi) (r : List Fi) (p : ByteArray) : atM (f :: r) p = if f.path.toList == p.toList then ⟨f.text, true⟩ else atM r p := by
  unfold atM
  rw [find_cons]
  split <;> rfl
theorem atM_none : ∀ {l : List Fi} {p : ByteArray}, p.data.toList ∉ pathsOf l → atM l p = no
  | [], _, _ => rfl
  | f :: r, p, h => by
    rw [atM_cons, if_neg ?_, atM_none (fun hm => h (List.mem_cons_of_mem _ hm))]
    intro e
    have := eq_of_beq e
    rw [bytes_data, bytes_data] at this
    exact h (this ▸ List.mem_cons_self)
theorem takeM_at {l : List Fi} (hu : UpF l) {p : ByteArray} (hp : ∀ x ∈ pathsOf l, Op.bytesLess x p.data.toList = false) : takeM p l = atM l p := by
  match l, hu, hp with
  | [], _, _ => rfl
  | f :: r, hu, hp =>
    rw [atM_cons]
    rw [takeM_cons]
    split
    · rfl
    · refine (atM_none fun hm => ?_).symm
      have h1 := (List.pairwise_cons.1 hu).1 _ hm
      have h2 := hp f.path.data.toList List.mem_cons_self
      rw [show Op.bytesLess f.path.data.toList p.data.toList = true from h1] at h2
      cases h2
theorem at_take (l : List Fi) {p q : ByteArray} (h : p.data.toList ≠ q.data.toList) : atM (takeL p l) q = atM l q := by
  match l with
  | [] => rfl
  | f :: r =>
    rw [takeL_cons]
    split
    · next e =>
      have e := eq_of_beq e
      rw [bytes_data, bytes_data] at e
      rw [atM_cons, if_neg]
      intro e2
      have e2 := eq_of_beq e2
      rw [bytes_data, bytes_data] at e2
      exact h (e.symm.trans e2)
    · rfl
theorem take_up {l : List Fi} (hu : UpF l) (p : ByteArray) : UpF (takeL p l) := by
  match l, hu with
  | [], h => exact h
  | f :: r, h =>
    rw [takeL_cons]
    split
    · exact (List.pairwise_cons.1 h).2
    · exact h
theorem take_gt {l : List Fi} (hu : UpF l) {p : ByteArray} (hp : ∀ x ∈ pathsOf l, Op.bytesLess x p.data.toList = false) : ∀ x ∈ pathsOf (takeL p l), LessP p.data.toList x := by
  match l, hu, hp with
  | [], _, _ => intro x hx; simp [takeL, pathsOf] at hx
  | f :: r, hu, hp =>
    intro x hx
    rw [takeL_cons] at hx
    have h1 := (List.pairwise_cons.1 hu).1
    split at hx
    · next e =>
      have e := eq_of_beq e
      rw [bytes_data, bytes_data] at e
      rw [← e]
      exact h1 x hx
    · next e =>
      have h2 : LessP p.data.toList f.path.data.toList := less_of_not _ _ (hp f.path.data.toList List.mem_cons_self) (fun e2 => e (by rw [bytes_data, bytes_data, e2]; simp))
      rcases List.mem_cons.1 hx with rfl | hx
      · exact h2
      · exact less_trans _ _ _ h2 (h1 x hx)
theorem take_mem (l : List Fi) (p : ByteArray) (x : List UInt8) : (x ∈ pathsOf (takeL p l) → x ∈ pathsOf l) ∧ (x ∈ pathsOf l → x = p.data.toList ∨ x ∈ pathsOf (takeL p l)) := by
  match l with
  | [] => exact ⟨id, Or.inr⟩
  | f :: r =>
    rw [takeL_cons]
    split
    · next e =>
      have e := eq_of_beq e
      rw [bytes_data, bytes_data] at e
      refine ⟨List.mem_cons_of_mem _, fun h => ?_⟩
      rcases List.mem_cons.1 h with rfl | h
      · exact .inl e
      · exact .inr h
    · exact ⟨id, Or.inr⟩
theorem leastS_ge (m : May) (l : List Fi) (h : (leastS m l).there = true) : (m.there = true → Op.bytesLess m.value.data.toList (leastS m l).value.data.toList = false) ∧ (∀ f r, l = f :: r → Op.bytesLess f.path.data.toList (leastS m l).value.data.toList = false) := by
  match l with
  | [] => exact ⟨fun _ => less_irrefl _, fun f r e => by cases e⟩
  | f :: r =>
    rw [leastS_cons]
    split
    · next hc =>
      refine ⟨fun hm => ?_, fun f' r' e => by cases e; exact less_irrefl _⟩
      rw [hm, Bool.not_true, Bool.false_or, bytes_data, bytes_data] at hc
      exact less_asym hc
    · next hc =>
      simp only [Bool.or_eq_true, Bool.not_eq_true', not_or, Bool.not_eq_false, Bool.not_eq_true] at hc
      refine ⟨fun _ => less_irrefl _, fun f' r' e => ?_⟩
      cases e
      rw [← bytes_data, ← bytes_data]
      exact hc.2
theorem leastS_keeps {m : May} {l : List Fi} (h : m.there = true) : (leastS m l).there = true := by
  cases h2 : (leastS m l).there with
  | true => rfl
  | false => exact absurd (leastS_there h2).2 (by rw [h]; simp)
theorem up_head {l : List Fi} (hu : UpF l) {p : List UInt8} (h : ∀ f r, l = f :: r → Op.bytesLess f.path.data.toList p = false) : ∀ x ∈ pathsOf l, Op.bytesLess x p = false := by
  match l, hu, h with
  | [], _, _ => intro x hx; simp [pathsOf] at hx
  | f :: r, hu, h =>
    intro x hx
    rcases List.mem_cons.1 hx with rfl | hx
    · exact h f r rfl
    · exact ge_trans (less_asym ((List.pairwise_cons.1 hu).1 x hx)) (h f r rfl)
theorem least_ge {a b c : List Fi} (h : (leastR a b c).there = true) : (∀ f r, a = f :: r → Op.bytesLess f.path.data.toList (leastR a b c).value.data.toList = false) ∧ (∀ f r, b = f :: r → Op.bytesLess f.path.data.toList (leastR a b c).value.data.toList = false) ∧ (∀ f r, c = f :: r → Op.bytesLess f.path.data.toList (leastR a b c).value.data.toList = false) := by
  unfold leastR at h ⊢
  have h3 := leastS_ge _ _ h
  refine ⟨fun f r e => ?_, fun f r e => ?_, h3.2⟩
  · have t1 : (leastS no a).there = true := by rw [e]; rfl
    have g1 := leastS_ge _ _ t1
    have t2 := leastS_keeps (l := b) t1
    have g2 := leastS_ge _ _ t2
    exact ge_trans (g1.2 f r e) (ge_trans (g2.1 t1) (h3.1 t2))
  · have t2 : (leastS (leastS no a) b).there = true := by
      cases h2 : (leastS (leastS no a) b).there with
      | true => rfl
      | false => exact absurd (leastS_there h2).1 (by rw [e]; simp)
    have g2 := leastS_ge _ _ t2
    exact ge_trans (g2.2 f r e) (h3.1 t2)
theorem pathsOf_app (a b : List Fi) : pathsOf (a ++ b) = pathsOf a ++ pathsOf b := by simp [pathsOf]
theorem pathsL_at : ∀ (n : Nat) (a b c : List Fi), UpF a → UpF b → UpF c → len3 a b c ≤ n →
    ((pathsL n a b c).map fun p => p.1.data.toList).Pairwise LessP ∧ (∀ x, x ∈ ((pathsL n a b c).map fun p => p.1.data.toList) ↔ x ∈ pathsOf (a ++ b ++ c)) ∧ ∀ p ∈ pathsL n a b c, p.2 = ⟨atM a p.1, atM b p.1, atM c p.1⟩
  | 0, a, b, c, _, _, _, h => by
    unfold len3 at h
    obtain rfl : a = [] := List.length_eq_zero_iff.1 (by omega)
    obtain rfl : b = [] := List.length_eq_zero_iff.1 (by omega)
    obtain rfl : c = [] := List.length_eq_zero_iff.1 (by omega)
    simp [pathsL, pathsOf]
  | n + 1, a, b, c, ha, hb, hc, h => by
    unfold pathsL
    cases ht : (leastR a b c).there with
    | false =>
      obtain ⟨rfl, rfl, rfl⟩ := least_none ht
      simp [pathsOf]
    | true =>
      simp only [if_true]
      have hl := take_less ht
      obtain ⟨ga, gb, gc⟩ := least_ge ht
      have hf := least_from ht
      generalize (leastR a b c).value = p at hl ga gb gc hf ⊢
      have ga := up_head ha ga
      have gb := up_head hb gb
      have gc := up_head hc gc
      obtain ⟨i1, i2, i3⟩ := pathsL_at n (takeL p a) (takeL p b) (takeL p c) (take_up ha p) (take_up hb p) (take_up hc p) (by omega)
      generalize pathsL n (takeL p a) (takeL p b) (takeL p c) = ps at i1 i2 i3
      have hgt : ∀ x ∈ (ps.map fun p => p.1.data.toList), LessP p.data.toList x := fun x hx => by
        have := (i2 x).1 hx
        rw [pathsOf_app, pathsOf_app, List.mem_append, List.mem_append] at this
        rcases this with (h | h) | h
        · exact take_gt ha ga x h
        · exact take_gt hb gb x h
        · exact take_gt hc gc x h
      refine ⟨List.Pairwise.cons hgt i1, fun x => ?_, fun q hq => ?_⟩
      · rw [List.map_cons, List.mem_cons, i2 x]
        simp only [pathsOf_app, List.mem_append]
        have m1 := take_mem a p x
        have m2 := take_mem b p x
        have m3 := take_mem c p x
        constructor
        · rintro (rfl | (h | h) | h)
          · rcases hf with ⟨f, r, rfl, rfl⟩ | ⟨f, r, rfl, rfl⟩ | ⟨f, r, rfl, rfl⟩
            · exact .inl (.inl List.mem_cons_self)
            · exact .inl (.inr List.mem_cons_self)
            · exact .inr List.mem_cons_self
          · exact .inl (.inl (m1.1 h))
          · exact .inl (.inr (m2.1 h))
          · exact .inr (m3.1 h)
        · rintro ((h | h) | h)
          · exact (m1.2 h).imp id fun h => .inl (.inl h)
          · exact (m2.2 h).imp id fun h => .inl (.inr h)
          · exact (m3.2 h).imp id .inr
      · rcases List.mem_cons.1 hq with rfl | hq
        · show stand p a b c = _
          unfold stand
          rw [takeM_at ha ga, takeM_at hb gb, takeM_at hc gc]
        · have hne : p.data.toList ≠ q.1.data.toList := fun e => by
            have := hgt q.1.data.toList (List.mem_map_of_mem hq)
            rw [← e] at this
            have h2 := less_irrefl p.data.toList
            rw [show Op.bytesLess p.data.toList p.data.toList = true from this] at h2
            cases h2
          rw [i3 q hq, at_take a hne, at_take b hne, at_take c hne]
theorem merged_clash (s : St3) : (mergedR s).2 = !(clashB s) ∧ (clashB s = false → (mergedR s).1 = pickM s) := by
  unfold mergedR clashB pickM
  rw [mayEq_comm s.b s.o, mayEq_comm s.b s.t, mayEq_comm s.o s.t]
  cases mayEq s.o s.b <;> cases mayEq s.t s.b <;> cases mayEq s.t s.o <;> simp
end Go.Proofs.Ytmbnbehlfbdpnab
