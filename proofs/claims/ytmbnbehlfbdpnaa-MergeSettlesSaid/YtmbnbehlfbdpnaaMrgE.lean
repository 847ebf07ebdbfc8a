/- Ours and theirs changed about: lists. No function of the program is walked here. -/
/- All paths, told in two ways. No function of the program is walked here. -/
import Derived.Test.YtmbnbehlfbdpnaaMFwC
import Derived.Test.YtmbnbehlfbdpnaaMrgD
namespace Go.Proofs.Ytmbnbehlfbdpnaa
open Go.RowKit

theorem less_trans : ∀ (a b c : List UInt8), Op.bytesLess a b = true → Op.bytesLess b c = true → Op.bytesLess a c = true
  | a, [], _, h1, _ => by cases a <;> simp [Op.bytesLess] at h1
  | [], _ :: _, [], _, h2 => by simp [Op.bytesLess] at h2
  | [], _ :: _, _ :: _, _, _ => by simp [Op.bytesLess]
  | _ :: _, _ :: _, [], _, h2 => by simp [Op.bytesLess] at h2
  | a :: x, b :: y, c :: z, h1, h2 => by
    have ih := less_trans x y z
    unfold Op.bytesLess at h1 h2 ⊢
    simp only [Bool.or_eq_true, decide_eq_true_eq, Bool.and_eq_true, beq_iff_eq, UInt8.lt_iff_toNat_lt] at h1 h2 ⊢
    rcases h1 with h1 | ⟨rfl, h1⟩ <;> rcases h2 with h2 | ⟨rfl, h2⟩
    · exact .inl (by omega)
    · exact .inl h1
    · exact .inl h2
    · exact .inr ⟨rfl, ih h1 h2⟩
theorem less_of_not : ∀ (a b : List UInt8), Op.bytesLess a b = false → a ≠ b → Op.bytesLess b a = true
  | [], [], _, h => absurd rfl h
  | [], _ :: _, h, _ => by simp [Op.bytesLess] at h
  | _ :: _, [], _, _ => by simp [Op.bytesLess]
  | a :: x, b :: y, h, hn => by
    have ih := less_of_not x y
    unfold Op.bytesLess at h ⊢
    simp only [Bool.or_eq_false_iff, decide_eq_false_iff_not, Bool.and_eq_false_iff, beq_eq_false_iff_ne, UInt8.lt_iff_toNat_lt] at h
    simp only [Bool.or_eq_true, decide_eq_true_eq, Bool.and_eq_true, beq_iff_eq, UInt8.lt_iff_toNat_lt]
    by_cases e : a = b
    · subst e
      refine .inr ⟨rfl, ih ?_ fun e => hn (by rw [e])⟩
      exact h.2.resolve_left (fun h => h rfl)
    · exact .inl (by have : a.toNat ≠ b.toNat := fun h => e (UInt8.toNat_inj.1 h); omega)
theorem less_irrefl : ∀ (a : List UInt8), Op.bytesLess a a = false
  | [] => rfl
  | a :: x => by
    unfold Op.bytesLess
    simp [less_irrefl x]


theorem less_asym {a b : List UInt8} (h : Op.bytesLess a b = true) : Op.bytesLess b a = false := by
  cases h2 : Op.bytesLess b a with
  | false => rfl
  | true =>
    have := less_trans _ _ _ h h2
    rw [less_irrefl] at this
    cases this
theorem less_same {a b : ByteArray} (h1 : Op.bytesLess a.toList b.toList = false) (h2 : Op.bytesLess b.toList a.toList = false) : a = b := by
  by_cases h : a.toList = b.toList
  · exact toList_inj h
  · have := less_of_not _ _ h1 h
    rw [h2] at this
    cases this
theorem leastS_two (p q : ByteArray) : (if Op.bytesLess q.toList p.toList then (⟨q, true⟩ : May) else ⟨p, true⟩) = (if Op.bytesLess p.toList q.toList then (⟨p, true⟩ : May) else ⟨q, true⟩) := by
  cases h1 : Op.bytesLess q.toList p.toList with
  | true => rw [less_asym h1]; rfl
  | false =>
    cases h2 : Op.bytesLess p.toList q.toList with
    | true => rfl
    | false => rw [less_same h1 h2]
theorem leastS_comm (m : May) (b c : List Fi) : leastS (leastS m b) c = leastS (leastS m c) b := by
  cases b with
  | nil => rfl
  | cons f r =>
    cases c with
    | nil => rfl
    | cons g t =>
      obtain ⟨v, th⟩ := m
      cases th with
      | false =>
        simp only [leastS, Bool.not_false, Bool.true_or, if_true, Bool.not_true, Bool.false_or]
        exact leastS_two f.path g.path
      | true =>
        cases h1 : Op.bytesLess f.path.toList v.toList with
        | true =>
          cases h2 : Op.bytesLess g.path.toList v.toList with
          | true =>
            simp only [leastS, h1, h2, if_true, Bool.not_true, Bool.false_or]
            exact leastS_two f.path g.path
          | false =>
            have h3 : Op.bytesLess g.path.toList f.path.toList = false := by
              cases h : Op.bytesLess g.path.toList f.path.toList with
              | false => rfl
              | true =>
                have := less_trans _ _ _ h h1
                rw [h2] at this
                cases this
            simp [leastS, h1, h2, h3]
        | false =>
          cases h2 : Op.bytesLess g.path.toList v.toList with
          | true =>
            have h3 : Op.bytesLess f.path.toList g.path.toList = false := by
              cases h : Op.bytesLess f.path.toList g.path.toList with
              | false => rfl
              | true =>
                have := less_trans _ _ _ h h2
                rw [h1] at this
                cases this
            simp [leastS, h1, h2, h3]
          | false => simp [leastS, h1, h2]
theorem leastR_comm (a b c : List Fi) : leastR a c b = leastR a b c := leastS_comm _ c b
def swap3 (s : St3) : St3 := ⟨s.b, s.t, s.o⟩
def swapP (p : Ps) : Ps := (p.1, swap3 p.2)
def swapC (c : Cl) : Cl := ⟨c.path, swap3 c.s⟩
theorem pathsL_swap : ∀ (n : Nat) (a b c : List Fi), pathsL n a c b = (pathsL n a b c).map swapP
  | 0, _, _, _ => rfl
  | n + 1, a, b, c => by
    simp only [pathsL, leastR_comm a b c]
    cases (leastR a b c).there with
    | false => rfl
    | true =>
      simp only [if_true, List.map_cons]
      rw [pathsL_swap n]
      rfl
theorem pathsA_swap (a b c : List Fi) : pathsA a c b = (pathsA a b c).map swapP := by
  unfold pathsA
  rw [show len3 a c b = len3 a b c by unfold len3; omega]
  exact pathsL_swap _ a b c
theorem mayEq_comm (a b : May) : mayEq a b = mayEq b a := by
  by_cases h : a = b
  · subst h; rfl
  · cases h1 : mayEq a b with
    | true => exact absurd (mayEq_iff.1 h1) h
    | false =>
      cases h2 : mayEq b a with
      | true => exact absurd (mayEq_iff.1 h2).symm h
      | false => rfl
theorem merged_swap (s : St3) : mergedR (swap3 s) = mergedR s := by
  obtain ⟨b, o, t⟩ := s
  show mergedR ⟨b, t, o⟩ = mergedR ⟨b, o, t⟩
  unfold mergedR
  dsimp only
  cases h1 : mayEq o b with
  | true =>
    cases h2 : mayEq t b with
    | true =>
      have e1 := mayEq_iff.1 h1
      have e2 := mayEq_iff.1 h2
      subst e1
      subst e2
      rfl
    | false => simp
  | false =>
    cases h2 : mayEq t b with
    | true => simp
    | false =>
      rw [mayEq_comm o t]
      cases h3 : mayEq t o with
      | true =>
        have e3 := mayEq_iff.1 h3
        subst e3
        simp
      | false => simp
theorem joinF_swap (ps : List Ps) : joinF (ps.map swapP) = joinF ps := by
  unfold joinF
  rw [List.flatMap_map]
  refine flat_congr fun p _ => ?_
  show fileOf (p.1, swap3 p.2) = fileOf p
  unfold fileOf
  dsimp only
  rw [merged_swap]
theorem joinC_swap (ps : List Ps) : joinC (ps.map swapP) = (joinC ps).map swapC := by
  unfold joinC
  rw [List.flatMap_map, List.map_flatMap]
  refine flat_congr fun p _ => ?_
  show clashOf (p.1, swap3 p.2) = (clashOf p).map swapC
  unfold clashOf
  dsimp only
  rw [merged_swap]
  split <;> rfl
theorem right3_swap (a b c : List Fi) : right3 a c b = right3 a b c := by
  unfold right3
  rw [Bool.and_comm (repoB c)]
/-- Merge, as lists. -/
def mergeR (a b c : List Fi) : List Fi × List Cl × Int :=
  if right3 a b c then (if joinC (pathsA a b c) = [] then (if repoB (joinF (pathsA a b c)) then (joinF (pathsA a b c), [], 0) else ([], [], 6)) else ([], joinC (pathsA a b c), 0)) else ([], [], 170)
theorem mergeR_swap (a b c : List Fi) : mergeR a c b = ((mergeR a b c).1, (mergeR a b c).2.1.map swapC, (mergeR a b c).2.2) := by
  unfold mergeR
  rw [right3_swap, pathsA_swap, joinF_swap, joinC_swap]
  by_cases h1 : right3 a b c = true
  · rw [if_pos h1, if_pos h1]
    by_cases h2 : joinC (pathsA a b c) = []
    · rw [if_pos (by rw [h2]; rfl), if_pos h2]
      split <;> rfl
    · rw [if_neg (by simpa using h2), if_neg h2]
  · rw [if_neg h1, if_neg h1]
    rfl
theorem merge_out {w : World} {x y z : Sl} {e : Ending} {w' : World} (h : MergeP w x y z e w') : (∃ (sf sc : Option Addr) (df dc : Nat), e = .returned (.tuple #[.agg #[.slice sf (mergeR x.fs y.fs z.fs).1.length df], .slice sc (mergeR x.fs y.fs z.fs).2.1.length dc, .int .i64 (mergeR x.fs y.fs z.fs).2.2]) ∧ RowsAt w' 2 Fi.cells sf (mergeR x.fs y.fs z.fs).1 ∧ RowsAt w' 7 Cl.cells sc (mergeR x.fs y.fs z.fs).2.1) ∧ Below w.heap.size w w' := by
  refine ⟨?_, h.2⟩
  have h1 := h.1
  unfold mergeR
  by_cases c1 : right3 x.fs y.fs z.fs = true
  · rw [if_pos c1] at h1 ⊢
    by_cases c2 : joinC (pathsA x.fs y.fs z.fs) = []
    · rw [if_pos c2] at h1 ⊢
      by_cases c3 : repoB (joinF (pathsA x.fs y.fs z.fs)) = true
      · rw [if_pos c3] at h1 ⊢
        obtain ⟨vf, rfl, ho⟩ := h1
        obtain ⟨sf, df, rfl, hr, -⟩ := ho.rows
        exact ⟨sf, none, df, 0, rfl, hr, RowsAt.none⟩
      · rw [if_neg c3] at h1 ⊢
        exact ⟨none, none, 0, 0, h1, RowsAt.none, RowsAt.none⟩
    · rw [if_neg c2] at h1 ⊢
      obtain ⟨vc, rfl, ho⟩ := h1
      obtain ⟨sc, dc, rfl, hr, -⟩ := ho.rows
      exact ⟨none, sc, 0, dc, rfl, RowsAt.none, hr⟩
  · rw [if_neg c1] at h1 ⊢
    exact ⟨none, none, 0, 0, h1, RowsAt.none, RowsAt.none⟩
theorem right3_len {a b c : List Fi} (h : right3 a b c = true) : len3 a b c ≤ 48 := by
  unfold right3 repoB at h
  simp only [Bool.and_eq_true, decide_eq_true_eq] at h
  unfold len3
  omega
theorem mergeR_len (a b c : List Fi) : (mergeR a b c).1.length ≤ 48 ∧ (mergeR a b c).2.1.length ≤ 48 := by
  have h1 := joinF_len (pathsA a b c)
  have h2 := joinC_len (pathsA a b c)
  have h3 := pathsA_len a b c
  unfold mergeR
  by_cases c1 : right3 a b c = true
  · have h4 := right3_len c1
    rw [if_pos c1]
    split
    · split
      · exact ⟨by dsimp only; omega, by simp⟩
      · simp
    · exact ⟨by simp, by dsimp only; omega⟩
  · rw [if_neg c1]
    simp
end Go.Proofs.Ytmbnbehlfbdpnaa

namespace Go.Proofs.Ytmbnbehlfbdpnaa
open Go.RowKit

abbrev LessP (x y : List UInt8) : Prop := Op.bytesLess x y = true
/-- Two that rise and have the same are the same. -/
theorem up_same : ∀ (a b : List (List UInt8)), a.Pairwise LessP → b.Pairwise LessP → (∀ x, x ∈ a ↔ x ∈ b) → a = b
  | [], [], _, _, _ => rfl
  | [], y :: b, _, _, h => absurd ((h y).2 (List.mem_cons_self ..)) (by simp)
  | x :: a, [], _, _, h => absurd ((h x).1 (List.mem_cons_self ..)) (by simp)
  | x :: a, y :: b, ha, hb, h => by
    rw [List.pairwise_cons] at ha hb
    have hxy : x = y := by
      rcases List.mem_cons.1 ((h x).1 (List.mem_cons_self ..)) with e | h1
      · exact e
      · rcases List.mem_cons.1 ((h y).2 (List.mem_cons_self ..)) with e | h2
        · exact e.symm
        · have := less_asym (hb.1 x h1)
          rw [show Op.bytesLess x y = true from ha.1 y h2] at this
          cases this
    subst hxy
    rw [up_same a b ha.2 hb.2 fun z => ⟨fun hz => ?_, fun hz => ?_⟩]
    · rcases List.mem_cons.1 ((h z).1 (List.mem_cons_of_mem _ hz)) with e | h1
      · have := ha.1 z hz
        rw [e] at this
        have h2 := less_irrefl x
        rw [show Op.bytesLess x x = true from this] at h2
        cases h2
      · exact h1
    · rcases List.mem_cons.1 ((h z).2 (List.mem_cons_of_mem _ hz)) with e | h1
      · have := hb.1 z hz
        rw [e] at this
        have h2 := less_irrefl x
        rw [show Op.bytesLess x x = true from this] at h2
        cases h2
      · exact h1
theorem gtB_less {p x : List UInt8} (h : gtB p x = true) : LessP p x := by
  unfold gtB at h
  simp only [Bool.not_eq_true', Bool.or_eq_false_iff, beq_eq_false_iff_ne] at h
  exact less_of_not _ _ h.1 h.2
theorem put_up {ls : List (List UInt8)} (h : ls.Pairwise LessP) (p : List UInt8) : (putL ls p).Pairwise LessP ∧ ∀ x, x ∈ putL ls p ↔ x ∈ ls ∨ x = p := by
  unfold putL
  cases ha : ls.any (· == p) with
  | true =>
    rw [if_pos rfl]
    refine ⟨h, fun x => ⟨.inl, fun hx => ?_⟩⟩
    rcases hx with hx | rfl
    · exact hx
    · obtain ⟨y, hy, e⟩ := List.any_eq_true.1 ha
      rw [← (by simpa using e : y = x)]
      exact hy
  | false =>
    rw [if_neg (by simp)]
    have hne : ∀ x ∈ ls, x ≠ p := fun x hx e => by
      have := List.any_eq_false.1 ha x hx
      simp [e] at this
    refine ⟨?_, fun x => ?_⟩
    · rw [List.pairwise_append, List.pairwise_append]
      refine ⟨⟨h.filter _, List.pairwise_singleton _ _, fun a h1 b h2 => ?_⟩, h.filter _, fun a h1 b h2 => ?_⟩
      · rw [List.mem_singleton.1 h2]
        exact (List.mem_filter.1 h1).2
      · have hb := gtB_less (List.mem_filter.1 h2).2
        rcases List.mem_append.1 h1 with h1 | h1
        · exact less_trans _ _ _ (List.mem_filter.1 h1).2 hb
        · rw [List.mem_singleton.1 h1]
          exact hb
    · simp only [List.mem_append, List.mem_filter, List.mem_singleton]
      constructor
      · rintro ((⟨hx, -⟩ | hx) | ⟨hx, -⟩)
        · exact .inl hx
        · exact .inr hx
        · exact .inl hx
      · rintro (hx | hx)
        · cases hl : ltB p x with
          | true => exact .inl (.inl ⟨hx, rfl⟩)
          | false =>
            refine .inr ⟨hx, ?_⟩
            have h1 : Op.bytesLess x p = false := hl
            unfold gtB
            rw [h1, Bool.false_or, show (x == p) = false by simpa using hne x hx]
            rfl
        · exact .inl (.inr hx)
theorem fold_up : ∀ (fs : List Fi) (acc : List (List UInt8)), acc.Pairwise LessP → (fs.foldl addP acc).Pairwise LessP ∧ ∀ x, x ∈ fs.foldl addP acc ↔ x ∈ acc ∨ x ∈ pathsOf fs
  | [], acc, h => ⟨h, fun x => by simp [pathsOf]⟩
  | f :: r, acc, h => by
    have h1 := put_up h f.path.data.toList
    have h2 := fold_up r (addP acc f) h1.1
    refine ⟨h2.1, fun x => ?_⟩
    rw [List.foldl_cons, h2.2 x, show x ∈ addP acc f ↔ _ from h1.2 x]
    simp only [pathsOf, List.map_cons, List.mem_cons]
    constructor
    · rintro ((h | h) | h)
      · exact .inl h
      · exact .inr (.inl h)
      · exact .inr (.inr h)
    · rintro (h | h | h)
      · exact .inl (.inl h)
      · exact .inl (.inr h)
      · exact .inr h
theorem allPs_up (fs : List Fi) : (allPs fs).Pairwise LessP ∧ ∀ x, x ∈ allPs fs ↔ x ∈ pathsOf fs := by
  have := fold_up fs [] List.Pairwise.nil
  exact ⟨this.1, fun x => (this.2 x).trans (by simp)⟩
theorem less_lt : ∀ (x y : List UInt8), Op.bytesLess x y = decide (x < y)
  | [], [] => by simp [Op.bytesLess]
  | _ :: _, [] => by simp [Op.bytesLess]
  | [], _ :: _ => by simp [Op.bytesLess]
  | a :: x, b :: y => by
    rw [Op.bytesLess, less_lt x y, Bool.eq_iff_iff]
    simp only [Bool.or_eq_true, Bool.and_eq_true, decide_eq_true_eq, beq_iff_eq]
    exact List.cons_lt_cons_iff.symm
theorem le_not (x y : List UInt8) : decide (x ≤ y) = !(Op.bytesLess y x) := by
  rw [less_lt, ← decide_not]
  exact decide_eq_decide.2 Iff.rfl
theorem sortS_up (ss : List (List UInt8)) : (sortS ss).Pairwise fun x y => Op.bytesLess y x = false := by
  unfold sortS
  have := List.pairwise_mergeSort (le := fun x y : List UInt8 => decide (x ≤ y)) (fun a b c h1 h2 => by
    rw [le_not] at h1 h2 ⊢
    simp only [Bool.not_eq_true'] at h1 h2 ⊢
    cases h3 : Op.bytesLess c a with
    | false => rfl
    | true =>
      by_cases e : a = b
      · rw [e, h2] at h3
        cases h3
      · have h4 := less_of_not _ _ h1 (Ne.symm e)
        have h5 := less_trans _ _ _ h3 h4
        rw [h2] at h5
        cases h5) (fun a b => by
    rw [le_not, le_not]
    cases h : Op.bytesLess b a with
    | false => rfl
    | true => rw [less_asym h]; rfl) ss
  exact this.imp fun {a b} h => by
    rw [le_not] at h
    simpa using h
theorem upTo_up (zs : List (List UInt8)) (hs : zs.Pairwise fun x y => Op.bytesLess y x = false) : ∀ m, m ≤ zs.length → (Lib.compactUpTo zs.toArray m).Pairwise LessP ∧ ∀ x, x ∈ Lib.compactUpTo zs.toArray m ↔ ∃ j, j < m ∧ zs[j]? = some x
  | 0, _ => ⟨List.Pairwise.nil, fun x => by simp [Lib.compactUpTo]⟩
  | m + 1, hm => by
    obtain ⟨h1, h2⟩ := upTo_up zs hs m (by omega)
    have hat : ∀ j, j < zs.length → zs[j]? = some (zs.toArray[j]!) := fun j hj => by
      rw [List.getElem?_eq_getElem hj]
      simp [hj]
    rw [Lib.compactUpTo_succ]
    cases hk : Lib.keeps zs.toArray m with
    | true =>
      rw [if_pos rfl]
      refine ⟨?_, fun x => ?_⟩
      · rw [List.pairwise_append]
        refine ⟨h1, List.pairwise_singleton _ _, fun a ha b hb => ?_⟩
        rw [List.mem_singleton.1 hb]
        obtain ⟨j, hj, hja⟩ := (h2 a).1 ha
        have hle : ∀ i k, i < k → k < zs.length → Op.bytesLess (zs.toArray[k]!) (zs.toArray[i]!) = false := fun i k hik hk' => by
          have := List.pairwise_iff_getElem.1 hs i k (by omega) hk' hik
          have e1 := hat i (by omega)
          have e2 := hat k hk'
          rw [List.getElem?_eq_getElem (by omega)] at e1 e2
          rw [← Option.some.inj e1, ← Option.some.inj e2]
          exact this
        have hja2 : zs.toArray[j]! = a := Option.some.inj ((hat j (by omega)).symm.trans hja)
        have hm0 : m ≠ 0 := by omega
        have hne : zs.toArray[m]! ≠ zs.toArray[m - 1]! := by
          unfold Lib.keeps at hk
          simpa [hm0] using hk
        have hlt : LessP (zs.toArray[m - 1]!) (zs.toArray[m]!) := less_of_not _ _ (hle (m - 1) m (by omega) (by omega)) hne
        rw [← hja2]
        by_cases hjm : j = m - 1
        · rw [hjm]
          exact hlt
        · have h3 := hle j (m - 1) (by omega) (by omega)
          by_cases e : zs.toArray[j]! = zs.toArray[m - 1]!
          · rw [e]
            exact hlt
          · exact less_trans _ _ _ (less_of_not _ _ h3 (Ne.symm e)) hlt
      · rw [List.mem_append, h2 x, List.mem_singleton]
        constructor
        · rintro (⟨j, hj, e⟩ | e)
          · exact ⟨j, by omega, e⟩
          · exact ⟨m, by omega, by rw [e]; exact hat m (by omega)⟩
        · rintro ⟨j, hj, e⟩
          by_cases hjm : j = m
          · subst hjm
            exact .inr (Option.some.inj (e.symm.trans (hat j (by omega))))
          · exact .inl ⟨j, by omega, e⟩
    | false =>
      rw [if_neg (by simp), List.append_nil]
      refine ⟨h1, fun x => (h2 x).trans ⟨fun ⟨j, hj, e⟩ => ⟨j, by omega, e⟩, fun ⟨j, hj, e⟩ => ?_⟩⟩
      by_cases hjm : j = m
      · subst hjm
        have hm0 : j ≠ 0 := fun e => by subst e; simp [Lib.keeps] at hk
        have heq : zs.toArray[j]! = zs.toArray[j - 1]! := by
          unfold Lib.keeps at hk
          simpa [hm0] using hk
        refine ⟨j - 1, by omega, ?_⟩
        rw [hat (j - 1) (by omega), ← heq, ← hat j (by omega)]
        exact e
      · exact ⟨j, by omega, e⟩
theorem compact_up (zs : List (List UInt8)) (hs : zs.Pairwise fun x y => Op.bytesLess y x = false) : (Lib.compact zs).Pairwise LessP ∧ ∀ x, x ∈ Lib.compact zs ↔ x ∈ zs := by
  have := upTo_up zs hs zs.length (Nat.le_refl _)
  refine ⟨this.1, fun x => (this.2 x).trans ⟨fun ⟨j, _, e⟩ => List.mem_of_getElem? e, fun h => ?_⟩⟩
  obtain ⟨j, hj⟩ := List.getElem?_of_mem h
  exact ⟨j, (List.getElem?_eq_some_iff.1 hj).1, hj⟩
/-- All paths of two, told in two ways. -/
theorem allPs_diff (a b : List Fi) : allPs (a ++ b) = diffPs a b := by
  have h1 := allPs_up (a ++ b)
  have h2 := compact_up _ (sortS_up (pathsOf (a ++ b)))
  refine up_same _ _ h1.1 h2.1 fun x => (h1.2 x).trans ?_
  refine (Iff.trans ?_ (h2.2 x).symm)
  unfold sortS
  exact List.mem_mergeSort.symm
end Go.Proofs.Ytmbnbehlfbdpnaa
