/- Lists: a move, and the move back. -/
/- Lists: what a moved branch leads to; moved back it is as it was. -/
/- What the document's Apply of branches gathers; a branch put behind others. -/
import Derived.Test.YtgfjjglejlnfbaaGreatDoorFsAx
import Derived.Test.YtgfjjglejlnfbaaGreatDoorFsN
import Derived.Test.YtgfjjglejlnfbaaGreatDoorFsE
import Derived.Test.YtgfjjglejlnfbaaGreatDoorFjB
namespace Go.Proofs.YtgfjjglejlnfbaaGreatDoor
open Go.RowKit

theorem less_of_cmp {f : Re} {name : ByteArray} (h : cmpR f name < 0) : Op.bytesLess f.name.data.toList name.data.toList = true := (less_iff _ _).1 h
theorem name_of_list {a b : ByteArray} (h : a.data.toList = b.data.toList) : a = b := by
  have : a = ⟨b.data.toList.toArray⟩ := by rw [← h]
  exact this
theorem cmp_more {f : Re} {name : ByteArray} (h : 0 ≤ cmpR f name) (hne : f.name ≠ name) : Op.bytesLess name.data.toList f.name.data.toList = true := by
  apply less_of_not
  · cases hb : Op.bytesLess f.name.data.toList name.data.toList
    · rfl
    · have := (less_iff _ _).2 hb
      unfold cmpR at h
      omega
  · intro e
    exact hne (name_of_list e)
/-- Branches in one row: the place of a name is one. -/
theorem parts_one {rs : List Re} {name : ByteArray} {i j : Nat} (hi : PartsR rs name i) (hj : PartsR rs name j) : i = j := by
  have key : ∀ {a b : Nat}, PartsR rs name a → PartsR rs name b → ¬ a < b := fun {a b} ha hb hlt => by
    have hal : a < rs.length := by have := hb.1; omega
    have h1 := ha.2.2 a _ (Nat.le_refl _) (List.getElem?_eq_getElem hal)
    have h2 := hb.2.1 a _ hlt (List.getElem?_eq_getElem hal)
    omega
  have h1 := key hi hj
  have h2 := key hj hi
  omega
theorem rises_of : ∀ (rs : List Re) (last : ByteArray), UpR rs → (∀ e ∈ rs, Op.bytesLess last.data.toList e.name.data.toList = true ∧ nameB e.name = true) → risesR last rs = true
  | [], _, _, _ => rfl
  | e :: r, last, hu, hall => by
    have h1 := hall e (by simp)
    have hu' := List.pairwise_cons.1 hu
    have ih := rises_of r e.name hu'.2 (fun f hf => ⟨hu'.1 f hf, (hall f (by simp [hf])).2⟩)
    have hle : leB e.name last = false := by
      unfold leB
      rw [bytes_list, bytes_list, less_asym h1.1, Bool.false_or, beq_eq_false_iff_ne]
      intro heq
      rw [heq] at h1
      rw [less_irrefl] at h1
      exact Bool.noConfusion h1.1
    rw [risesR, h1.2, hle, ih]
    rfl
theorem less_nil_name {e : Re} (hn : e.name.data.toList ≠ []) : Op.bytesLess [] e.name.data.toList = true := by
  match hm : e.name.data.toList, hn with
  | c :: r, _ => rfl
/-- What stands in a list of branches behind a move. -/
theorem mem_apply {rs : List Re} {m : Mv} {k : Nat} {t : Bool} {f : Re} (h : f ∈ applyL rs m k t) : f ∈ rs ∨ (f = ⟨m.name, m.to⟩ ∧ noneB m.to = false) := by
  unfold applyL at h
  rw [List.mem_append, List.mem_append] at h
  rcases h with h | h | h
  · exact .inl (List.mem_of_mem_take h)
  · right
    cases hn : noneB m.to
    · rw [hn] at h
      simp at h
      exact ⟨h, rfl⟩
    · rw [hn] at h
      simp at h
  · exact .inl (List.mem_of_mem_drop h)
variable {rs : List Re} {m : Mv} {k : Nat}
theorem up_take_lt (hp : PartsR rs m.name k) {f : Re} (hf : f ∈ rs.take k) : Op.bytesLess f.name.data.toList m.name.data.toList = true := by
  obtain ⟨i, hi⟩ := List.getElem?_of_mem hf
  rw [List.getElem?_take] at hi
  split at hi
  · rename_i hik
    exact less_of_cmp (hp.2.1 i f hik hi)
  · cases hi
theorem up_drop_gt (hu : UpR rs) (hp : PartsR rs m.name k) {f : Re} (hf : f ∈ rs.drop (if foundR rs m.name k then k + 1 else k)) : Op.bytesLess m.name.data.toList f.name.data.toList = true := by
  cases ht : foundR rs m.name k
  · rw [ht] at hf
    simp only [Bool.false_eq_true, if_false] at hf
    obtain ⟨i, hi⟩ := List.getElem?_of_mem hf
    rw [List.getElem?_drop] at hi
    exact cmp_more (hp.2.2 (k + i) f (by omega) hi) (none_named hu hp ht f (List.mem_of_mem_drop hf))
  · rw [ht] at hf
    simp only [if_true] at hf
    obtain ⟨g, hg, hgn⟩ := found_name ht
    obtain ⟨i, hi⟩ := List.getElem?_of_mem hf
    rw [List.getElem?_drop] at hi
    have := up_ltR hu (show k < k + 1 + i by omega) hg hi
    rw [hgn] at this
    exact this
theorem up_apply (hu : UpR rs) (hp : PartsR rs m.name k) : UpR (applyL rs m k (foundR rs m.name k)) := by
  unfold applyL UpR
  rw [List.pairwise_append, List.pairwise_append]
  refine ⟨hu.sublist (List.take_sublist _ _), ⟨?_, hu.sublist (List.drop_sublist _ _), ?_⟩, ?_⟩
  · split <;> simp
  · intro a ha b hb
    split at ha
    · simp at ha
    · simp at ha
      rw [ha]
      exact up_drop_gt hu hp hb
  · intro a ha b hb
    rw [List.mem_append] at hb
    rcases hb with hb | hb
    · split at hb
      · simp at hb
      · simp at hb
        rw [hb]
        exact up_take_lt hp ha
    · exact less_trans _ _ _ (up_take_lt hp ha) (up_drop_gt hu hp hb)
theorem len_apply (hk : k ≤ rs.length) (ht : foundR rs m.name k = true → k < rs.length) : (applyL rs m k (foundR rs m.name k)).length + (if foundR rs m.name k then 1 else 0) = rs.length + (if noneB m.to then 0 else 1) := by
  unfold applyL
  rw [List.length_append, List.length_append, List.length_take, List.length_drop]
  cases hf : foundR rs m.name k
  · cases noneB m.to
    · simp; omega
    · simp; omega
  · have := ht hf
    cases noneB m.to
    · simp; omega
    · simp; omega
theorem found_lt (h : foundR rs m.name k = true) : k < rs.length := by
  obtain ⟨f, hf, -⟩ := found_name h
  exact (List.getElem?_eq_some_iff.1 hf).1
theorem mov_zero (h : movX rs m k (foundR rs m.name k) = 0) : noneB m.frm = (!(foundR rs m.name k)) ∧ (foundR rs m.name k = true → eqTo (rs.getD k ⟨⟨#[]⟩, noId⟩).id m.frm 32 = true) ∧ (foundR rs m.name k = false → rs.length ≠ 8) := by
  unfold movX at h
  generalize foundR rs m.name k = t at *
  cases hn : noneB m.frm <;> cases t <;> simp [hn] at h ⊢
  · exact h
  · exact h
theorem refs_apply (hr : refsB rs = true) (hn : nameB m.name = true) (hnn : m.name.data.toList ≠ []) (hp : PartsR rs m.name k) (hm : movX rs m k (foundR rs m.name k) = 0) : refsB (applyL rs m k (foundR rs m.name k)) = true := by
  obtain ⟨hu, h8⟩ := upR_of hr
  obtain ⟨m1, m2, m3⟩ := mov_zero hm
  have hlen := len_apply (m := m) hp.1 (fun h => found_lt h)
  have hall : ∀ e ∈ rs, Op.bytesLess (⟨#[]⟩ : ByteArray).data.toList e.name.data.toList = true ∧ nameB e.name = true := by
    simp only [refsB, Bool.and_eq_true] at hr
    exact (rises_upR _ _ hr.2).2
  simp only [refsB, Bool.and_eq_true, decide_eq_true_eq]
  have hle : (if noneB m.to = true then 0 else 1) ≤ 1 := by split <;> omega
  constructor
  · cases ht : foundR rs m.name k
    · have := m3 ht
      rw [ht] at hlen
      simp at hlen
      omega
    · rw [ht] at hlen
      simp at hlen
      omega
  · refine rises_of _ _ (up_apply hu hp) (fun e he => ?_)
    rcases mem_apply he with h | ⟨h, -⟩
    · exact hall e h
    · rw [h]
      exact ⟨less_nil_name (e := ⟨m.name, m.to⟩) hnn, hn⟩
end Go.Proofs.YtgfjjglejlnfbaaGreatDoor

namespace Go.Proofs.YtgfjjglejlnfbaaGreatDoor
open Go.RowKit

variable {rs : List Re} {m : Mv} {k : Nat}
theorem keep_apply {b : Re} (hb : b ∈ rs) (hne : b.name ≠ m.name) : b ∈ applyL rs m k (foundR rs m.name k) := by
  unfold applyL
  rw [List.mem_append, List.mem_append]
  obtain ⟨i, hi⟩ := List.getElem?_of_mem hb
  by_cases h : i < k
  · left
    exact List.mem_of_getElem? (i := i) (by rw [List.getElem?_take, if_pos h]; exact hi)
  · right; right
    cases ht : foundR rs m.name k
    · simp only [Bool.false_eq_true, if_false]
      exact List.mem_of_getElem? (i := i - k) (by rw [List.getElem?_drop, show k + (i - k) = i by omega]; exact hi)
    · simp only [if_true]
      obtain ⟨g, hg, hgn⟩ := found_name ht
      have hik : i ≠ k := by
        intro e
        rw [e, hg] at hi
        injection hi with hi
        exact hne (hi ▸ hgn)
      exact List.mem_of_getElem? (i := i - (k + 1)) (by rw [List.getElem?_drop, show k + 1 + (i - (k + 1)) = i by omega]; exact hi)
theorem up_uniq {xs : List Re} (hu : UpR xs) {f g : Re} (hf : f ∈ xs) (hg : g ∈ xs) (h : f.name = g.name) : f = g := by
  obtain ⟨i, hi⟩ := List.getElem?_of_mem hf
  obtain ⟨j, hj⟩ := List.getElem?_of_mem hg
  by_cases hij : i = j
  · rw [hij, hj] at hi
    injection hi with hi
    exact hi.symm
  · exfalso
    rcases Nat.lt_or_gt_of_ne hij with h1 | h1
    · have := up_ltR hu h1 hi hj
      rw [h, less_irrefl] at this
      cases this
    · have := up_ltR hu h1 hj hi
      rw [h, less_irrefl] at this
      cases this
theorem less_ne {a b : ByteArray} (h : Op.bytesLess a.data.toList b.data.toList = true) : a ≠ b := by
  intro e
  rw [e, less_irrefl] at h
  cases h
theorem gone_apply (hu : UpR rs) (hp : PartsR rs m.name k) (hn : noneB m.to = true) : ∀ f ∈ applyL rs m k (foundR rs m.name k), f.name ≠ m.name := fun f hf => by
  unfold applyL at hf
  rw [List.mem_append, List.mem_append, hn] at hf
  rcases hf with h | h | h
  · exact less_ne (up_take_lt hp h)
  · simp at h
  · exact (less_ne (up_drop_gt hu hp h)).symm
theorem there_apply (hn : noneB m.to = false) : (⟨m.name, m.to⟩ : Re) ∈ applyL rs m k (foundR rs m.name k) := by
  unfold applyL
  rw [hn]
  simp
theorem at_apply (hk : k ≤ rs.length) (hn : noneB m.to = false) (t : Bool) : (applyL rs m k t)[k]? = some ⟨m.name, m.to⟩ := by
  unfold applyL
  have hl : (rs.take k).length = k := by rw [List.length_take]; omega
  rw [hn, List.getElem?_append_right (by omega), hl, Nat.sub_self]
  simp
theorem parts_apply (hu : UpR rs) (hp : PartsR rs m.name k) : PartsR (applyL rs m k (foundR rs m.name k)) m.name k := by
  have hl : (rs.take k).length = k := by rw [List.length_take]; have := hp.1; omega
  refine ⟨?_, fun i f hik hi => ?_, fun i f hki hi => ?_⟩
  · unfold applyL
    rw [List.length_append, hl]
    omega
  · unfold applyL at hi
    rw [List.getElem?_append_left (by omega)] at hi
    exact (less_iff _ _).2 (up_take_lt hp (List.mem_of_getElem? hi))
  · unfold applyL at hi
    rw [List.getElem?_append_right (by omega)] at hi
    have hm := List.mem_of_getElem? hi
    rw [List.mem_append] at hm
    rcases hm with h | h
    · split at h
      · simp at h
      · simp at h
        rw [h]
        have : cmpR ⟨m.name, m.to⟩ m.name = 0 := (same_iff _ _).2 rfl
        omega
    · have h1 := less_asym (up_drop_gt hu hp h)
      unfold cmpR
      by_cases h2 : Lib.compareBytes f.name.data.toList m.name.data.toList < 0
      · rw [(less_iff _ _).1 h2] at h1
        cases h1
      · omega
theorem found_apply (hu : UpR rs) (hp : PartsR rs m.name k) : foundR (applyL rs m k (foundR rs m.name k)) m.name k = !(noneB m.to) := by
  cases hn : noneB m.to
  · unfold foundR
    rw [at_apply hp.1 hn]
    have : cmpR ⟨m.name, m.to⟩ m.name = 0 := (same_iff _ _).2 rfl
    simp [this]
  · cases hf : foundR (applyL rs m k (foundR rs m.name k)) m.name k
    · rfl
    · obtain ⟨f, h1, h2⟩ := found_name hf
      exact absurd h2 (gone_apply hu hp hn f (List.mem_of_getElem? h1))
/-- The move back. -/
def backM (m : Mv) : Mv := ⟨m.name, m.to, m.frm⟩
theorem eqTo_self (f : Nat → Int) (n : Nat) : eqTo f f n = true := eqTo_true (fun _ _ => rfl)
theorem back_mov (hr : refsB rs = true) (hp : PartsR rs m.name k) (hb : (noneB m.frm && noneB m.to) = false) (hm : movX rs m k (foundR rs m.name k) = 0) : movX (applyL rs m k (foundR rs m.name k)) (backM m) k (foundR (applyL rs m k (foundR rs m.name k)) m.name k) = 0 := by
  obtain ⟨hu, h8⟩ := upR_of hr
  obtain ⟨m1, m2, m3⟩ := mov_zero hm
  have hlen := len_apply (m := m) hp.1 (fun h => found_lt h)
  rw [found_apply hu hp]
  unfold movX backM
  cases hn : noneB m.to
  · have hg : (applyL rs m k (foundR rs m.name k)).getD k ⟨⟨#[]⟩, noId⟩ = ⟨m.name, m.to⟩ := by rw [List.getD_eq_getElem?_getD, at_apply hp.1 hn]; rfl
    rw [hg]
    simp [eqTo_self]
  · rw [hn] at hb hlen
    have hf : noneB m.frm = false := by simpa using hb
    rw [hf] at m1
    have ht : foundR rs m.name k = true := by simpa using m1.symm
    rw [ht] at hlen ⊢
    simp at hlen
    have : (applyL rs m k true).length ≠ 8 := by omega
    simp [this]
theorem eqAll_app {α : Type} {eq : α → α → Bool} : ∀ {a b c d : List α}, eqAll eq a b = true → eqAll eq c d = true → eqAll eq (a ++ c) (b ++ d) = true
  | [], [], c, d, _, h => h
  | x :: a, y :: b, c, d, h1, h2 => by
    rw [eqAll, Bool.and_eq_true] at h1
    rw [List.cons_append, List.cons_append, eqAll, Bool.and_eq_true]
    exact ⟨h1.1, eqAll_app h1.2 h2⟩
theorem reEq_self (e : Re) : reEq e e = true := by simp [reEq, eqTo_self]
theorem eqAll_self : ∀ l : List Re, eqAll reEq l l = true
  | [] => rfl
  | x :: l => by rw [eqAll, reEq_self, eqAll_self l]; rfl
theorem eqTo_comm (f g : Nat → Int) (n : Nat) : eqTo f g n = eqTo g f n := by
  unfold eqTo
  congr 1
  funext i
  rw [Bool.eq_iff_iff]
  simp only [beq_iff_eq]
  exact eq_comm
theorem back_same (hp : PartsR rs m.name k) (hm : movX rs m k (foundR rs m.name k) = 0) : eqAll reEq (applyL (applyL rs m k (foundR rs m.name k)) (backM m) k (!(noneB m.to))) rs = true := by
  obtain ⟨m1, m2, m3⟩ := mov_zero hm
  have hl : (rs.take k).length = k := by rw [List.length_take]; have := hp.1; omega
  have htk : (applyL rs m k (foundR rs m.name k)).take k = rs.take k := by
    unfold applyL
    rw [List.take_append_of_le_length (by omega), List.take_take, Nat.min_self]
  have hdr : (applyL rs m k (foundR rs m.name k)).drop (if (!(noneB m.to)) = true then k + 1 else k) = rs.drop (if foundR rs m.name k then k + 1 else k) := by
    unfold applyL
    cases noneB m.to
    · simp only [Bool.not_false, if_true, Bool.false_eq_true, if_false]
      rw [List.drop_append, hl, List.drop_of_length_le (by omega), show k + 1 - k = 1 by omega]
      simp
    · simp only [Bool.not_true, Bool.false_eq_true, if_false, if_true, List.nil_append]
      rw [List.drop_append, hl, List.drop_of_length_le (by omega), Nat.sub_self]
      simp
  rw [applyL, htk, hdr]
  unfold backM
  simp only
  rw [m1]
  cases ht : foundR rs m.name k
  · simp only [Bool.not_false, if_true, Bool.false_eq_true, if_false, List.nil_append, List.take_append_drop]
    exact eqAll_self rs
  · simp only [Bool.not_true, Bool.false_eq_true, if_false, if_true]
    have hk := found_lt ht
    obtain ⟨f, hf, hfn⟩ := found_name ht
    have e : rs = rs.take k ++ ([rs[k]] ++ rs.drop (k + 1)) := by
      rw [List.singleton_append, List.getElem_cons_drop, List.take_append_drop]
    have hfk : rs[k] = f := (List.getElem?_eq_some_iff.1 hf).2
    have hi := m2 ht
    rw [List.getD_eq_getElem?_getD, hf] at hi
    rw [hfk] at e
    refine (congrArg (fun z => eqAll reEq (rs.take k ++ ([⟨m.name, m.frm⟩] ++ rs.drop (k + 1))) z = true) e).mpr ?_
    refine eqAll_app (eqAll_self _) (eqAll_app ?_ (eqAll_self _))
    have h2 : eqTo m.frm f.id 32 = true := by rw [eqTo_comm]; exact hi
    simp [eqAll, reEq, hfn, h2]
end Go.Proofs.YtgfjjglejlnfbaaGreatDoor

namespace Go.Proofs.YtgfjjglejlnfbaaGreatDoor
open Go.RowKit

/-- One branch in the document's Apply: what is gathered, and whether the moved one is. -/
def putS (m : Mv) (s : List Re × Bool) (x : Re) : List Re × Bool :=
  ((if !s.2 && leB m.name x.name then s.1 ++ [⟨m.name, m.to⟩] else s.1) ++ (if x.name.toList == m.name.toList then [] else [x]), s.2 || leB m.name x.name)
def outS (m : Mv) (rs : List Re) : List Re × Bool := rs.foldl (putS m) ([], noneB m.to)
def outL (m : Mv) (rs : List Re) : List Re := if (outS m rs).2 then (outS m rs).1 else (outS m rs).1 ++ [⟨m.name, m.to⟩]
/-- Why the document refuses a move. -/
def errL (rs : List Re) (m : Mv) : Int :=
  match findR m.name rs with
  | none => if !(noneB m.frm) then 4 else if rs.length == 8 then 6 else 0
  | some e => if noneB m.frm then 5 else if !(eqTo e.id m.frm 32) then 191 else 0
theorem putS_len (m : Mv) (s : List Re × Bool) (x : Re) : (putS m s x).1.length ≤ s.1.length + 2 := by
  unfold putS
  dsimp only
  split <;> split <;> simp
theorem outS_len (m : Mv) (s : List Re × Bool) : ∀ (rs : List Re), (rs.foldl (putS m) s).1.length ≤ s.1.length + 2 * rs.length := by
  intro rs
  induction rs generalizing s with
  | nil => simp
  | cons x r ih =>
    rw [List.foldl_cons]
    have h1 := ih (putS m s x)
    have h2 := putS_len m s x
    simp only [List.length_cons]
    omega
theorem name_ne {a b : ByteArray} (h : a ≠ b) : (a.toList == b.toList) = false := by
  rw [beq_eq_false_iff_ne, bytes_list, bytes_list]
  exact fun e => h (name_of_list e)
theorem leB_less {a b : ByteArray} (h : Op.bytesLess b.data.toList a.data.toList = true) : leB a b = false := by
  rw [le_not, bytes_list, bytes_list, h]
  rfl
theorem fold_less (m : Mv) (b : Bool) : ∀ (l s : List Re), (∀ x ∈ l, Op.bytesLess x.name.data.toList m.name.data.toList = true) → l.foldl (putS m) (s, b) = (s ++ l, b)
  | [], s, _ => by simp
  | x :: l, s, h => by
    have h1 := h x (by simp)
    rw [List.foldl_cons]
    have e : putS m (s, b) x = (s ++ [x], b) := by
      unfold putS
      rw [leB_less h1, name_ne (less_ne h1)]
      simp
    rw [e, fold_less m b l (s ++ [x]) fun y hy => h y (by simp [hy])]
    simp
theorem fold_put (m : Mv) : ∀ (l s : List Re), (∀ x ∈ l, x.name ≠ m.name) → l.foldl (putS m) (s, true) = (s ++ l, true)
  | [], s, _ => by simp
  | x :: l, s, h => by
    rw [List.foldl_cons]
    have e : putS m (s, true) x = (s ++ [x], true) := by
      unfold putS
      rw [name_ne (h x (by simp))]
      simp
    rw [e, fold_put m l (s ++ [x]) fun y hy => h y (by simp [hy])]
    simp
theorem less_leB {a b : ByteArray} (h : Op.bytesLess a.data.toList b.data.toList = true) : leB a b = true := by
  rw [le_not, bytes_list, bytes_list, less_asym h]
  rfl
section
variable {rs : List Re} {m : Mv} {k : Nat}
theorem fold_more (l s : List Re) (h : ∀ x ∈ l, Op.bytesLess m.name.data.toList x.name.data.toList = true) : (let t := l.foldl (putS m) (s, noneB m.to); if t.2 then t.1 else t.1 ++ [⟨m.name, m.to⟩]) = s ++ ((if noneB m.to then [] else [⟨m.name, m.to⟩]) ++ l) := by
  have hne : ∀ x ∈ l, x.name ≠ m.name := fun x hx e => less_ne (h x hx) e.symm
  cases hn : noneB m.to
  · cases l with
    | nil => simp
    | cons x r =>
      rw [List.foldl_cons]
      have e : putS m (s, false) x = (s ++ [⟨m.name, m.to⟩] ++ [x], true) := by
        unfold putS
        rw [less_leB (h x (by simp)), name_ne (hne x (by simp))]
        simp
      rw [e, fold_put m r _ fun y hy => hne y (by simp [hy])]
      simp
  · rw [fold_put m l s hne]
    simp
theorem out_apply (hu : UpR rs) (hp : PartsR rs m.name k) : outL m rs = applyL rs m k (foundR rs m.name k) := by
  have h1 : ∀ x ∈ rs.take k, Op.bytesLess x.name.data.toList m.name.data.toList = true := fun x hx => up_take_lt hp hx
  have h2 : ∀ x ∈ rs.drop (if foundR rs m.name k then k + 1 else k), Op.bytesLess m.name.data.toList x.name.data.toList = true := fun x hx => up_drop_gt hu hp hx
  unfold outL outS applyL
  cases hf : foundR rs m.name k
  · rw [hf] at h2
    have e : rs.foldl (putS m) ([], noneB m.to) = (rs.drop k).foldl (putS m) (rs.take k, noneB m.to) := by
      conv => lhs; rw [← List.take_append_drop k rs, List.foldl_append, fold_less m _ _ [] h1]
      simp
    rw [e]
    exact fold_more (rs.drop k) (rs.take k) h2
  · rw [hf] at h2
    obtain ⟨f, hfk, hfn⟩ := found_name hf
    have hkl := (List.getElem?_eq_some_iff.1 hfk).1
    have hd : rs.drop k = f :: rs.drop (k + 1) := by rw [List.drop_eq_getElem_cons hkl, (List.getElem?_eq_some_iff.1 hfk).2]
    have h3 : ∀ x ∈ rs.drop (k + 1), x.name ≠ m.name := fun x hx e => less_ne (h2 x hx) e.symm
    have e : rs.foldl (putS m) ([], noneB m.to) = (rs.take k ++ ((if noneB m.to then [] else [⟨m.name, m.to⟩]) ++ rs.drop (k + 1)), true) := by
      conv => lhs; rw [← List.take_append_drop k rs, List.foldl_append, fold_less m _ _ [] h1, hd, List.foldl_cons]
      have e2 : putS m ([] ++ rs.take k, noneB m.to) f = (rs.take k ++ (if noneB m.to then [] else [⟨m.name, m.to⟩]), true) := by
        have hle : leB m.name m.name = true := by rw [le_not, less_irrefl]; rfl
        unfold putS
        rw [hfn, hle]
        cases noneB m.to <;> simp
      rw [e2, fold_put m _ _ h3]
      simp
    rw [e]
    rfl
theorem find_none : ∀ {l : List Re} {n : ByteArray}, (∀ x ∈ l, x.name ≠ n) → findR n l = none
  | [], _, _ => rfl
  | x :: l, n, h => by
    rw [findR, if_neg (h x (by simp))]
    exact find_none fun y hy => h y (by simp [hy])
theorem find_some : ∀ {l : List Re} {n : ByteArray} {f : Re}, findR n l = some f → f ∈ l ∧ f.name = n
  | [], _, _, h => by cases h
  | x :: l, n, f, h => by
    unfold findR at h
    split at h
    · rename_i hx
      rw [← Option.some.inj h]
      exact ⟨by simp, hx⟩
    · obtain ⟨h1, h2⟩ := find_some h
      exact ⟨by simp [h1], h2⟩
theorem find_has {l : List Re} {n : ByteArray} (h : findR n l = none) : ∀ x ∈ l, x.name ≠ n := by
  induction l with
  | nil => intro x hx; cases hx
  | cons y r ih =>
    unfold findR at h
    split at h
    · cases h
    · rename_i hy
      intro x hx
      rcases List.mem_cons.1 hx with rfl | hx
      · exact hy
      · exact ih h x hx
theorem find_found (hu : UpR rs) (hp : PartsR rs m.name k) : findR m.name rs = if foundR rs m.name k then some (rs.getD k ⟨⟨#[]⟩, noId⟩) else none := by
  cases hf : foundR rs m.name k
  · rw [find_none (none_named hu hp hf)]
    rfl
  · obtain ⟨f, hfk, hfn⟩ := found_name hf
    rw [List.getD_eq_getElem?_getD, hfk]
    cases h : findR m.name rs with
    | none => exact absurd hfn (find_has h f (List.mem_of_getElem? hfk))
    | some g =>
      obtain ⟨g1, g2⟩ := find_some h
      rw [up_uniq hu g1 (List.mem_of_getElem? hfk) (g2.trans hfn.symm)]
      rfl
theorem err_mov (hu : UpR rs) (hp : PartsR rs m.name k) : errL rs m = movX rs m k (foundR rs m.name k) := by
  unfold errL
  rw [find_found hu hp]
  unfold movX
  cases foundR rs m.name k <;> cases noneB m.frm <;> simp
end
/-- What the document's Apply tells. -/
def ApplyD (rs : List Re) (m : Mv) (B : Nat) (e : Ending) (w' : World) : Prop :=
  (badX rs m = true → e = .returned (.tuple #[.agg #[.slice none 0 0], .int .i64 190])) ∧
  (badX rs m = false → (errL rs m ≠ 0 → e = .returned (.tuple #[.agg #[.slice none 0 0], .int .i64 (errL rs m)])) ∧
    (errL rs m = 0 → ∃ v, e = .returned (.tuple #[.agg #[v], .int .i64 0]) ∧ OwnR B w' v (outL m rs)))
/-- What is gathered, in memory. -/
structure Gat (W2 : World) (g : Nat) (L : List Re) (W : World) : Prop where
  gr : W2.grownBy W (some g)
  out : ∃ so co, W.heap[g]? = some (.cells #[.slice so L.length co] 24 (0, 0)) ∧ OwnR W2.heap.size W (.slice so L.length co) L
theorem Gat.one {W2 W : World} {g : Nat} {L : List Re} (h : Gat W2 g L W) (hg : g < W2.heap.size) (f : Re) (hlen : L.length + 1 ≤ 100000) :
    ∃ so n0 co k X s9 n9 c9 W9, W.cell? ⟨g, 0, none⟩ = some (.slice so n0 co) ∧ (Instr.buildSlice 22 1 #[(0, .agg f.cells)]).run Tryz.prog W = .ok (.slice (some ⟨k, 0, none⟩) 1 1) X ∧ X.cell? ⟨g, 0, none⟩ = some (.slice so n0 co) ∧ (Builtin.append_ #[22, 22] 22 #[.slice so n0 co, .slice (some ⟨k, 0, none⟩) 1 1]).run Tryz.prog X = .ok (.slice s9 n9 c9) W9 ∧ W2.grownBy X (some g) ∧ W2.grownBy W9 (some g) ∧ W9.cell? ⟨g, 0, none⟩ = some (.slice so n0 co) ∧ W9.frozen? ⟨g, 0, none⟩ = false ∧ Gat W2 g (L ++ [f]) (W9.setCell ⟨g, 0, none⟩ (.slice s9 n9 c9)) := by
  obtain ⟨gr, so, co, h1, h2⟩ := h
  have hba : Below W.heap.size W (W.alloc (.cells f.cells 92)) := (Below.refl _ _).alloc (Nat.le_refl _) _
  have hrow := heap_alloc_new W (.cells f.cells 92)
  have hbl := bldRe f W
  generalize W.alloc (.cells f.cells 92) = X at hba hrow hbl
  have k1 : X.heap[g]? = some (.cells #[.slice so L.length co] 24 (0, 0)) := (hba.block _ (lt_of_row h1)).trans h1
  have k2 : OwnR W2.heap.size X (.slice so L.length co) L := h2.below hba
  have grx : W2.grownBy X (some g) := ⟨hba.os.trans gr.os, hba.tape.trans gr.tape, hba.output.trans gr.output, Nat.le_trans gr.size hba.size, fun k hk hkg => (hba.block k (Nat.lt_of_lt_of_le hk gr.size)).trans (gr.block k hk hkg)⟩
  obtain ⟨v9, W9, hr9, ho9, hg9, -⟩ := refs_run (ys := [f]) (cap := 1) 22 k2 (fun e => by cases e) (oneR_rows hrow) (fun _ => ⟨_, _, rfl⟩) hlen grx.size
  obtain ⟨s9, c9, rfl, -, -⟩ := OwnR.rows ho9
  have hne : ∀ k, k < W2.heap.size → W9.heap[k]? = X.heap[k]? := fun k hk => hg9.block k (Nat.lt_of_lt_of_le hk grx.size) (fun e => by
    have := (k2.lt e.symm).1
    omega)
  have h9 : W9.heap[g]? = some (.cells #[.slice so L.length co] 24 (0, 0)) := (hne _ hg).trans k1
  have gr9 : W2.grownBy W9 (some g) := ⟨hg9.os.trans grx.os, hg9.tape.trans grx.tape, hg9.output.trans grx.output, Nat.le_trans grx.size hg9.size, fun k hk hkg => (hne k hk).trans (grx.block k hk hkg)⟩
  have hq := (Below.refl 0 W9).setCell (p := ⟨g, 0, none⟩) (Nat.zero_le _) (.slice s9 (L ++ [f]).length c9)
  refine ⟨so, _, co, _, X, s9, _, c9, W9, (cell_of_row _ _ _ _ _ _ h1).trans rfl, hbl, (cell_of_row _ _ _ _ _ _ k1).trans rfl, hr9, grx, gr9, (cell_of_row _ _ _ _ _ _ h9).trans rfl, frozen_of_row _ _ _ _ _ h9, ?_, s9, c9, heap_setCell_same _ _ 0 _ _ _ h9, ?_⟩
  · exact ⟨hq.os.trans gr9.os, hq.tape.trans gr9.tape, hq.output.trans gr9.output, Nat.le_trans gr9.size hq.size, fun k hk hkg => (heap_setCell_other _ _ _ _ (show k ≠ g from fun e => hkg (by rw [e]))).trans (gr9.block k hk hkg)⟩
  · refine ho9.keep fun k hk => heap_setCell_other _ _ _ _ fun e => ?_
    have := (ho9.lt hk).1
    have h5 : k = g := e
    omega
theorem Gat.fin {W2 W : World} {g : Nat} {L : List Re} (h : Gat W2 g L W) : ∃ so n co, W.heap[g]? = some (.cells #[.slice so n co] 24 (0, 0)) ∧ OwnR W2.heap.size W (.slice so n co) L := by
  obtain ⟨gr, so, co, h1, h2⟩ := h
  exact ⟨so, _, co, h1, h2⟩
theorem Gat.drew {W2 W : World} {g : Nat} {L : List Re} (h : Gat W2 g L W) : Gat W2 g L W.drew :=
  ⟨⟨h.gr.os, h.gr.tape, h.gr.output, h.gr.size, h.gr.block⟩, h.out⟩
theorem Gat.drewN {W2 W : World} {g : Nat} {L : List Re} (h : Gat W2 g L W) (n : Nat) : Gat W2 g L (W.drewN n) :=
  ⟨⟨h.gr.os, h.gr.tape, h.gr.output, h.gr.size, h.gr.block⟩, h.out⟩
end Go.Proofs.YtgfjjglejlnfbaaGreatDoor
