/- What may be, as the document puts it. No function of the program is walked here. -/
import Derived.Test.YtnaoaeapffgojaaRNam
import Derived.Test.YtnaoaeapffgojaaBkM
namespace Go.Proofs.Ytnaoaeapffgojaa
open Go.RowKit

section
variable {P : Program} {ops : Array Oper} {Q : Exit → Act → World → Prop} {a : Act} {w : World} {rest : List Oper} {o : Oper}
/-- The loads at a guard, the operation asked first. -/
theorem load_atg2 (ty : TypeId) (x : Operand) (ho : o.op = .load ty x) (hw : Region.wanted o (yielded ops a.tmps) = true) (g p : Nat) (hx : a.eval x = .pointer (some ⟨g, p, none⟩))
    (k : IntKind) (m : Nat) (f : Nat → Int) (d : TypeDesc) (hc : ∀ i, i < m → w.cell? ⟨g, p + i, none⟩ = some (.int k (f i))) (hu : P.underlying ty = some d)
    (hd : d.isRow = true) (hsz : (P.info? ty).map (·.size) = some m) (h : wpList P ops Q rest (a.put o.dst (.agg (arr k m f))) w) : wpList P ops Q (o :: rest) a w :=
  load_atg hw ty x ho g p hx k m f d hc hu hd hsz h
theorem load_rowg2 (ty : TypeId) (x : Operand) (ho : o.op = .load ty x) (hw : Region.wanted o (yielded ops a.tmps) = true)
    (g : Nat) (hx : a.eval x = .pointer (some ⟨g, 0, none⟩)) (t : TypeId) (cs : Array Value) (fr : Nat × Nat) (d : TypeDesc) (hg : w.heap[g]? = some (.cells cs t fr))
    (hu : P.underlying ty = some d) (hd : (match d with | .struct _ | .array _ _ => true | _ => false) = true) (hi : (P.info? ty).map (·.size) = some cs.size)
    (h : wpList P ops Q rest (a.put o.dst (.agg cs)) w) : wpList P ops Q (o :: rest) a w :=
  load_rowg hw ty x ho g hx t cs fr d hg hu hd hi h
end
/-- Not too much for one's counting: as much as twenty thousand bytes may tell. -/
structure Sml (o : Ob) (c : Co) : Prop where
  nb : c.nb ≤ 100000
  es : c.es.length ≤ 1000
  ps : c.ps.length ≤ 1000
  note : o.note.size ≤ 5000
  names : ∀ e ∈ c.es, e.name.size ≤ 1000
theorem Small.sml {o : Ob} {c : Co} (h : Small o c) : Sml o c := ⟨by have := h.nb; omega, by have := h.es; omega, by have := h.ps; omega, h.note, h.names⟩
def restB (o : Ob) (c : Co) : Bool := eqTo o.tree (fun _ => 0) 32 && (c.ps.length == 0 && (o.num == 0 && (o.note.toList == [])))
theorem empty_list : (⟨#[]⟩ : ByteArray).toList = [] := by rw [ByteArray.toList_eq]
theorem note_nil {s : ByteArray} (h : s.toList = []) : s.size = 0 := by
  have hl : s.size = s.toList.length := by rw [ByteArray.toList_eq]; rfl
  rw [hl, h]; rfl
theorem eqAll_empty {α : Type} {eq : α → α → Bool} (l : List α) : eqAll eq l [] = (l.length == 0) := by cases l <;> simp [eqAll]
theorem right_one {o : Ob} {c : Co} (hk : o.kind = 1) : rightB o c = ((c.es.length == 0) && (restB o c && decide (c.nb ≤ 4096))) := by
  simp only [rightB, sameB, countedO, countedCo, mayB, restB, hk, if_true, eqAll_empty, eqTo_self, beq_self_eq_true, Bool.true_and, Bool.and_assoc, empty_list]
theorem right_two {o : Ob} {c : Co} (hk : o.kind = 2) : rightB o c = ((c.nb == 0) && (restB o c && (decide (c.es.length ≤ 32) && namedFrom ⟨#[]⟩ c.es))) := by
  simp only [rightB, sameB, countedO, countedCo, mayB, restB, hk, show ¬ (2 : Int) = 1 by omega, if_true, if_false, eqAll_empty, eqAll_self entEq_self, beq_self_eq_true, Bool.true_and, Bool.and_assoc]
  by_cases h : c.nb = 0
  · have h2 : eqTo c.bf (fun _ => 0) 0 = true := rfl
    simp only [h, h2, Bool.true_and, empty_list]
  · have h2 : (c.nb == 0) = false := by simpa using h
    simp only [h2, Bool.false_and]
theorem right_three {o : Ob} {c : Co} (hk : o.kind = 3) : rightB o c = ((c.nb == 0) && ((c.es.length == 0) && (decide (c.ps.length ≤ 2) && decide (o.note.size ≤ 200)))) := by
  have e3 : ∀ l : List (Nat → Int), eqAll idEq l l = true := eqAll_self fun f => eqTo_self f 32
  simp only [rightB, sameB, countedO, countedCo, mayB, hk, show ¬ (3 : Int) = 1 by omega, show ¬ (3 : Int) = 2 by omega, if_true, if_false, eqAll_empty, e3, eqTo_self, beq_self_eq_true, Bool.true_and, Bool.and_assoc]
  by_cases h : c.nb = 0
  · have h2 : eqTo c.bf (fun _ => 0) 0 = true := rfl
    simp only [h, h2, Bool.true_and]
  · have h2 : (c.nb == 0) = false := by simpa using h
    simp only [h2, Bool.false_and]
theorem right_none {o : Ob} {c : Co} (h : ¬ (1 ≤ o.kind ∧ o.kind ≤ 3)) : rightB o c = false := by
  cases hr : rightB o c with
  | false => rfl
  | true => rcases right_kind hr with q | q | q <;> omega
/-- The names of the first t entries, one by one. -/
theorem named_last : ∀ (es : List Ent) (last : ByteArray) (x : Ent), namedFrom last (es ++ [x]) = (namedFrom last es && (nameB x.name && !(leB x.name ((es.getLast?.map (·.name)).getD last))))
  | [], last, x => by simp [namedFrom]
  | a :: r, last, x => by
    simp only [List.cons_append, namedFrom, named_last r, Bool.and_assoc]
    congr 3
    cases h : r.getLast? with
    | none =>
      have : r = [] := by simpa using h
      subst this
      simp
    | some b =>
      have : (a :: r).getLast? = some b := by
        rw [List.getLast?_cons, h]; rfl
      rw [this]
      simp
/-- Where the names of the first ones are wrong, all are. -/
theorem named_pre : ∀ (es : List Ent) (last : ByteArray) (m : Nat), m ≤ es.length → namedFrom last (es.take m) = false → namedFrom last es = false
  | [], _, m, _, h => by simpa using h
  | _ :: _, _, 0, _, h => by simp [namedFrom] at h
  | a :: r, last, m + 1, hm, h => by
    simp only [List.take_succ_cons, namedFrom] at h ⊢
    cases h1 : (nameB a.name && !(leB a.name last)) with
    | false => rfl
    | true =>
      rw [h1, Bool.true_and] at h
      rw [Bool.true_and]
      exact named_pre r a.name m (by simpa using hm) h
theorem name_first {s : ByteArray} (h : nameB s = true) : leB s ⟨#[]⟩ = false := by
  have hs : 1 ≤ s.size := by simp [nameB] at h; omega
  have hl : s.size = s.toList.length := by rw [ByteArray.toList_eq]; rfl
  unfold leB
  rw [empty_list]
  cases hq : s.toList with
  | nil =>
    have h0 : s.size = 0 := by rw [hl, hq]; rfl
    omega
  | cons a l => simp [Op.bytesLess]
end Go.Proofs.Ytnaoaeapffgojaa
