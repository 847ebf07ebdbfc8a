/- There and back, on lists: an object that may be is read from its bytes as it was. No function of the program is walked here. -/
import Derived.Test.YtnaoaeapffgojaaBkL
namespace Go.Proofs.Ytnaoaeapffgojaa
open Go.RowKit

theorem eqTo_self (f : Nat → Int) (n : Nat) : eqTo f f n = true := eqTo_true fun _ _ => rfl
theorem eqTo_turn {f g : Nat → Int} {n : Nat} (h : eqTo f g n = true) : eqTo g f n = true := eqTo_true fun i hi => (eqTo_iff.1 h i hi).symm
theorem entEq_self (e : Ent) : entEq e e = true := by simp [entEq, eqTo_self]
theorem eqAll_self {α : Type} {eq : α → α → Bool} (h : ∀ a, eq a a = true) : ∀ l : List α, eqAll eq l l = true
  | [] => rfl
  | a :: l => by simp [eqAll, h a, eqAll_self h l]
theorem eqAll_nil {α : Type} {eq : α → α → Bool} {l : List α} (h : eqAll eq l [] = true) : l = [] := List.eq_nil_of_length_eq_zero (eqAll_len h)
theorem eqAll_map {α : Type} {eq : α → α → Bool} {f : α → α} (h : ∀ a, eq (f a) a = true) : ∀ l : List α, eqAll eq (l.map f) l = true
  | [] => rfl
  | a :: l => by simp [eqAll, h a, eqAll_map h l]
/-- What is known of an object that may be. -/
theorem right_blob {o : Ob} {c : Co} (hr : rightB o c = true) (hk : o.kind = 1) : c.nb ≤ 4096 ∧ c.es = [] ∧ c.ps = [] ∧ eqTo o.tree (fun _ => 0) 32 = true ∧ o.num = 0 ∧ o.note.toList = [] := by
  simp only [rightB, sameB, countedO, countedCo, mayB, hk, if_true, Bool.and_eq_true, beq_iff_eq, decide_eq_true_eq] at hr
  obtain ⟨⟨-, -, h1, h2, h3, h4, h5⟩, h6⟩ := hr
  exact ⟨h6, eqAll_nil h1, eqAll_nil h3, h2, h4, by simpa using h5⟩
theorem right_tree {o : Ob} {c : Co} (hr : rightB o c = true) (hk : o.kind = 2) : (c.es.length ≤ 32 ∧ namedFrom ⟨#[]⟩ c.es = true) ∧ c.nb = 0 ∧ c.ps = [] ∧ eqTo o.tree (fun _ => 0) 32 = true ∧ o.num = 0 ∧ o.note.toList = [] := by
  simp only [rightB, sameB, countedO, countedCo, mayB, hk, show ¬ (2 : Int) = 1 by omega, if_true, if_false, Bool.and_eq_true, beq_iff_eq, decide_eq_true_eq] at hr
  obtain ⟨⟨-, h0, -, h2, h3, h4, h5⟩, h6⟩ := hr
  exact ⟨h6, h0.1, eqAll_nil h3, h2, h4, by simpa using h5⟩
theorem right_commit {o : Ob} {c : Co} (hr : rightB o c = true) (hk : o.kind = 3) : (c.ps.length ≤ 2 ∧ o.note.size ≤ 200) ∧ c.nb = 0 ∧ c.es = [] := by
  simp only [rightB, sameB, countedO, countedCo, mayB, hk, show ¬ (3 : Int) = 1 by omega, show ¬ (3 : Int) = 2 by omega, if_true, if_false, Bool.and_eq_true, beq_iff_eq, decide_eq_true_eq] at hr
  obtain ⟨⟨-, h0, h1, -⟩, h6⟩ := hr
  exact ⟨h6, h0.1, eqAll_nil h1⟩
theorem right_kind {o : Ob} {c : Co} (hr : rightB o c = true) : o.kind = 1 ∨ o.kind = 2 ∨ o.kind = 3 := by
  have hm := right_may hr
  by_cases h1 : o.kind = 1
  · exact .inl h1
  by_cases h2 : o.kind = 2
  · exact .inr (.inl h2)
  by_cases h3 : o.kind = 3
  · exact .inr (.inr h3)
  simp [mayB, h1, h2, h3] at hm

/-- There and back. -/
structure Back (L : List Int) (o : Ob) (c : Co) : Prop where
  x : decX L = o.kind
  p : decP L = (L.length, 0)
  r : ∀ sq cq, rightB (decO L sq cq) (decC L) = true
  e : ∀ sq cq, encB (decO L sq cq) (decC L) = L
  s : ∀ sq cq, sameB (decO L sq cq) (decC L) o c = true
theorem named_map : ∀ (es : List Ent) (last : ByteArray), namedFrom last (es.map entN) = namedFrom last es
  | [], _ => rfl
  | a :: r, last => by simp only [List.map_cons, namedFrom, named_map r, entN]
theorem back_blob {o : Ob} {c : Co} (hr : rightB o c = true) (hk : o.kind = 1) : Back (encB o c) o c := by
  obtain ⟨hn, he, hp, ht, hnum, hnote⟩ := right_blob hr hk
  have hL : encB o c = 1 :: beBytes 2 c.nb ++ (List.range c.nb).map c.bf := by simp [encB, hk]
  generalize encB o c = L at hL
  have t1 : tk L (0, 0) 1 = ((1, 0), [1]) := tk_at (A := []) (R := beBytes 2 c.nb ++ (List.range c.nb).map c.bf) (by rw [hL]; simp) rfl rfl
  have t2 : bN L = ((3, 0), beBytes 2 c.nb) := by
    unfold bN
    rw [t1]
    exact tk_at (A := [1]) (R := (List.range c.nb).map c.bf) (by rw [hL]; simp) rfl (be_len _ _).symm
  have t3 : bB L = ((3 + c.nb, 0), (List.range c.nb).map c.bf) := by
    unfold bB
    rw [t2, num_two (by omega) (by omega), Int.toNat_natCast]
    exact tk_at (A := 1 :: beBytes 2 c.nb) (R := []) (by rw [hL]; simp) (by simp [be_len]) (by simp)
  have hx : decX L = 1 := by unfold decX; rw [t1, num_one]
  have hO : ∀ sq cq, decO L sq cq = { zeroOb with kind := 1, bs := .slice sq c.nb cq } := fun sq cq => by simp [decO, hx, blobOb, t3]
  obtain ⟨F, hC, hF⟩ : ∃ F, decC L = ⟨c.nb, F, [], []⟩ ∧ ∀ i, i < c.nb → F i = c.bf i := ⟨fun i => ((List.range c.nb).map c.bf).getD i 0, by simp [decC, hx, blobCo, t3], fun i hi => by simp [hi]⟩
  have hb : eqTo F c.bf c.nb = true := eqTo_true hF
  refine ⟨by rw [hx, hk], ?_, fun sq cq => ?_, fun sq cq => ?_, fun sq cq => ?_⟩
  · have hl : L.length = 3 + c.nb := by rw [hL]; simp [be_len]; omega
    simp [decP, hx, t3, hl]
  · rw [hO, hC]
    simp [rightB, sameB, countedO, countedCo, mayB, eqTo_self, eqAll, zeroOb, hn]
  · rw [hO, hC, hL]
    simp only [encB, if_true]
    congr 1
    exact List.map_congr_left fun i hi => hF i (List.mem_range.1 hi)
  · rw [hO, hC]
    simp [sameB, hk, hb, he, hp, hnum, hnote, eqAll, zeroOb, eqTo_turn ht]
theorem back_tree {o : Ob} {c : Co} (hr : rightB o c = true) (hk : o.kind = 2) : Back (encB o c) o c := by
  obtain ⟨⟨hn, hna⟩, hb, hp, ht, hnum, hnote⟩ := right_tree hr hk
  have hL : encB o c = 2 :: (c.es.length : Int) :: c.es.flatMap entBytes := by simp [encB, hk]
  generalize encB o c = L at hL
  have t1 : tk L (0, 0) 1 = ((1, 0), [2]) := tk_at (A := []) (R := (c.es.length : Int) :: c.es.flatMap entBytes) (by rw [hL]; simp) rfl rfl
  have t2 : tk L (1, 0) 1 = ((2, 0), [(c.es.length : Int)]) := tk_at (A := [2]) (R := c.es.flatMap entBytes) (by rw [hL]; simp) rfl rfl
  have t3 : decE L = ((2 + (c.es.flatMap entBytes).length, 0), c.es.map entN) := by
    unfold decE
    rw [t1]
    simp only
    rw [t2]
    simp only [num_one, Int.toNat_natCast]
    have := ents_at (L := L) (A := [2, (c.es.length : Int)]) c.es.length c.es [] (by rw [hL]; simp) (Nat.le_refl _) 2 rfl
    rw [List.take_length] at this
    exact this
  have hx : decX L = 2 := by unfold decX; rw [t1, num_one]
  have hO : ∀ sq cq, decO L sq cq = { zeroOb with kind := 2, es := .slice sq c.es.length cq } := fun sq cq => by simp [decO, hx, t3]
  have hC : decC L = ⟨0, fun _ => 0, c.es.map entN, []⟩ := by simp [decC, hx, t3]
  refine ⟨by rw [hx, hk], ?_, fun sq cq => ?_, fun sq cq => ?_, fun sq cq => ?_⟩
  · have hl : L.length = 2 + (c.es.flatMap entBytes).length := by rw [hL]; simp; omega
    simp [decP, hx, t3, hl]
  · rw [hO, hC]
    simp [rightB, sameB, countedO, countedCo, mayB, eqTo_self, eqAll_self entEq_self, eqAll, zeroOb, hn, named_map, hna]
  · rw [hO, hC, hL]
    have : (c.es.map entN).flatMap entBytes = c.es.flatMap entBytes := by rw [List.flatMap_map]; simp only [ent_back]
    simp [encB, this]
  · rw [hO, hC]
    have h0 : eqTo (fun _ => 0) c.bf 0 = true := rfl
    simp [sameB, hk, hb, hp, hnum, hnote, eqAll, zeroOb, eqTo_turn ht, eqAll_map ent_same, h0]
theorem back_commit {o : Ob} {c : Co} (hr : rightB o c = true) (hk : o.kind = 3) (hnum : 0 ≤ o.num ∧ o.num < 4294967296) : Back (encB o c) o c := by
  obtain ⟨⟨hn, hno⟩, hb, he⟩ := right_commit hr hk
  have hL : encB o c = 3 :: idBytes o.tree ++ ((c.ps.length : Int) :: c.ps.flatMap idBytes ++ (beBytes 4 o.num ++ ((o.note.size : Int) :: bytesOf o.note))) := by simp [encB, hk]
  generalize encB o c = L at hL
  have t1 : tk L (0, 0) 1 = ((1, 0), [3]) := tk_at (A := []) (R := idBytes o.tree ++ ((c.ps.length : Int) :: c.ps.flatMap idBytes ++ (beBytes 4 o.num ++ ((o.note.size : Int) :: bytesOf o.note)))) (by rw [hL]; simp) rfl rfl
  have t2 : cT L = ((33, 0), idL (idBytes o.tree)) := by
    unfold cT
    rw [t1]
    exact id_at (A := [3]) (R := (c.ps.length : Int) :: c.ps.flatMap idBytes ++ (beBytes 4 o.num ++ ((o.note.size : Int) :: bytesOf o.note))) (by rw [hL]; simp) rfl
  have t3 : tk L (33, 0) 1 = ((34, 0), [(c.ps.length : Int)]) := tk_at (A := 3 :: idBytes o.tree) (R := c.ps.flatMap idBytes ++ (beBytes 4 o.num ++ ((o.note.size : Int) :: bytesOf o.note))) (by rw [hL]; simp) (by simp [id_len]) rfl
  have hfl : (c.ps.flatMap idBytes).length = c.ps.length * 32 := by
    clear hn t1 t2 t3 hL hr
    induction c.ps with
    | nil => rfl
    | cons a r ih => simp [ih, id_len, Nat.add_mul]; omega
  have t4 : cP L = ((34 + c.ps.length * 32, 0), c.ps.map fun f => idL (idBytes f)) := by
    unfold cP
    rw [t2]
    simp only
    rw [t3]
    simp only [num_one, Int.toNat_natCast]
    have := ids_at (L := L) (A := 3 :: idBytes o.tree ++ [(c.ps.length : Int)]) c.ps.length c.ps (beBytes 4 o.num ++ ((o.note.size : Int) :: bytesOf o.note)) (by rw [hL]; simp) (Nat.le_refl _) 34 (by simp [id_len])
    rw [List.take_length, hfl] at this
    exact this
  have t5 : cN L = ((34 + c.ps.length * 32 + 4, 0), beBytes 4 o.num) := by
    unfold cN
    rw [t4]
    exact tk_at (A := 3 :: idBytes o.tree ++ ((c.ps.length : Int) :: c.ps.flatMap idBytes)) (R := (o.note.size : Int) :: bytesOf o.note) (by rw [hL]; simp) (by simp [id_len, hfl]; omega) (be_len _ _).symm
  have t6 : cS L = ((34 + c.ps.length * 32 + 4 + (o.note.size + 1), 0), o.note) := by
    unfold cS
    rw [t5]
    exact text_at (A := 3 :: idBytes o.tree ++ ((c.ps.length : Int) :: c.ps.flatMap idBytes) ++ beBytes 4 o.num) (R := []) (by rw [hL]; simp) (by simp [id_len, hfl, be_len]; omega)
  have hx : decX L = 3 := by unfold decX; rw [t1, num_one]
  have hO : ∀ sq cq, decO L sq cq = ⟨3, .slice none 0 0, .slice none 0 0, idL (idBytes o.tree), .slice sq c.ps.length cq, o.num, o.note⟩ := fun sq cq => by
    simp [decO, hx, commitOb, t2, t4, t5, t6, num_four hnum.1 hnum.2]
  have hC : decC L = ⟨0, fun _ => 0, [], c.ps.map fun f => idL (idBytes f)⟩ := by simp [decC, hx, commitCo, t4]
  refine ⟨by rw [hx, hk], ?_, fun sq cq => ?_, fun sq cq => ?_, fun sq cq => ?_⟩
  · have hl : L.length = 34 + c.ps.length * 32 + 4 + (o.note.size + 1) := by rw [hL]; simp [be_len, id_len, bytesOf_len, hfl]; omega
    simp [decP, hx, t6, hl]
  · rw [hO, hC]
    simp [rightB, sameB, countedO, countedCo, mayB, eqTo_self, eqAll_self (eq := idEq) (fun f => eqTo_self f 32), eqAll, hn, hno]
  · rw [hO, hC, hL]
    have : (c.ps.map fun f => idL (idBytes f)).flatMap idBytes = c.ps.flatMap idBytes := by rw [List.flatMap_map]; simp only [id_back]
    simp [encB, this, id_back]
  · rw [hO, hC]
    have h0 : eqTo (fun _ => 0) c.bf 0 = true := rfl
    have h1 : eqTo (idL (idBytes o.tree)) o.tree 32 = true := eqTo_true fun i hi => idL_at hi
    have h2 : eqAll idEq (c.ps.map fun f => idL (idBytes f)) c.ps = true := eqAll_map (fun f => eqTo_true fun i hi => idL_at hi) c.ps
    simp [sameB, hk, hb, he, eqAll, h0, h1, h2]
theorem back_any {o : Ob} {c : Co} (hr : rightB o c = true) (hnum : 0 ≤ o.num ∧ o.num < 4294967296) : Back (encB o c) o c := by
  rcases right_kind hr with h | h | h
  · exact back_blob hr h
  · exact back_tree hr h
  · exact back_commit hr h hnum
end Go.Proofs.Ytnaoaeapffgojaa
