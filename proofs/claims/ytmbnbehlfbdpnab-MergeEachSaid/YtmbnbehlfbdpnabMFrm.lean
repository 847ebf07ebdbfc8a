/- Frames as functions. No function of the program is walked here. -/
import Derived.Test.YtmbnbehlfbdpnabMInv
namespace Go.Proofs.Ytmbnbehlfbdpnab
open Go.RowKit

def updV (f : Nat → Value) (d : Nat) (v : Value) : Nat → Value := fun j => if j = d then v else f j
def frm (n : Nat) (f : Nat → Value) : Array Value := Array.ofFn (n := n) fun j => f j.val
theorem updV_same (f : Nat → Value) (d : Nat) (v : Value) : updV f d v d = v := by simp [updV]
theorem updV_other {f : Nat → Value} {d j : Nat} {v : Value} (h : j ≠ d) : updV f d v j = f j := by simp [updV, h]
theorem frm_set (n : Nat) (f : Nat → Value) (d : Nat) (v : Value) : (frm n f).setIfInBounds d v = frm n (updV f d v) := by
  apply Array.ext
  · simp [frm]
  · intro i h1 h2
    have hi : i < n := by simpa [frm] using h2
    rw [Array.getElem_setIfInBounds (by simpa [frm] using hi)]
    by_cases hj : d = i
    · subst hj; simp [frm, updV]
    · have hj' : ¬ i = d := fun e => hj e.symm
      simp [frm, updV, hj, hj']
theorem frm_eval {n d : Nat} (f : Nat → Value) (df : List Deferred) (h : d < n) : Act.eval ⟨frm n f, df⟩ (.tmp d) = f d := by
  simp [Act.eval, frm, h]
theorem frm_func {n : Nat} (f : Nat → Value) (df : List Deferred) (g : FuncId) : Act.eval ⟨frm n f, df⟩ (.func g) = .func (.func g) #[] #[] := rfl
theorem frm_put (n : Nat) (f : Nat → Value) (df : List Deferred) (d : Nat) (v : Value) : Act.put ⟨frm n f, df⟩ (some d) v = ⟨frm n (updV f d v), df⟩ := by
  simp [Act.put, frm_set]
theorem frm_put0 (n : Nat) (f : Nat → Value) (df : List Deferred) (v : Value) : Act.put ⟨frm n f, df⟩ none v = ⟨frm n f, df⟩ := rfl
theorem frm_of (A : Array Value) : A = frm A.size (fun j => A.getD j undef) := by
  apply Array.ext
  · simp [frm]
  · intro i h1 h2
    simp [frm]
theorem wp_frm {P : Program} {c : Code} {Q : Exit → Act → World → Prop} {A : Array Value} {df : List Deferred} {w : World} (n : Nat) (hn : A.size = n) (h : Code.wp P c Q ⟨frm n (fun j => A.getD j undef), df⟩ w) : Code.wp P c Q ⟨A, df⟩ w := by
  subst hn
  rw [frm_of A]
  exact h
theorem frm_congr {n : Nat} {f g : Nat → Value} (h : ∀ j, j < n → f j = g j) : frm n f = frm n g := by
  apply Array.ext
  · simp [frm]
  · intro i h1 h2
    have hi : i < n := by simpa [frm] using h2
    simp [frm]
    exact h i hi
/-- An operation waits for another one. -/
def waitsB (o : Oper) (d : Nat) : Bool := o.after.any fun e => e.on == d && Region.binds .any e
theorem waits_on {o : Oper} {d : Nat} {l : Array Bool} (h : waitsB o d = true) (he : ∀ e ∈ o.after, Region.binds .any e = true → l.getD e.on false = true) : l.getD d false = true := by
  unfold waitsB at h
  rw [Array.any_eq_true'] at h
  obtain ⟨e, hm, hb⟩ := h
  simp only [Bool.and_eq_true, beq_iff_eq] at hb
  rw [← hb.1]
  exact he e hm hb.2
def backB (ops : Array Oper) : Bool := (List.range ops.size).all fun i => match ops[i]? with
  | some o => o.after.all fun e => decide (e.on < i)
  | none => true
theorem back_of {ops : Array Oper} (h : backB ops = true) : ∀ (i : Nat) (o : Oper), ops[i]? = some o → ∀ e ∈ o.after, e.on < i := by
  intro i o ho e he
  unfold backB at h
  rw [List.all_eq_true] at h
  have hi := h i (List.mem_range.2 (Array.getElem?_eq_some_iff.1 ho).1)
  rw [ho] at hi
  simp only [Array.all_eq_true'] at hi
  exact of_decide_eq_true (hi e he)
theorem set_get {l : Array Bool} {i j : Nat} (hi : i < l.size) : (l.setIfInBounds i true).getD j false = (if i = j then true else l.getD j false) := by
  by_cases h : i = j
  · subst h; simp [hi]
  · simp [h, Array.getElem?_setIfInBounds_ne h]
end Go.Proofs.Ytmbnbehlfbdpnab
