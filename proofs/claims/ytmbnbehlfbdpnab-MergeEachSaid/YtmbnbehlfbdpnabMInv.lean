/- A region that draws its order, by what holds between two operations, whichever have come up. No function of the program is walked here. -/
import Derived.Test.YtmbnbehlfbdpnabMOrd
namespace Go.Proofs.Ytmbnbehlfbdpnab
open Go.RowKit

/-- How many have not come up. -/
def openN (l : Array Bool) : Nat := l.toList.countP (fun b => !b)
theorem openN_set {l : Array Bool} {i : Nat} (h : l.getD i true = false) : openN (l.setIfInBounds i true) < openN l := by
  have hi : i < l.size := by
    by_cases hi : i < l.size
    · exact hi
    · simp [Array.getElem?_eq_none (Nat.le_of_not_lt hi)] at h
  have hv : l.toList[i]'(by simpa using hi) = false := by simpa [hi] using h
  unfold openN
  rw [Array.toList_setIfInBounds, List.countP_set (by simpa using hi), hv]
  have : 0 < l.toList.countP (fun b => !b) := List.countP_pos_iff.2 ⟨false, by rw [← hv]; exact List.getElem_mem _, rfl⟩
  simp only [Bool.not_false, Bool.not_true, if_true, Bool.false_eq_true, if_false]
  omega
theorem ready_all {md : Region.Mode} {ops : Array Oper} {l : Array Bool} (hlt : ∀ (i : Nat) (o : Oper), ops[i]? = some o → ∀ e ∈ o.after, e.on < i) (h : Region.ready md ops l = []) (hs : l.size = ops.size) : ∀ j, j < ops.size → l.getD j false = true := by
  intro j
  induction j using Nat.strongRecOn with
  | ind j ih =>
    intro hj
    cases hb : l.getD j false with
    | true => rfl
    | false =>
      exfalso
      have hm : j ∈ Region.ready md ops l := by
        rw [mem_ready]
        refine ⟨?_, ops[j], Array.getElem?_eq_getElem hj, fun e he _ => ?_⟩
        · have : j < l.size := by omega
          simpa [this] using hb
        · have := hlt j _ (Array.getElem?_eq_getElem hj) e he
          exact ih _ this (by omega)
      rw [h] at hm
      cases hm
section
variable {P : Program} {md : Region.Mode} {ops : Array Oper} {Q : Exit → Act → World → Prop}
theorem wpAny_inv (Inv : Array Bool → Act → World → Prop) (hlt : ∀ (i : Nat) (o : Oper), ops[i]? = some o → ∀ e ∈ o.after, e.on < i)
    (hdone : ∀ l a w, (∀ j, j < ops.size → l.getD j false = true) → Inv l a w → Q .normal a w)
    (hstep : ∀ l a w i o, l.size = ops.size → Inv l a w → ops[i]? = some o → l.getD i true = false → (∀ e ∈ o.after, Region.binds md e = true → l.getD e.on false = true) →
      ∀ K : Act → World → Prop, (∀ a' w', Inv (l.setIfInBounds i true) a' w' → K a' w') → if Region.wanted o (yielded ops a.tmps) = true then Oper.wp P o a w K Q else K (a.put o.dst undef) w) :
    ∀ fuel l a w, l.size = ops.size → openN l ≤ fuel → Inv l a w → wpAny P md ops Q fuel l a w
  | 0, l, a, w, hs, hf, hi => by
    have hn : Region.ready md ops l = [] := by
      cases hr : Region.ready md ops l with
      | nil => rfl
      | cons i r =>
        have hm : i ∈ Region.ready md ops l := by rw [hr]; simp
        have := openN_set (mem_ready.1 hm).1
        omega
    exact ⟨hn, hdone l a w (ready_all hlt hn hs) hi⟩
  | fuel + 1, l, a, w, hs, hf, hi => by
    refine ⟨fun hn => hdone l a w (ready_all hlt hn hs) hi, fun i hm => ?_⟩
    obtain ⟨h0, o, ho, he⟩ := mem_ready.1 hm
    refine wpOp_step ho fun K hK => hstep l a w i o hs hi ho h0 he K fun a' w' h' => hK _ _ ?_
    have := openN_set h0
    exact wpAny_inv Inv hlt hdone hstep fuel _ a' w' (by simpa using hs) (by omega) h'
theorem openN_none (n : Nat) : openN (Array.replicate n false) = n := by
  unfold openN
  rw [Array.toList_replicate]
  simp [List.countP_replicate]
theorem region_inv {id : Nat} {a : Act} {w : World} (hm : P.follows .mixedOrders = true) (Inv : Array Bool → Act → World → Prop) (hlt : ∀ (i : Nat) (o : Oper), ops[i]? = some o → ∀ e ∈ o.after, e.on < i)
    (h0 : ∀ l, (∀ j, l.getD j false = false) → Inv l a w.drew)
    (hdone : ∀ l a w, (∀ j, j < ops.size → l.getD j false = true) → Inv l a w → Q .normal a w)
    (hstep : ∀ l a w i o, l.size = ops.size → Inv l a w → ops[i]? = some o → l.getD i true = false → (∀ e ∈ o.after, Region.binds .any e = true → l.getD e.on false = true) →
      ∀ K : Act → World → Prop, (∀ a' w', Inv (l.setIfInBounds i true) a' w' → K a' w') → if Region.wanted o (yielded ops a.tmps) = true then Oper.wp P o a w K Q else K (a.put o.dst undef) w) :
    (Code.region id ops true).wp P Q a w := by
  refine wp_region_any hm (wpAny_inv Inv hlt hdone hstep _ _ _ _ (by simp) (by rw [openN_none]; exact Nat.le_refl _) (h0 _ fun j => ?_))
  by_cases hj : j < ops.size <;> simp [hj]
end
end Go.Proofs.Ytmbnbehlfbdpnab
