/- What is read ends, or is wrong, at a place of the tokens. No function of the program is walked here. -/
import Derived.Test.YthnoiohganknnabDoorMrgF
namespace Go.Proofs.YthnoiohganknnabDoor
open Go.RowKit

/-- What is read ends, or is wrong, at a place of the tokens, not ahead of that one. -/
def bd (ts : List Tok) {α : Type} (r : Rs α) (p : Nat) : Prop := match r with | .ok _ q => p ≤ q ∧ q ≤ ts.length | .bad s => ∃ p', p ≤ p' ∧ p' ≤ ts.length ∧ s = herI ts p' | .out => True
section
variable {ts : List Tok} {α β : Type}
theorem bd_mono {r : Rs α} {p m : Nat} (h : bd ts r p) (hm : m ≤ p) : bd ts r m := by
  cases r with
  | ok v q => exact ⟨Nat.le_trans hm h.1, h.2⟩
  | bad s => obtain ⟨p', h1, h2, h3⟩ := h; exact ⟨p', Nat.le_trans hm h1, h2, h3⟩
  | out => trivial
theorem bd_bind {r : Rs α} {f : α → Nat → Rs β} {p m : Nat} (h : bd ts r p) (hm : m ≤ p) (hf : ∀ v q, p ≤ q → q ≤ ts.length → bd ts (f v q) q) : bd ts (r.bind f) m := by
  cases r with
  | ok v q => exact bd_mono (hf v q h.1 h.2) (Nat.le_trans hm h.1)
  | bad s => exact bd_mono (r := (.bad s : Rs β)) h hm
  | out => trivial
theorem bd_ite {c : Prop} [Decidable c] {a b : Rs α} {m : Nat} (h : c → bd ts a m) (h' : ¬ c → bd ts b m) : bd ts (if c then a else b) m := by
  split
  · rename_i hc; exact h hc
  · rename_i hc; exact h' hc
theorem bd_bad {p : Nat} (h : p ≤ ts.length) : bd ts (.bad (herI ts p) : Rs α) p := ⟨p, Nat.le_refl _, h, rfl⟩
theorem bd_need {b : Bool} {p : Nat} {k : Rs α} (hp : p ≤ ts.length) (h : b = true → bd ts k p) : bd ts (Rs.need b (herI ts p) k) p := by
  unfold Rs.need
  exact bd_ite h fun _ => bd_bad hp
theorem bd_ok {v : α} {p q : Nat} (h : p ≤ q) (hq : q ≤ ts.length) : bd ts (.ok v q) p := ⟨h, hq⟩
theorem bd_exp {p : Nat} {s : List UInt8} {k : Nat → Rs α} (hs : s ≠ []) (hp : p ≤ ts.length) (h : p < ts.length → bd ts (k (p + 1)) (p + 1)) : bd ts (expP ts s p k) p := bd_need hp fun hb => bd_mono (h (is_lt hb hs)) (by omega)
theorem bd_kin {p : Nat} {n : Int} {k : Tok → Nat → Rs α} (hn : n ≠ 0) (hp : p ≤ ts.length) (h : p < ts.length → bd ts (k (nxT ts p) (p + 1)) (p + 1)) : bd ts (kinP ts n p k) p := bd_need hp fun hb => bd_mono (h (kin_lt hb hn)) (by omega)
theorem bd_nam {p : Nat} {k : Tok → Nat → Rs α} (hp : p ≤ ts.length) (h : p < ts.length → bd ts (k (nxT ts p) (p + 1)) (p + 1)) : bd ts (namP ts p k) p := bd_need hp fun hb => bd_mono (h (nam_lt hb)) (by omega)
theorem bd_lea (k : Int) {p : Nat} (h : p < ts.length) : bd ts (leaP ts k p) p := ⟨by omega, by omega⟩
theorem bd_wor (k : Int) {p : Nat} (h : p ≤ ts.length) : bd ts (worP ts k p) p := bd_need h fun hb => bd_lea k (nam_lt hb)
theorem bd_va1 {p : Nat} (h : p ≤ ts.length) : bd ts (va1P ts p) p := by
  unfold va1P
  refine bd_ite (fun hc => bd_ok (by omega) (by have := kin_lt hc (by decide); omega)) fun _ => bd_ite (fun hc => bd_ok (by omega) (by have := kin_lt hc (by decide); omega)) fun _ => bd_ite (fun hc => bd_lea _ ?_) fun _ => bd_bad h
  rw [Bool.or_eq_true] at hc
  rcases hc with hc | hc <;> exact is_lt hc (by simp)
theorem bd_val {p : Nat} (h : p ≤ ts.length) : bd ts (valP ts p) p := by
  unfold valP
  refine bd_ite (fun hc => ?_) fun _ => bd_va1 h
  have hp := is_lt hc (by simp)
  exact bd_ite (fun _ => bd_bind (bd_va1 hp) (by omega) fun v q h1 h2 => bd_ok (Nat.le_refl _) h2) fun _ => bd_mono (bd_bad hp) (by omega)
theorem bd_typ {p : Nat} (h : p ≤ ts.length) : bd ts (typP ts p) p := by
  unfold typP
  refine bd_ite (fun hc => bd_lea _ ?_) fun _ => bd_ite (fun _ => bd_bind (bd_wor _ h) (Nat.le_refl _) fun v q h1 h2 => bd_exp (by simp) h2 fun h3 => bd_nam h3 fun h4 => bd_ok (Nat.le_refl _) h4) fun _ => bd_wor _ h
  rw [Bool.or_eq_true, Bool.or_eq_true] at hc
  rcases hc with (hc | hc) | hc <;> exact is_lt hc (by simp)
theorem bd_tyd (k : Int) {p : Nat} (h : p ≤ ts.length) : bd ts (tydP ts k p) p := by
  unfold tydP
  exact bd_nam h fun h1 => bd_bind (bd_typ h1) (Nat.le_refl _) fun v q _ h2 => bd_ok (Nat.le_refl _) h2
theorem bd_imp {p : Nat} (h : p ≤ ts.length) : bd ts (impP ts p) p := by
  unfold impP
  exact bd_exp (by simp) h fun h1 => bd_kin (by simp) h1 fun h2 => bd_ok (Nat.le_refl _) h2
theorem bd_con {p : Nat} (h : p ≤ ts.length) : bd ts (conP ts p) p := by
  unfold conP
  exact bd_exp (by simp) h fun h1 => bd_nam h1 fun h2 => bd_exp (by simp) h2 fun h3 => bd_bind (bd_val h3) (Nat.le_refl _) fun v q _ h4 => bd_ok (Nat.le_refl _) h4
theorem bd_rec {p : Nat} (h : p ≤ ts.length) : bd ts (recP ts p) p := by
  unfold recP
  exact bd_nam h fun h1 => bd_bind (bd_wor _ h1) (Nat.le_refl _) fun v q _ h4 => bd_ok (Nat.le_refl _) h4
structure BdA (ts : List Tok) (n : Nat) : Prop where
  bin : ∀ l p, p ≤ ts.length → bd ts ((fns ts n).bin l p) p
  binL : ∀ l fr t p, p ≤ ts.length → bd ts ((fns ts n).binL l fr t p) p
  una : ∀ p, p ≤ ts.length → bd ts ((fns ts n).una p) p
  post : ∀ p, p ≤ ts.length → bd ts ((fns ts n).post p) p
  posL : ∀ fr t p, p ≤ ts.length → bd ts ((fns ts n).posL fr t p) p
  prim : ∀ p, p ≤ ts.length → bd ts ((fns ts n).prim p) p
  argL : ∀ l p, p ≤ ts.length → bd ts ((fns ts n).argL l p) p
  parL : ∀ l p, p ≤ ts.length → bd ts ((fns ts n).parL l p) p
  fieL : ∀ l p, p ≤ ts.length → bd ts ((fns ts n).fieL l p) p
  stmt : ∀ p, p ≤ ts.length → bd ts ((fns ts n).stmt p) p
  bran : ∀ p, p ≤ ts.length → bd ts ((fns ts n).bran p) p
  stmL : ∀ l p, p ≤ ts.length → bd ts ((fns ts n).stmL l p) p
  impL : ∀ l p, p ≤ ts.length → bd ts ((fns ts n).impL l p) p
  decL : ∀ l p, p ≤ ts.length → bd ts ((fns ts n).decL l p) p
theorem bd_lis {one : Nat → Rs Pt} {more : List Pt → Nat → Rs (List Pt)} {p : Nat} (h1 : ∀ q, q ≤ ts.length → bd ts (one q) q) (h2 : ∀ l q, q ≤ ts.length → bd ts (more l q) q) (hp : p ≤ ts.length) : bd ts (lisP ts one more p) p := by
  unfold lisP
  exact bd_exp (by simp) hp fun h => bd_ite (fun hc => bd_ok (by omega) (is_lt hc (by simp))) fun _ => bd_bind (h1 _ h) (Nat.le_refl _) fun v q _ hq => bd_bind (h2 _ _ hq) (Nat.le_refl _) fun l q' _ hq' => bd_exp (by simp) hq' fun h' => bd_ok (Nat.le_refl _) h'
theorem bd_lin {more : List Pt → Nat → Rs (List Pt)} {p : Nat} (h2 : ∀ l q, q ≤ ts.length → bd ts (more l q) q) (hp : p ≤ ts.length) : bd ts (linP ts more p) p := by
  unfold linP
  exact bd_exp (by simp) hp fun h => bd_bind (h2 _ _ h) (Nat.le_refl _) fun l q' _ hq' => bd_exp (by simp) hq' fun h' => bd_ok (Nat.le_refl _) h'
theorem bd_blo {n p : Nat} (ih : BdA ts n) (hp : p ≤ ts.length) : bd ts (bloP ts (fns ts n) p) p := by
  unfold bloP
  exact bd_bind (bd_lin ih.stmL hp) (Nat.le_refl _) fun l q _ hq => bd_ok (Nat.le_refl _) hq
theorem bd_var {n p : Nat} (ih : BdA ts n) (hp : p ≤ ts.length) : bd ts (varP ts (fns ts n) p) p := by
  unfold varP
  exact bd_exp (by simp) hp fun h1 => bd_nam h1 fun h2 => bd_bind (bd_typ h2) (Nat.le_refl _) fun v q _ hq => bd_ite (fun hc => bd_bind (ih.bin _ _ (is_lt hc (by simp))) (by omega) fun x q' _ hq' => bd_ok (Nat.le_refl _) hq') fun _ => bd_ok (Nat.le_refl _) hq
theorem bd_dec {n p : Nat} (ih : BdA ts n) (hp : p ≤ ts.length) : bd ts (decP ts (fns ts n) p) p := by
  have hfun : ∀ fr l q, q ≤ ts.length → bd ts (funR ts (fns ts n) fr l q) q := fun fr l q hq => by
    unfold funR
    exact bd_nam hq fun h1 => bd_bind (bd_lis (fun _ => bd_tyd 9) ih.parL h1) (Nat.le_refl _) fun ps q1 _ h2 => bd_ite (fun _ => bd_bind (bd_blo ih h2) (Nat.le_refl _) fun b q2 _ h3 => bd_ok (Nat.le_refl _) h3) fun _ => bd_bind (bd_typ h2) (Nat.le_refl _) fun v q2 _ h3 => bd_bind (bd_blo ih h3) (Nat.le_refl _) fun b q3 _ h4 => bd_ok (Nat.le_refl _) h4
  unfold decP
  refine bd_ite (fun _ => bd_con hp) fun _ => bd_ite (fun _ => bd_var ih hp) fun _ => bd_ite (fun _ => ?_) fun _ => bd_ite (fun _ => ?_) fun _ => bd_bad hp
  · unfold strP
    exact bd_exp (by simp) hp fun h1 => bd_nam h1 fun h2 => bd_exp (by simp) h2 fun h3 => bd_bind (bd_lin ih.fieL h3) (Nat.le_refl _) fun l q _ hq => bd_ok (Nat.le_refl _) hq
  · unfold funP
    exact bd_exp (by simp) hp fun h1 => bd_ite (fun hc => bd_bind (bd_rec (is_lt hc (by simp))) (by omega) fun v q _ hq => bd_exp (by simp) hq fun h2 => hfun _ _ _ h2) fun _ => hfun _ _ _ h1
theorem bdA (n : Nat) : BdA ts n := by
  induction n with
  | zero => constructor <;> (intros; trivial)
  | succ n ih =>
    constructor
    · intro l p hp
      show bd ts (if l = 5 then (fns ts n).una p else ((fns ts n).bin (l + 1) p).bind fun t q => (fns ts n).binL l (herI ts p) t q) p
      exact bd_ite (fun _ => ih.una p hp) fun _ => bd_bind (ih.bin _ _ hp) (Nat.le_refl _) fun t q _ hq => ih.binL _ _ _ _ hq
    · intro l fr t p hp
      refine bd_ite (fun h => ?_) fun _ => bd_ok (Nat.le_refl _) hp
      have h1 := row_lt h
      exact bd_bind (ih.bin _ _ h1) (by omega) fun u q _ hq => bd_ite (fun _ => bd_ok (Nat.le_refl _) hq) fun _ => ih.binL _ _ _ _ hq
    · intro p hp
      refine bd_ite (fun h => ?_) fun _ => ih.post p hp
      have h1 : p < ts.length := by
        rw [Bool.or_eq_true] at h
        rcases h with h | h <;> exact is_lt h (by simp)
      exact bd_bind (ih.una _ h1) (by omega) fun u q _ hq => bd_ok (Nat.le_refl _) hq
    · intro p hp
      exact bd_bind (ih.prim p hp) (Nat.le_refl _) fun t q _ hq => ih.posL _ _ _ hq
    · intro fr t p hp
      refine bd_ite (fun h => ?_) fun _ => bd_ite (fun h => ?_) fun _ => bd_ok (Nat.le_refl _) hp
      · have h1 := is_lt h (by simp)
        exact bd_mono (bd_nam h1 fun h2 => ih.posL _ _ _ h2) (by omega)
      · exact bd_bind (bd_lis (ih.bin 0) ih.argL hp) (Nat.le_refl _) fun l q _ hq => ih.posL _ _ _ hq
    · intro p hp
      refine bd_ite (fun h => ?_) fun _ => bd_ite (fun h => bd_lea _ (nam_lt h)) fun _ => bd_va1 hp
      exact bd_bind (ih.bin _ _ (is_lt h (by simp))) (by omega) fun t q _ hq => bd_exp (by simp) hq fun h' => bd_ok (Nat.le_refl _) h'
    · intro l p hp
      exact bd_ite (fun h => bd_bind (ih.bin _ _ (is_lt h (by simp))) (by omega) fun t q _ hq => ih.argL _ _ hq) fun _ => bd_ok (Nat.le_refl _) hp
    · intro l p hp
      exact bd_ite (fun h => bd_bind (bd_tyd _ (is_lt h (by simp))) (by omega) fun t q _ hq => ih.parL _ _ hq) fun _ => bd_ok (Nat.le_refl _) hp
    · intro l p hp
      exact bd_ite (fun _ => bd_ok (Nat.le_refl _) hp) fun _ => bd_bind (bd_tyd _ hp) (Nat.le_refl _) fun t q _ hq => bd_ite (fun _ => ih.fieL _ _ hq) fun _ => bd_kin (by simp) hq fun h => ih.fieL _ _ h
    · intro p hp
      refine bd_ite (fun _ => bd_blo ih hp) fun _ => bd_ite (fun _ => bd_var ih hp) fun _ => bd_ite (fun _ => ih.bran p hp) fun _ => bd_ite (fun _ => ?_) fun _ => bd_ite (fun _ => ?_) fun _ => bd_ite (fun _ => ?_) fun _ => ?_
      · unfold looP
        exact bd_exp (by simp) hp fun h1 => bd_bind (ih.bin _ _ h1) (Nat.le_refl _) fun x q _ hq => bd_bind (bd_blo ih hq) (Nat.le_refl _) fun b q' _ hq' => bd_ok (Nat.le_refl _) hq'
      · unfold resP
        exact bd_exp (by simp) hp fun h1 => bd_ite (fun _ => bd_bind (ih.bin _ _ h1) (Nat.le_refl _) fun x q _ hq => bd_ok (Nat.le_refl _) hq) fun _ => bd_ok (Nat.le_refl _) h1
      · unfold shoP
        exact bd_nam hp fun h1 => bd_exp (by simp) h1 fun h2 => bd_bind (ih.bin _ _ h2) (Nat.le_refl _) fun x q _ hq => bd_ok (Nat.le_refl _) hq
      · unfold simP
        exact bd_bind (ih.bin _ _ hp) (Nat.le_refl _) fun x q _ hq => bd_ite (fun hc => bd_bind (ih.bin _ _ (is_lt hc (by simp))) (by omega) fun y q' _ hq' => bd_ok (Nat.le_refl _) hq') fun _ => bd_ok (Nat.le_refl _) hq
    · intro p hp
      unfold fns
      dsimp only
      exact bd_exp (by simp) hp fun h1 => bd_bind (ih.bin _ _ h1) (Nat.le_refl _) fun x q _ hq => bd_bind (bd_blo ih hq) (Nat.le_refl _) fun b q' _ hq' => bd_ite (fun hc => bd_bind (p := q' + 1) (bd_ite (fun _ => ih.bran _ (is_lt hc (by simp))) fun _ => bd_blo ih (is_lt hc (by simp))) (by omega) fun c q'' _ hq'' => bd_ok (Nat.le_refl _) hq'') fun _ => bd_ok (Nat.le_refl _) hq'
    · intro l p hp
      exact bd_ite (fun _ => bd_ok (Nat.le_refl _) hp) fun _ => bd_bind (ih.stmt _ hp) (Nat.le_refl _) fun t q _ hq => bd_ite (fun _ => ih.stmL _ _ hq) fun _ => bd_kin (by simp) hq fun h => ih.stmL _ _ h
    · intro l p hp
      exact bd_ite (fun _ => bd_bind (bd_imp hp) (Nat.le_refl _) fun t q _ hq => bd_kin (by simp) hq fun h => ih.impL _ _ h) fun _ => bd_ok (Nat.le_refl _) hp
    · intro l p hp
      exact bd_ite (fun _ => bd_bind (bd_dec ih hp) (Nat.le_refl _) fun t q _ hq => bd_kin (by simp) hq fun h => ih.decL _ _ h) fun _ => bd_ok (Nat.le_refl _) hp
theorem bd_fil (n : Nat) {p : Nat} (hp : p ≤ ts.length) : bd ts (filP ts n p) p := by
  have ih := bdA (ts := ts) n
  unfold filP
  exact bd_exp (by simp) hp fun h1 => bd_nam h1 fun h2 => bd_kin (by simp) h2 fun h3 => bd_bind (ih.impL _ _ h3) (Nat.le_refl _) fun l q _ hq => bd_bind (ih.decL _ _ hq) (Nat.le_refl _) fun l' q' _ hq' => bd_ok (Nat.le_refl _) hq'
end
end Go.Proofs.YthnoiohganknnabDoor
