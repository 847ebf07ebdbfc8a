/- What stands behind the first wrong token is no matter; more rounds change nothing. No function of the program is walked here. -/
/- Functions, declarations and files that were written are read as they were. No function of the program is walked here. -/
/- Words, numbers, texts and signs that may stand in a tree. -/
/- What is read is the tree of a file, and all that it says may stand. No function of the program is walked here. -/
import Derived.Test.YtbadafkfjfbnlaaGreatDoorMrgF
import Derived.Test.YtbadafkfjfbnlaaGreatDoorMrgQ
import Derived.Test.YtbadafkfjfbnlaaGreatDoorMrgP
namespace Go.Proofs.YtbadafkfjfbnlaaGreatDoor
set_option maxRecDepth 100000
open Go.RowKit

/-- Two rows of tokens agree at the places that are known. -/
structure Kn (ts us : List Tok) (K : Nat → Prop) : Prop where
  down : ∀ p q, p ≤ q → K q → K p
  nx : ∀ p, K p → nxT ts p = nxT us p
  lt : ∀ p, K p → (p < ts.length ↔ p < us.length)
/-- What was read ends behind all that is known. -/
def farR (ts : List Tok) (K : Nat → Prop) {α : Type} (r : Rs α) : Prop := match r with | .ok _ q => ¬ K q | .bad s => ∃ p, ¬ K p ∧ s = herI ts p | .out => True
/-- What was read is the same, or ends behind all that is known. -/
def relR (ts : List Tok) (K : Nat → Prop) {α : Type} (r s : Rs α) : Prop := match r with | .ok v q => K q → s = .ok v q | .bad x => (∃ p, ¬ K p ∧ x = herI ts p) ∨ s = .bad x | .out => True
/-- So of what begins at a place. -/
def qR (ts : List Tok) (K : Nat → Prop) (p : Nat) {α : Type} (r s : Rs α) : Prop := (K p → relR ts K r s) ∧ (¬ K p → farR ts K r)
section
variable {ts us : List Tok} {K : Nat → Prop} {α β : Type}
theorem far_rel {r : Rs α} (s : Rs α) (h : farR ts K r) : relR ts K r s := by
  cases r with
  | ok v q => exact fun hk => (h hk).elim
  | bad x => exact .inl h
  | out => trivial
theorem far_bind {r : Rs α} {f : α → Nat → Rs β} (h : farR ts K r) (hf : ∀ v q, ¬ K q → farR ts K (f v q)) : farR ts K (r.bind f) := by
  cases r with
  | ok v q => exact hf v q h
  | bad x => exact h
  | out => trivial
theorem q_mono (hK : Kn ts us K) {p q : Nat} {r s : Rs α} (h : qR ts K q r s) (hp : p ≤ q) : qR ts K p r s := by
  refine ⟨fun _ => ?_, fun hn => h.2 fun hk => hn (hK.down p q hp hk)⟩
  by_cases hk : K q
  · exact h.1 hk
  · exact far_rel s (h.2 hk)
theorem q_bind {p : Nat} {r s : Rs α} {f g : α → Nat → Rs β} (h : qR ts K p r s) (hf : ∀ v q, (K q → K p) → qR ts K q (f v q) (g v q)) : qR ts K p (r.bind f) (s.bind g) := by
  constructor
  · intro hp
    have h1 := h.1 hp
    cases r with
    | ok v q =>
      have h2 := hf v q fun _ => hp
      by_cases hq : K q
      · rw [h1 hq]
        exact h2.1 hq
      · exact far_rel _ (h2.2 hq)
    | bad x =>
      rcases h1 with h1 | h1
      · exact .inl h1
      · rw [h1]; exact .inr rfl
    | out => trivial
  · intro hp
    have h1 := h.2 hp
    cases r with
    | ok v q => exact (hf v q fun hq => (h1 hq).elim).2 h1
    | bad x => exact h1
    | out => trivial
theorem q_ok {p q : Nat} {v v' : α} (hq : K q → K p) (hv : K q → v = v') : qR ts K p (.ok v q) (.ok v' q) :=
  ⟨fun _ hk => by rw [hv hk], fun hn hk => hn (hq hk)⟩
theorem q_ite {p : Nat} {c c' : Prop} [Decidable c] [Decidable c'] {a b a' b' : Rs α} (hc : K p → (c ↔ c')) (h1 : qR ts K p a a') (h2 : qR ts K p b b') : qR ts K p (if c then a else b) (if c' then a' else b') := by
  constructor
  · intro hp
    by_cases h : c
    · rw [if_pos h, if_pos ((hc hp).1 h)]; exact h1.1 hp
    · rw [if_neg h, if_neg fun h' => h ((hc hp).2 h')]; exact h2.1 hp
  · intro hp
    by_cases h : c
    · rw [if_pos h]; exact h1.2 hp
    · rw [if_neg h]; exact h2.2 hp
theorem far_ite {c : Prop} [Decidable c] {a b : Rs α} (h1 : c → farR ts K a) (h2 : ¬ c → farR ts K b) : farR ts K (if c then a else b) := by
  split
  · rename_i h; exact h1 h
  · rename_i h; exact h2 h
theorem Kn.he (hK : Kn ts us K) {p : Nat} (h : K p) : herI ts p = herI us p := by
  unfold herI behI
  have h1 := hK.lt p h
  rw [← hK.nx p h, ← hK.nx (p - 1) (hK.down _ _ (by omega) h)]
  by_cases hp : p < ts.length
  · rw [if_pos hp, if_pos (h1.1 hp)]
  · rw [if_neg hp, if_neg fun h' => hp (h1.2 h')]
theorem Kn.be (hK : Kn ts us K) {p : Nat} (h : K p) : behI ts p = behI us p := by
  unfold behI
  rw [← hK.nx (p - 1) (hK.down _ _ (by omega) h)]
theorem Kn.is (hK : Kn ts us K) {p : Nat} (h : K p) (s : List UInt8) : isT ts p s = isT us p s := by unfold isT; rw [hK.nx p h]
theorem Kn.isi (hK : Kn ts us K) (p : Nat) (s : List UInt8) : K p → (isT ts p s = true ↔ isT us p s = true) := fun h => by rw [hK.is h]
theorem Kn.na (hK : Kn ts us K) {p : Nat} (h : K p) : namB ts p = namB us p := by unfold namB; rw [hK.nx p h]
theorem Kn.one (hK : Kn ts us K) {p : Nat} (h : K (p + 1)) : K p := hK.down _ _ (by omega) h
theorem q_bad (hK : Kn ts us K) (p : Nat) : qR ts K p (.bad (herI ts p) : Rs α) (.bad (herI us p)) := ⟨fun h => .inr (by rw [hK.he h]), fun h => ⟨p, h, rfl⟩⟩
theorem q_need (hK : Kn ts us K) {p : Nat} {b b' : Bool} {k k' : Rs α} (hb : K p → b = b') (h : qR ts K (p + 1) k k') : qR ts K p (Rs.need b (herI ts p) k) (Rs.need b' (herI us p) k') := by
  unfold Rs.need
  exact q_ite (fun hp => by rw [hb hp]) (q_mono hK h (by omega)) (q_bad hK p)
theorem far_need (hK : Kn ts us K) {p : Nat} {b : Bool} {k : Rs α} (hp : ¬ K p) (hk : ¬ K (p + 1) → farR ts K k) : farR ts K (Rs.need b (herI ts p) k) := by
  unfold Rs.need
  exact far_ite (fun _ => hk fun h => hp (hK.one h)) fun _ => ⟨p, hp, rfl⟩
theorem q_exp (hK : Kn ts us K) {p : Nat} {s : List UInt8} {k k' : Nat → Rs α} (h : (K (p + 1) → K p) → qR ts K (p + 1) (k (p + 1)) (k' (p + 1))) : qR ts K p (expP ts s p k) (expP us s p k') := q_need hK (fun hp => hK.is hp s) (h hK.one)
theorem q_kin (hK : Kn ts us K) {p : Nat} {n : Int} {k k' : Tok → Nat → Rs α} (h : (K (p + 1) → K p) → qR ts K (p + 1) (k (nxT ts p) (p + 1)) (k' (nxT us p) (p + 1))) : qR ts K p (kinP ts n p k) (kinP us n p k') := q_need hK (fun hp => by rw [hK.nx p hp]) (h hK.one)
theorem q_nam (hK : Kn ts us K) {p : Nat} {k k' : Tok → Nat → Rs α} (h : (K (p + 1) → K p) → qR ts K (p + 1) (k (nxT ts p) (p + 1)) (k' (nxT us p) (p + 1))) : qR ts K p (namP ts p k) (namP us p k') := q_need hK (fun hp => hK.na hp) (h hK.one)
theorem mk_eq {k n : Int} {x x' : ByteArray} {a a' f f' t t' : Int} {l l' : List Pt} (h1 : x = x') (h2 : a = a') (h3 : f = f') (h4 : t = t') (h5 : l = l') : Pt.mk k x n a f t l = .mk k x' n a' f' t' l' := by rw [h1, h2, h3, h4, h5]
theorem q_lea (hK : Kn ts us K) (k : Int) (p : Nat) : qR ts K p (leaP ts k p) (leaP us k p) :=
  q_ok hK.one fun h => mk_eq (by rw [hK.nx p (hK.one h)]) (by rw [hK.nx p (hK.one h)]) (hK.he (hK.one h)) (hK.be h) rfl
theorem q_wor (hK : Kn ts us K) (k : Int) (p : Nat) : qR ts K p (worP ts k p) (worP us k p) := by
  unfold worP Rs.need
  exact q_ite (fun hp => by rw [hK.na hp]) (q_lea hK k p) (q_bad hK p)
theorem q_va1 (hK : Kn ts us K) (p : Nat) : qR ts K p (va1P ts p) (va1P us p) := by
  unfold va1P
  refine q_ite (fun hp => by rw [hK.nx p hp]) (q_ok hK.one fun h => ?_) (q_ite (fun hp => by rw [hK.nx p hp]) (q_ok hK.one fun h => ?_) (q_ite (fun hp => by rw [hK.is hp, hK.is hp]) (q_lea hK _ _) (q_bad hK p)))
  · rw [hK.nx p (hK.one h), hK.he (hK.one h), hK.be h]
  · rw [hK.nx p (hK.one h), hK.he (hK.one h), hK.be h]
theorem q_val (hK : Kn ts us K) (p : Nat) : qR ts K p (valP ts p) (valP us p) := by
  unfold valP
  refine q_ite (fun hp => by rw [hK.is hp]) (q_mono hK (q := p + 1) (q_ite (fun hp => by rw [hK.nx _ hp]) (q_bind (q_va1 hK _) fun v q hq => q_ok (fun h => h) fun h => ?_) (q_bad hK _)) (by omega)) (q_va1 hK p)
  have hp := hK.one (hq h)
  rw [hK.nx p hp, hK.he hp, hK.be h]
theorem q_typ (hK : Kn ts us K) (p : Nat) : qR ts K p (typP ts p) (typP us p) := by
  unfold typP
  refine q_ite (fun hp => by rw [hK.is hp, hK.is hp, hK.is hp]) (q_lea hK _ _) ?_
  have hfar : qR ts K p ((worP ts 23 p).bind fun v q => expP ts [46] q fun q => namP ts q fun t q => Rs.ok (Pt.mk 12 t.text 0 t.pos (herI ts p) (behI ts q) [v]) q) ((worP us 23 p).bind fun v q => expP us [46] q fun q => namP us q fun t q => Rs.ok (Pt.mk 12 t.text 0 t.pos (herI us p) (behI us q) [v]) q) := by
    refine q_bind (q_wor hK _ _) fun v q hq => q_exp hK fun h1 => q_nam hK fun h2 => q_ok (fun h => h) fun h => ?_
    have hp := hq (h1 (h2 h))
    rw [hK.nx _ (h2 h), hK.he hp, hK.be h]
  by_cases h1 : K (p + 1)
  · exact q_ite (fun _ => by rw [hK.is h1]) hfar (q_wor hK _ _)
  · by_cases hn : namB ts p = true
    · have f2 : farR ts K (worP ts 11 p) := by unfold worP Rs.need; rw [if_pos hn]; exact h1
      have f1 : farR ts K ((worP ts 23 p).bind fun v q => expP ts [46] q fun q => namP ts q fun t q => Rs.ok (Pt.mk 12 t.text 0 t.pos (herI ts p) (behI ts q) [v]) q) := by
        have e : worP ts 23 p = leaP ts 23 p := by unfold worP Rs.need; rw [if_pos hn]
        rw [e]
        show farR ts K (expP ts [46] (p + 1) fun q => namP ts q fun t q => Rs.ok (Pt.mk 12 t.text 0 t.pos (herI ts p) (behI ts q) [Pt.mk 23 (nxT ts p).text 0 (nxT ts p).pos (herI ts p) (behI ts (p + 1)) []]) q)
        exact far_need hK h1 fun h2 => far_need hK h2 fun h3 => h3
      have f : farR ts K (if isT ts (p + 1) [46] = true then (worP ts 23 p).bind fun v q => expP ts [46] q fun q => namP ts q fun t q => Rs.ok (Pt.mk 12 t.text 0 t.pos (herI ts p) (behI ts q) [v]) q else worP ts 11 p) := far_ite (fun _ => f1) fun _ => f2
      exact ⟨fun _ => far_rel _ f, fun _ => f⟩
    · have e : ∀ (X : List Tok) (k : Int), namB X p = false → worP X k p = .bad (herI X p) := fun X k h => by unfold worP Rs.need; rw [h]; rfl
      have hn' : namB ts p = false := by simpa using hn
      rw [e ts 23 hn', e ts 11 hn']
      constructor
      · intro hp
        have hu : namB us p = false := by rw [← hK.na hp]; exact hn'
        rw [e us 23 hu, e us 11 hu, hK.he hp]
        have : ∀ (c c' : Prop) [Decidable c] [Decidable c'] (y : Int), relR ts K (if c then (.bad y : Rs Pt).bind (fun v q => expP ts [46] q fun q => namP ts q fun t q => Rs.ok (Pt.mk 12 t.text 0 t.pos (herI us p) (behI ts q) [v]) q) else .bad y) (if c' then (.bad y : Rs Pt).bind (fun v q => expP us [46] q fun q => namP us q fun t q => Rs.ok (Pt.mk 12 t.text 0 t.pos (herI us p) (behI us q) [v]) q) else .bad y) := fun c c' _ _ y => by
          split <;> split <;> exact .inr rfl
        exact this _ _ _
      · intro hp
        exact far_ite (fun _ => ⟨p, hp, rfl⟩) fun _ => ⟨p, hp, rfl⟩
theorem q_tyd (hK : Kn ts us K) (k : Int) (p : Nat) : qR ts K p (tydP ts k p) (tydP us k p) := by
  unfold tydP
  refine q_nam hK fun h1 => q_bind (q_typ hK _) fun v q hq => q_ok (fun h => h) fun h => ?_
  have hp := h1 (hq h)
  rw [hK.nx p hp, hK.he hp, hK.be h]
theorem q_imp (hK : Kn ts us K) (p : Nat) : qR ts K p (impP ts p) (impP us p) := by
  unfold impP
  refine q_exp hK fun h1 => q_kin hK fun h2 => q_ok (fun h => h) fun h => ?_
  rw [hK.nx _ (h2 h), hK.he (h1 (h2 h)), hK.be h]
theorem q_con (hK : Kn ts us K) (p : Nat) : qR ts K p (conP ts p) (conP us p) := by
  unfold conP
  refine q_exp hK fun h1 => q_nam hK fun h2 => q_exp hK fun h3 => q_bind (q_val hK _) fun v q hq => q_ok (fun h => h) fun h => ?_
  rw [hK.nx _ (h2 (h3 (hq h))), hK.he (h1 (h2 (h3 (hq h)))), hK.be h]
theorem q_rec (hK : Kn ts us K) (p : Nat) : qR ts K p (recP ts p) (recP us p) := by
  unfold recP
  refine q_nam hK fun h1 => q_bind (q_wor hK _ _) fun v q hq => q_ok (fun h => h) fun h => ?_
  have hp := h1 (hq h)
  rw [hK.nx p hp, hK.he hp, hK.be h]
structure RlA (ts us : List Tok) (K : Nat → Prop) (n m : Nat) : Prop where
  bin : ∀ l p, qR ts K p ((fns ts n).bin l p) ((fns us m).bin l p)
  binL : ∀ l fr fr' t t' p, (K p → fr = fr' ∧ t = t') → qR ts K p ((fns ts n).binL l fr t p) ((fns us m).binL l fr' t' p)
  una : ∀ p, qR ts K p ((fns ts n).una p) ((fns us m).una p)
  post : ∀ p, qR ts K p ((fns ts n).post p) ((fns us m).post p)
  posL : ∀ fr fr' t t' p, (K p → fr = fr' ∧ t = t') → qR ts K p ((fns ts n).posL fr t p) ((fns us m).posL fr' t' p)
  prim : ∀ p, qR ts K p ((fns ts n).prim p) ((fns us m).prim p)
  argL : ∀ l l' p, (K p → l = l') → qR ts K p ((fns ts n).argL l p) ((fns us m).argL l' p)
  parL : ∀ l l' p, (K p → l = l') → qR ts K p ((fns ts n).parL l p) ((fns us m).parL l' p)
  fieL : ∀ l l' p, (K p → l = l') → qR ts K p ((fns ts n).fieL l p) ((fns us m).fieL l' p)
  stmt : ∀ p, qR ts K p ((fns ts n).stmt p) ((fns us m).stmt p)
  bran : ∀ p, qR ts K p ((fns ts n).bran p) ((fns us m).bran p)
  stmL : ∀ l l' p, (K p → l = l') → qR ts K p ((fns ts n).stmL l p) ((fns us m).stmL l' p)
  impL : ∀ l l' p, (K p → l = l') → qR ts K p ((fns ts n).impL l p) ((fns us m).impL l' p)
  decL : ∀ l l' p, (K p → l = l') → qR ts K p ((fns ts n).decL l p) ((fns us m).decL l' p)
  nbin : ∀ l p, namB ts p = true → ¬ K (p + 1) → farR ts K ((fns ts n).bin l p)
  nuna : ∀ p, namB ts p = true → ¬ K (p + 1) → farR ts K ((fns ts n).una p)
  npost : ∀ p, namB ts p = true → ¬ K (p + 1) → farR ts K ((fns ts n).post p)
  nprim : ∀ p, namB ts p = true → ¬ K (p + 1) → farR ts K ((fns ts n).prim p)
theorem q_lis (hK : Kn ts us K) {one one' : Nat → Rs Pt} {more more' : List Pt → Nat → Rs (List Pt)} {p : Nat} (h1 : ∀ q, qR ts K q (one q) (one' q)) (h2 : ∀ l l' q, (K q → l = l') → qR ts K q (more l q) (more' l' q)) : qR ts K p (lisP ts one more p) (lisP us one' more' p) := by
  unfold lisP
  exact q_exp hK fun _ => q_ite (hK.isi _ _) (q_mono hK (q_ok (p := p + 1 + 1) (fun h => h) fun _ => rfl) (by omega)) (q_bind (h1 _) fun v q _ => q_bind (h2 _ _ _ fun _ => rfl) fun l q _ => q_exp hK fun _ => q_ok (fun h => h) fun _ => rfl)
theorem q_lin (hK : Kn ts us K) {more more' : List Pt → Nat → Rs (List Pt)} {p : Nat} (h2 : ∀ l l' q, (K q → l = l') → qR ts K q (more l q) (more' l' q)) : qR ts K p (linP ts more p) (linP us more' p) := by
  unfold linP
  exact q_exp hK fun _ => q_bind (h2 _ _ _ fun _ => rfl) fun l q _ => q_exp hK fun _ => q_ok (fun h => h) fun _ => rfl
theorem q_blo (hK : Kn ts us K) {n m : Nat} (ih : RlA ts us K n m) (p : Nat) : qR ts K p (bloP ts (fns ts n) p) (bloP us (fns us m) p) := by
  unfold bloP
  refine q_bind (q_lin hK ih.stmL) fun l q hq => q_ok (fun h => h) fun h => ?_
  rw [hK.he (hq h), hK.be h]
theorem q_var (hK : Kn ts us K) {n m : Nat} (ih : RlA ts us K n m) (p : Nat) : qR ts K p (varP ts (fns ts n) p) (varP us (fns us m) p) := by
  unfold varP
  refine q_exp hK fun h1 => q_nam hK fun h2 => q_bind (q_typ hK _) fun v q hq => q_ite (hK.isi _ _) (q_mono hK (q_bind (ih.bin 0 _) fun x q' hq' => q_ok (fun h => h) fun h => ?_) (by omega)) (q_ok (fun h => h) fun h => ?_)
  · have h3 := hq (hK.one (hq' h))
    rw [hK.nx _ (h2 h3), hK.he (h1 (h2 h3)), hK.be h]
  · have h3 := hq h
    rw [hK.nx _ (h2 h3), hK.he (h1 (h2 h3)), hK.be h]
theorem q_dec (hK : Kn ts us K) {n m : Nat} (ih : RlA ts us K n m) (p : Nat) : qR ts K p (decP ts (fns ts n) p) (decP us (fns us m) p) := by
  have hfun : ∀ fr fr' l l' q, (K q → fr = fr' ∧ l = l') → qR ts K q (funR ts (fns ts n) fr l q) (funR us (fns us m) fr' l' q) := fun fr fr' l l' q hd => by
    unfold funR
    refine q_nam hK fun h1 => q_bind (q_lis hK (q_tyd hK 9) ih.parL) fun ps q1 hq1 => q_ite (hK.isi _ _) (q_bind (q_blo hK ih _) fun b q2 hq2 => q_ok (fun h => h) fun h => ?_) (q_bind (q_typ hK _) fun v q2 hq2 => q_bind (q_blo hK ih _) fun b q3 hq3 => q_ok (fun h => h) fun h => ?_)
    · have h3 := h1 (hq1 (hq2 h))
      rw [hK.nx _ h3, hK.be h, (hd h3).1, (hd h3).2]
    · have h3 := h1 (hq1 (hq2 (hq3 h)))
      rw [hK.nx _ h3, hK.be h, (hd h3).1, (hd h3).2]
  unfold decP
  refine q_ite (hK.isi _ _) (q_con hK p) (q_ite (hK.isi _ _) (q_var hK ih p) (q_ite (hK.isi _ _) ?_ (q_ite (hK.isi _ _) ?_ (q_bad hK p))))
  · unfold strP
    refine q_exp hK fun h1 => q_nam hK fun h2 => q_exp hK fun h3 => q_bind (q_lin hK ih.fieL) fun l q hq => q_ok (fun h => h) fun h => ?_
    rw [hK.nx _ (h2 (h3 (hq h))), hK.he (h1 (h2 (h3 (hq h)))), hK.be h]
  · unfold funP
    refine q_exp hK fun h1 => q_ite (hK.isi _ _) (q_mono hK (q_bind (q_rec hK _) fun v q hq => q_exp hK fun h2 => hfun _ _ _ _ _ fun h => ⟨hK.he (h1 (hK.one (hq (h2 h)))), rfl⟩) (by omega)) (hfun _ _ _ _ _ fun h => ⟨hK.he (h1 h), rfl⟩)
theorem rlA (hK : Kn ts us K) : ∀ n m, n ≤ m → RlA ts us K n m := by
  intro n
  induction n with
  | zero =>
    intro m _
    have ho : ∀ {γ : Type} (p : Nat) (s : Rs γ), qR ts K p (.out : Rs γ) s := fun p s => ⟨fun _ => trivial, fun _ => trivial⟩
    constructor <;> intros <;> first | exact ho _ _ | trivial
  | succ n ih0 =>
    intro m0 hm
    obtain ⟨m, rfl⟩ : ∃ m, m0 = m + 1 := ⟨m0 - 1, by omega⟩
    have ih := ih0 m (by omega)
    clear ih0 hm
    constructor
    · intro l p
      show qR ts K p (if l = 5 then (fns ts n).una p else ((fns ts n).bin (l + 1) p).bind fun t q => (fns ts n).binL l (herI ts p) t q) (if l = 5 then (fns us m).una p else ((fns us m).bin (l + 1) p).bind fun t q => (fns us m).binL l (herI us p) t q)
      exact q_ite (fun _ => Iff.rfl) (ih.una p) (q_bind (ih.bin _ _) fun t q hq => ih.binL _ _ _ _ _ _ fun h => ⟨hK.he (hq h), rfl⟩)
    · intro l fr fr' t t' p hd
      show qR ts K p (if rowI (nxT ts p).text = l then ((fns ts n).bin (l + 1) (p + 1)).bind fun u q => if l = 2 then .ok (.mk 27 (nxT ts p).text 0 (nxT ts p).pos fr (behI ts q) [t, u]) q else (fns ts n).binL l fr (.mk 27 (nxT ts p).text 0 (nxT ts p).pos fr (behI ts q) [t, u]) q else .ok t p)
        (if rowI (nxT us p).text = l then ((fns us m).bin (l + 1) (p + 1)).bind fun u q => if l = 2 then .ok (.mk 27 (nxT us p).text 0 (nxT us p).pos fr' (behI us q) [t', u]) q else (fns us m).binL l fr' (.mk 27 (nxT us p).text 0 (nxT us p).pos fr' (behI us q) [t', u]) q else .ok t' p)
      refine q_ite (fun hp => by rw [hK.nx _ hp]) (q_mono hK (q_bind (ih.bin _ _) fun u q hq => q_ite (fun _ => Iff.rfl) (q_ok (fun h => h) fun h => ?_) (ih.binL _ _ _ _ _ _ fun h => ⟨(hd (hK.one (hq h))).1, ?_⟩)) (by omega)) (q_ok (fun h => h) fun h => (hd h).2)
      · have h3 := hK.one (hq h)
        rw [hK.nx _ h3, hK.be h, (hd h3).1, (hd h3).2]
      · have h3 := hK.one (hq h)
        rw [hK.nx _ h3, hK.be h, (hd h3).1, (hd h3).2]
    · intro p
      show qR ts K p (if isT ts p [45] || isT ts p [33] then ((fns ts n).una (p + 1)).bind fun u q => .ok (.mk 26 (nxT ts p).text 0 (nxT ts p).pos (herI ts p) (behI ts q) [u]) q else (fns ts n).post p) (if isT us p [45] || isT us p [33] then ((fns us m).una (p + 1)).bind fun u q => .ok (.mk 26 (nxT us p).text 0 (nxT us p).pos (herI us p) (behI us q) [u]) q else (fns us m).post p)
      refine q_ite (fun hp => by rw [hK.is hp, hK.is hp]) (q_mono hK (q_bind (ih.una _) fun u q hq => q_ok (fun h => h) fun h => ?_) (by omega)) (ih.post p)
      have h3 := hK.one (hq h)
      rw [hK.nx _ h3, hK.be h, hK.he h3]
    · intro p
      exact q_bind (ih.prim p) fun t q hq => ih.posL _ _ _ _ _ fun h => ⟨hK.he (hq h), rfl⟩
    · intro fr fr' t t' p hd
      refine q_ite (hK.isi _ _) (q_mono hK (q_nam hK fun h1 => ih.posL _ _ _ _ _ fun h => ?_) (by omega)) (q_ite (hK.isi _ _) (q_bind (q_lis hK (ih.bin 0) ih.argL) fun l q hq => ih.posL _ _ _ _ _ fun h => ?_) (q_ok (fun h => h) fun h => (hd h).2))
      · have h3 := hd (hK.one (h1 h))
        exact ⟨h3.1, by rw [hK.nx _ (h1 h), hK.be h, h3.1, h3.2]⟩
      · have h3 := hd (hq h)
        exact ⟨h3.1, by rw [hK.be h, h3.1, h3.2]⟩
    · intro p
      exact q_ite (hK.isi _ _) (q_mono hK (q_bind (ih.bin _ _) fun t q hq => q_exp hK fun _ => q_ok (fun h => h) fun _ => rfl) (by omega)) (q_ite (fun hp => by rw [hK.na hp]) (q_lea hK _ _) (q_va1 hK _))
    · intro l l' p hd
      exact q_ite (hK.isi _ _) (q_mono hK (q_bind (ih.bin _ _) fun t q hq => ih.argL _ _ _ fun h => by rw [hd (hK.one (hq h))]) (by omega)) (q_ok (fun h => h) hd)
    · intro l l' p hd
      exact q_ite (hK.isi _ _) (q_mono hK (q_bind (q_tyd hK _ _) fun t q hq => ih.parL _ _ _ fun h => by rw [hd (hK.one (hq h))]) (by omega)) (q_ok (fun h => h) hd)
    · intro l l' p hd
      exact q_ite (hK.isi _ _) (q_ok (fun h => h) hd) (q_bind (q_tyd hK _ _) fun t q hq => q_ite (hK.isi _ _) (ih.fieL _ _ _ fun h => by rw [hd (hq h)]) (q_kin hK fun h1 => ih.fieL _ _ _ fun h => by rw [hd (hq (h1 h))]))
    · intro p
      have hsho : qR ts K p (shoP ts (fns ts n) p) (shoP us (fns us m) p) := by
        unfold shoP
        refine q_nam hK fun h1 => q_exp hK fun h2 => q_bind (ih.bin _ _) fun x q hq => q_ok (fun h => h) fun h => ?_
        have h3 := h1 (h2 (hq h))
        rw [hK.nx _ h3, hK.he h3, hK.be h]
      have hsim : qR ts K p (simP ts (fns ts n) p) (simP us (fns us m) p) := by
        unfold simP
        refine q_bind (ih.bin _ _) fun x q hq => q_ite (hK.isi _ _) (q_mono hK (q_bind (ih.bin _ _) fun y q' hq' => q_ok (fun h => h) fun h => ?_) (by omega)) (q_ok (fun h => h) fun h => ?_)
        · rw [hK.he (hq (hK.one (hq' h))), hK.be h]
        · rw [hK.he (hq h), hK.be h]
      refine q_ite (hK.isi _ _) (q_blo hK ih p) (q_ite (hK.isi _ _) (q_var hK ih p) (q_ite (hK.isi _ _) (ih.bran p) (q_ite (hK.isi _ _) ?_ (q_ite (hK.isi _ _) ?_ ?_))))
      · unfold looP
        refine q_exp hK fun h1 => q_bind (ih.bin _ _) fun x q hq => q_bind (q_blo hK ih _) fun b q' hq' => q_ok (fun h => h) fun h => ?_
        rw [hK.he (h1 (hq (hq' h))), hK.be h]
      · unfold resP
        refine q_exp hK fun h1 => q_ite (fun hp => by rw [hK.nx _ hp, hK.is hp]) (q_bind (ih.bin _ _) fun x q hq => q_ok (fun h => h) fun h => ?_) (q_ok (fun h => h) fun h => ?_)
        · rw [hK.he (h1 (hq h)), hK.be h]
        · rw [hK.he (h1 h), hK.be h]
      · by_cases h1 : K (p + 1)
        · exact q_ite (fun hp => by rw [hK.na hp, hK.is h1]) hsho hsim
        · by_cases hn : namB ts p = true
          · have f1 : farR ts K (shoP ts (fns ts n) p) := by
              unfold shoP namP Rs.need
              rw [if_pos hn]
              exact (q_exp (us := us) (k' := fun q => ((fns us m).bin 0 q).bind fun x q => .ok (.mk 17 (nxT ts p).text 0 (nxT ts p).pos (herI ts p) (behI ts q) [x]) q) hK fun _ => q_bind (ih.bin _ _) fun x q hq => q_ok (fun h => h) fun h => rfl).2 h1
            have f2 : farR ts K (simP ts (fns ts n) p) := by
              unfold simP
              refine far_bind (ih.nbin 0 p hn h1) fun x q hq => ?_
              exact (q_ite (p := q) (c' := isT us q [61] = true) (a' := ((fns us m).bin 0 (q + 1)).bind fun y q => .ok (.mk 18 ⟨#[]⟩ 0 (herI ts p) (herI ts p) (behI us q) [x, y]) q) (b' := .ok (.mk 19 ⟨#[]⟩ 0 (herI ts p) (herI ts p) (behI us q) [x]) q) (hK.isi _ _) (q_mono hK (q_bind (ih.bin _ _) fun y q' hq' => q_ok (fun h => h) fun h => by rw [hK.be h]) (by omega)) (q_ok (fun h => h) fun h => by rw [hK.be h])).2 hq
            have f := far_ite (ts := ts) (K := K) (c := (namB ts p && isT ts (p + 1) [58, 61]) = true) (fun _ => f1) fun _ => f2
            exact ⟨fun _ => far_rel _ f, fun _ => f⟩
          · have hn' : namB ts p = false := by simpa using hn
            refine ⟨fun hp => ?_, fun hp => ?_⟩
            · rw [hn', ← hK.na hp, hn']
              exact hsim.1 hp
            · rw [hn']
              exact hsim.2 hp
    · intro p
      show qR ts K p (expP ts [105, 102] p fun q => ((fns ts n).bin 0 q).bind fun x q => (bloP ts (fns ts n) q).bind fun b q => if isT ts q [101, 108, 115, 101] then (if isT ts (q + 1) [105, 102] then (fns ts n).bran (q + 1) else bloP ts (fns ts n) (q + 1)).bind fun c q => Rs.ok (Pt.mk 14 ⟨#[]⟩ 0 (herI ts p) (herI ts p) (behI ts q) [x, b, c]) q else Rs.ok (Pt.mk 14 ⟨#[]⟩ 0 (herI ts p) (herI ts p) (behI ts q) [x, b]) q)
        (expP us [105, 102] p fun q => ((fns us m).bin 0 q).bind fun x q => (bloP us (fns us m) q).bind fun b q => if isT us q [101, 108, 115, 101] then (if isT us (q + 1) [105, 102] then (fns us m).bran (q + 1) else bloP us (fns us m) (q + 1)).bind fun c q => Rs.ok (Pt.mk 14 ⟨#[]⟩ 0 (herI us p) (herI us p) (behI us q) [x, b, c]) q else Rs.ok (Pt.mk 14 ⟨#[]⟩ 0 (herI us p) (herI us p) (behI us q) [x, b]) q)
      refine q_exp hK fun h1 => q_bind (ih.bin _ _) fun x q hq => q_bind (q_blo hK ih _) fun b q' hq' => q_ite (hK.isi _ _) (q_mono hK (q_bind (q_ite (p := q' + 1) (hK.isi _ _) (ih.bran _) (q_blo hK ih _)) fun c q'' hq'' => q_ok (fun h => h) fun h => ?_) (by omega)) (q_ok (fun h => h) fun h => ?_)
      · rw [hK.he (h1 (hq (hq' (hK.one (hq'' h))))), hK.be h]
      · rw [hK.he (h1 (hq (hq' h))), hK.be h]
    · intro l l' p hd
      exact q_ite (hK.isi _ _) (q_ok (fun h => h) hd) (q_bind (ih.stmt _) fun t q hq => q_ite (hK.isi _ _) (ih.stmL _ _ _ fun h => by rw [hd (hq h)]) (q_kin hK fun h1 => ih.stmL _ _ _ fun h => by rw [hd (hq (h1 h))]))
    · intro l l' p hd
      exact q_ite (hK.isi _ _) (q_bind (q_imp hK _) fun t q hq => q_kin hK fun h1 => ih.impL _ _ _ fun h => by rw [hd (hq (h1 h))]) (q_ok (fun h => h) hd)
    · intro l l' p hd
      exact q_ite (fun hp => hK.lt p hp) (q_bind (q_dec hK ih _) fun t q hq => q_kin hK fun h1 => ih.decL _ _ _ fun h => by rw [hd (hq (h1 h))]) (q_ok (fun h => h) hd)
    · intro l p hn h1
      show farR ts K (if l = 5 then (fns ts n).una p else ((fns ts n).bin (l + 1) p).bind fun t q => (fns ts n).binL l (herI ts p) t q)
      exact far_ite (fun _ => ih.nuna p hn h1) fun _ => far_bind (ih.nbin _ p hn h1) fun t q hq => (ih.binL l (herI ts p) (herI ts p) t t q fun h => (hq h).elim).2 hq
    · intro p hn h1
      show farR ts K (if isT ts p [45] || isT ts p [33] then ((fns ts n).una (p + 1)).bind fun u q => .ok (.mk 26 (nxT ts p).text 0 (nxT ts p).pos (herI ts p) (behI ts q) [u]) q else (fns ts n).post p)
      exact far_ite (fun _ => far_bind ((ih.una (p + 1)).2 h1) fun u q hq => hq) fun _ => ih.npost p hn h1
    · intro p hn h1
      exact far_bind (ih.nprim p hn h1) fun t q hq => (ih.posL (herI ts p) (herI ts p) t t q fun h => (hq h).elim).2 hq
    · intro p hn h1
      refine far_ite (fun _ => far_bind ((ih.bin 0 (p + 1)).2 h1) fun t q hq => ?_) fun _ => far_ite (fun _ => h1) fun h => (h hn).elim
      exact (q_exp (us := us) (k' := fun q => .ok t q) hK fun _ => q_ok (fun h => h) fun _ => rfl).2 hq
theorem q_fil (hK : Kn ts us K) {n m : Nat} (hn : n ≤ m) (p : Nat) : qR ts K p (filP ts n p) (filP us m p) := by
  have ih := rlA hK n m hn
  unfold filP
  refine q_exp hK fun h1 => q_nam hK fun h2 => q_kin hK fun h3 => q_bind (ih.impL _ _ _ fun _ => rfl) fun l q hq => q_bind (ih.decL _ _ _ fun _ => rfl) fun l' q' hq' => q_ok (fun h => h) fun h => ?_
  have h4 := h2 (h3 (hq (hq' h)))
  rw [hK.nx _ h4, hK.he (h1 h4), hK.be h]
end
/-- More rounds change nothing. -/
theorem fil_more {ts : List Tok} {n m : Nat} (hn : n ≤ m) (h : filP ts n 0 ≠ .out) : filP ts m 0 = filP ts n 0 := by
  have hK : Kn ts ts (fun _ => True) := ⟨fun _ _ _ _ => trivial, fun _ _ => rfl, fun _ _ => Iff.rfl⟩
  have hq := (q_fil hK hn 0).1 trivial
  cases hr : filP ts n 0 with
  | ok v q => rw [hr] at hq; exact hq trivial
  | bad s =>
    rw [hr] at hq
    rcases hq with ⟨p, hp, -⟩ | hq
    · exact (hp trivial).elim
    · exact hq
  | out => exact (h hr).elim
/-- What stands behind the first wrong token is no matter. -/
theorem fil_first {ts us : List Tok} {i : Nat} {s : Int} (hx : ∀ p, p ≤ i → nxT ts p = nxT us p) (h1 : i < ts.length) (h2 : i < us.length) (hb : filO ts = .bad s) (hs : ∀ p, i < p → herI ts p ≠ s) : filO us = .bad s := by
  have hK : Kn ts us (fun p => p ≤ i) := ⟨fun p q h h' => Nat.le_trans h h', hx, fun p hp => by omega⟩
  have hm : 12 * us.length + 12 ≤ (12 * ts.length + 12) + (12 * us.length + 12) := by omega
  have hu := fil_more hm (fil_ends (ts := us))
  have hq := (q_fil hK (m := (12 * ts.length + 12) + (12 * us.length + 12)) (by omega : 12 * ts.length + 12 ≤ _) 0).1 (Nat.zero_le _)
  unfold filO at hb ⊢
  rw [hb, hu] at hq
  rcases hq with ⟨p, hp, e⟩ | hq
  · exact (hs p (by omega) e.symm).elim
  · exact hq
end Go.Proofs.YtbadafkfjfbnlaaGreatDoor

namespace Go.Proofs.YtbadafkfjfbnlaaGreatDoor
set_option maxRecDepth 100000
open Go.RowKit

theorem cut_all {k : Int} : ∀ (cs bs : List (Int × ByteArray)), (∀ h ∈ cs, h.1 = k) → (∀ h ∈ bs, h.1 ≠ k) → cutN k (cs ++ bs) = cs.length
  | [], [], _, _ => rfl
  | [], b :: bs, _, h => by
    have := h b (by simp)
    show cutN k (b :: bs) = 0
    rw [cutN, if_neg (by simpa using this)]
  | a :: cs, bs, h, h' => by
    have := h a (by simp)
    rw [List.cons_append, cutN, if_pos (by simpa using this), cut_all cs bs (fun u hu => h u (by simp [hu])) h', List.length_cons]
def ReL (rs : List Pt) : Prop := rs = [] ∨ ∃ (y z : ByteArray) (a f t a' f' t' : Int), rs = [.mk 8 y 0 a f t [.mk 11 z 0 a' f' t' []]] ∧ kepB y = false ∧ kepB z = false
def TyL (ys : List Pt) : Prop := ys = [] ∨ ∃ v, ys = [v] ∧ Ty v
def Bl (b : Pt) : Prop := ∃ (a f t : Int) (l : List Pt), b = .mk 13 ⟨#[]⟩ 0 a f t l ∧ ∀ u ∈ l, St u
/-- The trees of declarations. -/
inductive Dc : Pt → Prop
  | con {a f t : Int} {x : ByteArray} {v : Pt} : kepB x = false → Vc v → Dc (.mk 3 x 0 a f t [v])
  | var1 {a f t : Int} {x : ByteArray} {v : Pt} : kepB x = false → Ty v → Dc (.mk 4 x 0 a f t [v])
  | var2 {a f t : Int} {x : ByteArray} {v d : Pt} : kepB x = false → Ty v → Ex d → Dc (.mk 4 x 0 a f t [v, d])
  | str {a f t : Int} {x : ByteArray} {l : List Pt} : kepB x = false → (∀ u ∈ l, Pm 6 u) → Dc (.mk 5 x 0 a f t l)
  | fn {a f t : Int} {x : ByteArray} {rs ps ys : List Pt} {b : Pt} : kepB x = false → plF x → ReL rs → (∀ u ∈ ps, Pm 9 u) → TyL ys → Bl b → Dc (.mk 7 x 0 a f t (rs ++ ps ++ ys ++ [b]))
theorem ty_kind {v : Pt} (h : Ty v) : (hdP v).1 ≠ 8 ∧ (hdP v).1 ≠ 9 := by
  cases h <;> exact ⟨by simp [hdP], by simp [hdP]⟩
theorem bl_kind {b : Pt} (h : Bl b) : (hdP b).1 ≠ 8 ∧ (hdP b).1 ≠ 9 := by
  obtain ⟨a, f, t, l, rfl, -⟩ := h
  exact ⟨by simp [hdP], by simp [hdP]⟩
theorem pm_kind {k : Int} {u : Pt} (h : Pm k u) : (hdP u).1 = k := by
  obtain ⟨x, v, a, f, t, rfl, -⟩ := h
  rfl
theorem wr_rec (y z : ByteArray) (a f t a' f' t' : Int) : wrP (.mk 8 y 0 a f t [.mk 11 z 0 a' f' t' []]) = [tkW 1 y, tkW 1 z] := by
  rw [wrP, wrM, wrM, wr_eleven]
  simp [wrK]
def wRec (rs : List Pt) : List Tok := match rs with | [] => [] | _ => wBrk (rs.map wrP)
theorem wr_fun {a f t : Int} {x : ByteArray} {rs ps ys : List Pt} {b : Pt} (h1 : ReL rs) (h2 : ∀ u ∈ ps, Pm 9 u) (h3 : TyL ys) (h4 : Bl b) :
    wrP (.mk 7 x 0 a f t (rs ++ ps ++ ys ++ [b])) = wdT [102, 117, 110, 99] :: (wRec rs ++ tkW 1 x :: (wBrk (ps.map wrP) ++ ((ys.map wrP).flatten ++ wrP b))) := by
  have hr : ∀ h ∈ rs.map hdP, h.1 = 8 := by
    rcases h1 with rfl | ⟨y, z, a, f, t, a', f', t', rfl, -⟩
    · simp
    · simp [hdP]
  have hy : ∀ h ∈ (ys ++ [b]).map hdP, h.1 ≠ 8 ∧ h.1 ≠ 9 := by
    intro h hh
    obtain ⟨u, hu, rfl⟩ := List.mem_map.1 hh
    rcases List.mem_append.1 hu with hu | hu
    · rcases h3 with rfl | ⟨v, rfl, hv⟩
      · simp at hu
      · obtain rfl : u = v := by simpa using hu
        exact ty_kind hv
    · obtain rfl : u = b := by simpa using hu
      exact bl_kind h4
  have hp : ∀ h ∈ ps.map hdP, h.1 = 9 := by
    intro h hh
    obtain ⟨u, hu, rfl⟩ := List.mem_map.1 hh
    exact pm_kind (h2 u hu)
  have c8 : cutN 8 ((rs ++ ps ++ ys ++ [b]).map hdP) = rs.length := by
    rw [show (rs ++ ps ++ ys ++ [b]).map hdP = rs.map hdP ++ (ps ++ (ys ++ [b])).map hdP by simp]
    rw [cut_all _ _ hr, List.length_map]
    intro h hh
    rw [List.map_append] at hh
    rcases List.mem_append.1 hh with hh | hh
    · rw [hp h hh]; decide
    · exact (hy h hh).1
  have d8 : ((rs ++ ps ++ ys ++ [b]).map hdP).drop rs.length = ps.map hdP ++ (ys ++ [b]).map hdP := by
    rw [show (rs ++ ps ++ ys ++ [b]).map hdP = rs.map hdP ++ (ps ++ (ys ++ [b])).map hdP by simp]
    rw [List.drop_left' (by simp), List.map_append]
  have c9 : cutN 9 (((rs ++ ps ++ ys ++ [b]).map hdP).drop rs.length) = ps.length := by
    rw [d8, cut_all _ _ hp fun h hh => (hy h hh).2, List.length_map]
  have d9 : ((rs ++ ps ++ ys ++ [b]).map wrP).drop rs.length = ps.map wrP ++ (ys ++ [b]).map wrP := by
    rw [show (rs ++ ps ++ ys ++ [b]).map wrP = rs.map wrP ++ (ps ++ (ys ++ [b])).map wrP by simp]
    rw [List.drop_left' (by simp), List.map_append]
  have t8 : ((rs ++ ps ++ ys ++ [b]).map wrP).take rs.length = rs.map wrP := by
    rw [show (rs ++ ps ++ ys ++ [b]).map wrP = rs.map wrP ++ (ps ++ (ys ++ [b])).map wrP by simp]
    rw [List.take_left' (by simp)]
  rw [wrP, wrM_map]
  show wFun x _ _ = _
  unfold wFun
  rw [c8, c9, d9, t8, List.take_left' (by simp), List.drop_left' (by simp)]
  have hrc : (if 0 < rs.length then wBrk (rs.map wrP) else []) = wRec rs := by
    cases rs with
    | nil => rfl
    | cons r rr => simp [wRec]
  rw [hrc]
  simp
theorem wr_str (a f t : Int) (x : ByteArray) (l : List Pt) : wrP (.mk 5 x 0 a f t l) = wdT [116, 121, 112, 101] :: tkW 1 x :: wdT [115, 116, 114, 117, 99, 116] :: (tkW 4 (strU [123]) :: (wEnd (l.map wrP) ++ [sgT [125]])) := by
  rw [wrP, wrM_map]
  simp [wrK, wBra, sgT]
theorem wr_con (a f t : Int) (x : ByteArray) (v : Pt) : wrP (.mk 3 x 0 a f t [v]) = wdT [99, 111, 110, 115, 116] :: tkW 1 x :: sgT [61] :: wrP v := by
  rw [wrP, wrM_map]
  simp [wrK]
theorem ty_fst {v : Pt} (h : Ty v) : ∃ (y : ByteArray) (r : List Tok), wrP v = tkW 1 y :: r ∧ plF y := by
  cases h with
  | basic hx =>
    refine ⟨_, _, wr_ten _ _ _ _, ?_⟩
    rcases hx with rfl | rfl | rfl
    · exact ⟨105, [110, 116], rfl, by decide⟩
    · exact ⟨98, [111, 111, 108], rfl, by decide⟩
    · exact ⟨115, [116, 114, 105, 110, 103], rfl, by decide⟩
  | named _ hp => exact ⟨_, _, wr_eleven _ _ _ _, hp⟩
  | far _ _ hp => exact ⟨_, _, wr_twelve _ _ _ _ _ _ _ _, hp⟩
theorem bl_ev {b : Pt} (h : Bl b) (ts : List Tok) (p : Nat) (hh : Hs ts p (wrP b)) : isT ts p [123] = true ∧ isT ts p [46] = false ∧ ∃ b', smP b b' ∧ Ev (fun m => bloP ts (fns ts m) p) (.ok b' (p + (wrP b).length)) := by
  obtain ⟨a, f, t, l, rfl, hl⟩ := h
  rw [wr_blo] at hh ⊢
  have h0 := hh
  rw [wr_bra] at h0
  exact ⟨h0.is, h0.not (by decide), blo_ev (fun u hu => st_it (hl u hu)) ts p hh⟩
theorem funR_ev {a f t fr : Int} {x : ByteArray} {rs rs' ps ys : List Pt} {b : Pt} (hx : kepB x = false) (hr : smL rs rs') (h2 : ∀ u ∈ ps, Pm 9 u) (h3 : TyL ys) (h4 : Bl b) (ts : List Tok) (p : Nat) (hh : Hs ts p (tkW 1 x :: (wBrk (ps.map wrP) ++ ((ys.map wrP).flatten ++ wrP b)))) :
    ∃ e', smP (.mk 7 x 0 a f t (rs ++ ps ++ ys ++ [b])) e' ∧ Ev (fun m => funR ts (fns ts m) fr rs' p) (.ok e' (p + 1 + (wBrk (ps.map wrP)).length + (ys.map wrP).flatten.length + (wrP b).length)) := by
  have htx : (nxT ts p).text = x := hh.one.2
  obtain ⟨ps', h5, h6⟩ := lisp_ev ps h2 ts (p + 1) hh.tail.left
  have hz := hh.tail.right
  rcases h3 with rfl | ⟨v, rfl, hv⟩
  · have hz' : Hs ts (p + 1 + (wBrk (ps.map wrP)).length) (wrP b) := by simpa using hz
    obtain ⟨g1, -, b', h7, h8⟩ := bl_ev h4 ts _ hz'
    refine ⟨.mk 7 x 0 (nxT ts p).pos fr (behI ts (p + 1 + (wBrk (ps.map wrP)).length + (wrP b).length)) (rs' ++ ps' ++ [b']), smP_mk (by rw [List.append_nil]; exact smL_app (smL_app hr h5) (smL_one h7)), ?_⟩
    unfold funR namP
    refine ev_need (nam_of hh hx) (ev_bind h6 (ev_pos g1 (ev_bind h8 ?_)))
    rw [htx]
    exact ev_const _
  · have hz' : Hs ts (p + 1 + (wBrk (ps.map wrP)).length) (wrP v ++ wrP b) := by simpa using hz
    obtain ⟨g1, g2, b', h7, h8⟩ := bl_ev h4 ts _ hz'.right
    obtain ⟨v', h9, h10⟩ := ty_it hv ts _ hz'.left g2
    obtain ⟨y, r, e1, e2⟩ := ty_fst hv
    have hn : isT ts (p + 1 + (wBrk (ps.map wrP)).length) [123] = false := by
      have := hz'
      rw [e1] at this
      exact Hs.pl this e2 (by decide)
    refine ⟨.mk 7 x 0 (nxT ts p).pos fr (behI ts (p + 1 + (wBrk (ps.map wrP)).length + (wrP v).length + (wrP b).length)) (rs' ++ ps' ++ [v'] ++ [b']), smP_mk (smL_app (smL_app (smL_app hr h5) (smL_one h9)) (smL_one h7)), ?_⟩
    unfold funR namP
    refine ev_need (nam_of hh hx) (ev_bind h6 (ev_neg (bf hn) (ev_bind (by rw [h10]; exact ev_const _) (ev_bind h8 ?_))))
    rw [htx]
    simp only [List.map_cons, List.map_nil, List.flatten_cons, List.flatten_nil, List.append_nil]
    exact ev_const _
/-- How a declaration is read, with its end behind it. -/
theorem dc_ev {d : Pt} (h : Dc d) {r : List Tok} (ts : List Tok) (p : Nat) (hh : Hs ts p (wrP d ++ tkW 5 (strU [59]) :: r)) : isT ts p [105, 109, 112, 111, 114, 116] = false ∧ ∃ d', smP d d' ∧ Ev (fun m => decP ts (fns ts m) p) (.ok d' (p + (wrP d).length)) := by
  cases h with
  | @con a f t x v hx hv =>
    rw [wr_con] at hh ⊢
    obtain ⟨e', h1, h2⟩ := con_it (a := a) (f := f) (t := t) hx hv ts p hh.left
    have h0 : Hs ts p (wdT [99, 111, 110, 115, 116] :: (tkW 1 x :: sgT [61] :: wrP v)) := hh.left
    refine ⟨h0.not (by decide), e', h1, ?_⟩
    unfold decP
    refine ev_pos h0.is ?_
    rw [h2, show p + (wdT [99, 111, 110, 115, 116] :: tkW 1 x :: sgT [61] :: wrP v).length = p + 1 + 1 + 1 + (wrP v).length by simp; omega]
    exact ev_const _
  | @var1 a f t x v hx hv =>
    rw [wr_var1] at hh ⊢
    have h0 : Hs ts p (wdT [118, 97, 114] :: tkW 1 x :: (wrP v ++ tkW 5 (strU [59]) :: r)) := hh
    obtain ⟨e', h1, h2⟩ := var_one (a := a) (f := f) (t := t) hx hv (.inl ⟨rfl, rfl⟩) ts p h0
    refine ⟨h0.not (by decide), e', h1, ?_⟩
    unfold decP
    refine ev_neg (bf (h0.not (by decide))) (ev_pos h0.is ?_)
    rw [show p + (wdT [118, 97, 114] :: tkW 1 x :: wrP v).length = p + 1 + 1 + (wrP v).length by simp; omega]
    exact h2
  | @var2 a f t x v d hx hv hd =>
    rw [wr_var2] at hh ⊢
    have h0 : Hs ts p (wdT [118, 97, 114] :: tkW 1 x :: (wrP v ++ tkW 4 (strU [61]) :: (wrP d ++ tkW 5 (strU [59]) :: r))) := by simpa using hh
    obtain ⟨e', h1, h2⟩ := var_two (a := a) (f := f) (t := t) hx hv hd (.inl ⟨rfl, rfl⟩) ts p h0
    refine ⟨h0.not (by decide), e', h1, ?_⟩
    unfold decP
    refine ev_neg (bf (h0.not (by decide))) (ev_pos h0.is ?_)
    rw [show p + (wdT [118, 97, 114] :: tkW 1 x :: (wrP v ++ tkW 4 (strU [61]) :: wrP d)).length = p + 1 + 1 + (wrP v).length + 1 + (wrP d).length by simp; omega]
    exact h2
  | @str a f t x l hx hl =>
    rw [wr_str] at hh ⊢
    have h0 : Hs ts p (wdT [116, 121, 112, 101] :: tkW 1 x :: wdT [115, 116, 114, 117, 99, 116] :: (tkW 4 (strU [123]) :: (wEnd (l.map wrP) ++ [sgT [125]]))) := hh.left
    have htx : (nxT ts (p + 1)).text = x := h0.tail.one.2
    obtain ⟨l', h1, h2⟩ := fies_ev l hl ts (p + 1 + 1 + 1 + 1) [] h0.tail.tail.tail.tail
    have hz : Hs ts (p + 1 + 1 + 1 + 1 + (wEnd (l.map wrP)).length) (tkW 4 (strU [125]) :: []) := h0.tail.tail.tail.tail.right
    refine ⟨h0.not (by decide), .mk 5 x 0 (nxT ts (p + 1)).pos (herI ts p) (behI ts (p + 1 + 1 + 1 + 1 + (wEnd (l.map wrP)).length + 1)) l', smP_mk h1, ?_⟩
    unfold decP strP linP expP namP
    refine ev_neg (bf (h0.not (by decide))) (ev_neg (bf (h0.not (by decide))) (ev_pos h0.is (ev_need h0.is (ev_need (nam_of h0.tail hx) (ev_need h0.tail.tail.is (ev_bind (ev_need h0.tail.tail.tail.is (ev_bind h2 (ev_need hz.is (ev_const _)))) ?_))))))
    rw [htx, show p + (wdT [116, 121, 112, 101] :: tkW 1 x :: wdT [115, 116, 114, 117, 99, 116] :: (tkW 4 (strU [123]) :: (wEnd (l.map wrP) ++ [sgT [125]]))).length = p + 1 + 1 + 1 + 1 + (wEnd (l.map wrP)).length + 1 by simp; omega]
    exact ev_const _
  | @fn a f t x rs ps ys b hx hp h1 h2 h3 h4 =>
    rw [wr_fun h1 h2 h3 h4] at hh ⊢
    have h0 : Hs ts p (wdT [102, 117, 110, 99] :: (wRec rs ++ tkW 1 x :: (wBrk (ps.map wrP) ++ ((ys.map wrP).flatten ++ wrP b)))) := hh.left
    refine ⟨h0.not (by decide), ?_⟩
    have hz : Hs ts (p + 1 + (wRec rs).length) (tkW 1 x :: (wBrk (ps.map wrP) ++ ((ys.map wrP).flatten ++ wrP b))) := h0.tail.right
    have hlen : p + (wdT [102, 117, 110, 99] :: (wRec rs ++ tkW 1 x :: (wBrk (ps.map wrP) ++ ((ys.map wrP).flatten ++ wrP b)))).length = p + 1 + (wRec rs).length + 1 + (wBrk (ps.map wrP)).length + (ys.map wrP).flatten.length + (wrP b).length := by simp; omega
    rw [hlen]
    rcases h1 with rfl | ⟨y, z, ya, yf, yt, za, zf, zt, rfl, hy, hz1⟩
    · obtain ⟨e', g1, g2⟩ := funR_ev (a := a) (f := f) (t := t) (fr := herI ts p) (rs := []) hx smL_nil h2 h3 h4 ts (p + 1) hz
      refine ⟨e', g1, ?_⟩
      unfold decP funP expP
      refine ev_neg (bf (h0.not (by decide))) (ev_neg (bf (h0.not (by decide))) (ev_neg (bf (h0.not (by decide))) (ev_pos h0.is (ev_need h0.is (ev_neg (bf ?_) g2)))))
      exact Hs.pl (h0.tail : Hs ts (p + 1) (tkW 1 x :: _)) hp (by decide)
    · have hw : wRec [.mk 8 y 0 ya yf yt [.mk 11 z 0 za zf zt []]] = [sgT [40], tkW 1 y, tkW 1 z, sgT [41]] := by
        show wBrk _ = _
        simp [wBrk, wPar, wr_rec]
      rw [hw] at h0 hz ⊢
      have hr0 : Hs ts (p + 1) (sgT [40] :: tkW 1 y :: tkW 1 z :: sgT [41] :: (tkW 1 x :: (wBrk (ps.map wrP) ++ ((ys.map wrP).flatten ++ wrP b)))) := h0.tail
      obtain ⟨v', g3, g4⟩ := rec_it (a := ya) (f := yf) (t := yt) (a' := za) (f' := zf) (t' := zt) hy hz1 ts (p + 1 + 1) (Hs.left (a := [tkW 1 y, tkW 1 z]) hr0.tail)
      obtain ⟨e', g1, g2⟩ := funR_ev (a := a) (f := f) (t := t) (fr := herI ts p) (rs := [.mk 8 y 0 ya yf yt [.mk 11 z 0 za zf zt []]]) hx (smL_one g3) h2 h3 h4 ts (p + 1 + 1 + 1 + 1 + 1) hr0.tail.tail.tail.tail
      refine ⟨e', g1, ?_⟩
      unfold decP funP expP
      exact ev_neg (bf (h0.not (by decide))) (ev_neg (bf (h0.not (by decide))) (ev_neg (bf (h0.not (by decide))) (ev_pos h0.is (ev_need h0.is (ev_pos hr0.is (ev_bind (by rw [g4]; exact ev_const _) (ev_need hr0.tail.tail.tail.is g2)))))))
/-- The trees of imports. -/
def Im (u : Pt) : Prop := ∃ (x : ByteArray) (a f t : Int), u = .mk 2 x 0 a f t [] ∧ ∀ v : Tok, v.kind = 3 → v.text = quoT x → valT v = x
theorem wr_imp (x : ByteArray) (a f t : Int) : wrP (.mk 2 x 0 a f t []) = [wdT [105, 109, 112, 111, 114, 116], tkW 3 (quoT x)] := by
  rw [wrP, wrM_map]
  simp [wrK]
theorem wEnd_cons (u : Pt) (r : List Pt) : wEnd ((u :: r).map wrP) = wrP u ++ tkW 5 (strU [59]) :: wEnd (r.map wrP) := by simp [wEnd, enT]
theorem imps_ev : ∀ (l : List Pt), (∀ u ∈ l, Im u) → ∀ (ts : List Tok) (p : Nat) (acc : List Pt), Hs ts p (wEnd (l.map wrP)) → isT ts (p + (wEnd (l.map wrP)).length) [105, 109, 112, 111, 114, 116] = false →
    ∃ l', smL l l' ∧ Ev (fun m => (fns ts m).impL acc p) (.ok (acc ++ l') (p + (wEnd (l.map wrP)).length))
  | [], _, ts, p, acc, hh, he => by
    refine ⟨[], smL_nil, ev_succ ?_⟩
    rw [List.append_nil]
    exact ev_neg (bf he) (ev_const _)
  | u :: r, hl, ts, p, acc, hh, he => by
    obtain ⟨x, a, f, t, rfl, hx⟩ := hl u (by simp)
    rw [wEnd_cons, wr_imp] at hh he
    have h0 : Hs ts p (wdT [105, 109, 112, 111, 114, 116] :: tkW 3 (quoT x) :: tkW 5 (strU [59]) :: wEnd (r.map wrP)) := hh
    obtain ⟨u', h1, h2⟩ := imp_it (a := a) (f := f) (t := t) hx ts p (Hs.left (a := [wdT [105, 109, 112, 111, 114, 116], tkW 3 (quoT x)]) h0)
    have hk : (nxT ts (p + 1 + 1)).kind = 5 := h0.tail.tail.one.1
    have hlen : p + ([wdT [105, 109, 112, 111, 114, 116], tkW 3 (quoT x)] ++ tkW 5 (strU [59]) :: wEnd (r.map wrP)).length = p + 1 + 1 + 1 + (wEnd (r.map wrP)).length := by simp; omega
    rw [hlen] at he
    obtain ⟨l', h3, h4⟩ := imps_ev r (fun v hv => hl v (by simp [hv])) ts (p + 1 + 1 + 1) (acc ++ [u']) h0.tail.tail.tail he
    refine ⟨u' :: l', smL_cons h1 h3, ev_succ ?_⟩
    rw [wEnd_cons, wr_imp, hlen, show acc ++ u' :: l' = acc ++ [u'] ++ l' by simp]
    refine ev_pos h0.is (ev_bind (by rw [h2]; exact ev_const _) ?_)
    unfold kinP
    exact ev_need (by rw [hk]; rfl) h4
theorem decs_ev : ∀ (l : List Pt), (∀ u ∈ l, Dc u) → ∀ (ts : List Tok) (p : Nat) (acc : List Pt), Hs ts p (wEnd (l.map wrP)) → ts.length = p + (wEnd (l.map wrP)).length →
    ∃ l', smL l l' ∧ Ev (fun m => (fns ts m).decL acc p) (.ok (acc ++ l') (p + (wEnd (l.map wrP)).length))
  | [], _, ts, p, acc, hh, he => by
    refine ⟨[], smL_nil, ev_succ ?_⟩
    rw [List.append_nil]
    have e0 : (wEnd (([] : List Pt).map wrP)).length = 0 := rfl
    exact ev_neg (by omega) (ev_const _)
  | u :: r, hl, ts, p, acc, hh, he => by
    rw [wEnd_cons] at hh he
    obtain ⟨-, u', h1, h2⟩ := dc_ev (hl u (by simp)) ts p hh
    have hz := hh.right
    have hk : (nxT ts (p + (wrP u).length)).kind = 5 := hz.one.1
    have hlen : p + (wrP u ++ tkW 5 (strU [59]) :: wEnd (r.map wrP)).length = p + (wrP u).length + 1 + (wEnd (r.map wrP)).length := by simp; omega
    rw [hlen] at he
    obtain ⟨l', h3, h4⟩ := decs_ev r (fun v hv => hl v (by simp [hv])) ts (p + (wrP u).length + 1) (acc ++ [u']) hz.tail he
    refine ⟨u' :: l', smL_cons h1 h3, ev_succ ?_⟩
    rw [wEnd_cons, hlen, show acc ++ u' :: l' = acc ++ [u'] ++ l' by simp]
    refine ev_pos (by omega) (ev_bind h2 ?_)
    unfold kinP
    exact ev_need (by rw [hk]; rfl) h4
/-- The trees of files. -/
def FiT (t : Pt) : Prop := ∃ (x : ByteArray) (a f e : Int) (is ds : List Pt), t = .mk 1 x 0 a f e (is ++ ds) ∧ kepB x = false ∧ (∀ u ∈ is, Im u) ∧ ∀ u ∈ ds, Dc u
theorem wEnd_app (a b : List (List Tok)) : wEnd (a ++ b) = wEnd a ++ wEnd b := by simp [wEnd]
theorem wr_file (x : ByteArray) (a f e : Int) (is ds : List Pt) : wrP (.mk 1 x 0 a f e (is ++ ds)) = wdT [112, 97, 99, 107, 97, 103, 101] :: tkW 1 x :: tkW 5 (strU [59]) :: (wEnd (is.map wrP) ++ wEnd (ds.map wrP)) := by
  rw [wrP, wrM_map, List.map_append]
  simp [wrK, wEnd_app, enT]
theorem file_ev {t : Pt} (h : FiT t) (ts : List Tok) (hh : Hs ts 0 (wrP t)) (hl : ts.length = (wrP t).length) : ∃ t', smP t t' ∧ Ev (fun m => filP ts m 0) (.ok t' ts.length) := by
  obtain ⟨x, a, f, e, is, ds, rfl, hx, hi, hd⟩ := h
  rw [wr_file] at hh hl
  have htx : (nxT ts (0 + 1)).text = x := hh.tail.one.2
  have hk : (nxT ts (0 + 1 + 1)).kind = 5 := hh.tail.tail.one.1
  have h3 := hh.tail.tail.tail
  have hz := h3.right
  have hlen : ts.length = 0 + 1 + 1 + 1 + (wEnd (is.map wrP)).length + (wEnd (ds.map wrP)).length := by rw [hl]; simp; omega
  have hni : isT ts (0 + 1 + 1 + 1 + (wEnd (is.map wrP)).length) [105, 109, 112, 111, 114, 116] = false := by
    cases ds with
    | nil =>
      have e0 : (wEnd (([] : List Pt).map wrP)).length = 0 := rfl
      rw [Bool.eq_false_iff]
      intro hc
      have := is_lt hc (by simp)
      omega
    | cons u r =>
      rw [wEnd_cons] at hz
      exact (dc_ev (hd u (by simp)) ts _ hz).1
  obtain ⟨is', g1, g2⟩ := imps_ev is hi ts _ [] h3.left hni
  obtain ⟨ds', g3, g4⟩ := decs_ev ds hd ts _ is' hz hlen
  refine ⟨.mk 1 x 0 (nxT ts (0 + 1)).pos (herI ts 0) (behI ts ts.length) (is' ++ ds'), smP_mk (smL_app g1 g3), ?_⟩
  unfold filP expP namP kinP
  refine ev_need hh.is (ev_need (nam_of hh.tail hx) (ev_need (by rw [hk]; rfl) (ev_bind g2 (ev_bind g4 ?_))))
  rw [htx, ← hlen]
  exact ev_const _
theorem filO_of {ts : List Tok} {t' : Pt} {q : Nat} (h : Ev (fun m => filP ts m 0) (.ok t' q)) : filO ts = .ok t' q := by
  obtain ⟨n, hn⟩ := h
  have h1 := fil_ends (ts := ts)
  have h2 := fil_more (ts := ts) (n := 12 * ts.length + 12) (m := max n (12 * ts.length + 12)) (by omega) h1
  have h3 : filP ts (max n (12 * ts.length + 12)) 0 = .ok t' q := hn (max n (12 * ts.length + 12)) (by omega)
  unfold filO
  rw [← h2, h3]
/-- A file that was written is read as it was, wherever its tokens stand. -/
theorem file_back {t : Pt} (h : FiT t) (ts : List Tok) (hh : Hs ts 0 (wrP t)) (hl : ts.length = (wrP t).length) : ∃ t', filO ts = .ok t' ts.length ∧ smP t t' := by
  obtain ⟨t', h1, h2⟩ := file_ev h ts hh hl
  exact ⟨t', filO_of h2, h1⟩
end Go.Proofs.YtbadafkfjfbnlaaGreatDoor

namespace Go.Proofs.YtbadafkfjfbnlaaGreatDoor
set_option maxRecDepth 100000
open Go.RowKit

/-- Words, numbers, texts and signs that may stand in a tree. -/
def gW (x : ByteArray) : Prop := plF x ∧ wrA (tkW 1 x) = false ∧ x.size ≤ 4096
def gI (n : Int) : Prop := (∀ u : Tok, u.kind = 2 → u.text = ⟨(Lib.itoa n).toArray⟩ → numT u = n) ∧ plF ⟨(Lib.itoa n).toArray⟩ ∧ wrA (nuT n) = false ∧ (Lib.itoa n).length ≤ 4096 ∧ 0 ≤ n ∧ n ≤ 9223372036854775807
def gQ (x : ByteArray) : Prop := (∀ u : Tok, u.kind = 3 → u.text = quoT x → valT u = x) ∧ plF (quoT x) ∧ wrA (tkW 3 (quoT x)) = false ∧ (quoT x).size ≤ 4096 ∧ x.size ≤ 4096
def gS (x : ByteArray) : Prop := wrA (tkW 4 x) = false ∧ x.size ≤ 4096
theorem wrA_of {t : Tok} (hb : bareB t = false) (ha : alnB t = true) : wrA t = false := by
  have h : chkO [t, enT] = 0 := by
    unfold chkO
    rw [if_neg (by simp), chkF, hb, ha]
    rw [show chkF t [enT] = true by
      rw [chkF, show bareB enT = false by kernel_rfl, show alnB enT = true by kernel_rfl]
      rfl]
    rfl
  unfold wrA
  rw [h]
  rfl
theorem gW_true : gW (strU [116, 114, 117, 101]) := ⟨⟨116, [114, 117, 101], rfl, by decide⟩, by kernel_rfl, by decide⟩
theorem gW_false : gW (strU [102, 97, 108, 115, 101]) := ⟨⟨102, [97, 108, 115, 101], rfl, by decide⟩, by kernel_rfl, by decide⟩
theorem gW_int : gW (strU [105, 110, 116]) := ⟨⟨105, [110, 116], rfl, by decide⟩, by kernel_rfl, by decide⟩
theorem gW_bool : gW (strU [98, 111, 111, 108]) := ⟨⟨98, [111, 111, 108], rfl, by decide⟩, by kernel_rfl, by decide⟩
theorem gW_string : gW (strU [115, 116, 114, 105, 110, 103]) := ⟨⟨115, [116, 114, 105, 110, 103], rfl, by decide⟩, by kernel_rfl, by decide⟩
theorem gS_minus : gS (strU [45]) := ⟨by kernel_rfl, by decide⟩
theorem gS_not : gS (strU [33]) := ⟨by kernel_rfl, by decide⟩
theorem gS_one {x : ByteArray} {s : List UInt8} (h : (x.data.toList == s) = true) (hs : wrA (tkW 4 (strU s)) = false ∧ (strU s).size ≤ 4096) : gS x := by
  have e : x = strU s := by
    have e2 : x.data.toList = s := eq_of_beq h
    rw [← e2]
    rfl
  rw [e]
  exact hs
theorem gS_row {x : ByteArray} (h : 0 ≤ rowI x) : gS x := by
  unfold rowI at h
  split at h
  · rename_i e; exact gS_one e ⟨by kernel_rfl, by decide⟩
  split at h
  · rename_i e; exact gS_one e ⟨by kernel_rfl, by decide⟩
  split at h
  · rename_i e
    simp only [Bool.or_eq_true] at e
    rcases e with ((((e | e) | e) | e) | e) | e
    all_goals exact gS_one e ⟨by kernel_rfl, by decide⟩
  split at h
  · rename_i e
    rw [Bool.or_eq_true] at e
    rcases e with e | e
    all_goals exact gS_one e ⟨by kernel_rfl, by decide⟩
  split at h
  · rename_i e
    simp only [Bool.or_eq_true] at e
    rcases e with (e | e) | e
    all_goals exact gS_one e ⟨by kernel_rfl, by decide⟩
  · omega
end Go.Proofs.YtbadafkfjfbnlaaGreatDoor

namespace Go.Proofs.YtbadafkfjfbnlaaGreatDoor
set_option maxRecDepth 100000
open Go.RowKit

structure NdOk (k : Int) (x : ByteArray) (n : Int) : Prop where
  s : x.size ≤ 4096
  r : 0 ≤ n ∧ n ≤ 9223372036854775807
  i : k = 20 → gI n
  q : k = 2 ∨ k = 21 → gQ x
  g : k = 26 ∨ k = 27 → gS x
  w : k = 1 ∨ k = 3 ∨ k = 4 ∨ k = 5 ∨ k = 6 ∨ k = 7 ∨ k = 8 ∨ k = 9 ∨ k = 10 ∨ k = 11 ∨ k = 12 ∨ k = 17 ∨ k = 22 ∨ k = 23 ∨ k = 24 → gW x
mutual
/-- All that a tree says may stand. -/
def okP : Pt → Prop | .mk k x n _ _ _ l => NdOk k x n ∧ okL l
def okL : List Pt → Prop | [] => True | t :: r => okP t ∧ okL r
end
theorem okL_iff : ∀ {l : List Pt}, okL l ↔ ∀ u ∈ l, okP u
  | [] => by simp [okL]
  | t :: r => by simp [okL, okL_iff (l := r)]
theorem ok_mk {k n a f t : Int} {x : ByteArray} {l : List Pt} (h : NdOk k x n) (hl : ∀ u ∈ l, okP u) : okP (.mk k x n a f t l) := by
  rw [okP]
  exact ⟨h, okL_iff.2 hl⟩
theorem nk_w {k : Int} {x : ByteArray} (hx : gW x) (h1 : k ≠ 20) (h2 : ¬ (k = 2 ∨ k = 21)) (h3 : ¬ (k = 26 ∨ k = 27)) : NdOk k x 0 := ⟨hx.2.2, by decide, fun h => (h1 h).elim, fun h => (h2 h).elim, fun h => (h3 h).elim, fun _ => hx⟩
theorem nk_e {k : Int} (h1 : k = 13 ∨ k = 14 ∨ k = 15 ∨ k = 16 ∨ k = 18 ∨ k = 19 ∨ k = 25) : NdOk k ⟨#[]⟩ 0 := ⟨by decide, by decide, fun h => by omega, fun h => by omega, fun h => by omega, fun h => by omega⟩
theorem nk_i {n : Int} (h : gI n) : NdOk 20 ⟨#[]⟩ n := ⟨by decide, h.2.2.2.2, fun _ => h, fun h => by omega, fun h => by omega, fun h => by omega⟩
theorem nk_q {k : Int} {x : ByteArray} (hk : k = 2 ∨ k = 21) (h : gQ x) : NdOk k x 0 := ⟨h.2.2.2.2, by decide, fun h => by omega, fun _ => h, fun h => by omega, fun h => by omega⟩
theorem nk_s {k : Int} {x : ByteArray} (hk : k = 26 ∨ k = 27) (h : gS x) : NdOk k x 0 := ⟨h.2, by decide, fun h => by omega, fun h => by omega, fun _ => h, fun h => by omega⟩
def tgood (u : Tok) : Prop := (u.kind = 1 → gW u.text) ∧ (u.kind = 2 → gI (numT u)) ∧ (u.kind = 3 → gQ (valT u))
/-- What is read, if it is, is so. -/
def gd {α : Type} (P : α → Prop) (r : Rs α) : Prop := match r with | .ok v _ => P v | _ => True
section
variable {α β : Type} {P : α → Prop} {Q : β → Prop}
theorem gd_bind {r : Rs α} {f : α → Nat → Rs β} (h : gd P r) (hf : ∀ v q, P v → gd Q (f v q)) : gd Q (r.bind f) := by
  cases r with
  | ok v q => exact hf v q h
  | bad s => trivial
  | out => trivial
theorem gd_need {b : Bool} {s : Int} {k : Rs α} (h : b = true → gd P k) : gd P (Rs.need b s k) := by
  unfold Rs.need
  split
  · rename_i hb; exact h hb
  · trivial
theorem gd_ite {c : Prop} [Decidable c] {a b : Rs α} (h : c → gd P a) (h' : ¬ c → gd P b) : gd P (if c then a else b) := by
  split
  · rename_i hc; exact h hc
  · rename_i hc; exact h' hc
theorem gd_mono {R : α → Prop} {r : Rs α} (h : gd P r) (hr : ∀ v, P v → R v) : gd R r := by
  cases r with
  | ok v q => exact hr v h
  | bad s => trivial
  | out => trivial
end
def XE (v : Pt) : Prop := Ex v ∧ okP v
def XS (v : Pt) : Prop := St v ∧ okP v
section
variable {ts : List Tok}
theorem is_txt {p : Nat} {s : List UInt8} (h : isT ts p s = true) : (nxT ts p).text = strU s := by
  have e : (nxT ts p).text.data.toList = s := eq_of_beq h
  rw [← e]
  rfl
theorem nam_txt {p : Nat} (hG : ∀ p, tgood (nxT ts p)) (h : namB ts p = true) : kepB (nxT ts p).text = false ∧ gW (nxT ts p).text := by
  unfold namB at h
  simp only [Bool.and_eq_true, Bool.not_eq_true'] at h
  exact ⟨h.2, (hG p).1 (eq_of_beq h.1)⟩
theorem gd_va1 (hG : ∀ p, tgood (nxT ts p)) (p : Nat) : gd (fun v => Va v ∧ Ex v ∧ okP v ∧ ((nxT ts p).kind = 2 → ∃ n a f t, v = .mk 20 ⟨#[]⟩ n a f t [] ∧ gI n)) (va1P ts p) := by
  unfold va1P
  refine gd_ite (fun h => ?_) fun h2 => gd_ite (fun h => ?_) fun h3 => gd_ite (fun h => ?_) fun _ => trivial
  · have g := (hG p).2.1 (eq_of_beq h)
    exact ⟨.int g.1 g.2.1, .int g.1 g.2.1, ok_mk (nk_i g) (by simp), fun _ => ⟨_, _, _, _, rfl, g⟩⟩
  · have g := (hG p).2.2 (eq_of_beq h)
    exact ⟨.text g.1 g.2.1, .text g.1 g.2.1, ok_mk (nk_q (.inr rfl) g) (by simp), fun hk => absurd hk (by simpa using h2)⟩
  · rw [Bool.or_eq_true] at h
    have hx : (nxT ts p).text = strU [116, 114, 117, 101] ∨ (nxT ts p).text = strU [102, 97, 108, 115, 101] := h.imp is_txt is_txt
    refine ⟨.bool hx, .bool hx, ok_mk (nk_w ?_ (by decide) (by decide) (by decide)) (by simp), fun hk => absurd hk (by simpa using h2)⟩
    rcases hx with hx | hx <;> rw [hx]
    · exact gW_true
    · exact gW_false
theorem gd_val (hG : ∀ p, tgood (nxT ts p)) (p : Nat) : gd (fun v => Vc v ∧ okP v) (valP ts p) := by
  unfold valP
  refine gd_ite (fun h => gd_ite (fun hk => gd_bind (gd_va1 hG (p + 1)) fun v q hv => ?_) fun _ => trivial) fun _ => gd_mono (gd_va1 hG p) fun v hv => ⟨.va hv.1, hv.2.2.1⟩
  obtain ⟨n, a, f, t, rfl, g⟩ := hv.2.2.2 (eq_of_beq hk)
  have e := is_txt h
  show Vc (.mk 26 (nxT ts p).text 0 _ _ _ _) ∧ okP (.mk 26 (nxT ts p).text 0 _ _ _ _)
  rw [e]
  exact ⟨.neg g.1 g.2.1, ok_mk (nk_s (.inl rfl) gS_minus) fun u hu => by obtain rfl := List.mem_singleton.1 hu; exact hv.2.2.1⟩
theorem gd_wor (hG : ∀ p, tgood (nxT ts p)) {k : Int} (h1 : k ≠ 20) (h2 : ¬ (k = 2 ∨ k = 21)) (h3 : ¬ (k = 26 ∨ k = 27)) (p : Nat) : gd (fun v => (∃ x a f t, v = .mk k x 0 a f t [] ∧ kepB x = false ∧ plF x) ∧ okP v) (worP ts k p) := by
  unfold worP
  refine gd_need fun h => ?_
  obtain ⟨e1, e2⟩ := nam_txt hG h
  exact ⟨⟨_, _, _, _, rfl, e1, e2.1⟩, ok_mk (nk_w e2 h1 h2 h3) (by simp)⟩
theorem gd_nam (hG : ∀ p, tgood (nxT ts p)) {β : Type} {Q : β → Prop} {p : Nat} {k : Tok → Nat → Rs β} (h : kepB (nxT ts p).text = false → gW (nxT ts p).text → gd Q (k (nxT ts p) (p + 1))) : gd Q (namP ts p k) := gd_need fun hb => h (nam_txt hG hb).1 (nam_txt hG hb).2
theorem gd_exp {β : Type} {Q : β → Prop} {p : Nat} {s : List UInt8} {k : Nat → Rs β} (h : gd Q (k (p + 1))) : gd Q (expP ts s p k) := gd_need fun _ => h
theorem gd_typ (hG : ∀ p, tgood (nxT ts p)) (p : Nat) : gd (fun v => Ty v ∧ okP v) (typP ts p) := by
  unfold typP
  refine gd_ite (fun h => ?_) fun _ => gd_ite (fun _ => gd_bind (gd_wor hG (by decide) (by decide) (by decide) p) fun v q hv => gd_exp (gd_nam hG fun e1 e2 => ?_)) fun _ => gd_mono (gd_wor hG (by decide) (by decide) (by decide) p) fun v hv => ?_
  · rw [Bool.or_eq_true, Bool.or_eq_true] at h
    have hx : (nxT ts p).text = strU [105, 110, 116] ∨ (nxT ts p).text = strU [98, 111, 111, 108] ∨ (nxT ts p).text = strU [115, 116, 114, 105, 110, 103] := by
      rcases h with (h | h) | h
      · exact .inl (is_txt h)
      · exact .inr (.inl (is_txt h))
      · exact .inr (.inr (is_txt h))
    refine ⟨.basic hx, ok_mk (nk_w ?_ (by decide) (by decide) (by decide)) (by simp)⟩
    rcases hx with hx | hx | hx <;> rw [hx]
    · exact gW_int
    · exact gW_bool
    · exact gW_string
  · obtain ⟨⟨x, a, f, t, rfl, h1, h2⟩, h3⟩ := hv
    exact ⟨.far e1 h1 h2, ok_mk (nk_w e2 (by decide) (by decide) (by decide)) fun u hu => by obtain rfl := List.mem_singleton.1 hu; exact h3⟩
  · obtain ⟨⟨x, a, f, t, rfl, h1, h2⟩, h3⟩ := hv
    exact ⟨.named h1 h2, h3⟩
theorem gd_tyd (hG : ∀ p, tgood (nxT ts p)) {k : Int} (hk : k = 6 ∨ k = 9) (p : Nat) : gd (fun v => Pm k v ∧ okP v) (tydP ts k p) := by
  unfold tydP
  refine gd_nam hG fun e1 e2 => gd_bind (gd_typ hG _) fun v q hv => ?_
  exact ⟨⟨_, _, _, _, _, rfl, e1, e2.1, hv.1⟩, ok_mk (nk_w e2 (by omega) (by omega) (by omega)) fun u hu => by obtain rfl := List.mem_singleton.1 hu; exact hv.2⟩
theorem gd_rec (hG : ∀ p, tgood (nxT ts p)) (p : Nat) : gd (fun v => ReL [v] ∧ okP v) (recP ts p) := by
  unfold recP
  refine gd_nam hG fun e1 e2 => gd_bind (gd_wor hG (by decide) (by decide) (by decide) _) fun v q hv => ?_
  obtain ⟨⟨x, a, f, t, rfl, h1, -⟩, h3⟩ := hv
  exact ⟨.inr ⟨_, _, _, _, _, _, _, _, rfl, e1, h1⟩, ok_mk (nk_w e2 (by decide) (by decide) (by decide)) fun u hu => by obtain rfl := List.mem_singleton.1 hu; exact h3⟩
theorem gd_imp (hG : ∀ p, tgood (nxT ts p)) (p : Nat) : gd (fun v => Im v ∧ okP v) (impP ts p) := by
  unfold impP kinP
  refine gd_exp (gd_need fun h => ?_)
  have g := (hG (p + 1)).2.2 (eq_of_beq h)
  exact ⟨⟨_, _, _, _, rfl, g.1⟩, ok_mk (nk_q (.inl rfl) g) (by simp)⟩
theorem gd_con (hG : ∀ p, tgood (nxT ts p)) (p : Nat) : gd (fun v => Dc v ∧ okP v) (conP ts p) := by
  unfold conP
  refine gd_exp (gd_nam hG fun e1 e2 => gd_exp (gd_bind (gd_val hG _) fun v q hv => ?_))
  exact ⟨.con e1 hv.1, ok_mk (nk_w e2 (by decide) (by decide) (by decide)) fun u hu => by obtain rfl := List.mem_singleton.1 hu; exact hv.2⟩
structure GdA (ts : List Tok) (n : Nat) : Prop where
  bin : ∀ l p, gd XE ((fns ts n).bin l p)
  binL : ∀ l fr t p, XE t → gd XE ((fns ts n).binL l fr t p)
  una : ∀ p, gd XE ((fns ts n).una p)
  post : ∀ p, gd XE ((fns ts n).post p)
  posL : ∀ fr t p, XE t → gd XE ((fns ts n).posL fr t p)
  prim : ∀ p, gd XE ((fns ts n).prim p)
  argL : ∀ l p, (∀ u ∈ l, XE u) → gd (fun l => ∀ u ∈ l, XE u) ((fns ts n).argL l p)
  parL : ∀ l p, (∀ u ∈ l, Pm 9 u ∧ okP u) → gd (fun l => ∀ u ∈ l, Pm 9 u ∧ okP u) ((fns ts n).parL l p)
  fieL : ∀ l p, (∀ u ∈ l, Pm 6 u ∧ okP u) → gd (fun l => ∀ u ∈ l, Pm 6 u ∧ okP u) ((fns ts n).fieL l p)
  stmt : ∀ p, gd XS ((fns ts n).stmt p)
  bran : ∀ p, gd (fun v => XS v ∧ (hdP v).1 = 14) ((fns ts n).bran p)
  stmL : ∀ l p, (∀ u ∈ l, XS u) → gd (fun l => ∀ u ∈ l, XS u) ((fns ts n).stmL l p)
  impL : ∀ l p, (∀ u ∈ l, Im u ∧ okP u) → gd (fun l => ∀ u ∈ l, Im u ∧ okP u) ((fns ts n).impL l p)
  decL : ∀ is ds p, (∀ u ∈ ds, Dc u ∧ okP u) → gd (fun l => ∃ ds, l = is ++ ds ∧ ∀ u ∈ ds, Dc u ∧ okP u) ((fns ts n).decL (is ++ ds) p)
theorem mem_snoc {P : Pt → Prop} {l : List Pt} {t : Pt} (h : ∀ u ∈ l, P u) (ht : P t) : ∀ u ∈ l ++ [t], P u := fun u hu => by
  rcases List.mem_append.1 hu with hu | hu
  · exact h u hu
  · obtain rfl := List.mem_singleton.1 hu; exact ht
theorem mem_two {P : Pt → Prop} {s t : Pt} (h : P s) (ht : P t) : ∀ u ∈ [s, t], P u := fun u hu => by
  rcases List.mem_cons.1 hu with rfl | hu
  · exact h
  · obtain rfl := List.mem_singleton.1 hu; exact ht
theorem mem_one {P : Pt → Prop} {s : Pt} (h : P s) : ∀ u ∈ [s], P u := fun u hu => by obtain rfl := List.mem_singleton.1 hu; exact h
theorem gd_lis {one : Nat → Rs Pt} {more : List Pt → Nat → Rs (List Pt)} {P : Pt → Prop} (h1 : ∀ q, gd P (one q)) (h2 : ∀ l q, (∀ u ∈ l, P u) → gd (fun l => ∀ u ∈ l, P u) (more l q)) (p : Nat) : gd (fun l => ∀ u ∈ l, P u) (lisP ts one more p) := by
  unfold lisP
  exact gd_exp (gd_ite (fun _ => fun u hu => by simp at hu) fun _ => gd_bind (h1 _) fun v q hv => gd_bind (h2 _ _ (mem_one hv)) fun l q hl => gd_exp hl)
/-- A block of statements that are so. -/
def XB (b : Pt) : Prop := ∃ (a f t : Int) (l : List Pt), b = .mk 13 ⟨#[]⟩ 0 a f t l ∧ ∀ u ∈ l, XS u
theorem XB.ok {b : Pt} (h : XB b) : okP b := by
  obtain ⟨a, f, t, l, rfl, hl⟩ := h
  exact ok_mk (nk_e (.inl rfl)) fun u hu => (hl u hu).2
theorem XB.st {b : Pt} (h : XB b) : XS b := by
  refine ⟨?_, h.ok⟩
  obtain ⟨a, f, t, l, rfl, hl⟩ := h
  exact .block fun u hu => (hl u hu).1
theorem XB.bl {b : Pt} (h : XB b) : Bl b := by
  obtain ⟨a, f, t, l, rfl, hl⟩ := h
  exact ⟨_, _, _, _, rfl, fun u hu => (hl u hu).1⟩
theorem gd_blo {n : Nat} (h : GdA ts n) (p : Nat) : gd XB (bloP ts (fns ts n) p) := by
  unfold bloP linP
  exact gd_bind (P := fun l => ∀ u ∈ l, XS u) (gd_exp (gd_bind (h.stmL [] _ (by simp)) fun l q hl => gd_exp hl)) fun l q hl => ⟨_, _, _, _, rfl, hl⟩
theorem gd_var (hG : ∀ p, tgood (nxT ts p)) {n : Nat} (h : GdA ts n) (p : Nat) : gd (fun v => St v ∧ Dc v ∧ okP v) (varP ts (fns ts n) p) := by
  unfold varP
  refine gd_exp (gd_nam hG fun e1 e2 => gd_bind (gd_typ hG _) fun v q hv => gd_ite (fun _ => gd_bind (h.bin _ _) fun x q hx => ?_) fun _ => ?_)
  · exact ⟨.var2 e1 hv.1 hx.1, .var2 e1 hv.1 hx.1, ok_mk (nk_w e2 (by decide) (by decide) (by decide)) (mem_two hv.2 hx.2)⟩
  · exact ⟨.var1 e1 hv.1, .var1 e1 hv.1, ok_mk (nk_w e2 (by decide) (by decide) (by decide)) (mem_one hv.2)⟩
theorem gd_funR (hG : ∀ p, tgood (nxT ts p)) {n : Nat} (h : GdA ts n) (fr : Int) (l : List Pt) (hr : ReL l) (hl : ∀ u ∈ l, okP u) (p : Nat) : gd (fun v => Dc v ∧ okP v) (funR ts (fns ts n) fr l p) := by
  unfold funR
  refine gd_nam hG fun e1 e2 => gd_bind (gd_lis (P := fun u => Pm 9 u ∧ okP u) (fun q => gd_tyd hG (.inr rfl) q) h.parL _) fun ps q hps => gd_ite (fun _ => gd_bind (gd_blo h _) fun b q hb => ?_) fun _ => gd_bind (gd_typ hG _) fun v q hv => gd_bind (gd_blo h _) fun b q hb => ?_
  · have := Dc.fn (a := (nxT ts p).pos) (f := fr) (t := behI ts q) e1 e2.1 hr (fun u hu => (hps u hu).1) (.inl rfl) hb.bl
    rw [List.append_nil] at this
    refine ⟨this, ok_mk (nk_w e2 (by decide) (by decide) (by decide)) (mem_snoc (fun u hu => ?_) hb.ok)⟩
    rcases List.mem_append.1 hu with hu | hu
    · exact hl u hu
    · exact (hps u hu).2
  · refine ⟨.fn e1 e2.1 hr (fun u hu => (hps u hu).1) (.inr ⟨v, rfl, hv.1⟩) hb.bl, ok_mk (nk_w e2 (by decide) (by decide) (by decide)) (mem_snoc (mem_snoc (fun u hu => ?_) hv.2) hb.ok)⟩
    rcases List.mem_append.1 hu with hu | hu
    · exact hl u hu
    · exact (hps u hu).2
theorem gd_dec (hG : ∀ p, tgood (nxT ts p)) {n : Nat} (h : GdA ts n) (p : Nat) : gd (fun v => Dc v ∧ okP v) (decP ts (fns ts n) p) := by
  unfold decP
  refine gd_ite (fun _ => gd_con hG p) fun _ => gd_ite (fun _ => gd_mono (gd_var hG h p) fun v hv => hv.2) fun _ => gd_ite (fun _ => ?_) fun _ => gd_ite (fun _ => ?_) fun _ => trivial
  · unfold strP linP
    refine gd_exp (gd_nam hG fun e1 e2 => gd_exp (gd_bind (P := fun l => ∀ u ∈ l, Pm 6 u ∧ okP u) (gd_exp (gd_bind (h.fieL [] _ (by simp)) fun l q hl => gd_exp hl)) fun l q hl => ?_))
    exact ⟨.str e1 fun u hu => (hl u hu).1, ok_mk (nk_w e2 (by decide) (by decide) (by decide)) fun u hu => (hl u hu).2⟩
  · unfold funP
    exact gd_exp (gd_ite (fun _ => gd_bind (gd_rec hG _) fun v q hv => gd_exp (gd_funR hG h _ _ hv.1 (mem_one hv.2) _)) fun _ => gd_funR hG h _ _ (.inl rfl) (by simp) _)
theorem gdA (hG : ∀ p, tgood (nxT ts p)) (n : Nat) : GdA ts n := by
  induction n with
  | zero => constructor <;> (intros; trivial)
  | succ n ih =>
    have hblo : ∀ p, gd XB (bloP ts (fns ts n) p) := fun p => gd_blo ih p
    constructor
    · intro l p
      exact gd_ite (fun _ => ih.una p) fun _ => gd_bind (ih.bin _ _) fun t q ht => ih.binL _ _ _ _ ht
    · intro l fr t p ht
      refine gd_ite (fun h => gd_bind (ih.bin _ _) fun u q hu => ?_) fun _ => ht
      have hr : 0 ≤ rowI (nxT ts p).text := by omega
      have hn : XE (.mk 27 (nxT ts p).text 0 (nxT ts p).pos fr (behI ts q) [t, u]) := ⟨.bin hr ht.1 hu.1, ok_mk (nk_s (.inr rfl) (gS_row hr)) (mem_two ht.2 hu.2)⟩
      exact gd_ite (fun _ => hn) fun _ => ih.binL _ _ _ _ hn
    · intro p
      refine gd_ite (fun h => gd_bind (ih.una _) fun u q hu => ?_) fun _ => ih.post p
      rw [Bool.or_eq_true] at h
      have hx : (nxT ts p).text = strU [45] ∨ (nxT ts p).text = strU [33] := h.imp is_txt is_txt
      refine ⟨.una hx hu.1, ok_mk (nk_s (.inl rfl) ?_) (mem_one hu.2)⟩
      rcases hx with hx | hx <;> rw [hx]
      · exact gS_minus
      · exact gS_not
    · intro p
      exact gd_bind (ih.prim p) fun t q ht => ih.posL _ _ _ ht
    · intro fr t p ht
      refine gd_ite (fun _ => gd_nam hG fun e1 e2 => ih.posL _ _ _ ?_) fun _ => gd_ite (fun _ => gd_bind (gd_lis (fun q => ih.bin 0 q) ih.argL p) fun l q hl => ih.posL _ _ _ ?_) fun _ => ht
      · exact ⟨.dot e1 e2.1 ht.1, ok_mk (nk_w e2 (by decide) (by decide) (by decide)) (mem_one ht.2)⟩
      · exact ⟨.call ht.1 fun u hu => (hl u hu).1, ok_mk (nk_e (by omega)) fun u hu => by
          rcases List.mem_cons.1 hu with rfl | hu
          · exact ht.2
          · exact (hl u hu).2⟩
    · intro p
      refine gd_ite (fun _ => gd_bind (ih.bin _ _) fun t q ht => gd_exp ht) fun _ => gd_ite (fun h => ?_) fun _ => gd_mono (gd_va1 hG p) fun v hv => ⟨hv.2.1, hv.2.2.1⟩
      obtain ⟨e1, e2⟩ := nam_txt hG h
      exact ⟨.name e1 e2.1, ok_mk (nk_w e2 (by decide) (by decide) (by decide)) (by simp)⟩
    · intro l p hl
      exact gd_ite (fun _ => gd_bind (ih.bin _ _) fun t q ht => ih.argL _ _ (mem_snoc hl ht)) fun _ => hl
    · intro l p hl
      exact gd_ite (fun _ => gd_bind (gd_tyd hG (.inr rfl) _) fun t q ht => ih.parL _ _ (mem_snoc hl ht)) fun _ => hl
    · intro l p hl
      exact gd_ite (fun _ => hl) fun _ => gd_bind (gd_tyd hG (.inl rfl) _) fun t q ht => gd_ite (fun _ => ih.fieL _ _ (mem_snoc hl ht)) fun _ => gd_need fun _ => ih.fieL _ _ (mem_snoc hl ht)
    · intro p
      refine gd_ite (fun _ => gd_mono (hblo p) fun v hv => hv.st) fun _ => gd_ite (fun _ => gd_mono (gd_var hG ih p) fun v hv => ⟨hv.1, hv.2.2⟩) fun _ => gd_ite (fun _ => gd_mono (ih.bran p) fun v hv => hv.1) fun _ => gd_ite (fun _ => ?_) fun _ => gd_ite (fun _ => ?_) fun _ => gd_ite (fun _ => ?_) fun _ => ?_
      · unfold looP
        refine gd_exp (gd_bind (ih.bin _ _) fun x q hx => gd_bind (hblo _) fun b q hb => ?_)
        have hbo := hb.ok
        obtain ⟨a, f, t, l, rfl, hl⟩ := hb
        exact ⟨.loop hx.1 fun u hu => (hl u hu).1, ok_mk (nk_e (by omega)) (mem_two hx.2 hbo)⟩
      · unfold resP
        exact gd_exp (gd_ite (fun _ => gd_bind (ih.bin _ _) fun x q hx => ⟨.res1 hx.1, ok_mk (nk_e (by omega)) (mem_one hx.2)⟩) fun _ => ⟨.res0, ok_mk (nk_e (by omega)) (by simp)⟩)
      · unfold shoP
        exact gd_nam hG fun e1 e2 => gd_exp (gd_bind (ih.bin _ _) fun x q hx => ⟨.short e1 e2.1 hx.1, ok_mk (nk_w e2 (by decide) (by decide) (by decide)) (mem_one hx.2)⟩)
      · unfold simP
        exact gd_bind (ih.bin _ _) fun x q hx => gd_ite (fun _ => gd_bind (ih.bin _ _) fun y q hy => ⟨.assign hx.1 hy.1, ok_mk (nk_e (by omega)) (mem_two hx.2 hy.2)⟩) fun _ => ⟨.expr hx.1, ok_mk (nk_e (by omega)) (mem_one hx.2)⟩
    · intro p
      unfold fns
      dsimp only
      refine gd_exp (gd_bind (ih.bin _ _) fun x q hx => gd_bind (hblo _) fun b q hb => gd_ite (fun _ => gd_bind (P := fun c => XB c ∨ (XS c ∧ (hdP c).1 = 14)) (gd_ite (fun _ => gd_mono (ih.bran _) fun v hv => .inr hv) fun _ => gd_mono (hblo _) fun v hv => .inl hv) fun c q hc => ?_) fun _ => ?_)
      · have hbo := hb.ok
        obtain ⟨a, f, t, l, rfl, hl⟩ := hb
        rcases hc with hc | hc
        · have hco := hc.ok
          obtain ⟨a2, f2, t2, m, rfl, hm⟩ := hc
          exact ⟨⟨.if2 hx.1 (fun u hu => (hl u hu).1) fun u hu => (hm u hu).1, ok_mk (nk_e (by omega)) fun u hu => by
            rcases List.mem_cons.1 hu with rfl | hu
            · exact hx.2
            · exact mem_two hbo hco u hu⟩, rfl⟩
        · exact ⟨⟨.if3 hx.1 (fun u hu => (hl u hu).1) hc.1.1 hc.2, ok_mk (nk_e (by omega)) fun u hu => by
            rcases List.mem_cons.1 hu with rfl | hu
            · exact hx.2
            · exact mem_two hbo hc.1.2 u hu⟩, rfl⟩
      · have hbo := hb.ok
        obtain ⟨a, f, t, l, rfl, hl⟩ := hb
        exact ⟨⟨.if1 hx.1 fun u hu => (hl u hu).1, ok_mk (nk_e (by omega)) (mem_two hx.2 hbo)⟩, rfl⟩
    · intro l p hl
      exact gd_ite (fun _ => hl) fun _ => gd_bind (ih.stmt _) fun t q ht => gd_ite (fun _ => ih.stmL _ _ (mem_snoc hl ht)) fun _ => gd_need fun _ => ih.stmL _ _ (mem_snoc hl ht)
    · intro l p hl
      exact gd_ite (fun _ => gd_bind (gd_imp hG _) fun t q ht => gd_need fun _ => ih.impL _ _ (mem_snoc hl ht)) fun _ => hl
    · intro is ds p hl
      refine gd_ite (fun _ => gd_bind (gd_dec hG ih p) fun t q ht => gd_need fun _ => ?_) fun _ => ⟨ds, rfl, hl⟩
      rw [List.append_assoc]
      exact ih.decL _ _ _ (mem_snoc hl ht)
/-- What is read is the tree of a file. -/
theorem fil_good (hG : ∀ p, tgood (nxT ts p)) {t : Pt} {q : Nat} (h : filO ts = .ok t q) : FiT t ∧ okP t := by
  have ih := gdA hG (12 * ts.length + 12)
  have : gd (fun t => FiT t ∧ okP t) (filO ts) := by
    unfold filO filP
    refine gd_exp (gd_nam hG fun e1 e2 => gd_need fun _ => gd_bind (ih.impL [] _ (by simp)) fun is q hi => gd_bind (by have := ih.decL is [] q (by simp); rw [List.append_nil] at this; exact this) fun l q hl => ?_)
    obtain ⟨ds, rfl, hd⟩ := hl
    refine ⟨⟨_, _, _, _, is, ds, rfl, e1, fun u hu => (hi u hu).1, fun u hu => (hd u hu).1⟩, ok_mk (nk_w e2 (by decide) (by decide) (by decide)) fun u hu => ?_⟩
    rcases List.mem_append.1 hu with hu | hu
    · exact (hi u hu).2
    · exact (hd u hu).2
  rw [h] at this
  exact this
end
end Go.Proofs.YtbadafkfjfbnlaaGreatDoor
