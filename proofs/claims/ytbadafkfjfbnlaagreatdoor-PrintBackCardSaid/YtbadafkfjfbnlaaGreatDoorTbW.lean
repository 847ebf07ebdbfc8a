import Derived.Test.YtbadafkfjfbnlaaGreatDoorTbG
import Derived.Test.YtbadafkfjfbnlaaGreatDoorTbU
import Derived.Test.YtbadafkfjfbnlaaGreatDoorTbV
import Derived.Test.YtbadafkfjfbnlaaGreatDoorTbN
import Derived.Test.YtbadafkfjfbnlaaGreatDoorTbR
import Derived.Test.YtbadafkfjfbnlaaGreatDoorTbC
import Derived.Test.YtbadafkfjfbnlaaGreatDoorTbO
import Derived.Shelf.Strings.Repeat
import Derived.Test.YtbadafkfjfbnlaaGreatDoorProg
namespace Go.Proofs.YtbadafkfjfbnlaaGreatDoor
set_option maxRecDepth 100000
open Go.RowKit
structure Std (ts : List Tok) (N : Int) : Prop where
 zero : 0 <= N
 one : ∀ p, p < ts.length -> 0 <= (nxT ts p).pos ∧ (nxT ts p).pos + (nxT ts p).text.size <= N
 two : ∀ p, p + 1 < ts.length -> (nxT ts p).pos + (nxT ts p).text.size <= (nxT ts (p + 1)).pos
section
variable {ts : List Tok} {N : Int}
theorem Std.hp {p : Nat} (h : p < ts.length) : herI ts p = (nxT ts p).pos := by unfold herI; rw [if_pos h]
theorem Std.bh (hs : Std ts N) {p : Nat} (_h : p <= ts.length) : behI ts p <= herI ts p := by
 unfold herI
 split
 ·rename_i hp
  unfold behI
  split
  ·exact (hs.one p hp).1
  ·have := hs.two (p - 1) (by omega)
   rw [show p - 1 + 1 = p by omega] at this
   exact this
 ·exact Int.le_refl _
theorem Std.hb {p : Nat} (h : p < ts.length) : herI ts p <= behI ts (p + 1) := by
 rw [Std.hp h]
 unfold behI
 rw [if_neg (by omega), show p + 1 - 1 = p by omega]
 omega
theorem Std.bb (hs : Std ts N) {p q : Nat} (h : p <= q) (hq : q <= ts.length) : behI ts p <= behI ts q := by
 induction q with
 | zero =>
  obtain rfl : p = 0 := by omega
  exact Int.le_refl _
 | succ q ih =>
  rcases Nat.lt_or_ge p (q + 1) with h1 | h1
  ·have h2 := ih (by omega) (by omega)
   have h3 := hs.bh (p := q) (by omega)
   have h4 := Std.hb (ts := ts) (p := q) (by omega)
   omega
  ·obtain rfl : p = q + 1 := by omega
   exact Int.le_refl _
theorem Std.z (hs : Std ts N) {p : Nat} (h : p <= ts.length) : 0 <= behI ts p ∧ behI ts p <= N := by
 refine ⟨hs.bb (p := 0) (Nat.zero_le _) h, ?_⟩
 unfold behI
 split
 ·exact hs.zero
 ·exact (hs.one (p - 1) (by omega)).2
theorem Std.hz (hs : Std ts N) {p : Nat} (h : p <= ts.length) : 0 <= herI ts p := by
 have := hs.z h
 have := hs.bh h
 omega
end
theorem zy9 (t : Tok) (r : List Tok) (p : Nat) : nxT (t :: r) (p + 1) = nxT r p := rfl
theorem zs5 {L : List UInt8} : ∀ (ms : List Tok) (e : Nat), StL L e ms ->
  (∀ p, p < ms.length -> ∃ a : Nat, (nxT ms p).pos = a ∧ e <= a ∧ a + (nxT ms p).text.size <= L.length ∧ (L.drop a).take (nxT ms p).text.size = (nxT ms p).text.data.toList) ∧
  ∀ p, p + 1 < ms.length -> (nxT ms p).pos + (nxT ms p).text.size <= (nxT ms (p + 1)).pos
 | [], e, _ => ⟨fun p hp => by simp at hp, fun p hp => by simp at hp⟩
 | t :: r, e, h => by
  obtain ⟨a, h1, h2, h3, h4, -, h5⟩ := h
  have hsz : t.text.data.toList.length = t.text.size := by rw [Array.length_toList]; rfl
  rw [hsz] at h3 h4 h5
  obtain ⟨i1, i2⟩ := zs5 r _ h5
  constructor
  ·intro p hp
   cases p with
   | zero => exact ⟨a, h1, h2, h3, h4⟩
   | succ p =>
    obtain ⟨b, k1, k2, k3, k4⟩ := i1 p (by simpa using hp)
    exact ⟨b, k1, by omega, k3, k4⟩
  ·intro p hp
   cases p with
   | zero =>
    obtain ⟨b, k1, k2, k3, k4⟩ := i1 0 (by simpa using hp)
    rw [zy9, k1]
    show t.pos + t.text.size <= (b : Int)
    rw [h1]
    omega
   | succ p => exact i2 p (by simpa using hp)
theorem z1u {L : List UInt8} {ms : List Tok} (h : StL L 0 ms) : Std ms L.length := by
 obtain ⟨h1, h2⟩ := zs5 ms 0 h
 refine ⟨by omega, fun p hp => ?_, h2⟩
 obtain ⟨a, e, -, h3, -⟩ := h1 p hp
 omega
def bd (ts : List Tok) {α : Type} (r : Rs α) (p : Nat) : Prop := match r with | .ok _ q => p <= q ∧ q <= ts.length | .bad s => ∃ p', p <= p' ∧ p' <= ts.length ∧ s = herI ts p' | .out => True
section
variable {ts : List Tok} {α β : Type}
theorem zfl {r : Rs α} {p m : Nat} (h : bd ts r p) (hm : m <= p) : bd ts r m := by
 cases r with
 | ok v q => exact ⟨Nat.le_trans hm h.1, h.2⟩
 | bad s => obtain ⟨p', h1, h2, h3⟩ := h; exact ⟨p', Nat.le_trans hm h1, h2, h3⟩
 | out => trivial
theorem zaw {r : Rs α} {f : α -> Nat -> Rs β} {p m : Nat} (h : bd ts r p) (hm : m <= p) (hf : ∀ v q, p <= q -> q <= ts.length -> bd ts (f v q) q) : bd ts (r.bind f) m := by
 cases r with
 | ok v q => exact zfl (hf v q h.1 h.2) (Nat.le_trans hm h.1)
 | bad s => exact zfl (r := (.bad s : Rs β)) h hm
 | out => trivial
theorem za7 {c : Prop} [Decidable c] {a b : Rs α} {m : Nat} (h : c -> bd ts a m) (h' : ¬ c -> bd ts b m) : bd ts (if c then a else b) m := by
 split
 ·rename_i hc; exact h hc
 ·rename_i hc; exact h' hc
theorem znz {p : Nat} (h : p <= ts.length) : bd ts (.bad (herI ts p) : Rs α) p := ⟨p, Nat.le_refl _, h, rfl⟩
theorem zjv {b : Bool} {p : Nat} {k : Rs α} (hp : p <= ts.length) (h : b = true -> bd ts k p) : bd ts (Rs.need b (herI ts p) k) p := by
 unfold Rs.need
 exact za7 h fun _ => znz hp
theorem zck {v : α} {p q : Nat} (h : p <= q) (hq : q <= ts.length) : bd ts (.ok v q) p := ⟨h, hq⟩
theorem zdc {p : Nat} {s : List UInt8} {k : Nat -> Rs α} (hs : s ≠ []) (hp : p <= ts.length) (h : p < ts.length -> bd ts (k (p + 1)) (p + 1)) : bd ts (expP ts s p k) p := zjv hp fun hb => zfl (h (zbw hb hs)) (by omega)
theorem ziq {p : Nat} {n : Int} {k : Tok -> Nat -> Rs α} (hn : n ≠ 0) (hp : p <= ts.length) (h : p < ts.length -> bd ts (k (nxT ts p) (p + 1)) (p + 1)) : bd ts (kinP ts n p k) p := zjv hp fun hb => zfl (h (zfr hb hn)) (by omega)
theorem zfb {p : Nat} {k : Tok -> Nat -> Rs α} (hp : p <= ts.length) (h : p < ts.length -> bd ts (k (nxT ts p) (p + 1)) (p + 1)) : bd ts (namP ts p k) p := zjv hp fun hb => zfl (h (zgk hb)) (by omega)
theorem zn0 (k : Int) {p : Nat} (h : p < ts.length) : bd ts (leaP ts k p) p := ⟨by omega, by omega⟩
theorem zs6 (k : Int) {p : Nat} (h : p <= ts.length) : bd ts (worP ts k p) p := zjv h fun hb => zn0 k (zgk hb)
theorem zs7 {p : Nat} (h : p <= ts.length) : bd ts (va1P ts p) p := by
 unfold va1P
 refine za7 (fun hc => zck (by omega) (by have := zfr hc (by decide); omega)) fun _ => za7 (fun hc => zck (by omega) (by have := zfr hc (by decide); omega)) fun _ => za7 (fun hc => zn0 _ ?_) fun _ => znz h
 rw [Bool.or_eq_true] at hc
 rcases hc with hc | hc <;> exact zbw hc (by simp)
theorem z1v {p : Nat} (h : p <= ts.length) : bd ts (valP ts p) p := by
 unfold valP
 refine za7 (fun hc => ?_) fun _ => zs7 h
 have hp := zbw hc (by simp)
 exact za7 (fun _ => zaw (zs7 hp) (by omega) fun v q h1 h2 => zck (Nat.le_refl _) h2) fun _ => zfl (znz hp) (by omega)
theorem zs8 {p : Nat} (h : p <= ts.length) : bd ts (typP ts p) p := by
 unfold typP
 refine za7 (fun hc => zn0 _ ?_) fun _ => za7 (fun _ => zaw (zs6 _ h) (Nat.le_refl _) fun v q h1 h2 => zdc (by simp) h2 fun h3 => zfb h3 fun h4 => zck (Nat.le_refl _) h4) fun _ => zs6 _ h
 rw [Bool.or_eq_true, Bool.or_eq_true] at hc
 rcases hc with (hc | hc) | hc <;> exact zbw hc (by simp)
theorem zs9 (k : Int) {p : Nat} (h : p <= ts.length) : bd ts (tydP ts k p) p := by
 unfold tydP
 exact zfb h fun h1 => zaw (zs8 h1) (Nat.le_refl _) fun v q _ h2 => zck (Nat.le_refl _) h2
theorem z1w {p : Nat} (h : p <= ts.length) : bd ts (impP ts p) p := by
 unfold impP
 exact zdc (by simp) h fun h1 => ziq (by simp) h1 fun h2 => zck (Nat.le_refl _) h2
theorem z1x {p : Nat} (h : p <= ts.length) : bd ts (conP ts p) p := by
 unfold conP
 exact zdc (by simp) h fun h1 => zfb h1 fun h2 => zdc (by simp) h2 fun h3 => zaw (z1v h3) (Nat.le_refl _) fun v q _ h4 => zck (Nat.le_refl _) h4
theorem z1y {p : Nat} (h : p <= ts.length) : bd ts (recP ts p) p := by
 unfold recP
 exact zfb h fun h1 => zaw (zs6 _ h1) (Nat.le_refl _) fun v q _ h4 => zck (Nat.le_refl _) h4
structure BdA (ts : List Tok) (n : Nat) : Prop where
 bin : ∀ l p, p <= ts.length -> bd ts ((fns ts n).bin l p) p
 binL : ∀ l fr t p, p <= ts.length -> bd ts ((fns ts n).binL l fr t p) p
 una : ∀ p, p <= ts.length -> bd ts ((fns ts n).una p) p
 post : ∀ p, p <= ts.length -> bd ts ((fns ts n).post p) p
 posL : ∀ fr t p, p <= ts.length -> bd ts ((fns ts n).posL fr t p) p
 prim : ∀ p, p <= ts.length -> bd ts ((fns ts n).prim p) p
 argL : ∀ l p, p <= ts.length -> bd ts ((fns ts n).argL l p) p
 parL : ∀ l p, p <= ts.length -> bd ts ((fns ts n).parL l p) p
 fieL : ∀ l p, p <= ts.length -> bd ts ((fns ts n).fieL l p) p
 stmt : ∀ p, p <= ts.length -> bd ts ((fns ts n).stmt p) p
 bran : ∀ p, p <= ts.length -> bd ts ((fns ts n).bran p) p
 stmL : ∀ l p, p <= ts.length -> bd ts ((fns ts n).stmL l p) p
 impL : ∀ l p, p <= ts.length -> bd ts ((fns ts n).impL l p) p
 decL : ∀ l p, p <= ts.length -> bd ts ((fns ts n).decL l p) p
theorem zwz {one : Nat -> Rs Pt} {more : List Pt -> Nat -> Rs (List Pt)} {p : Nat} (h1 : ∀ q, q <= ts.length -> bd ts (one q) q) (h2 : ∀ l q, q <= ts.length -> bd ts (more l q) q) (hp : p <= ts.length) : bd ts (lisP ts one more p) p := by
 unfold lisP
 exact zdc (by simp) hp fun h => za7 (fun hc => zck (by omega) (zbw hc (by simp))) fun _ => zaw (h1 _ h) (Nat.le_refl _) fun v q _ hq => zaw (h2 _ _ hq) (Nat.le_refl _) fun l q' _ hq' => zdc (by simp) hq' fun h' => zck (Nat.le_refl _) h'
theorem zw0 {more : List Pt -> Nat -> Rs (List Pt)} {p : Nat} (h2 : ∀ l q, q <= ts.length -> bd ts (more l q) q) (hp : p <= ts.length) : bd ts (linP ts more p) p := by
 unfold linP
 exact zdc (by simp) hp fun h => zaw (h2 _ _ h) (Nat.le_refl _) fun l q' _ hq' => zdc (by simp) hq' fun h' => zck (Nat.le_refl _) h'
theorem zir {n p : Nat} (ih : BdA ts n) (hp : p <= ts.length) : bd ts (bloP ts (fns ts n) p) p := by
 unfold bloP
 exact zaw (zw0 ih.stmL hp) (Nat.le_refl _) fun l q _ hq => zck (Nat.le_refl _) hq
theorem zw1 {n p : Nat} (ih : BdA ts n) (hp : p <= ts.length) : bd ts (varP ts (fns ts n) p) p := by
 unfold varP
 exact zdc (by simp) hp fun h1 => zfb h1 fun h2 => zaw (zs8 h2) (Nat.le_refl _) fun v q _ hq => za7 (fun hc => zaw (ih.bin _ _ (zbw hc (by simp))) (by omega) fun x q' _ hq' => zck (Nat.le_refl _) hq') fun _ => zck (Nat.le_refl _) hq
theorem z1z {n p : Nat} (ih : BdA ts n) (hp : p <= ts.length) : bd ts (decP ts (fns ts n) p) p := by
 have hfun : ∀ fr l q, q <= ts.length -> bd ts (funR ts (fns ts n) fr l q) q := fun fr l q hq => by
  unfold funR
  exact zfb hq fun h1 => zaw (zwz (fun _ => zs9 9) ih.parL h1) (Nat.le_refl _) fun ps q1 _ h2 => za7 (fun _ => zaw (zir ih h2) (Nat.le_refl _) fun b q2 _ h3 => zck (Nat.le_refl _) h3) fun _ => zaw (zs8 h2) (Nat.le_refl _) fun v q2 _ h3 => zaw (zir ih h3) (Nat.le_refl _) fun b q3 _ h4 => zck (Nat.le_refl _) h4
 unfold decP
 refine za7 (fun _ => z1x hp) fun _ => za7 (fun _ => zw1 ih hp) fun _ => za7 (fun _ => ?_) fun _ => za7 (fun _ => ?_) fun _ => znz hp
 ·unfold strP
  exact zdc (by simp) hp fun h1 => zfb h1 fun h2 => zdc (by simp) h2 fun h3 => zaw (zw0 ih.fieL h3) (Nat.le_refl _) fun l q _ hq => zck (Nat.le_refl _) hq
 ·unfold funP
  exact zdc (by simp) hp fun h1 => za7 (fun hc => zaw (z1y (zbw hc (by simp))) (by omega) fun v q _ hq => zdc (by simp) hq fun h2 => hfun _ _ _ h2) fun _ => hfun _ _ _ h1
theorem bdA (n : Nat) : BdA ts n := by
 induction n with
 | zero => constructor <;> (intros; trivial)
 | succ n ih =>
  constructor
  ·intro l p hp
   show bd ts (if l = 5 then (fns ts n).una p else ((fns ts n).bin (l + 1) p).bind fun t q => (fns ts n).binL l (herI ts p) t q) p
   exact za7 (fun _ => ih.una p hp) fun _ => zaw (ih.bin _ _ hp) (Nat.le_refl _) fun t q _ hq => ih.binL _ _ _ _ hq
  ·intro l fr t p hp
   refine za7 (fun h => ?_) fun _ => zck (Nat.le_refl _) hp
   have h1 := zm3 h
   exact zaw (ih.bin _ _ h1) (by omega) fun u q _ hq => za7 (fun _ => zck (Nat.le_refl _) hq) fun _ => ih.binL _ _ _ _ hq
  ·intro p hp
   refine za7 (fun h => ?_) fun _ => ih.post p hp
   have h1 : p < ts.length := by
    rw [Bool.or_eq_true] at h
    rcases h with h | h <;> exact zbw h (by simp)
   exact zaw (ih.una _ h1) (by omega) fun u q _ hq => zck (Nat.le_refl _) hq
  ·intro p hp
   exact zaw (ih.prim p hp) (Nat.le_refl _) fun t q _ hq => ih.posL _ _ _ hq
  ·intro fr t p hp
   refine za7 (fun h => ?_) fun _ => za7 (fun h => ?_) fun _ => zck (Nat.le_refl _) hp
   ·have h1 := zbw h (by simp)
    exact zfl (zfb h1 fun h2 => ih.posL _ _ _ h2) (by omega)
   ·exact zaw (zwz (ih.bin 0) ih.argL hp) (Nat.le_refl _) fun l q _ hq => ih.posL _ _ _ hq
  ·intro p hp
   refine za7 (fun h => ?_) fun _ => za7 (fun h => zn0 _ (zgk h)) fun _ => zs7 hp
   exact zaw (ih.bin _ _ (zbw h (by simp))) (by omega) fun t q _ hq => zdc (by simp) hq fun h' => zck (Nat.le_refl _) h'
  ·intro l p hp
   exact za7 (fun h => zaw (ih.bin _ _ (zbw h (by simp))) (by omega) fun t q _ hq => ih.argL _ _ hq) fun _ => zck (Nat.le_refl _) hp
  ·intro l p hp
   exact za7 (fun h => zaw (zs9 _ (zbw h (by simp))) (by omega) fun t q _ hq => ih.parL _ _ hq) fun _ => zck (Nat.le_refl _) hp
  ·intro l p hp
   exact za7 (fun _ => zck (Nat.le_refl _) hp) fun _ => zaw (zs9 _ hp) (Nat.le_refl _) fun t q _ hq => za7 (fun _ => ih.fieL _ _ hq) fun _ => ziq (by simp) hq fun h => ih.fieL _ _ h
  ·intro p hp
   refine za7 (fun _ => zir ih hp) fun _ => za7 (fun _ => zw1 ih hp) fun _ => za7 (fun _ => ih.bran p hp) fun _ => za7 (fun _ => ?_) fun _ => za7 (fun _ => ?_) fun _ => za7 (fun _ => ?_) fun _ => ?_
   ·unfold looP
    exact zdc (by simp) hp fun h1 => zaw (ih.bin _ _ h1) (Nat.le_refl _) fun x q _ hq => zaw (zir ih hq) (Nat.le_refl _) fun b q' _ hq' => zck (Nat.le_refl _) hq'
   ·unfold resP
    exact zdc (by simp) hp fun h1 => za7 (fun _ => zaw (ih.bin _ _ h1) (Nat.le_refl _) fun x q _ hq => zck (Nat.le_refl _) hq) fun _ => zck (Nat.le_refl _) h1
   ·unfold shoP
    exact zfb hp fun h1 => zdc (by simp) h1 fun h2 => zaw (ih.bin _ _ h2) (Nat.le_refl _) fun x q _ hq => zck (Nat.le_refl _) hq
   ·unfold simP
    exact zaw (ih.bin _ _ hp) (Nat.le_refl _) fun x q _ hq => za7 (fun hc => zaw (ih.bin _ _ (zbw hc (by simp))) (by omega) fun y q' _ hq' => zck (Nat.le_refl _) hq') fun _ => zck (Nat.le_refl _) hq
  ·intro p hp
   unfold fns
   dsimp only
   exact zdc (by simp) hp fun h1 => zaw (ih.bin _ _ h1) (Nat.le_refl _) fun x q _ hq => zaw (zir ih hq) (Nat.le_refl _) fun b q' _ hq' => za7 (fun hc => zaw (p := q' + 1) (za7 (fun _ => ih.bran _ (zbw hc (by simp))) fun _ => zir ih (zbw hc (by simp))) (by omega) fun c q'' _ hq'' => zck (Nat.le_refl _) hq'') fun _ => zck (Nat.le_refl _) hq'
  ·intro l p hp
   exact za7 (fun _ => zck (Nat.le_refl _) hp) fun _ => zaw (ih.stmt _ hp) (Nat.le_refl _) fun t q _ hq => za7 (fun _ => ih.stmL _ _ hq) fun _ => ziq (by simp) hq fun h => ih.stmL _ _ h
  ·intro l p hp
   exact za7 (fun _ => zaw (z1w hp) (Nat.le_refl _) fun t q _ hq => ziq (by simp) hq fun h => ih.impL _ _ h) fun _ => zck (Nat.le_refl _) hp
  ·intro l p hp
   exact za7 (fun _ => zaw (z1z ih hp) (Nat.le_refl _) fun t q _ hq => ziq (by simp) hq fun h => ih.decL _ _ h) fun _ => zck (Nat.le_refl _) hp
theorem z10 (n : Nat) {p : Nat} (hp : p <= ts.length) : bd ts (filP ts n p) p := by
 have ih := bdA (ts := ts) n
 unfold filP
 exact zdc (by simp) hp fun h1 => zfb h1 fun h2 => ziq (by simp) h2 fun h3 => zaw (ih.impL _ _ h3) (Nat.le_refl _) fun l q _ hq => zaw (ih.decL _ _ hq) (Nat.le_refl _) fun l' q' _ hq' => zck (Nat.le_refl _) hq'
end
theorem zn1 : ∀ (a : List Tok) (l : Int) (t : Tok), risB l a = true -> (∀ x, a.getLast? = some x -> x.pos < t.pos) -> (a = [] -> l < t.pos) -> risB l (a ++ [t]) = true
 | [], l, t, _, _, h => by
  show (if t.pos <= l then false else true) = true
  rw [if_neg (by have := h rfl; omega)]
 | x :: r, l, t, h, h', _ => by
  rw [risB] at h
  split at h
  ·cases h
  rename_i hx
  rw [List.cons_append, risB, if_neg hx]
  refine zn1 r x.pos t h (fun y hy => h' y ?_) fun e => h' x ?_
  ·rw [List.getLast?_cons, hy]; rfl
  ·rw [e]; rfl
theorem zza {L : List UInt8} : ∀ (f p : Nat) (ds ms : List Tok), p <= L.length -> risB (-1) ds = true -> (∀ x, ds.getLast? = some x -> x.pos < (p : Int) ∨ (x.pos = p ∧ clo (lastT ds) = false ∧ (p < L.length -> lookR (L.drop p) false = (0, 1, 0)))) ->
  lexG L f p ds = (ms, 0, 0) -> risB (-1) ms = true := by
 intro f
 induction f with
 | zero =>
  intro p ds ms _ h _ he
  rw [lexG] at he
  simp only [Prod.mk.injEq] at he
  rw [<- he.1]
  exact h
 | succ f ih =>
  intro p ds ms hp hr hla he
  obtain ⟨k, n, e, hl⟩ : ∃ k n e, lookR (L.drop p) (clo (lastT ds)) = (k, n, e) := ⟨_, _, _, rfl⟩
  by_cases h1 : p < L.length ∨ clo (lastT ds) = true
  ·by_cases hee : e = 0
   ·subst hee
    have hsz := zc3 hl (fun e => by
     rcases h1 with h1 | h1
     ·have := congrArg List.length e; rw [List.length_drop] at this; simp at this; omega
     ·exact h1)
    have hpn : p + n <= L.length := by have := hsz.1; rw [List.length_drop] at this; omega
    by_cases hk : k = 0
    ·subst hk
     rw [zdg h1 hl] at he
     have hn : 0 < n := by
      rcases hsz.2 with h | h
      ·exact h
      ·exact absurd h.1 (by decide)
     refine ih (p + n) ds ms hpn hr (fun x hx => .inl ?_) he
     rcases hla x hx with h | h
     ·have : ((p + n : Nat) : Int) = (p : Int) + n := by omega
      omega
     ·have := h.1
      have : ((p + n : Nat) : Int) = (p : Int) + n := by omega
      omega
    ·have hbe : ∀ x, ds.getLast? = some x -> x.pos < (p : Int) := fun x hx => by
      rcases hla x hx with h | ⟨-, h2, h3⟩
      ·exact h
      ·rcases h1 with h1 | h1
       ·rw [h2, h3 h1] at hl
        simp only [Prod.mk.injEq] at hl
        exact absurd hl.1.symm hk
       ·rw [h2] at h1; cases h1
     by_cases ht : ds.length = 1024
     ·rw [zdw h1 hl hk ht] at he
      simp at he
     ·rw [zcv h1 hl hk ht] at he
      refine ih (p + n) _ ms hpn (zn1 ds (-1) _ hr hbe fun _ => by show (-1 : Int) < (p : Int); omega) (fun x hx => ?_) he
      rw [List.getLast?_concat] at hx
      injection hx with hx
      subst hx
      rcases hsz.2 with h0 | ⟨hk5, h0, hen⟩
      ·refine .inl ?_
       show (p : Int) < ((p + n : Nat) : Int)
       omega
      ·subst hk5 h0
       refine .inr ⟨rfl, by rw [zb2]; rfl, fun hlt => ?_⟩
       rw [Nat.add_zero]
       cases hd : L.drop p with
       | nil => have := congrArg List.length hd; rw [List.length_drop] at this; simp at this; omega
       | cons c r =>
        rw [hd, hen] at hl
        unfold lookR at hl ⊢
        simp only at hl ⊢
        split at hl
        ·rename_i hc
         rw [if_pos hc]
         rfl
        ·exfalso
         split at hl
         ·simp at hl
         split at hl
         ·simp at hl
         split at hl
         ·simp only [Prod.mk.injEq] at hl; exact absurd hl.1 (by decide)
         split at hl
         ·simp only [Prod.mk.injEq] at hl; exact absurd hl.1 (by decide)
         split at hl
         ·simp only [Prod.mk.injEq] at hl; exact absurd hl.1 (by decide)
         split at hl
         ·simp at hl
         ·simp only [Prod.mk.injEq] at hl; exact absurd hl.1 (by decide)
   ·rw [zd6 h1 hl hee] at he
    simp only [Prod.mk.injEq] at he
    exact absurd he.2.1 hee
  ·rw [lexG, if_neg h1] at he
   simp only [Prod.mk.injEq] at he
   rw [<- he.1]
   exact hr
theorem zvr {L : List UInt8} {ms : List Tok} (h : lexO L = (ms, 0, 0)) : risB (-1) ms = true := by
 unfold lexO at h
 split at h
 ·simp at h
 ·exact zza _ 0 [] ms (Nat.zero_le _) rfl (fun x hx => by simp at hx) h
theorem zzb {s : List UInt8} {p : Int × Int} (h : txtO s = .inl p) : p.1 ≠ 0 ∧ 0 <= p.2 ∧ p.2 <= s.length := by
 unfold txtO at h
 by_cases hL : s.length <= 4096
 ·rcases zfk hL with ⟨e, q, he, h0, hq⟩ | ⟨ms, hm, hst, hck, hlen⟩
  ·rw [he, if_neg h0] at h
   injection h with h
   subst h
   exact ⟨h0, by show (0 : Int) <= (q : Int); omega, by show (q : Int) <= _; omega⟩
  ·rw [hm, if_pos rfl] at h
   unfold parO at h
   split at h
   ·injection h with h; subst h; exact ⟨by decide, by decide, by show (0 : Int) <= _; omega⟩
   split at h
   ·injection h with h; subst h; exact ⟨by decide, by decide, by show (0 : Int) <= _; omega⟩
   have hstd := z1u hst
   split at h
   ·split at h
    ·injection h with h; subst h; exact ⟨by decide, by decide, by show (0 : Int) <= _; omega⟩
    split at h
    ·injection h with h; subst h; exact ⟨by decide, by decide, by show (0 : Int) <= _; omega⟩
    ·cases h
   ·rename_i x hx
    injection h with h
    subst h
    have hb := z10 (ts := ms) (12 * ms.length + 12) (p := 0) (Nat.zero_le _)
    have hx' : filP ms (12 * ms.length + 12) 0 = .bad x := hx
    rw [hx'] at hb
    obtain ⟨q, -, hq, e⟩ := hb
    refine ⟨by show (210 : Int) ≠ 0; decide, ?_, ?_⟩
    ·show 0 <= x
     rw [e]
     exact hstd.hz hq
    ·show x <= _
     rw [e]
     by_cases hlt : q < ms.length
     ·rw [Std.hp hlt]
      have := hstd.one q hlt
      omega
     ·have e2 : herI ms q = behI ms q := by unfold herI; rw [if_neg hlt]
      rw [e2]
      exact (hstd.z hq).2
   ·rename_i hx
    exact absurd hx zi3
 ·have he : lexO s = ([], 3, 0) := by unfold lexO; rw [if_pos (by omega)]
  rw [he, if_neg (by decide)] at h
  injection h with h
  subst h
  exact ⟨by decide, by decide, by show ((0 : Nat) : Int) <= _; omega⟩
theorem zzc {s : List UInt8} {t : Pt} (h : txtO s = .inr t) : ∃ ts q, lexO s = (ts, 0, 0) ∧ chkO ts = 0 ∧ filO ts = .ok t q ∧ (layP 0 t).length <= 2048 ∧ dpF (fun _ => 0) 0 0 (layP 0 t) <= 24 := by
 unfold txtO at h
 by_cases hL : s.length <= 4096
 ·rcases zfk hL with ⟨e, q, he, h0, hq⟩ | ⟨ms, hm, hst, hck, hlen⟩
  ·rw [he, if_neg h0] at h
   cases h
  ·rw [hm, if_pos rfl] at h
   refine ⟨ms, ?_⟩
   unfold parO at h
   split at h
   ·cases h
   split at h
   ·cases h
   split at h
   ·rename_i u q hu
    split at h
    ·cases h
    split at h
    ·cases h
    ·injection h with h
     subst h
     exact ⟨q, hm, hck, hu, by omega, by omega⟩
   ·cases h
   ·cases h
 ·have he : lexO s = ([], 3, 0) := by unfold lexO; rw [if_pos (by omega)]
  rw [he, if_neg (by decide)] at h
  cases h
theorem zzd : ∀ (a b : List Nd) (D : Nat -> Int) (i : Nat) (m : Int), eqAll ndEq a b = true -> dpF D i m a = dpF D i m b
 | [], [], _, _, _, _ => rfl
 | [], _ :: _, _, _, _, h => by simp [eqAll] at h
 | _ :: _, [], _, _, _, h => by simp [eqAll] at h
 | x :: a, y :: b, D, i, m, h => by
  rw [eqAll, Bool.and_eq_true] at h
  have hk : x.kids = y.kids := by
   have := h.1
   unfold ndEq at this
   simp only [Bool.and_eq_true, beq_iff_eq] at this
   exact this.2
  rw [dpF, dpF, hk]
  exact zzd a b _ _ _ h.2
theorem zze (ws : List Tok) : Hs ws 0 ws := fun i t hi => by
 have hlt := (List.getElem?_eq_some_iff.1 hi).1
 have e : nxT ws (0 + i) = t := by unfold nxT; rw [Nat.zero_add, List.getD_eq_getElem?_getD, hi]; rfl
 rw [e]
 exact ⟨rfl, .inl rfl⟩
theorem zzf {u : Tok} (h : wrA u = false) : bareB u = false ∧ alnB u = true := by
 unfold wrA at h
 have h0 : chkO [u, enT] = 0 := by simpa using h
 unfold chkO at h0
 rw [if_neg (by simp)] at h0
 have h1 : chkF ⟨0, ⟨#[]⟩, 0⟩ [u, enT] = true := by
  cases hc : chkF ⟨0, ⟨#[]⟩, 0⟩ [u, enT] with
  | true => rfl
  | false => rw [hc] at h0; simp at h0
 rw [chkF] at h1
 cases hb : bareB u with
 | true => rw [hb] at h1; simp [clo] at h1
 | false =>
  rw [hb] at h1
  cases ha : alnB u with
  | true => exact ⟨rfl, rfl⟩
  | false => rw [ha] at h1; simp at h1
set_option maxHeartbeats 4000000
structure Pw (w0 : World) (g : Nat) (nv : Value) (d : Nat) (w : World) (v : Value) (out : List UInt8) : Prop where
 b : Below w0.heap.size w0 w
 h : w0.heap.size <= g
 r : ∃ p, (p = .pointer none ∨ p = .pointer (some ⟨g, 0, none⟩)) ∧ w.heap[g]? = some (.cells #[p, v, nv, .int .i64 d] 87 (0, 0))
 o : OwnB w0.heap.size w v out
def Pp (w0 : World) (g : Nat) (nv : Value) (d : Nat) (w : World) (v : Value) (out : List UInt8) (w' : World) : Prop :=
 ∃ v', Pw w0 g nv d w' v' out ∧ Oth g v w w' ∧ (v'.ownBlock = v.ownBlock ∨ ∃ q, v'.ownBlock = some q ∧ w.heap.size <= q)
section
variable {w0 w w1 w2 : World} {g d d1 d2 : Nat} {nv v v1 : Value} {out out1 out2 : List UInt8}
theorem Pw.lt (h : Pw w0 g nv d w v out) : g < w.heap.size := by
 obtain ⟨p, -, hr⟩ := h.r
 exact zab hr
theorem Pw.ne (h : Pw w0 g nv d w v out) : v.ownBlock ≠ some g := by
 obtain ⟨p, -, hr⟩ := h.r
 exact OwnG.nb h.o hr (by decide)
theorem Pw.low (h : Pw w0 g nv d w v out) (hb : Below w.heap.size w w1) : Pw w0 g nv d w1 v out := by
 obtain ⟨p, hp, hr⟩ := h.r
 exact ⟨h.b.trans (hb.mono h.b.size), h.h, ⟨p, hp, (hb.block _ h.lt).trans hr⟩, h.o.below hb⟩
theorem Pp.start (h : Pw w0 g nv d w v out) : Pp w0 g nv d w v out w := ⟨v, h, zjf g v w, .inl rfl⟩
theorem Pp.trans (h : Oth g v w w1) (hv : v1.ownBlock = v.ownBlock ∨ ∃ q, v1.ownBlock = some q ∧ w.heap.size <= q) (h' : Pp w0 g nv d w1 v1 out w2) : Pp w0 g nv d w v out w2 := by
 obtain ⟨v2, r2, o2, q2⟩ := h'
 refine ⟨v2, r2, h.trans hv o2, ?_⟩
 rcases q2 with q2 | ⟨q, q2, q3⟩
 ·rcases hv with hv | ⟨q, hv, hq⟩
  ·exact .inl (q2.trans hv)
  ·exact .inr ⟨q, q2.trans hv, hq⟩
 ·exact .inr ⟨q, q2, Nat.le_trans h.size q3⟩
theorem Pp.pre (hb : Below w.heap.size w w1) (h' : Pp w0 g nv d w1 v out w2) : Pp w0 g nv d w v out w2 := Pp.trans (zki g v hb) (.inl rfl) h'
theorem Pp.row {cs : Array Value} {ty : TypeId} {fr : Nat × Nat} {j : Nat} (hw : Pw w0 g nv d w v out1) (h : Oth g v w w1) (hr : w.heap[j]? = some (.cells cs ty fr)) (hj : j ≠ g) (ht : 5 ≠ ty) : w1.heap[j]? = some (.cells cs ty fr) :=
 (h.block j (zab hr) hj (OwnG.nb hw.o hr ht)).trans hr
theorem Pw.env (h : Pw w0 g nv d w v out) {α : Type} {m : Nat} {cs : α -> Array Value} {sp : Option Addr} {xs : List α} (hr : RowsAt w0 m cs sp xs) : RowsAt w m cs sp xs := hr.below h.b
theorem Pp.step (h : Pp w0 g nv d w v out w1) : ∃ v', Pw w0 g nv d w1 v' out ∧ ∀ W2 d2 out2, Pp w0 g nv d2 w1 v' out2 W2 -> Pp w0 g nv d2 w v out2 W2 ∧ ∀ (j : Nat) (cs : Array Value) (ty : TypeId) (fr : Nat × Nat), w1.heap[j]? = some (.cells cs ty fr) -> j ≠ g -> 5 ≠ ty -> W2.heap[j]? = some (.cells cs ty fr) := by
 obtain ⟨v', h1, o1, q1⟩ := h
 refine ⟨v', h1, fun W2 d2 out2 h2 => ⟨Pp.trans o1 q1 h2, fun j cs ty fr hr hj ht => ?_⟩⟩
 obtain ⟨v2, -, o2, -⟩ := h2
 exact Pp.row h1 o2 hr hj ht
theorem zmd (c : Nat) (x : Value) : Oth g v w (w.setCell ⟨g, c, none⟩ x) := by
 have hq := (Below.refl 0 w).setCell (p := ⟨g, c, none⟩) (Nat.zero_le _) x
 exact ⟨hq.os, hq.tape, hq.output, hq.size, fun j _ hj _ => heap_setCell_other _ _ _ _ hj⟩
theorem Pw.deep (h : Pw w0 g nv d w v out) (d2 : Nat) : Pp w0 g nv d2 w v out (w.setCell ⟨g, 3, none⟩ (.int .i64 d2)) := by
 have hne := h.ne
 obtain ⟨p, hp, hr⟩ := h.r
 exact ⟨v, ⟨h.b.setCell (p := ⟨g, 3, none⟩) h.h _, h.h, ⟨p, hp, heap_setCell_same _ _ 3 _ _ _ hr⟩, h.o.keep fun q hq => heap_setCell_other _ _ _ _ fun e => hne (by rw [hq, show q = g from e])⟩, zmd 3 _, .inl rfl⟩
end
theorem infoB : ∃ i, Tryz.prog.info? 5 = some i ∧ i.zero = some (.int .u8 0) ∧ i.size = 1 ∧ i.bytes = 1 := by
 have h : (Tryz.prog.info? 5).map (fun i => (i.zero, i.size, i.bytes)) = some (some (.int .u8 0), 1, 1) := by kernel_rfl
 cases hq : Tryz.prog.info? 5 with
 | none => rw [hq] at h; cases h
 | some j => rw [hq] at h; simp only [Option.map_some, Option.some.injEq, Prod.mk.injEq] at h; exact ⟨j, rfl, h⟩
theorem zld {B : Nat} {w : World} {v : Value} {L : List UInt8} {ty : TypeId} {s : ByteArray} {v' : Value} {w' : World} (hown : OwnB B w v L) (hlen : L.length + s.size <= 140737488355328)
  (hr : (Builtin.append_ #[56, 9] ty #[v, .string s]).run Tryz.prog w = .ok v' w') : v'.ownBlock = v.ownBlock ∨ v'.ownBlock = some w.heap.size := by
 obtain ⟨i0, hi, hz0, hz1, hz2⟩ := infoB
 have hfl : (flatG byC L).length = L.length := by rw [zd4 elB, Nat.mul_one]
 rcases hown.2 with ⟨rfl, h0⟩ | ⟨g, cap, cur, rfl, h2, h3, h4, h5, h6, h7⟩
 ·by_cases hm : s.size = 0
  ·have e := Lib.run_append_own_string (P := Tryz.prog) w 0 56 9 ty 5 i0 Tryz.underlying56 Tryz.underlying9 hi hz0 hz1 hz2 (.slice none 0 0) 0 [] (World.ownsRow_nil w 0 5 1) s (by unfold maxLen; omega) (by omega) (Nat.zero_le _)
   obtain ⟨v2, w2, e1, -, -, e4⟩ := e
   rw [e1] at hr
   injection hr with hr1 hr2
   rw [<- hr1, e4.2 ⟨rfl, hm⟩]
   exact .inl rfl
  ·have e := run_append_nil_string (P := Tryz.prog) w 56 9 ty 5 i0 (.int .u8 0) Tryz.underlying56 Tryz.underlying9 hi hz0 s (by omega) (by omega) (by rw [hz2]; omega)
   rw [e] at hr
   injection hr with hr1 hr2
   rw [<- hr1]
   exact .inr rfl
 ·have h6' : cur.size = cap := by simpa using h6
  by_cases hroom : L.length + s.size <= cap
  ·have e := Lib.run_append_room_string (P := Tryz.prog) w 56 9 ty 5 i0 Tryz.underlying56 Tryz.underlying9 hi hz1 g L.length cap cur h3 s hroom (by omega)
   rw [e] at hr
   injection hr with hr1 hr2
   rw [<- hr1]
   exact .inl rfl
  ·have holds : ∀ j u, (flatG byC L)[j]? = some u -> w.cell? ((⟨g, 0, none⟩ : Addr).add j) = some u := World.ownsRow.cells (g := g) hown rfl
   have e := Lib.run_append_grow_string (P := Tryz.prog) w 56 9 ty 5 i0 (.int .u8 0) Tryz.underlying56 Tryz.underlying9 hi hz0 ⟨g, 0, none⟩ L.length cap (flatG byC L) (by rw [hz1, hfl]; omega) holds s (by omega) (by omega) (growslice_fits (by omega) (by rw [hz2]; omega))
   rw [e] at hr
   injection hr with hr1 hr2
   rw [<- hr1]
   exact .inr rfl
section
variable {w0 w w1 w2 : World} {g d : Nat} {nv v : Value} {out : List UInt8}
theorem zh4 (h : Pw w0 g nv d w v out) :
  Calls Tryz.prog 46 #[.pointer (some ⟨g, 0, none⟩)] w fun e w' => e = .returned (.tuple #[]) ∧ Pw w0 g nv d w' v out ∧ Oth g v w w' := by
 have hne := h.ne
 obtain ⟨p, hp, hb⟩ := h.r
 obtain ⟨j, hj, hjs⟩ := zmx
 have hsh : w.shape? g = some (87, 4) := by simp [World.shape?, hb]
 have c0 : w.cell? ⟨g, 0, none⟩ = some p := (cell_of_row _ _ 0 _ _ _ hb).trans rfl
 have z0 : w.frozen? ⟨g, 0, none⟩ = false := frozen_of_row _ _ _ _ _ hb
 have HB : Hid (Pw w0 g nv d w v out) := h
 have HR : Hid (w.heap[g]? = some (.cells #[p, v, nv, .int .i64 d] 87 (0, 0))) := hb
 have HNE : Hid _ := hne
 clear h hb hne
 rcases hp with rfl | rfl
 ·go_enter Tryz.func46, Tryz.ntmps46
  go_wp2
  rw [Lib.run_to_unsafe w ⟨g, 0, none⟩ Tryz.underlying55 Tryz.underlying108 hj (by rw [hjs]; decide) hsh (Nat.zero_lt_succ 3)]
  simp only [Result.andThen]
  rw [Oper.upon_value]
  go_wp2
  rw [run_callFunc_extern Tryz.func62 (by kernel_rfl) (by kernel_rfl) (by kernel_rfl) (e := Extern.AbiNoEscape.same) (by kernel_rfl)]
  rw [Lib.run_noEscape]
  simp only [Result.andThen]
  rw [Oper.upon_value]
  go_wp2
  rw [Lib.run_from_unsafe w ⟨g, 0, none⟩ Tryz.underlying108 Tryz.underlying55 hj hsh (by kernel_rfl)]
  simp only [Result.andThen]
  rw [Oper.upon_value]
  go_wp2
  go_end0
  have r1 : (w.setCell ⟨g, 0, none⟩ (.pointer (some ⟨g, 0, none⟩))).heap[g]? = some (.cells #[.pointer (some ⟨g, 0, none⟩), v, nv, .int .i64 d] 87 (0, 0)) := heap_setCell_same _ _ _ _ _ _ HR.out
  refine ⟨rfl, ⟨HB.out.b.setCell (p := ⟨g, 0, none⟩) HB.out.h _, HB.out.h, ⟨_, .inr rfl, r1⟩, OwnG.keep HB.out.o fun k hk => heap_setCell_other _ _ _ _ (fun (e : k = g) => HNE.out (e ▸ hk))⟩, zmd 0 _⟩
 ·go_enter Tryz.func46, Tryz.ntmps46
  go_wp2
  rw [Lib.run_neq_ptr_same w _ Tryz.underlying55 hj]
  go_wp2
  go_end0
  exact ⟨rfl, HB.out, zjf _ _ _⟩
theorem zgo (s : ByteArray) (h : Pw w0 g nv d w v out) (hl : out.length + s.size <= 1000000000000) :
  Calls Tryz.prog 27 #[.pointer (some ⟨g, 0, none⟩), .string s] w fun e w' => e = .returned (.tuple #[.int .i64 s.size, .nilIface]) ∧ Pp w0 g nv d w v (out ++ s.data.toList) w' := by
 go_enter Tryz.func27, Tryz.ntmps27
 go_wp2_with fail
 refine (zh4 h).mono ?_
 rintro e W1 ⟨rfl, h1, o1⟩
 clear h
 have hne := h1.ne
 have ho := h1.o
 obtain ⟨p, hp, hr⟩ := h1.r
 obtain ⟨sp, cap, rfl⟩ := OwnG.shape ho
 have hw1 : w0.heap.size <= W1.heap.size := h1.b.size
 obtain ⟨i, hi, hi1, hi2, hi3⟩ := infoB
 obtain ⟨v', W2, hra, q1, q2, -⟩ := Lib.run_append_own_string (P := Tryz.prog) W1 w0.heap.size 56 9 56 5 i Tryz.underlying56 Tryz.underlying9 hi hi1 hi2 hi3 _ out.length (flatG byC out) ho s (by unfold maxLen; omega) (by omega) hw1
 have q3 := zld ho (by omega) hra
 have q1' : OwnB w0.heap.size W2 v' (out ++ s.data.toList) := by
  show W2.ownsRow w0.heap.size 5 1 v' (out ++ s.data.toList).length (flatG byC (out ++ s.data.toList))
  rw [zfn] at q1
  rw [List.length_append, show s.data.toList.length = s.size by simp, flatG, List.flatMap_append]
  exact q1
 obtain ⟨sp', cap', rfl⟩ := OwnG.shape q1'
 have hr2 : W2.heap[g]? = some (.cells #[p, .slice sp out.length cap, nv, .int .i64 d] 87 (0, 0)) := (q2.block g (zab hr) (fun e => hne e.symm)).trans hr
 have PUT : Hid (Pp w0 g nv d w (.slice sp out.length cap) (out ++ s.data.toList) (W2.setCell ⟨g, 1, none⟩ (.slice sp' (out ++ s.data.toList).length cap'))) := by
  have hB2 : Below w0.heap.size w0 W2 := OwnG.grown ho (Nat.le_refl _) hw1 h1.b q2
  have hne2 : (Value.slice sp' (out ++ s.data.toList).length cap').ownBlock ≠ some g := OwnG.nb q1' hr2 (by decide)
  have q2' : Oth g (.slice sp out.length cap) W1 W2 := ⟨q2.os, q2.tape, q2.output, q2.size, fun j hj _ hjv => q2.block j hj fun e => hjv e.symm⟩
  have hsz := o1.size
  refine Pp.trans (o1.trans (.inl rfl) q2') (v1 := .slice sp' (out ++ s.data.toList).length cap') (q3.imp id fun e => ⟨_, e, hsz⟩) ⟨_, ⟨hB2.setCell (p := ⟨g, 1, none⟩) h1.h _, h1.h, ⟨p, hp, heap_setCell_same _ _ 1 _ _ _ hr2⟩, OwnG.keep q1' fun k hk => heap_setCell_other _ _ _ _ (fun (e : k = g) => hne2 (e ▸ hk))⟩, zmd 1 _, .inl rfl⟩
 have c1 : W1.cell? ⟨g, 1, none⟩ = some (.slice sp out.length cap) := (cell_of_row _ _ 1 _ _ _ hr).trans rfl
 have d1 : W2.cell? ⟨g, 1, none⟩ = some (.slice sp out.length cap) := (cell_of_row _ _ 1 _ _ _ hr2).trans rfl
 have z1 : W2.frozen? ⟨g, 1, none⟩ = false := frozen_of_row _ _ _ _ _ hr2
 generalize (out ++ s.data.toList).length = n at hra PUT
 clear q1 q1' q2 q3 hr2 ho hr h1 o1 hi hi1 hi2 hi3 hne
 go_wp2_with (at_builtin; refine zgj (.tmp 12) (.tmp 13) 56 9 (by rfl) (by rfl) (by rfl) (by rfl) hra ?_)
 go_ret2
 exact ⟨rfl, PUT.out⟩
end
def fl (xs : List ByteArray) : List UInt8 := (xs.map fun x => x.data.toList).flatten
theorem zta {xs : List ByteArray} {t : Nat} {x : ByteArray} (h : xs[t]? = some x) : fl (xs.take (t + 1)) = fl (xs.take t) ++ x.data.toList := by
 rw [List.take_add_one, h]
 simp [fl]
theorem z11 {xs : List ByteArray} {t : Nat} {x : ByteArray} (h : xs[t]? = some x) : (fl (xs.take t)).length + x.size <= (fl xs).length := by
 have h1 : fl xs = fl (xs.take (t + 1)) ++ fl (xs.drop (t + 1)) := by
  unfold fl
  rw [<- List.flatten_append, <- List.map_append, List.take_append_drop]
 rw [h1, zta h]
 simp
section
variable {w0 w : World} {g d : Nat} {nv v : Value} {out : List UInt8}
theorem zvs (b cap : Nat) (xs : List ByteArray) (h : Pw w0 g nv d w v out) (hx : w.heap[b]? = some (.cells (xs.map Value.string).toArray 9 (0, 0))) (hbg : b ≠ g) (hl : out.length + (fl xs).length <= 1000000000000) (hs : xs.length <= 1000) :
  Calls Tryz.prog 64 #[.pointer (some ⟨g, 0, none⟩), .slice (some ⟨b, 0, none⟩) xs.length cap] w fun e w' => e = .returned (.tuple #[]) ∧ Pp w0 g nv d w v (out ++ fl xs) w' := by
 have HW : Hid (Pw w0 g nv d w v out) := h
 have HX : Hid (w.heap[b]? = some (.cells (xs.map Value.string).toArray 9 (0, 0))) := hx
 clear h hx
 go_enter Tryz.func64, Tryz.ntmps64
 go_wp2
 go_loopw [8] (fun i wr => ∃ t : Nat, t <= xs.length ∧ i = .int .i64 t ∧ Pp w0 g nv d w v (out ++ fl (xs.take t)) wr) (fun i _ => xs.length - (intOf i).toNat)
 case atStart => exact ⟨0, Nat.zero_le _, rfl, by simpa [fl] using Pp.start HW.out⟩
 case round =>
  obtain ⟨t, ht, rfl, v1, h1, o1, q1⟩ := hrel
  have HP : Hid (Pp w0 g nv d w v (out ++ fl (xs.take t)) wr) := ⟨v1, h1, o1, q1⟩
  by_cases hlt : t < xs.length
  ·have hd : decide ((t : Int) < xs.length) = true := by simp; omega
   obtain ⟨x, hx⟩ : ∃ x, xs[t]? = some x := ⟨_, List.getElem?_eq_getElem hlt⟩
   have rb := Pp.row HW.out o1 HX.out hbg (by decide)
   have kb : wr.cell? ⟨b, t, none⟩ = some (.string x) := by
    rw [cell_of_row _ _ _ _ _ _ rb, List.getElem?_toArray, List.getElem?_map, hx]
    rfl
   have hb2 := z11 hx
   have HC := zgo x h1 (by rw [List.length_append]; omega)
   have HTK : Hid _ := zta hx
   have HO : Hid _ := o1
   have HQ : Hid _ := q1
   clear h1 o1 q1 hx rb HP hb2
   go_wp2_with fail
   refine HC.mono ?_
   rintro e W ⟨rfl, hp⟩
   have HN : Hid (Pp w0 g nv d w v (out ++ fl (xs.take (t + 1))) W) := by
    refine Pp.trans HO.out HQ.out ?_
    rw [HTK.out, <- List.append_assoc]
    exact hp
   clear hp HC
   go_wp2
   exact ⟨⟨t + 1, by omega, by go_num, HN.out⟩, by simp [intOf]; omega⟩
  ·have hd : decide ((t : Int) < xs.length) = false := by simp; omega
   clear h1 o1 q1
   go_wp2
   go_end0
   refine ⟨rfl, ?_⟩
   have := HP.out
   rw [List.take_of_length_le (by omega)] at this
   exact this
theorem za0 (xs : List ByteArray) (h : Pw w0 g nv d w v out) (hl : out.length + (fl xs).length <= 1000000000000) (hs : xs.length <= 1000) :
  Calls Tryz.prog 64 #[.pointer (some ⟨g, 0, none⟩), .slice (some ⟨w.heap.size, 0, none⟩) xs.length xs.length] (w.alloc (.cells (xs.map Value.string).toArray 9)) fun e w' => e = .returned (.tuple #[]) ∧ Pp w0 g nv d w v (out ++ fl xs) w' := by
 have hb : Below w.heap.size w (w.alloc (.cells (xs.map Value.string).toArray 9)) := (Below.refl _ _).alloc (Nat.le_refl _) _
 refine (zvs w.heap.size xs.length xs (h.low hb) (heap_alloc_new _ _) (by have := h.lt; omega) hl hs).mono ?_
 rintro e W ⟨rfl, hp⟩
 exact ⟨rfl, Pp.pre hb hp⟩
end
def NodP (w0 : World) (g : Nat) (nv : Value) (L : List Nd) (t : Pt) : Prop := ∀ (d i : Nat) (w : World) (v : Value) (out : List UInt8), Emb L i t -> Pw w0 g nv d w v out -> d + cntP t <= 100000 -> out.length + (rn (prP d t)).length <= 1000000000000 ->
 Calls Tryz.prog 47 #[.pointer (some ⟨g, 0, none⟩), .int .i64 i] w fun e w' => e = .returned (.tuple #[]) ∧ Pp w0 g nv d w v (out ++ rn (prP d t)) w'
structure KsP (w0 : World) (g : Nat) (nv : Value) (L : List Nd) (sk : Option Addr) (ks : List Nat) (ts : List Pt) : Prop where
 r : RowsAt w0 1 intC sk ks
 l : ks.length = ts.length
 e : ∀ (j : Nat) k t, ks[j]? = some k -> ts[j]? = some t -> Emb L k t
 n : ∀ t ∈ ts, NodP w0 g nv L t
 s : ks.length <= 100000
theorem ztb (s : List Pe) (os : List (List Pe)) (o : List Pe) : pPar s (os ++ [o]) = pPar s os ++ (if os.length = 0 then o else s ++ o) := by
 cases os with
 | nil => simp [pPar]
 | cons a r => simp [pPar]
theorem ztc (s : List Pe) (os : List (List Pe)) (o : List Pe) : pBeh s (os ++ [o]) = pBeh s os ++ (s ++ o) := by simp [pBeh]
theorem ztd (d : Nat) (os : List (List Pe)) (o : List Pe) : pLin d (os ++ [o]) = pLin d os ++ (tb d ++ o ++ [.e]) := by simp [pLin]
theorem zvt (s : List Pe) (os : List (List Pe)) (n : Nat) : ∃ r, pPar s os = pPar s (os.take n) ++ r := by
 cases os with
 | nil => exact ⟨[], by simp [pPar]⟩
 | cons a q =>
  cases n with
  | zero => exact ⟨pPar s (a :: q), by simp [pPar]⟩
  | succ n =>
   refine ⟨((q.drop n).map (s ++ ·)).flatten, ?_⟩
   show a ++ (q.map (s ++ ·)).flatten = (a ++ ((q.take n).map (s ++ ·)).flatten) ++ _
   rw [List.append_assoc, <- List.flatten_append, <- List.map_append, List.take_append_drop]
theorem zvu (s : List Pe) (os : List (List Pe)) (n : Nat) : ∃ r, pBeh s os = pBeh s (os.take n) ++ r := by
 refine ⟨pBeh s (os.drop n), ?_⟩
 unfold pBeh
 rw [<- List.flatten_append, <- List.map_append, List.take_append_drop]
theorem zvv (d : Nat) (os : List (List Pe)) (n : Nat) : ∃ r, pLin d os = pLin d (os.take n) ++ r := by
 refine ⟨pLin d (os.drop n), ?_⟩
 unfold pLin
 rw [<- List.flatten_append, <- List.map_append, List.take_append_drop]
theorem zn2 {a b r : List Pe} (h : a = b ++ r) : (rn b).length <= (rn a).length := by
 rw [h, zac, List.length_append]
 omega
theorem ze4 {ts : List Pt} {q : Nat} {t : Pt} (d : Nat) (h : ts[q]? = some t) : (ts.map (prP d)).take (q + 1) = (ts.map (prP d)).take q ++ [prP d t] := by
 rw [List.take_add_one, List.getElem?_map, h]
 rfl
theorem zeb {ts : List Pt} {q : Nat} (d : Nat) (h : ts.length <= q) : (ts.map (prP d)).take q = ts.map (prP d) := List.take_of_length_le (by simpa using h)
section
variable {w0 w : World} {g d : Nat} {nv v : Value} {out : List UInt8} {L : List Nd}
theorem zd3 (S : List Pe) (sb : ByteArray) (hS : rn S = sb.data.toList) (sk : Option Addr) (ck : Nat) (ks : List Nat) (ts : List Pt) (hk : KsP w0 g nv L sk ks ts) (h : Pw w0 g nv d w v out) (hd1 : d + cntL ts <= 100000) (hl : out.length + (rn (pPar S (ts.map (prP d)))).length <= 1000000000000) :
  Calls Tryz.prog 66 #[.pointer (some ⟨g, 0, none⟩), .string sb, .slice sk ks.length ck] w fun e w' => e = .returned (.tuple #[]) ∧ Pp w0 g nv d w v (out ++ rn (pPar S (ts.map (prP d)))) w' := by
 have HW : Hid (Pw w0 g nv d w v out) := h
 have HK : Hid (KsP w0 g nv L sk ks ts) := hk
 have HS : Hid (rn S = sb.data.toList) := hS
 have HL : Hid (out.length + (rn (pPar S (ts.map (prP d)))).length <= 1000000000000) := hl
 have HD1 : Hid (d + cntL ts <= 100000) := hd1
 have hks := hk.s
 clear h hk hl hS hd1
 go_enter Tryz.func66, Tryz.ntmps66
 go_wp2
 go_loopw [10] (fun i wr => ∃ q : Nat, q <= ks.length ∧ i = .int .i64 q ∧ Pp w0 g nv d w v (out ++ rn (pPar S ((ts.map (prP d)).take q))) wr) (fun i _ => ks.length - (intOf i).toNat)
 case atStart => exact ⟨0, Nat.zero_le _, rfl, by simpa [pPar, rn] using Pp.start HW.out⟩
 case round =>
  obtain ⟨q, hq, rfl, v1, h1, o1, q1⟩ := hrel
  have hlk := HK.out.l
  by_cases hlt : q < ks.length
  ·have hd : decide ((q : Int) < ks.length) = true := by simp; omega
   obtain ⟨k, hk⟩ : ∃ k, ks[q]? = some k := ⟨_, List.getElem?_eq_getElem hlt⟩
   obtain ⟨t, ht⟩ : ∃ t, ts[q]? = some t := ⟨_, List.getElem?_eq_getElem (by omega)⟩
   have hrk := h1.env HK.out.r
   obtain ⟨b, o, rfl, -⟩ := hrk (by omega)
   have kc := za4 hrk q (by simpa using hlt)
   rw [List.getD_eq_getElem?_getD, List.getElem?_map, hk] at kc
   simp only [Option.map_some, Option.getD_some] at kc
   have htk := ze4 d ht
   have hlq : ((ts.map (prP d)).take q).length = q := by rw [List.length_take, List.length_map]; omega
   have HTK : Hid (pPar S ((ts.map (prP d)).take (q + 1)) = pPar S ((ts.map (prP d)).take q) ++ (if q = 0 then prP d t else S ++ prP d t)) := by
    show _ = _
    rw [htk, ztb, hlq]
   have hbud : out.length + (rn (pPar S ((ts.map (prP d)).take q) ++ (if q = 0 then prP d t else S ++ prP d t))).length <= 1000000000000 := by
    obtain ⟨r, hr⟩ := zvt S (ts.map (prP d)) (q + 1)
    have := zn2 hr
    rw [<- HTK.out]
    have := HL.out
    omega
   have hdt : d + cntP t <= 100000 := by have := zcn ts q t ht; have := HD1.out; omega
   have HNC : Hid (NodP w0 g nv L t) := HK.out.n t (List.mem_of_getElem? ht)
   have HEM : Hid (Emb L k t) := HK.out.e q k t hk ht
   have HO : Hid _ := o1
   have HQ : Hid _ := q1
   by_cases hq0 : q = 0
   ·rw [if_pos hq0, zac, List.length_append] at hbud
    have HC := HNC.out d k wr v1 _ HEM.out h1 hdt (by rw [List.length_append]; omega)
    have hz : decide (0 < q) = false := by simp; omega
    have HZ : Hid (q = 0) := hq0
    clear h1 o1 q1 hk ht hrk htk hbud hlk hlq hq0 hdt
    go_wp2_with fail
    refine HC.mono ?_
    rintro e W ⟨rfl, hp⟩
    have HN : Hid (Pp w0 g nv d w v (out ++ rn (pPar S ((ts.map (prP d)).take (q + 1)))) W) := by
     refine Pp.trans HO.out HQ.out ?_
     rw [HTK.out, if_pos HZ.out, zac, <- List.append_assoc]
     exact hp
    clear hp HC
    go_wp2
    exact ⟨⟨q + 1, by omega, by go_num, HN.out⟩, by simp [intOf]; omega⟩
   ·rw [if_neg hq0, zac, zac, List.length_append, List.length_append] at hbud
    have hfs : fl [sb] = rn S := by rw [HS.out]; simp [fl]
    have HC := za0 [sb] h1 (by rw [hfs, List.length_append]; omega) (by simp)
    rw [hfs] at HC
    have hz : decide (0 < q) = true := by simp; omega
    have HZ : Hid (¬ q = 0) := hq0
    have HBD : Hid _ := hbud
    have HDT : Hid _ := hdt
    clear h1 o1 q1 hk ht hrk htk hbud hlk hlq hq0 hfs hdt
    go_wp2_with fail
    refine HC.mono ?_
    rintro e W ⟨rfl, v2, h2, o2, q2⟩
    have HD := HNC.out d k W v2 _ HEM.out h2 HDT.out (by have := HBD.out; rw [List.length_append, List.length_append]; omega)
    have HO2 : Hid _ := o2
    have HQ2 : Hid _ := q2
    clear h2 o2 q2 HC
    go_wp2_with fail
    refine HD.mono ?_
    rintro e W3 ⟨rfl, hp⟩
    have HN : Hid (Pp w0 g nv d w v (out ++ rn (pPar S ((ts.map (prP d)).take (q + 1)))) W3) := by
     refine Pp.trans HO.out HQ.out (Pp.trans HO2.out HQ2.out ?_)
     rw [HTK.out, if_neg HZ.out, zac, zac, <- List.append_assoc, <- List.append_assoc]
     exact hp
    clear hp HD
    go_wp2
    exact ⟨⟨q + 1, by omega, by go_num, HN.out⟩, by simp [intOf]; omega⟩
  ·have hd : decide ((q : Int) < ks.length) = false := by simp; omega
   have HP : Hid (Pp w0 g nv d w v (out ++ rn (pPar S (ts.map (prP d)))) wr) := by
    have hp : Pp w0 g nv d w v (out ++ rn (pPar S ((ts.map (prP d)).take q))) wr := ⟨v1, h1, o1, q1⟩
    rw [zeb d (by omega)] at hp
    exact hp
   clear h1 o1 q1
   go_wp2
   go_end0
   exact ⟨rfl, HP.out⟩
theorem zet (S : List Pe) (sb : ByteArray) (hS : rn S = sb.data.toList) (sk : Option Addr) (ck : Nat) (ks : List Nat) (ts : List Pt) (hk : KsP w0 g nv L sk ks ts) (h : Pw w0 g nv d w v out) (hd1 : d + cntL ts <= 100000) (hl : out.length + (rn (pBeh S (ts.map (prP d)))).length <= 1000000000000) :
  Calls Tryz.prog 103 #[.pointer (some ⟨g, 0, none⟩), .string sb, .slice sk ks.length ck] w fun e w' => e = .returned (.tuple #[]) ∧ Pp w0 g nv d w v (out ++ rn (pBeh S (ts.map (prP d)))) w' := by
 have HW : Hid (Pw w0 g nv d w v out) := h
 have HK : Hid (KsP w0 g nv L sk ks ts) := hk
 have HS : Hid (rn S = sb.data.toList) := hS
 have HL : Hid (out.length + (rn (pBeh S (ts.map (prP d)))).length <= 1000000000000) := hl
 have HD1 : Hid (d + cntL ts <= 100000) := hd1
 have hks := hk.s
 clear h hk hl hS hd1
 go_enter Tryz.func103, Tryz.ntmps103
 go_wp2
 go_loopw [10] (fun i wr => ∃ q : Nat, q <= ks.length ∧ i = .int .i64 q ∧ Pp w0 g nv d w v (out ++ rn (pBeh S ((ts.map (prP d)).take q))) wr) (fun i _ => ks.length - (intOf i).toNat)
 case atStart => exact ⟨0, Nat.zero_le _, rfl, by simpa [pBeh, rn] using Pp.start HW.out⟩
 case round =>
  obtain ⟨q, hq, rfl, v1, h1, o1, q1⟩ := hrel
  have hlk := HK.out.l
  by_cases hlt : q < ks.length
  ·have hd : decide ((q : Int) < ks.length) = true := by simp; omega
   obtain ⟨k, hk⟩ : ∃ k, ks[q]? = some k := ⟨_, List.getElem?_eq_getElem hlt⟩
   obtain ⟨t, ht⟩ : ∃ t, ts[q]? = some t := ⟨_, List.getElem?_eq_getElem (by omega)⟩
   have hrk := h1.env HK.out.r
   obtain ⟨b, o, rfl, -⟩ := hrk (by omega)
   have kc := za4 hrk q (by simpa using hlt)
   rw [List.getD_eq_getElem?_getD, List.getElem?_map, hk] at kc
   simp only [Option.map_some, Option.getD_some] at kc
   have HTK : Hid (pBeh S ((ts.map (prP d)).take (q + 1)) = pBeh S ((ts.map (prP d)).take q) ++ (S ++ prP d t)) := by
    show _ = _
    rw [ze4 d ht, ztc]
   have hbud : out.length + (rn (pBeh S ((ts.map (prP d)).take q) ++ (S ++ prP d t))).length <= 1000000000000 := by
    obtain ⟨r, hr⟩ := zvu S (ts.map (prP d)) (q + 1)
    have := zn2 hr
    rw [<- HTK.out]
    have := HL.out
    omega
   have hdt : d + cntP t <= 100000 := by have := zcn ts q t ht; have := HD1.out; omega
   have HNC : Hid (NodP w0 g nv L t) := HK.out.n t (List.mem_of_getElem? ht)
   have HEM : Hid (Emb L k t) := HK.out.e q k t hk ht
   have HO : Hid _ := o1
   have HQ : Hid _ := q1
   rw [zac, zac, List.length_append, List.length_append] at hbud
   have hfs : fl [sb] = rn S := by rw [HS.out]; simp [fl]
   have HC := za0 [sb] h1 (by rw [hfs, List.length_append]; omega) (by simp)
   rw [hfs] at HC
   have HBD : Hid _ := hbud
   have HDT : Hid _ := hdt
   clear h1 o1 q1 hk ht hrk hbud hlk hfs hdt
   go_wp2_with fail
   refine HC.mono ?_
   rintro e W ⟨rfl, v2, h2, o2, q2⟩
   have HD := HNC.out d k W v2 _ HEM.out h2 HDT.out (by have := HBD.out; rw [List.length_append, List.length_append]; omega)
   have HO2 : Hid _ := o2
   have HQ2 : Hid _ := q2
   clear h2 o2 q2 HC
   go_wp2_with fail
   refine HD.mono ?_
   rintro e W3 ⟨rfl, hp⟩
   have HN : Hid (Pp w0 g nv d w v (out ++ rn (pBeh S ((ts.map (prP d)).take (q + 1)))) W3) := by
    refine Pp.trans HO.out HQ.out (Pp.trans HO2.out HQ2.out ?_)
    rw [HTK.out, zac, zac, <- List.append_assoc, <- List.append_assoc]
    exact hp
   clear hp HD
   go_wp2
   exact ⟨⟨q + 1, by omega, by go_num, HN.out⟩, by simp [intOf]; omega⟩
  ·have hd : decide ((q : Int) < ks.length) = false := by simp; omega
   have HP : Hid (Pp w0 g nv d w v (out ++ rn (pBeh S (ts.map (prP d)))) wr) := by
    have hp : Pp w0 g nv d w v (out ++ rn (pBeh S ((ts.map (prP d)).take q))) wr := ⟨v1, h1, o1, q1⟩
    rw [zeb d (by omega)] at hp
    exact hp
   clear h1 o1 q1
   go_wp2
   go_end0
   exact ⟨rfl, HP.out⟩
theorem zf5 (sk : Option Addr) (ck : Nat) (ks : List Nat) (ts : List Pt) (hk : KsP w0 g nv L sk ks ts) (h : Pw w0 g nv d w v out) (hd1 : d + cntL ts <= 100000) (hl : out.length + (rn (pBrk (ts.map (prP d)))).length <= 1000000000000) :
  Calls Tryz.prog 102 #[.pointer (some ⟨g, 0, none⟩), .slice sk ks.length ck] w fun e w' => e = .returned (.tuple #[]) ∧ Pp w0 g nv d w v (out ++ rn (pBrk (ts.map (prP d)))) w' := by
 have HK : Hid (KsP w0 g nv L sk ks ts) := hk
 have HD1 : Hid (d + cntL ts <= 100000) := hd1
 have e0 : rn (pBrk (ts.map (prP d))) = [40] ++ rn (pPar [sg [44], sp] (ts.map (prP d))) ++ [41] := by
  unfold pBrk
  rw [zac, zac]
  rfl
 rw [e0] at hl ⊢
 have HL : Hid (out.length + ((rn (pPar [sg [44], sp] (ts.map (prP d)))).length + 2) <= 1000000000000) := by show _ <= _; simp at hl; omega
 have HC := za0 [strU [40]] h (by have := HL.out; show _ + (1 : Nat) <= _; omega) (by simp)
 clear h hk hl hd1 e0
 go_enter Tryz.func102, Tryz.ntmps102
 go_wp2_with fail
 refine HC.mono ?_
 rintro e W1 ⟨rfl, v1, h1, o1, q1⟩
 have HO : Hid _ := o1
 have HQ : Hid _ := q1
 have HD := zd3 [sg [44], sp] (strU [44, 32]) rfl sk ck ks ts HK.out h1 HD1.out (by have := HL.out; rw [List.length_append]; show _ + (1 : Nat) + _ <= _; omega)
 clear h1 o1 q1 HC
 go_wp2_with fail
 refine HD.mono ?_
 rintro e W2 ⟨rfl, v2, h2, o2, q2⟩
 have HO2 : Hid _ := o2
 have HQ2 : Hid _ := q2
 have HE := za0 [strU [41]] h2 (by have := HL.out; rw [List.length_append, List.length_append]; show _ + (1 : Nat) + _ + (1 : Nat) <= _; omega) (by simp)
 clear h2 o2 q2 HD
 go_wp2_with fail
 refine HE.mono ?_
 rintro e W3 ⟨rfl, hp⟩
 have HN : Hid (Pp w0 g nv d w v (out ++ ([40] ++ rn (pPar [sg [44], sp] (ts.map (prP d))) ++ [41])) W3) := by
  refine Pp.trans HO.out HQ.out (Pp.trans HO2.out HQ2.out ?_)
  have e : out ++ ([40] ++ rn (pPar [sg [44], sp] (ts.map (prP d))) ++ [41]) = out ++ fl [strU [40]] ++ rn (pPar [sg [44], sp] (ts.map (prP d))) ++ fl [strU [41]] := by simp [fl, strU]
  rw [e]
  exact hp
 clear hp HE
 go_wp2
 go_end0
 exact ⟨rfl, HN.out⟩
end
end Go.Proofs.YtbadafkfjfbnlaaGreatDoor

namespace Go.Proofs
open Go.Shelf
def Tryz.lays105_ren : Go.Shelf.Ren := ⟨fun | 105 => 127 | 212 => 145 | 99 => 146 | 165 => 147 | 166 => 27 | 170 => 28 | 169 => 29 | 263 => 158 | 264 => 159 | 206 => 160 | 240 => 46 | 241 => 161 | 276 => 62 | 277 => 175 | n => n, fun | 9 => 9 | 3 => 3 | 4 => 4 | 20 => 20 | 0 => 0 | 46 => 158 | 109 => 159 | 5 => 5 | 72 => 58 | 76 => 65 | 51 => 163 | 146 => 164 | 53 => 166 | 148 => 167 | 70 => 55 | 37 => 56 | 75 => 63 | 127 => 85 | 164 => 108 | 80 => 68 | n => n, fun | n => n⟩
theorem Tryz.lays105 : Go.Proofs.Lays.n105 Tryz.prog Tryz.lays105_ren := {
 mixed := by kernel_rfl
 f99 := Tryz.func146.trans (congrArg some (by kernel_rfl))
 f105 := Tryz.func127.trans (congrArg some (by kernel_rfl))
 f165 := Tryz.func147.trans (congrArg some (by kernel_rfl))
 f166 := Tryz.func27.trans (congrArg some (by kernel_rfl))
 f169 := Tryz.func29.trans (congrArg some (by kernel_rfl))
 f170 := Tryz.func28.trans (congrArg some (by kernel_rfl))
 f206 := Tryz.func160.trans (congrArg some (by kernel_rfl))
 f212 := Tryz.func145.trans (congrArg some (by kernel_rfl))
 f240 := Tryz.func46.trans (congrArg some (by kernel_rfl))
 f241 := Tryz.func161.trans (congrArg some (by kernel_rfl))
 f263 := Tryz.func158.trans (congrArg some (by kernel_rfl))
 f264 := Tryz.func159.trans (congrArg some (by kernel_rfl))
 f276 := Tryz.func62.trans (congrArg some (by kernel_rfl))
 f277 := Tryz.func175.trans (congrArg some (by kernel_rfl))
 t0 := Tryz.underlying0
 a0 := Tryz.isAgg0
 z0 := Tryz.sizeOf0
 v0 := Tryz.zeroValue0
 t3 := Tryz.underlying3
 a3 := Tryz.isAgg3
 z3 := Tryz.sizeOf3
 v3 := Tryz.zeroValue3
 t4 := Tryz.underlying4
 a4 := Tryz.isAgg4
 z4 := Tryz.sizeOf4
 v4 := Tryz.zeroValue4
 t5 := Tryz.underlying5
 a5 := Tryz.isAgg5
 z5 := Tryz.sizeOf5
 v5 := Tryz.zeroValue5
 t9 := Tryz.underlying9
 a9 := Tryz.isAgg9
 z9 := Tryz.sizeOf9
 v9 := Tryz.zeroValue9
 t20 := Tryz.underlying20
 a20 := Tryz.isAgg20
 z20 := Tryz.sizeOf20
 v20 := Tryz.zeroValue20
 t37 := Tryz.underlying56
 a37 := Tryz.isAgg56
 z37 := Tryz.sizeOf56
 v37 := Tryz.zeroValue56
 t46 := Tryz.underlying158
 a46 := Tryz.isAgg158
 z46 := Tryz.sizeOf158
 v46 := Tryz.zeroValue158
 t51 := Tryz.underlying163
 a51 := Tryz.isAgg163
 z51 := Tryz.sizeOf163
 v51 := Tryz.zeroValue163
 t53 := Tryz.underlying166
 a53 := Tryz.isAgg166
 z53 := Tryz.sizeOf166
 v53 := Tryz.zeroValue166
 t70 := Tryz.underlying55
 a70 := Tryz.isAgg55
 z70 := Tryz.sizeOf55
 v70 := Tryz.zeroValue55
 t72 := Tryz.underlying58
 a72 := Tryz.isAgg58
 z72 := Tryz.sizeOf58
 v72 := Tryz.zeroValue58
 t75 := Tryz.underlying63
 a75 := Tryz.isAgg63
 z75 := Tryz.sizeOf63
 v75 := Tryz.zeroValue63
 t76 := Tryz.underlying65
 a76 := Tryz.isAgg65
 z76 := Tryz.sizeOf65
 v76 := Tryz.zeroValue65
 t109 := Tryz.underlying159
 a109 := Tryz.isAgg159
 z109 := Tryz.sizeOf159
 v109 := Tryz.zeroValue159
 t127 := Tryz.underlying85
 a127 := Tryz.isAgg85
 z127 := Tryz.sizeOf85
 v127 := Tryz.zeroValue85
 t146 := Tryz.underlying164
 a146 := Tryz.isAgg164
 z146 := Tryz.sizeOf164
 v146 := Tryz.zeroValue164
 t148 := Tryz.underlying167
 a148 := Tryz.isAgg167
 z148 := Tryz.sizeOf167
 v148 := Tryz.zeroValue167
 t164 := Tryz.underlying108
 a164 := Tryz.isAgg108
 z164 := Tryz.sizeOf108
 v164 := Tryz.zeroValue108 }
theorem Tryz.Builder_Extra_105 : Builder.Extra Tryz.prog Tryz.lays105_ren := {
 sizeBuilder := by kernel_rfl
 liesBuilder := by kernel_rfl
 t5 := Tryz.underlying5
 a5 := Tryz.isAgg5
 z5 := Tryz.sizeOf5
 v5 := Tryz.zeroValue5
 infoByte := by kernel_rfl
 cellsByte := by kernel_rfl
 sizeByte := by kernel_rfl
 neB5 := by decide }
open Go.RowKit Go.Lib in
theorem Tryz.strings_Repeat (s : ByteArray) (c : Nat) (w : World) (hc : c <= 9223372036854775807) (hlen : s.size * c <= 140737488355328) :
  Calls Tryz.prog 127 #[.string s, .int .i64 c] w fun e w' => e = .returned (.string ⟨(Lib.repeatL s.data.toList c).toArray⟩) ∧ Below w.heap.size w w' := Any.strings_Repeat Tryz.lays105 Tryz.Builder_Extra_105 s c w hc hlen
end Go.Proofs
