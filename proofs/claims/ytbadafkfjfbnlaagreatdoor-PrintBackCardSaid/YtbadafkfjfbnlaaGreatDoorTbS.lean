import Derived.Test.YtbadafkfjfbnlaaGreatDoorTbN
import Derived.Test.YtbadafkfjfbnlaaGreatDoorTbR
namespace Go.Proofs.YtbadafkfjfbnlaaGreatDoor
set_option maxRecDepth 100000
open Go.RowKit
def Ev {α : Type} (f : Nat -> Rs α) (r : Rs α) : Prop := ∃ n, ∀ m, n <= m -> f m = r
section
variable {α β : Type}
theorem zak (r : Rs α) : Ev (fun _ => r) r := ⟨0, fun _ _ => rfl⟩
theorem zbg {f : Nat -> Rs α} {r : Rs α} (h : Ev (fun m => f (m + 1)) r) : Ev f r := by
 obtain ⟨n, hn⟩ := h
 refine ⟨n + 1, fun m hm => ?_⟩
 obtain ⟨k, rfl⟩ : ∃ k, m = k + 1 := ⟨m - 1, by omega⟩
 exact hn k (by omega)
theorem zao {f : Nat -> Rs α} {k : Nat -> α -> Nat -> Rs β} {v : α} {q : Nat} {r : Rs β} (h : Ev f (.ok v q)) (hk : Ev (fun m => k m v q) r) : Ev (fun m => (f m).bind (k m)) r := by
 obtain ⟨n, hn⟩ := h
 obtain ⟨n', hn'⟩ := hk
 refine ⟨max n n', fun m hm => ?_⟩
 show (f m).bind (k m) = r
 rw [hn m (by omega)]
 exact hn' m (by omega)
theorem zbi {c : Prop} [Decidable c] {a b : Nat -> Rs α} {r : Rs α} (hc : c) (h : Ev a r) : Ev (fun m => if c then a m else b m) r := by
 obtain ⟨n, hn⟩ := h
 exact ⟨n, fun m hm => by show (if c then a m else b m) = r; rw [if_pos hc]; exact hn m hm⟩
theorem zaq {c : Prop} [Decidable c] {a b : Nat -> Rs α} {r : Rs α} (hc : ¬ c) (h : Ev b r) : Ev (fun m => if c then a m else b m) r := by
 obtain ⟨n, hn⟩ := h
 exact ⟨n, fun m hm => by show (if c then a m else b m) = r; rw [if_neg hc]; exact hn m hm⟩
theorem zaz {b : Bool} {s : Int} {k : Nat -> Rs α} {r : Rs α} (hb : b = true) (h : Ev k r) : Ev (fun m => Rs.need b s (k m)) r := by
 obtain ⟨n, hn⟩ := h
 exact ⟨n, fun m hm => by show Rs.need b s (k m) = r; unfold Rs.need; rw [if_pos hb]; exact hn m hm⟩
end
def Hs (ts : List Tok) (p : Nat) (ws : List Tok) : Prop := ∀ (i : Nat) (t : Tok), ws[i]? = some t -> (nxT ts (p + i)).kind = t.kind ∧ ((nxT ts (p + i)).text = t.text ∨ (t.kind = 5 ∧ (nxT ts (p + i)).text = ⟨#[]⟩))
theorem Hs.left {ts : List Tok} {p : Nat} {a b : List Tok} (h : Hs ts p (a ++ b)) : Hs ts p a := fun i t hi => h i t (by rw [List.getElem?_append_left (List.getElem?_eq_some_iff.1 hi).1]; exact hi)
theorem Hs.right {ts : List Tok} {p : Nat} {a b : List Tok} (h : Hs ts p (a ++ b)) : Hs ts (p + a.length) b := fun i t hi => by
 have := h (a.length + i) t (by rw [List.getElem?_append_right (by omega), show a.length + i - a.length = i by omega]; exact hi)
 rw [Nat.add_assoc]
 exact this
theorem Hs.knd {ts : List Tok} {p : Nat} {t : Tok} {r : List Tok} (h : Hs ts p (t :: r)) : (nxT ts p).kind = t.kind := (h 0 t rfl).1
theorem Hs.one {ts : List Tok} {p : Nat} {t : Tok} {r : List Tok} (h : Hs ts p (t :: r)) (hk : t.kind ≠ 5 := by first | exact (show (1 : Int) ≠ 5 by decide) | exact (show (4 : Int) ≠ 5 by decide) | exact (show (2 : Int) ≠ 5 by decide) | exact (show (3 : Int) ≠ 5 by decide)) : (nxT ts p).kind = t.kind ∧ (nxT ts p).text = t.text := ⟨(h 0 t rfl).1, (h 0 t rfl).2.resolve_right fun e => hk e.1⟩
theorem Hs.notT {ts : List Tok} {p : Nat} {t : Tok} {r : List Tok} (h : Hs ts p (t :: r)) {u : List UInt8} (hu : (t.text.data.toList == u) = false) (hn : (([] : List UInt8) == u) = false := by rfl) : isT ts p u = false := by
 have h0 : (nxT ts p).text = t.text ∨ (t.kind = 5 ∧ (nxT ts p).text = ⟨#[]⟩) := (h 0 t rfl).2
 unfold isT
 rcases h0 with e | ⟨-, e⟩ <;> rw [e]
 ·exact hu
 ·exact hn
theorem Hs.tail {ts : List Tok} {p : Nat} {t : Tok} {r : List Tok} (h : Hs ts p (t :: r)) : Hs ts (p + 1) r := Hs.right (a := [t]) h
theorem Hs.is {ts : List Tok} {p : Nat} {k : Int} {s : List UInt8} {r : List Tok} (h : Hs ts p (tkW k (strU s) :: r)) (hk : k ≠ 5 := by decide) : isT ts p s = true := by
 unfold isT
 rw [(h.one hk).2]
 simp [tkW, strU]
theorem Hs.not {ts : List Tok} {p : Nat} {k : Int} {s u : List UInt8} {r : List Tok} (h : Hs ts p (tkW k (strU s) :: r)) (hu : (s == u) = false) (hn : (([] : List UInt8) == u) = false := by rfl) : isT ts p u = false :=
 h.notT (by show ((strU s).data.toList == u) = false; simpa [strU] using hu) hn
def smP : Pt -> Pt -> Prop
 | .mk k x n _ _ _ l, .mk k' x' n' _ _ _ l' => k = k' ∧ x = x' ∧ n = n' ∧ go l l'
where go : List Pt -> List Pt -> Prop
 | [], [] => True
 | t :: r, t' :: r' => smP t t' ∧ go r r'
 | _, _ => False
abbrev smL := smP.go
theorem zbf {k n : Int} {x : ByteArray} {a f t a' f' t' : Int} {l l' : List Pt} (h : smL l l') : smP (.mk k x n a f t l) (.mk k x n a' f' t' l') := by
 unfold smP
 exact ⟨rfl, rfl, rfl, h⟩
theorem zbo : smL [] [] := by unfold smL smP.go; trivial
theorem zbm {t t' : Pt} {l l' : List Pt} (h : smP t t') (h' : smL l l') : smL (t :: l) (t' :: l') := by
 show smP.go _ _
 unfold smP.go
 exact ⟨h, h'⟩
theorem zb9 {t t' : Pt} (h : smP t t') : smL [t] [t'] := zbm h zbo
theorem zfj : ∀ {a a' b b' : List Pt}, smL a a' -> smL b b' -> smL (a ++ b) (a' ++ b')
 | [], [], _, _, _, h => h
 | [], _ :: _, _, _, h, _ => by unfold smL smP.go at h; exact h.elim
 | _ :: _, [], _, _, h, _ => by unfold smL smP.go at h; exact h.elim
 | t :: r, t' :: r', b, b', h, h' => by
  unfold smL smP.go at h
  exact zbm h.1 (zfj h.2 h')
def stp (ts : List Tok) (q : Nat) : Prop := isT ts q [46] = false ∧ isT ts q [40] = false
def C4 (ws : List Tok) (e : Pt) (l : Nat) : Prop := ∀ ts p, Hs ts p ws -> stp ts (p + ws.length) -> rowI (nxT ts (p + ws.length)).text < (l : Int) -> ∃ e', smP e e' ∧ Ev (fun m => (fns ts m).bin l p) (.ok e' (p + ws.length))
def C3 (ws : List Tok) (e : Pt) (l : Nat) : Prop := ∀ ts p, Hs ts p ws -> stp ts (p + ws.length) -> rowI (nxT ts (p + ws.length)).text <= (l : Int) -> ∃ e', smP e e' ∧ ∀ r, Ev (fun m => (fns ts m).binL l (herI ts p) e' (p + ws.length)) r -> Ev (fun m => (fns ts m).bin l p) r
def C2 (ws : List Tok) (e : Pt) : Prop := ∀ ts p, Hs ts p ws -> stp ts (p + ws.length) -> ∃ e', smP e e' ∧ Ev (fun m => (fns ts m).una p) (.ok e' (p + ws.length))
def C1 (ws : List Tok) (e : Pt) : Prop := ∀ ts p, Hs ts p ws -> ∃ e', smP e e' ∧ ∀ r, Ev (fun m => (fns ts m).posL (herI ts p) e' (p + ws.length)) r -> Ev (fun m => (fns ts m).post p) r
def C0 (ws : List Tok) : Prop := ∀ ts p, Hs ts p ws -> isT ts p [45] = false ∧ isT ts p [33] = false
theorem zx2 {ws : List Tok} {e : Pt} {l : Nat} (hl : l <= 4) (h : C4 ws e (l + 1)) : C3 ws e l := fun ts p hh hs hr => by
 obtain ⟨e', h1, h2⟩ := h ts p hh hs (by omega)
 refine ⟨e', h1, fun r hr' => zbg ?_⟩
 show Ev (fun m => if l = 5 then (fns ts m).una p else ((fns ts m).bin (l + 1) p).bind fun t q => (fns ts m).binL l (herI ts p) t q) r
 exact zaq (by omega) (zao h2 hr')
theorem z0a {ws : List Tok} {e : Pt} {l : Nat} (h : C3 ws e l) : C4 ws e l := fun ts p hh hs hr => by
 obtain ⟨e', h1, h2⟩ := h ts p hh hs (by omega)
 refine ⟨e', h1, h2 _ (zbg ?_)⟩
 exact zaq (by omega) (zak _)
theorem zrg {ws : List Tok} {e : Pt} (h : C2 ws e) : C4 ws e 5 := fun ts p hh hs _ => by
 obtain ⟨e', h1, h2⟩ := h ts p hh hs
 refine ⟨e', h1, zbg ?_⟩
 show Ev (fun m => if 5 = 5 then (fns ts m).una p else ((fns ts m).bin (5 + 1) p).bind fun t q => (fns ts m).binL 5 (herI ts p) t q) _
 exact zbi rfl h2
theorem zjm {ws : List Tok} {e : Pt} {k : Nat} (hk : k <= 5) (h : C4 ws e k) : ∀ l, l <= k -> C4 ws e l := by
 induction k with
 | zero =>
  intro l hl
  obtain rfl : l = 0 := by omega
  exact h
 | succ k ih =>
  intro l hl
  rcases Nat.lt_or_ge l (k + 1) with h1 | h1
  ·exact ih (by omega) (z0a (zx2 (by omega) h)) l (by omega)
  ·obtain rfl : l = k + 1 := by omega
   exact h
structure It (e : Pt) (ws : List Tok) (lv : Nat) : Prop where
 c4 : ∀ l, l <= 5 -> l <= lv -> C4 ws e l
 c3 : ∀ l, l <= 4 -> l <= lv -> ¬ (l = 2 ∧ lv = 2) -> C3 ws e l
 c2 : 5 <= lv -> C2 ws e
 c1 : 6 <= lv -> C1 ws e
 c0 : 6 <= lv -> C0 ws
theorem zwa {e : Pt} {ws : List Tok} {lv : Nat} (_hlv : 5 <= lv) (h : C2 ws e) (h1 : 6 <= lv -> C1 ws e) (h0 : 6 <= lv -> C0 ws) : It e ws lv :=
 ⟨fun l hl _ => zjm (Nat.le_refl _) (zrg h) l hl, fun l hl _ _ => zx2 hl (zjm (Nat.le_refl _) (zrg h) (l + 1) (by omega)), fun _ => h, h1, h0⟩
theorem zjn {e : Pt} {ws : List Tok} {lv : Nat} (hlv : 6 <= lv) (h1 : C1 ws e) (h0 : C0 ws) : It e ws lv :=
 zwa (by omega) (fun ts p hh hs => by
  obtain ⟨e', a1, a2⟩ := h1 ts p hh
  obtain ⟨b1, b2⟩ := h0 ts p hh
  refine ⟨e', a1, zbg ?_⟩
  show Ev (fun m => if isT ts p [45] || isT ts p [33] then ((fns ts m).una (p + 1)).bind fun u q => .ok (.mk 26 (nxT ts p).text 0 (nxT ts p).pos (herI ts p) (behI ts q) [u]) q else (fns ts m).post p) _
  refine zaq (by rw [b1, b2]; simp) (a2 _ (zbg ?_))
  exact zaq (by rw [hs.1]; simp) (zaq (by rw [hs.2]; simp) (zak _))) (fun _ => h1) (fun _ => h0)
theorem z0b {e : Pt} {ws : List Tok} {k : Nat} (hk : k <= 4) (h : k ≠ 2 -> C3 ws e k) (h2 : k = 2 -> C4 ws e 2) : It e ws k := by
 have h4 : C4 ws e k := by
  by_cases hk2 : k = 2
  ·subst hk2; exact h2 rfl
  ·exact z0a (h hk2)
 refine ⟨fun l _ hl => zjm (by omega) h4 l hl, fun l hl hlk hn => ?_, fun hh => by omega, fun hh => by omega, fun hh => by omega⟩
 rcases Nat.lt_or_ge l k with h1 | h1
 ·exact zx2 hl (zjm (by omega) h4 (l + 1) (by omega))
 ·obtain rfl : l = k := by omega
  exact h fun e => hn ⟨e, e⟩
theorem zrh {ws : List Tok} {e : Pt} (h : ∀ ts p, Hs ts p ws -> ∃ e', smP e e' ∧ Ev (fun m => (fns ts m).prim p) (.ok e' (p + ws.length))) : C1 ws e := fun ts p hh => by
 obtain ⟨e', h1, h2⟩ := h ts p hh
 exact ⟨e', h1, fun r hr => zbg (zao h2 hr)⟩
theorem zri {ts : List Tok} {p : Nat} {k : Int} {s : List UInt8} {r : List Tok} (h : Hs ts p (tkW k (strU s) :: r)) (hk : k ≠ 5 := by decide) : rowI (nxT ts p).text = rowI (strU s) := by rw [(h.one hk).2]; rfl
theorem zu8 {ts : List Tok} {p : Nat} {k : Int} {s : List UInt8} {r : List Tok} (h : Hs ts p (tkW k (strU s) :: r)) {n : Int} (hr : rowI (strU s) < n) (hn : 0 <= n) : rowI (nxT ts p).text < n := by
 have h0 : (nxT ts p).text = strU s ∨ (k = 5 ∧ (nxT ts p).text = ⟨#[]⟩) := (h 0 _ rfl).2
 rcases h0 with e | ⟨-, e⟩ <;> rw [e]
 ·exact hr
 ·have : rowI ⟨#[]⟩ = -1 := by decide
  omega
theorem z0c {e : Pt} {ws : List Tok} {lv : Nat} (h : It e ws lv) : It e (wBrk [ws]) 7 := by
 have hw : wBrk [ws] = tkW 4 (strU [40]) :: (ws ++ [tkW 4 (strU [41])]) := by simp [wBrk, wPar, sgT]
 rw [hw]
 refine zjn (by omega) (zrh fun ts p hh => ?_) fun ts p hh => ⟨hh.not (by decide), hh.not (by decide)⟩
 have ht := hh.tail
 have hc := ht.right
 obtain ⟨e', h1, h2⟩ := h.c4 0 (by omega) (by omega) ts (p + 1) ht.left ⟨hc.not (by decide), hc.not (by decide)⟩ (by rw [zri hc]; decide)
 refine ⟨e', h1, zbg ?_⟩
 show Ev (fun m => if isT ts p [40] then ((fns ts m).bin 0 (p + 1)).bind fun t q => expP ts [41] q fun q => .ok t q else if namB ts p then leaP ts 23 p else va1P ts p) _
 refine zbi hh.is (zao h2 (zaz hc.is ?_))
 rw [show p + (tkW 4 (strU [40]) :: (ws ++ [tkW 4 (strU [41])])).length = p + 1 + ws.length + 1 by simp; omega]
 exact zak _
def plB (c : UInt8) : Bool := (decide (65 <= c) && decide (c <= 90)) || (c == 95) || (decide (97 <= c) && decide (c <= 122)) || (decide (48 <= c) && decide (c <= 57)) || (c == 34)
def plF (x : ByteArray) : Prop := ∃ c r, x.data.toList = c :: r ∧ plB c = true
def sgB (s : List UInt8) : Bool := match s with | [] => true | c :: _ => !plB c
theorem zf1 {x : ByteArray} {s : List UInt8} (h : plF x) (hs : sgB s = true) : (x.data.toList == s) = false := by
 obtain ⟨c, r, e, hc⟩ := h
 rw [e]
 cases s with
 | nil => rfl
 | cons d u =>
  rw [<- Bool.not_eq_true]
  intro h2
  have h3 : c :: r = d :: u := eq_of_beq h2
  injection h3 with h3 _
  subst h3
  have hs2 : (!plB c) = true := hs
  rw [hc] at hs2
  cases hs2
theorem Hs.pl {ts : List Tok} {p : Nat} {k : Int} {x : ByteArray} {r : List Tok} (h : Hs ts p (tkW k x :: r)) (hx : plF x) {s : List UInt8} (hs : sgB s = true) (hk : k ≠ 5 := by decide) : isT ts p s = false := by
 unfold isT
 rw [(h.one hk).2]
 exact zf1 hx hs
inductive Ex : Pt -> Prop
 | int {n a f t : Int} : (∀ u : Tok, u.kind = 2 -> u.text = ⟨(Lib.itoa n).toArray⟩ -> numT u = n) -> plF ⟨(Lib.itoa n).toArray⟩ -> Ex (.mk 20 ⟨#[]⟩ n a f t [])
 | text {x : ByteArray} {a f t : Int} : (∀ u : Tok, u.kind = 3 -> u.text = quoT x -> valT u = x) -> plF (quoT x) -> Ex (.mk 21 x 0 a f t [])
 | bool {x : ByteArray} {a f t : Int} : (x = strU [116, 114, 117, 101] ∨ x = strU [102, 97, 108, 115, 101]) -> Ex (.mk 22 x 0 a f t [])
 | name {x : ByteArray} {a f t : Int} : kepB x = false -> plF x -> Ex (.mk 23 x 0 a f t [])
 | dot {x : ByteArray} {a f t : Int} {e : Pt} : kepB x = false -> plF x -> Ex e -> Ex (.mk 24 x 0 a f t [e])
 | call {a f t : Int} {e : Pt} {l : List Pt} : Ex e -> (∀ u ∈ l, Ex u) -> Ex (.mk 25 ⟨#[]⟩ 0 a f t (e :: l))
 | una {x : ByteArray} {a f t : Int} {e : Pt} : (x = strU [45] ∨ x = strU [33]) -> Ex e -> Ex (.mk 26 x 0 a f t [e])
 | bin {x : ByteArray} {a f t : Int} {u v : Pt} : 0 <= rowI x -> Ex u -> Ex v -> Ex (.mk 27 x 0 a f t [u, v])
def lev : Pt -> Nat | .mk k x _ _ _ _ _ => if k = 27 then (rowI x).toNat else if k = 26 then 5 else if k = 24 ∨ k = 25 then 6 else 7
def opeT (k : Int) (x : ByteArray) (u : Pt) (i : Nat) : List Tok := if nedB k x (hdP u) i then wBrk [wrP u] else wrP u
def opeL (k : Int) (x : ByteArray) (u : Pt) (i : Nat) : Nat := if nedB k x (hdP u) i then 7 else lev u
theorem zkz {k : Int} {x : ByteArray} {u : Pt} {i : Nat} (h : It u (wrP u) (lev u)) : It u (opeT k x u i) (opeL k x u i) := by
 unfold opeT opeL
 split
 ·exact z0c h
 ·exact h
theorem zrj {u : Pt} (h : (hdP u).1 ≠ 27) : 5 <= lev u := by
 cases u with
 | mk k x n a f t l =>
  have h : k ≠ 27 := h
  show 5 <= lev (.mk k x n a f t l)
  rw [lev, if_neg h]
  split
  ·omega
  ·split <;> omega
theorem zx3 {u : Pt} (h : (hdP u).1 ≠ 27) (h' : (hdP u).1 ≠ 26) : 6 <= lev u := by
 cases u with
 | mk k x n a f t l =>
  have h : k ≠ 27 := h
  have h' : k ≠ 26 := h'
  show 6 <= lev (.mk k x n a f t l)
  rw [lev, if_neg h, if_neg h']
  split <;> omega
theorem zrk {u : Pt} (h : (hdP u).1 = 27) : lev u = (rowI (hdP u).2).toNat := by
 cases u with
 | mk k x n a f t l =>
  have h : k = 27 := h
  show lev (.mk k x n a f t l) = (rowI x).toNat
  rw [lev, if_pos h]
theorem zx4 {x : ByteArray} {u : Pt} : 5 <= opeL 26 x u 0 := by
 unfold opeL
 split
 ·omega
 ·rename_i h
  exact zrj fun e => h (by unfold nedB; rw [if_pos rfl, e]; rfl)
theorem zrl {k : Int} {x : ByteArray} {u : Pt} {i : Nat} (hk : k ≠ 26) (hk' : k ≠ 27) : 6 <= opeL k x u i := by
 unfold opeL
 split
 ·omega
 ·rename_i h
  refine zx3 (fun e => h ?_) fun e => h ?_
  ·unfold nedB; rw [if_neg hk, if_pos hk', e]; rfl
  ·unfold nedB; rw [if_neg hk, if_pos hk', e]; rfl
theorem zrm (x : ByteArray) : rowI x <= 4 := by
 unfold rowI
 repeat' split
 all_goals omega
theorem zu9 {x : ByteArray} {u : Pt} (hx : 0 <= rowI x) : (rowI x).toNat <= opeL 27 x u 0 ∧ ¬ ((rowI x).toNat = 2 ∧ opeL 27 x u 0 = 2) := by
 have h4 := zrm x
 unfold opeL
 split
 ·omega
 ·rename_i h
  by_cases hk : (hdP u).1 = 27
  ·rw [zrk hk]
   have h1 : ¬ rowI (hdP u).2 < rowI x := fun e => h (by unfold nedB; rw [if_neg (by decide), if_neg (by simp), hk]; simp [e])
   have h2 : ¬ (rowI (hdP u).2 = rowI x ∧ rowI (hdP u).2 = 2) := fun e => h (by unfold nedB; rw [if_neg (by decide), if_neg (by simp), hk, <- e.1, e.2]; simp)
   omega
  ·have := zrj hk
   omega
theorem zrn {x : ByteArray} {u : Pt} (hx : 0 <= rowI x) : (rowI x).toNat + 1 <= opeL 27 x u 1 := by
 have h4 := zrm x
 unfold opeL
 split
 ·omega
 ·rename_i h
  by_cases hk : (hdP u).1 = 27
  ·rw [zrk hk]
   have h1 : ¬ rowI (hdP u).2 < rowI x := fun e => h (by unfold nedB; rw [if_neg (by decide), if_neg (by simp), hk]; simp [e])
   have h2 : ¬ rowI (hdP u).2 = rowI x := fun e => h (by unfold nedB; rw [if_neg (by decide), if_neg (by simp), hk, e]; simp)
   omega
  ·have := zrj hk
   omega
theorem zx5 {ts : List Tok} {q : Nat} (h : 0 <= rowI (nxT ts q).text) : stp ts q := by
 constructor
 ·rw [<- Bool.not_eq_true]
  intro e
  have e2 : (nxT ts q).text.data.toList = [46] := eq_of_beq e
  unfold rowI at h
  rw [e2] at h
  revert h
  decide
 ·rw [<- Bool.not_eq_true]
  intro e
  have e2 : (nxT ts q).text.data.toList = [40] := eq_of_beq e
  unfold rowI at h
  rw [e2] at h
  revert h
  decide
theorem zgm (n a f t : Int) (x : ByteArray) : wrP (.mk 20 x n a f t []) = [nuT n] := by simp [wrP, wrK, wrS, wrX]
theorem zge (n a f t : Int) (x : ByteArray) : wrP (.mk 21 x n a f t []) = [tkW 3 (quoT x)] := by simp [wrP, wrK, wrS, wrX]
theorem zgf (n a f t : Int) (x : ByteArray) : wrP (.mk 22 x n a f t []) = [tkW 1 x] := by simp [wrP, wrK, wrS, wrX]
theorem zhm (n a f t : Int) (x : ByteArray) : wrP (.mk 23 x n a f t []) = [tkW 1 x] := by simp [wrP, wrK, wrS, wrX]
theorem zk0 (n a f t : Int) (x : ByteArray) (e : Pt) : wrP (.mk 24 x n a f t [e]) = opeT 24 x e 0 ++ [sgT [46], tkW 1 x] := by simp [wrP, wrK, wrS, wrX, wrM, wOpe, opeT]
theorem zhn (n a f t : Int) (x : ByteArray) (e : Pt) (l : List Pt) : wrP (.mk 25 x n a f t (e :: l)) = opeT 25 x e 0 ++ wBrk (l.map wrP) := by simp [wrP, wrK, wrS, wrX, wrM, wOpe, opeT, zcd]
theorem zk1 (n a f t : Int) (x : ByteArray) (e : Pt) : wrP (.mk 26 x n a f t [e]) = tkW 4 x :: opeT 26 x e 0 := by simp [wrP, wrK, wrS, wrX, wrM, wOpe, opeT]
theorem zk2 (n a f t : Int) (x : ByteArray) (u v : Pt) : wrP (.mk 27 x n a f t [u, v]) = opeT 27 x u 0 ++ tkW 4 x :: opeT 27 x v 1 := by simp [wrP, wrK, wrS, wrX, wrM, wOpe, opeT]
theorem znk {ws : List Tok} {e : Pt} {w : Tok} (hw : ws = [w]) (h0 : ∀ ts p, Hs ts p [w] -> isT ts p [45] = false ∧ isT ts p [33] = false ∧ isT ts p [40] = false)
  (h : ∀ ts p, Hs ts p [w] -> ∃ e', smP e e' ∧ (if namB ts p then leaP ts 23 p else va1P ts p) = .ok e' (p + 1)) : It e ws 7 := by
 subst hw
 refine zjn (by omega) (zrh fun ts p hh => ?_) fun ts p hh => ⟨(h0 ts p hh).1, (h0 ts p hh).2.1⟩
 obtain ⟨e', h1, h2⟩ := h ts p hh
 refine ⟨e', h1, zbg ?_⟩
 show Ev (fun m => if isT ts p [40] then ((fns ts m).bin 0 (p + 1)).bind fun t q => expP ts [41] q fun q => .ok t q else if namB ts p then leaP ts 23 p else va1P ts p) _
 exact zaq (by rw [(h0 ts p hh).2.2]; simp) (by rw [h2]; exact zak _)
theorem zro : ∀ (l : List Pt), (∀ u ∈ l, It u (wrP u) (lev u)) -> ∀ (ts : List Tok) (p : Nat) (acc : List Pt), Hs ts p (((l.map wrP).map (sgT [44] :: ·)).flatten ++ [sgT [41]]) ->
  ∃ l', smL l l' ∧ Ev (fun m => (fns ts m).argL acc p) (.ok (acc ++ l') (p + ((l.map wrP).map (sgT [44] :: ·)).flatten.length))
 | [], _, ts, p, acc, hh => by
  refine ⟨[], zbo, zbg ?_⟩
  have h0 : Hs ts p (tkW 4 (strU [41]) :: []) := by simpa [sgT] using hh
  rw [List.append_nil]
  exact zaq (by rw [h0.not (by decide)]; simp) (zak _)
 | u :: r, hl, ts, p, acc, hh => by
  have hw : (((u :: r).map wrP).map (sgT [44] :: ·)).flatten ++ [sgT [41]] = tkW 4 (strU [44]) :: (wrP u ++ (((r.map wrP).map (sgT [44] :: ·)).flatten ++ [sgT [41]])) := by simp [sgT]
  rw [hw] at hh
  have ht := hh.tail
  have hc := ht.right
  have hn : ∃ s rest, (((r.map wrP).map (sgT [44] :: ·)).flatten ++ [sgT [41]]) = tkW 4 (strU s) :: rest ∧ (s = [44] ∨ s = [41]) := by
   cases r with
   | nil => exact ⟨[41], [], by simp [sgT], .inr rfl⟩
   | cons v r' => exact ⟨[44], _, by simp [sgT]; rfl, .inl rfl⟩
  obtain ⟨s, rest, e1, e2⟩ := hn
  have hc' := hc
  rw [e1] at hc'
  obtain ⟨u', h1, h2⟩ := (hl u (by simp)).c4 0 (by omega) (by omega) ts (p + 1) ht.left
   (by rcases e2 with rfl | rfl <;> exact ⟨hc'.not (by decide), hc'.not (by decide)⟩) (by rw [zri hc']; rcases e2 with rfl | rfl <;> decide)
  obtain ⟨l', h3, h4⟩ := zro r (fun v hv => hl v (by simp [hv])) ts (p + 1 + (wrP u).length) (acc ++ [u']) hc
  refine ⟨u' :: l', zbm h1 h3, zbg ?_⟩
  refine zbi hh.is (zao h2 ?_)
  have e3 : p + (((u :: r).map wrP).map (sgT [44] :: ·)).flatten.length = p + 1 + (wrP u).length + ((r.map wrP).map (sgT [44] :: ·)).flatten.length := by simp; omega
  rw [e3, show acc ++ u' :: l' = acc ++ [u'] ++ l' by simp]
  exact h4
theorem z0d (l : List Pt) (hl : ∀ u ∈ l, It u (wrP u) (lev u)) (hf : ∀ u ∈ l, ∀ ts p r, Hs ts p (wrP u ++ r) -> isT ts p [41] = false) (ts : List Tok) (p : Nat) (hh : Hs ts p (wBrk (l.map wrP))) :
  ∃ l', smL l l' ∧ Ev (fun m => lisP ts ((fns ts m).bin 0) (fns ts m).argL p) (.ok l' (p + (wBrk (l.map wrP)).length)) := by
 cases l with
 | nil =>
  have h0 : Hs ts p (tkW 4 (strU [40]) :: tkW 4 (strU [41]) :: []) := by simpa [wBrk, wPar, sgT] using hh
  refine ⟨[], zbo, ?_⟩
  unfold lisP expP
  refine zaz h0.is (zbi h0.tail.is ?_)
  simp [wBrk, wPar]
  exact zak _
 | cons u r =>
  have hw : wBrk ((u :: r).map wrP) = tkW 4 (strU [40]) :: (wrP u ++ (((r.map wrP).map (sgT [44] :: ·)).flatten ++ [sgT [41]])) := by simp [wBrk, wPar, sgT]
  rw [hw] at hh ⊢
  have ht := hh.tail
  have hc := ht.right
  have hn : ∃ s rest, (((r.map wrP).map (sgT [44] :: ·)).flatten ++ [sgT [41]]) = tkW 4 (strU s) :: rest ∧ (s = [44] ∨ s = [41]) := by
   cases r with
   | nil => exact ⟨[41], [], by simp [sgT], .inr rfl⟩
   | cons v r' => exact ⟨[44], _, by simp [sgT]; rfl, .inl rfl⟩
  obtain ⟨s, rest, e1, e2⟩ := hn
  have hc' := hc
  rw [e1] at hc'
  obtain ⟨u', h1, h2⟩ := (hl u (by simp)).c4 0 (by omega) (by omega) ts (p + 1) ht.left
   (by rcases e2 with rfl | rfl <;> exact ⟨hc'.not (by decide), hc'.not (by decide)⟩) (by rw [zri hc']; rcases e2 with rfl | rfl <;> decide)
  obtain ⟨l', h3, h4⟩ := zro r (fun v hv => hl v (by simp [hv])) ts (p + 1 + (wrP u).length) [u'] hc
  have hz : Hs ts (p + 1 + (wrP u).length + ((r.map wrP).map (sgT [44] :: ·)).flatten.length) (tkW 4 (strU [41]) :: []) := hc.right
  refine ⟨u' :: l', zbm h1 h3, ?_⟩
  unfold lisP expP
  refine zaz hh.is (zaq (by rw [hf u (by simp) ts (p + 1) _ ht]; simp) (zao h2 (zao h4 (zaz hz.is ?_))))
  rw [show p + (tkW 4 (strU [40]) :: (wrP u ++ (((r.map wrP).map (sgT [44] :: ·)).flatten ++ [sgT [41]]))).length = p + 1 + (wrP u).length + ((r.map wrP).map (sgT [44] :: ·)).flatten.length + 1 by simp; omega]
  exact zak _
def fstE (x : Tok) : Prop := (x.kind = 4 ∧ (x.text = strU [40] ∨ x.text = strU [45] ∨ x.text = strU [33])) ∨ ((x.kind = 2 ∨ x.kind = 3) ∧ plF x.text) ∨ (x.kind = 1 ∧ plF x.text ∧ (kepB x.text = false ∨ x.text = strU [116, 114, 117, 101] ∨ x.text = strU [102, 97, 108, 115, 101]))
theorem zjo {x : Tok} (h : fstE x) : x.kind ≠ 5 := by
 rcases h with ⟨h, -⟩ | ⟨h | h, -⟩ | ⟨h, -⟩ <;> rw [h] <;> decide
theorem zl4 {k : Int} {x : ByteArray} {u : Pt} {i : Nat} (h : ∃ a r, wrP u = a :: r ∧ fstE a) : ∃ a r, opeT k x u i = a :: r ∧ fstE a := by
 unfold opeT
 split
 ·exact ⟨sgT [40], wrP u ++ [sgT [41]], by simp [wBrk, wPar], .inl ⟨rfl, .inl rfl⟩⟩
 ·exact h
theorem zrp {e : Pt} (h : Ex e) : ∃ a r, wrP e = a :: r ∧ fstE a := by
 induction h with
 | int _ hp => exact ⟨_, _, zgm _ _ _ _ _, .inr (.inl ⟨.inl rfl, hp⟩)⟩
 | text _ hp => exact ⟨_, _, zge _ _ _ _ _, .inr (.inl ⟨.inr rfl, hp⟩)⟩
 | bool hx =>
  refine ⟨_, _, zgf _ _ _ _ _, .inr (.inr ⟨rfl, ?_, .inr hx⟩)⟩
  rcases hx with rfl | rfl
  ·exact ⟨116, [114, 117, 101], rfl, by decide⟩
  ·exact ⟨102, [97, 108, 115, 101], rfl, by decide⟩
 | name hk hp => exact ⟨_, _, zhm _ _ _ _ _, .inr (.inr ⟨rfl, hp, .inl hk⟩)⟩
 | dot _ _ _ ih =>
  obtain ⟨a, r, e1, e2⟩ := zl4 ih
  exact ⟨a, r ++ _, by rw [zk0, e1]; rfl, e2⟩
 | call _ _ ih _ =>
  obtain ⟨a, r, e1, e2⟩ := zl4 ih
  exact ⟨a, r ++ _, by rw [zhn, e1]; rfl, e2⟩
 | una hx _ _ => exact ⟨_, _, zk1 _ _ _ _ _ _, .inl ⟨rfl, .inr hx⟩⟩
 | bin _ _ _ ih _ =>
  obtain ⟨a, r, e1, e2⟩ := zl4 ih
  exact ⟨a, r ++ _, by rw [zk2, e1]; rfl, e2⟩
theorem zrq {x : Tok} (h : fstE x) {s : List UInt8} (hs : sgB s = true) (h1 : (([40] : List UInt8) == s) = false) (h2 : (([45] : List UInt8) == s) = false) (h3 : (([33] : List UInt8) == s) = false) : (x.text.data.toList == s) = false := by
 rcases h with ⟨-, h | h | h⟩ | ⟨-, h⟩ | ⟨-, h, -⟩
 ·rw [h]; simpa [strU] using h1
 ·rw [h]; simpa [strU] using h2
 ·rw [h]; simpa [strU] using h3
 ·exact zf1 h hs
 ·exact zf1 h hs
theorem z2o {e : Pt} (h : Ex e) : It e (wrP e) (lev e) := by
 induction h with
 | @int n a f t hn hp =>
  refine znk (zgm _ _ _ _ _) (fun ts p hh => ⟨hh.pl hp (by decide), hh.pl hp (by decide), hh.pl hp (by decide)⟩) fun ts p hh => ?_
  have hk : (nxT ts p).kind = 2 := hh.one.1
  have hnb : namB ts p = false := by unfold namB; rw [hk]; rfl
  refine ⟨_, zbf (a' := (nxT ts p).pos) (f' := herI ts p) (t' := behI ts (p + 1)) zbo, ?_⟩
  rw [hnb]
  unfold va1P
  rw [hk, hn _ hk hh.one.2]
  rfl
 | @text x a f t hx hp =>
  refine znk (zge _ _ _ _ _) (fun ts p hh => ⟨hh.pl hp (by decide), hh.pl hp (by decide), hh.pl hp (by decide)⟩) fun ts p hh => ?_
  have hk : (nxT ts p).kind = 3 := hh.one.1
  have hnb : namB ts p = false := by unfold namB; rw [hk]; rfl
  refine ⟨_, zbf (a' := (nxT ts p).pos) (f' := herI ts p) (t' := behI ts (p + 1)) zbo, ?_⟩
  rw [hnb]
  unfold va1P
  rw [hk, hx _ hk hh.one.2]
  rfl
 | @bool x a f t hx =>
  have hp : plF x := by
   rcases hx with rfl | rfl
   ·exact ⟨116, [114, 117, 101], rfl, by decide⟩
   ·exact ⟨102, [97, 108, 115, 101], rfl, by decide⟩
  refine znk (zgf _ _ _ _ _) (fun ts p hh => ⟨hh.pl hp (by decide), hh.pl hp (by decide), hh.pl hp (by decide)⟩) fun ts p hh => ?_
  have hk : (nxT ts p).kind = 1 := hh.one.1
  have htx : (nxT ts p).text = x := hh.one.2
  have hkp : kepB x = true := by rcases hx with rfl | rfl <;> decide
  have hnb : namB ts p = false := by unfold namB; rw [htx, hkp]; simp
  have hio : (isT ts p [116, 114, 117, 101] || isT ts p [102, 97, 108, 115, 101]) = true := by
   unfold isT
   rw [htx]
   rcases hx with rfl | rfl <;> decide
  refine ⟨_, zbf (a' := (nxT ts p).pos) (f' := herI ts p) (t' := behI ts (p + 1)) zbo, ?_⟩
  rw [hnb]
  unfold va1P
  rw [hk, hio]
  unfold leaP
  rw [htx]
  rfl
 | @name x a f t hk hp =>
  refine znk (zhm _ _ _ _ _) (fun ts p hh => ⟨hh.pl hp (by decide), hh.pl hp (by decide), hh.pl hp (by decide)⟩) fun ts p hh => ?_
  have hk1 : (nxT ts p).kind = 1 := hh.one.1
  have htx : (nxT ts p).text = x := hh.one.2
  have hnb : namB ts p = true := by unfold namB; rw [htx, hk, hk1]; rfl
  refine ⟨_, zbf (a' := (nxT ts p).pos) (f' := herI ts p) (t' := behI ts (p + 1)) zbo, ?_⟩
  rw [hnb]
  unfold leaP
  rw [htx]
  rfl
 | @dot x a f t e hk hp he ih =>
  have io := zkz (k := 24) (x := x) (i := 0) ih
  have h6 : 6 <= opeL 24 x e 0 := zrl (by decide) (by decide)
  have hlv : lev (.mk 24 x 0 a f t [e]) = 6 := rfl
  rw [hlv, zk0]
  refine zjn (Nat.le_refl _) (fun ts p hh => ?_) fun ts p hh => io.c0 h6 ts p hh.left
  obtain ⟨e', h1, h2⟩ := io.c1 h6 ts p hh.left
  have hd := hh.right
  have hn := hd.tail
  have hk1 : (nxT ts (p + (opeT 24 x e 0).length + 1)).kind = 1 := hn.one.1
  have htx : (nxT ts (p + (opeT 24 x e 0).length + 1)).text = x := hn.one.2
  have hnb : namB ts (p + (opeT 24 x e 0).length + 1) = true := by unfold namB; rw [htx, hk, hk1]; rfl
  refine ⟨.mk 24 (nxT ts (p + (opeT 24 x e 0).length + 1)).text 0 (nxT ts (p + (opeT 24 x e 0).length + 1)).pos (herI ts p) (behI ts (p + (opeT 24 x e 0).length + 1 + 1)) [e'], by rw [htx]; exact zbf (zb9 h1), fun r hr => h2 r (zbg ?_)⟩
  refine zbi (Hs.is (k := 4) hd) (zaz hnb ?_)
  rw [show p + (opeT 24 x e 0 ++ [sgT [46], tkW 1 x]).length = p + (opeT 24 x e 0).length + 1 + 1 by simp; omega] at hr
  exact hr
 | @call a f t e l he hl ih ihl =>
  have io := zkz (k := 25) (x := ⟨#[]⟩) (i := 0) ih
  have h6 : 6 <= opeL 25 ⟨#[]⟩ e 0 := zrl (by decide) (by decide)
  have hlv : lev (.mk 25 ⟨#[]⟩ 0 a f t (e :: l)) = 6 := rfl
  rw [hlv, zhn]
  refine zjn (Nat.le_refl _) (fun ts p hh => ?_) fun ts p hh => io.c0 h6 ts p hh.left
  obtain ⟨e', h1, h2⟩ := io.c1 h6 ts p hh.left
  have hb := hh.right
  have hb1 : Hs ts (p + (opeT 25 ⟨#[]⟩ e 0).length) (tkW 4 (strU [40]) :: (wPar [44] (l.map wrP) ++ [sgT [41]])) := by simpa [wBrk, sgT] using hb
  obtain ⟨l', h3, h4⟩ := z0d l ihl (fun u hu ts p r hs => by
   obtain ⟨a, r', e1, e2⟩ := zrp (hl u hu)
   rw [e1] at hs
   unfold isT
   rw [(hs.one (zjo e2)).2]
   exact zrq e2 (by decide) (by decide) (by decide) (by decide)) ts _ hb
  refine ⟨.mk 25 ⟨#[]⟩ 0 (herI ts p) (herI ts p) (behI ts (p + (opeT 25 ⟨#[]⟩ e 0).length + (wBrk (l.map wrP)).length)) ([e'] ++ l'), zbf (zbm h1 h3), fun r hr => h2 r (zbg ?_)⟩
  refine zaq (by rw [hb1.not (by decide)]; simp) (zbi hb1.is (zao h4 ?_))
  rw [List.length_append, <- Nat.add_assoc] at hr
  exact hr
 | @una x a f t e hx he ih =>
  have io := zkz (k := 26) (x := x) (i := 0) ih
  have h5 : 5 <= opeL 26 x e 0 := zx4
  have hlv : lev (.mk 26 x 0 a f t [e]) = 5 := rfl
  rw [hlv, zk1]
  refine zwa (Nat.le_refl _) (fun ts p hh hs => ?_) (fun h => by omega) (fun h => by omega)
  have hlen : p + (tkW 4 x :: opeT 26 x e 0).length = p + 1 + (opeT 26 x e 0).length := by simp; omega
  rw [hlen] at hs ⊢
  obtain ⟨e', h1, h2⟩ := io.c2 h5 ts (p + 1) hh.tail hs
  have htx : (nxT ts p).text = x := hh.one.2
  have hio : (isT ts p [45] || isT ts p [33]) = true := by
   unfold isT
   rw [htx]
   rcases hx with rfl | rfl <;> decide
  refine ⟨.mk 26 (nxT ts p).text 0 (nxT ts p).pos (herI ts p) (behI ts (p + 1 + (opeT 26 x e 0).length)) [e'], by rw [htx]; exact zbf (zb9 h1), zbg ?_⟩
  exact zbi hio (zao h2 (zak _))
 | @bin x a f t u v hx hu hv ihu ihv =>
  have iu := zkz (k := 27) (x := x) (i := 0) ihu
  have iv := zkz (k := 27) (x := x) (i := 1) ihv
  obtain ⟨g1, g2⟩ := zu9 (u := u) hx
  have g3 := zrn (u := v) hx
  have h4 := zrm x
  obtain ⟨k, hk⟩ : ∃ k : Nat, rowI x = k := ⟨(rowI x).toNat, by omega⟩
  have hkn : (rowI x).toNat = k := by omega
  have hlv : lev (.mk 27 x 0 a f t [u, v]) = k := by show (rowI x).toNat = k; exact hkn
  rw [hkn] at g1 g2 g3
  rw [hlv, zk2]
  have key : ∀ ts p, Hs ts p (opeT 27 x u 0 ++ tkW 4 x :: opeT 27 x v 1) -> stp ts (p + (opeT 27 x u 0 ++ tkW 4 x :: opeT 27 x v 1).length) -> rowI (nxT ts (p + (opeT 27 x u 0 ++ tkW 4 x :: opeT 27 x v 1).length)).text <= (k : Int) ->
    ∃ e', smP (.mk 27 x 0 a f t [u, v]) e' ∧ ∀ r, Ev (fun m => if k = 2 then .ok e' (p + (opeT 27 x u 0 ++ tkW 4 x :: opeT 27 x v 1).length) else (fns ts m).binL k (herI ts p) e' (p + (opeT 27 x u 0 ++ tkW 4 x :: opeT 27 x v 1).length)) r -> Ev (fun m => (fns ts m).bin k p) r := fun ts p hh hs hr => by
   have hlen : p + (opeT 27 x u 0 ++ tkW 4 x :: opeT 27 x v 1).length = p + (opeT 27 x u 0).length + 1 + (opeT 27 x v 1).length := by simp; omega
   rw [hlen] at hs hr ⊢
   have ho := hh.right
   have htx : (nxT ts (p + (opeT 27 x u 0).length)).text = x := ho.one.2
   obtain ⟨u', a1, a2⟩ := iu.c3 k (by omega) g1 g2 ts p hh.left (zx5 (by rw [htx]; exact hx)) (by rw [htx]; omega)
   obtain ⟨v', b1, b2⟩ := iv.c4 (k + 1) (by omega) g3 ts _ ho.tail hs (by omega)
   refine ⟨.mk 27 (nxT ts (p + (opeT 27 x u 0).length)).text 0 (nxT ts (p + (opeT 27 x u 0).length)).pos (herI ts p) (behI ts (p + (opeT 27 x u 0).length + 1 + (opeT 27 x v 1).length)) [u', v'], by rw [htx]; exact zbf (zbm a1 (zb9 b1)), fun r hr => a2 r (zbg ?_)⟩
   exact zbi (by rw [htx, hk]) (zao b2 hr)
  refine z0b (by omega) (fun hk2 ts p hh hs hr => ?_) fun hk2 ts p hh hs hr => ?_
  ·obtain ⟨e', a1, a2⟩ := key ts p hh hs hr
   exact ⟨e', a1, fun r hr' => a2 r (zaq hk2 hr')⟩
  ·subst hk2
   obtain ⟨e', a1, a2⟩ := key ts p hh hs (by omega)
   exact ⟨e', a1, a2 _ (zbi rfl (zak _))⟩
theorem zk3 {α : Type} {eq : α -> α -> Bool} : ∀ {a b c d : List α}, eqAll eq a b = true -> eqAll eq c d = true -> eqAll eq (a ++ c) (b ++ d) = true
 | [], [], _, _, _, h => h
 | [], _ :: _, _, _, h, _ => by simp [eqAll] at h
 | _ :: _, [], _, _, h, _ => by simp [eqAll] at h
 | x :: a, y :: b, c, d, h, h' => by
  rw [eqAll, Bool.and_eq_true] at h
  rw [List.cons_append, List.cons_append, eqAll, h.1, zk3 h.2 h']
  rfl
mutual
theorem zij : ∀ (t t' : Pt), smP t t' -> cntP t = cntP t'
 | .mk k x n a f e l, .mk k' x' n' a' f' e' l', h => by
  unfold smP at h
  rw [cntP, cntP, zrr l l' h.2.2.2]
theorem zrr : ∀ (l l' : List Pt), smL l l' -> cntL l = cntL l'
 | [], [], _ => rfl
 | [], _ :: _, h => by unfold smL smP.go at h; exact h.elim
 | _ :: _, [], h => by unfold smL smP.go at h; exact h.elim
 | t :: r, t' :: r', h => by
  unfold smL smP.go at h
  rw [cntL, cntL, zij t t' h.1, zrr r r' h.2]
end
theorem zwb : ∀ (l l' : List Pt) (i : Nat), smL l l' -> kidI i l = kidI i l'
 | [], [], _, _ => rfl
 | [], _ :: _, _, h => by unfold smL smP.go at h; exact h.elim
 | _ :: _, [], _, h => by unfold smL smP.go at h; exact h.elim
 | t :: r, t' :: r', i, h => by
  unfold smL smP.go at h
  rw [kidI, kidI, zij t t' h.1, zwb r r' _ h.2]
mutual
theorem zk4 : ∀ (t t' : Pt) (i : Nat), smP t t' -> eqAll ndEq (layP i t) (layP i t') = true
 | .mk k x n a f e l, .mk k' x' n' a' f' e' l', i, h => by
  unfold smP at h
  obtain ⟨rfl, rfl, rfl, hl⟩ := h
  rw [layP, layP, eqAll, zrs l l' (i + 1) hl, zwb l l' _ hl]
  simp [ndEq]
theorem zrs : ∀ (l l' : List Pt) (i : Nat), smL l l' -> eqAll ndEq (layL i l) (layL i l') = true
 | [], [], _, _ => by rw [layL]; rfl
 | [], _ :: _, _, h => by unfold smL smP.go at h; exact h.elim
 | _ :: _, [], _, h => by unfold smL smP.go at h; exact h.elim
 | t :: r, t' :: r', i, h => by
  unfold smL smP.go at h
  rw [layL, layL, <- zij t t' h.1]
  exact zk3 (zk4 t t' i h.1) (zrs r r' _ h.2)
end
inductive Ty : Pt -> Prop
 | basic {x : ByteArray} {a f t : Int} : (x = strU [105, 110, 116] ∨ x = strU [98, 111, 111, 108] ∨ x = strU [115, 116, 114, 105, 110, 103]) -> Ty (.mk 10 x 0 a f t [])
 | named {x : ByteArray} {a f t : Int} : kepB x = false -> plF x -> Ty (.mk 11 x 0 a f t [])
 | far {x y : ByteArray} {a f t a' f' t' : Int} : kepB x = false -> kepB y = false -> plF y -> Ty (.mk 12 x 0 a f t [.mk 23 y 0 a' f' t' []])
theorem zrt (x : ByteArray) (a f t : Int) : wrP (.mk 10 x 0 a f t []) = [tkW 1 x] := by rw [wrP, wrM]; rfl
theorem zf2 (x : ByteArray) (a f t : Int) : wrP (.mk 11 x 0 a f t []) = [tkW 1 x] := by rw [wrP, wrM]; rfl
theorem zho (x y : ByteArray) (a f t a' f' t' : Int) : wrP (.mk 12 x 0 a f t [.mk 23 y 0 a' f' t' []]) = [tkW 1 y, sgT [46], tkW 1 x] := by rw [wrP, wrM, wrM, wrP, wrM]; rfl
theorem zd1 {ts : List Tok} {p : Nat} {x : ByteArray} {r : List Tok} (h : Hs ts p (tkW 1 x :: r)) (hx : kepB x = false) : namB ts p = true := by
 have h1 : (nxT ts p).kind = 1 := h.one.1
 have h2 : (nxT ts p).text = x := h.one.2
 unfold namB
 rw [h1, h2, hx]
 rfl
theorem zru {ts : List Tok} {p : Nat} {x : ByteArray} {r : List Tok} (h : Hs ts p (tkW 1 x :: r)) (hx : kepB x = false) : (isT ts p [105, 110, 116] || isT ts p [98, 111, 111, 108] || isT ts p [115, 116, 114, 105, 110, 103]) = false := by
 have h2 : (nxT ts p).text = x := h.one.2
 unfold isT
 rw [h2]
 unfold kepB at hx
 simp only [Bool.or_eq_false_iff] at hx ⊢
 exact ⟨⟨hx.1.1.2, hx.1.2⟩, hx.2⟩
theorem zva {e : Pt} (h : Ty e) (ts : List Tok) (p : Nat) (hh : Hs ts p (wrP e)) (hd : isT ts (p + (wrP e).length) [46] = false) : ∃ e', smP e e' ∧ typP ts p = .ok e' (p + (wrP e).length) := by
 cases h with
 | @basic x a f t hx =>
  rw [zrt] at hh hd ⊢
  have htx : (nxT ts p).text = x := hh.one.2
  refine ⟨_, zbf (a' := (nxT ts p).pos) (f' := herI ts p) (t' := behI ts (p + 1)) zbo, ?_⟩
  have hio : (isT ts p [105, 110, 116] || isT ts p [98, 111, 111, 108] || isT ts p [115, 116, 114, 105, 110, 103]) = true := by
   unfold isT
   rw [htx]
   rcases hx with rfl | rfl | rfl <;> decide
  unfold typP
  rw [hio]
  unfold leaP
  rw [htx]
  rfl
 | @named x a f t hx _ =>
  rw [zf2] at hh hd ⊢
  have htx : (nxT ts p).text = x := hh.one.2
  refine ⟨_, zbf (a' := (nxT ts p).pos) (f' := herI ts p) (t' := behI ts (p + 1)) zbo, ?_⟩
  have hd' : isT ts (p + 1) [46] = false := hd
  unfold typP
  rw [zru hh hx, hd']
  unfold worP leaP
  rw [zd1 hh hx, htx]
  rfl
 | @far x y a f t a' f' t' hx hy _ =>
  rw [zho] at hh hd ⊢
  have hty : (nxT ts p).text = y := hh.one.2
  have hh1 : Hs ts (p + 1) [sgT [46], tkW 1 x] := hh.tail
  have hh2 : Hs ts (p + 1 + 1) [tkW 1 x] := hh1.tail
  have htx : (nxT ts (p + 1 + 1)).text = x := hh2.one.2
  have h46 : isT ts (p + 1) [46] = true := hh1.is
  refine ⟨.mk 12 x 0 (nxT ts (p + 1 + 1)).pos (herI ts p) (behI ts (p + 1 + 1 + 1)) [.mk 23 y 0 (nxT ts p).pos (herI ts p) (behI ts (p + 1)) []], zbf (zb9 (zbf zbo)), ?_⟩
  unfold typP
  rw [zru hh hy, h46]
  unfold worP leaP expP namP
  rw [zd1 hh hy]
  simp only [Rs.need, Rs.bind, if_true, h46, zd1 hh2 hx, htx, hty]
  rfl
theorem z0e {k a f t : Int} {x : ByteArray} {v : Pt} (hx : kepB x = false) (hv : Ty v) (ts : List Tok) (p : Nat) (hh : Hs ts p (tkW 1 x :: wrP v)) (hd : isT ts (p + 1 + (wrP v).length) [46] = false) : ∃ e', smP (.mk k x 0 a f t [v]) e' ∧ tydP ts k p = .ok e' (p + 1 + (wrP v).length) := by
 have htx : (nxT ts p).text = x := hh.one.2
 obtain ⟨v', h1, h2⟩ := zva hv ts (p + 1) hh.tail hd
 refine ⟨.mk k x 0 (nxT ts p).pos (herI ts p) (behI ts (p + 1 + (wrP v).length)) [v'], zbf (zb9 h1), ?_⟩
 unfold tydP namP
 simp only [zd1 hh hx, h2, htx, Rs.need, Rs.bind, if_true]
theorem z0f {a f t a' f' t' : Int} {x y : ByteArray} (hx : kepB x = false) (hy : kepB y = false) (ts : List Tok) (p : Nat) (hh : Hs ts p [tkW 1 x, tkW 1 y]) : ∃ e', smP (.mk 8 x 0 a f t [.mk 11 y 0 a' f' t' []]) e' ∧ recP ts p = .ok e' (p + 1 + 1) := by
 have htx : (nxT ts p).text = x := hh.one.2
 have hty : (nxT ts (p + 1)).text = y := hh.tail.one.2
 refine ⟨.mk 8 x 0 (nxT ts p).pos (herI ts p) (behI ts (p + 1 + 1)) [.mk 11 y 0 (nxT ts (p + 1)).pos (herI ts (p + 1)) (behI ts (p + 1 + 1)) []], zbf (zb9 (zbf zbo)), ?_⟩
 unfold recP namP worP leaP
 simp only [zd1 hh hx, zd1 hh.tail hy, htx, hty, Rs.need, Rs.bind, if_true]
theorem z0g {a f t : Int} {x : ByteArray} (hx : ∀ u : Tok, u.kind = 3 -> u.text = quoT x -> valT u = x) (ts : List Tok) (p : Nat) (hh : Hs ts p [wdT [105, 109, 112, 111, 114, 116], tkW 3 (quoT x)]) : ∃ e', smP (.mk 2 x 0 a f t []) e' ∧ impP ts p = .ok e' (p + 1 + 1) := by
 have hi : isT ts p [105, 109, 112, 111, 114, 116] = true := hh.is
 have hk : (nxT ts (p + 1)).kind = 3 := hh.tail.one.1
 have hq : (nxT ts (p + 1)).text = quoT x := hh.tail.one.2
 refine ⟨.mk 2 x 0 (nxT ts (p + 1)).pos (herI ts p) (behI ts (p + 1 + 1)) [], zbf zbo, ?_⟩
 unfold impP expP kinP
 simp only [hi, hk, hx _ hk hq, Rs.need, if_true, beq_self_eq_true]
inductive Va : Pt -> Prop
 | int {n a f t : Int} : (∀ u : Tok, u.kind = 2 -> u.text = ⟨(Lib.itoa n).toArray⟩ -> numT u = n) -> plF ⟨(Lib.itoa n).toArray⟩ -> Va (.mk 20 ⟨#[]⟩ n a f t [])
 | text {x : ByteArray} {a f t : Int} : (∀ u : Tok, u.kind = 3 -> u.text = quoT x -> valT u = x) -> plF (quoT x) -> Va (.mk 21 x 0 a f t [])
 | bool {x : ByteArray} {a f t : Int} : (x = strU [116, 114, 117, 101] ∨ x = strU [102, 97, 108, 115, 101]) -> Va (.mk 22 x 0 a f t [])
theorem zwc {e : Pt} (h : Va e) (ts : List Tok) (p : Nat) (hh : Hs ts p (wrP e)) : (wrP e).length = 1 ∧ isT ts p [45] = false ∧ ∃ e', smP e e' ∧ va1P ts p = .ok e' (p + 1) := by
 cases h with
 | @int n a f t hn hp =>
  rw [zgm] at hh ⊢
  have hk : (nxT ts p).kind = 2 := hh.one.1
  refine ⟨rfl, hh.pl hp (by decide), .mk 20 ⟨#[]⟩ n (nxT ts p).pos (herI ts p) (behI ts (p + 1)) [], zbf zbo, ?_⟩
  unfold va1P
  rw [hk, hn _ hk hh.one.2]
  rfl
 | @text x a f t hx hp =>
  rw [zge] at hh ⊢
  have hk : (nxT ts p).kind = 3 := hh.one.1
  refine ⟨rfl, hh.pl hp (by decide), .mk 21 x 0 (nxT ts p).pos (herI ts p) (behI ts (p + 1)) [], zbf zbo, ?_⟩
  unfold va1P
  rw [hk, hx _ hk hh.one.2]
  rfl
 | @bool x a f t hx =>
  rw [zgf] at hh ⊢
  have hk : (nxT ts p).kind = 1 := hh.one.1
  have htx : (nxT ts p).text = x := hh.one.2
  have hp : plF x := by
   rcases hx with rfl | rfl
   ·exact ⟨116, [114, 117, 101], rfl, by decide⟩
   ·exact ⟨102, [97, 108, 115, 101], rfl, by decide⟩
  have hio : (isT ts p [116, 114, 117, 101] || isT ts p [102, 97, 108, 115, 101]) = true := by
   unfold isT
   rw [htx]
   rcases hx with rfl | rfl <;> decide
  refine ⟨rfl, hh.pl hp (by decide), .mk 22 x 0 (nxT ts p).pos (herI ts p) (behI ts (p + 1)) [], zbf zbo, ?_⟩
  unfold va1P
  rw [hk, hio]
  unfold leaP
  rw [htx]
  rfl
inductive Vc : Pt -> Prop
 | va {e : Pt} : Va e -> Vc e
 | neg {n a f t a' f' t' : Int} : (∀ u : Tok, u.kind = 2 -> u.text = ⟨(Lib.itoa n).toArray⟩ -> numT u = n) -> plF ⟨(Lib.itoa n).toArray⟩ -> Vc (.mk 26 (strU [45]) 0 a f t [.mk 20 ⟨#[]⟩ n a' f' t' []])
theorem z0h (n a f t a' f' t' : Int) : wrP (.mk 26 (strU [45]) 0 a f t [.mk 20 ⟨#[]⟩ n a' f' t' []]) = [tkW 4 (strU [45]), nuT n] := by
 rw [wrP, wrM, wrM, zgm]
 rfl
theorem z0i {e : Pt} (h : Vc e) (ts : List Tok) (p : Nat) (hh : Hs ts p (wrP e)) : ∃ e', smP e e' ∧ valP ts p = .ok e' (p + (wrP e).length) := by
 cases h with
 | va h =>
  obtain ⟨h1, h2, e', h3, h4⟩ := zwc h ts p hh
  refine ⟨e', h3, ?_⟩
  unfold valP
  rw [h2, h4, h1]
  rfl
 | @neg n a f t a' f' t' hn hp =>
  rw [z0h] at hh ⊢
  have h45 : isT ts p [45] = true := hh.is
  have htx : (nxT ts p).text = strU [45] := hh.one.2
  have hk : (nxT ts (p + 1)).kind = 2 := hh.tail.one.1
  have hq : (nxT ts (p + 1)).text = ⟨(Lib.itoa n).toArray⟩ := hh.tail.one.2
  obtain ⟨v', h1, h2⟩ : ∃ v', smP (.mk 20 ⟨#[]⟩ n a' f' t' []) v' ∧ va1P ts (p + 1) = .ok v' (p + 1 + 1) := by
   have := (zwc (.int (a := a') (f := f') (t := t') hn hp) ts (p + 1) (by rw [zgm]; exact hh.tail)).2.2
   exact this
  refine ⟨.mk 26 (strU [45]) 0 (nxT ts p).pos (herI ts p) (behI ts (p + 1 + 1)) [v'], zbf (zb9 h1), ?_⟩
  unfold valP
  simp only [h45, hk, h2, htx, Rs.bind, if_true, beq_self_eq_true]
  rfl
theorem z0j {a f t : Int} {x : ByteArray} {v : Pt} (hx : kepB x = false) (hv : Vc v) (ts : List Tok) (p : Nat) (hh : Hs ts p (wdT [99, 111, 110, 115, 116] :: tkW 1 x :: sgT [61] :: wrP v)) : ∃ e', smP (.mk 3 x 0 a f t [v]) e' ∧ conP ts p = .ok e' (p + 1 + 1 + 1 + (wrP v).length) := by
 have h1 : isT ts p [99, 111, 110, 115, 116] = true := hh.is
 have h2 := hh.tail
 have htx : (nxT ts (p + 1)).text = x := h2.one.2
 have h3 : isT ts (p + 1 + 1) [61] = true := h2.tail.is
 obtain ⟨v', h4, h5⟩ := z0i hv ts (p + 1 + 1 + 1) h2.tail.tail
 refine ⟨.mk 3 x 0 (nxT ts (p + 1)).pos (herI ts p) (behI ts (p + 1 + 1 + 1 + (wrP v).length)) [v'], zbf (zb9 h4), ?_⟩
 unfold conP expP namP
 simp only [h1, zd1 h2 hx, h3, h5, htx, Rs.need, Rs.bind, if_true]
def Pm (k : Int) (u : Pt) : Prop := ∃ (x : ByteArray) (v : Pt) (a f t : Int), u = .mk k x 0 a f t [v] ∧ kepB x = false ∧ plF x ∧ Ty v
theorem zx6 {k a f t : Int} {x : ByteArray} {v : Pt} (hk : k = 6 ∨ k = 9) : wrP (.mk k x 0 a f t [v]) = tkW 1 x :: wrP v := by
 rcases hk with rfl | rfl
 ·rw [wrP, wrM, wrM]; simp [wrK]
 ·rw [wrP, wrM, wrM]; simp [wrK]
theorem zx7 {k : Int} {u : Pt} (hk : k = 6 ∨ k = 9) (h : Pm k u) (ts : List Tok) (p : Nat) (hh : Hs ts p (wrP u)) (hd : isT ts (p + (wrP u).length) [46] = false) : ∃ u', smP u u' ∧ tydP ts k p = .ok u' (p + (wrP u).length) := by
 obtain ⟨x, v, a, f, t, rfl, h1, -, h3⟩ := h
 rw [zx6 hk] at hh hd ⊢
 rw [List.length_cons, show p + ((wrP v).length + 1) = p + 1 + (wrP v).length by omega] at hd ⊢
 exact z0e h1 h3 ts p hh hd
theorem zwd {k : Int} {u : Pt} (hk : k = 6 ∨ k = 9) (h : Pm k u) {s : List UInt8} (hs : sgB s = true) (ts : List Tok) (p : Nat) (r : List Tok) (hh : Hs ts p (wrP u ++ r)) : isT ts p s = false := by
 obtain ⟨x, v, a, f, t, rfl, -, h2, -⟩ := h
 rw [zx6 hk, List.cons_append] at hh
 exact hh.pl h2 hs
theorem zrv : ∀ (l : List Pt), (∀ u ∈ l, Pm 9 u) -> ∀ (ts : List Tok) (p : Nat) (acc : List Pt), Hs ts p (((l.map wrP).map (sgT [44] :: ·)).flatten ++ [sgT [41]]) ->
  ∃ l', smL l l' ∧ Ev (fun m => (fns ts m).parL acc p) (.ok (acc ++ l') (p + ((l.map wrP).map (sgT [44] :: ·)).flatten.length))
 | [], _, ts, p, acc, hh => by
  refine ⟨[], zbo, zbg ?_⟩
  have h0 : Hs ts p (tkW 4 (strU [41]) :: []) := by simpa [sgT] using hh
  rw [List.append_nil]
  exact zaq (by rw [h0.not (by decide)]; simp) (zak _)
 | u :: r, hl, ts, p, acc, hh => by
  have hw : (((u :: r).map wrP).map (sgT [44] :: ·)).flatten ++ [sgT [41]] = tkW 4 (strU [44]) :: (wrP u ++ (((r.map wrP).map (sgT [44] :: ·)).flatten ++ [sgT [41]])) := by simp [sgT]
  rw [hw] at hh
  have ht := hh.tail
  have hc := ht.right
  have hn : ∃ s rest, (((r.map wrP).map (sgT [44] :: ·)).flatten ++ [sgT [41]]) = tkW 4 (strU s) :: rest ∧ (s = [44] ∨ s = [41]) := by
   cases r with
   | nil => exact ⟨[41], [], by simp [sgT], .inr rfl⟩
   | cons v r' => exact ⟨[44], _, by simp [sgT]; rfl, .inl rfl⟩
  obtain ⟨s, rest, e1, e2⟩ := hn
  have hc' := hc
  rw [e1] at hc'
  obtain ⟨u', h1, h2⟩ := zx7 (.inr rfl) (hl u (by simp)) ts (p + 1) ht.left (by rcases e2 with rfl | rfl <;> exact hc'.not (by decide))
  obtain ⟨l', h3, h4⟩ := zrv r (fun v hv => hl v (by simp [hv])) ts (p + 1 + (wrP u).length) (acc ++ [u']) hc
  refine ⟨u' :: l', zbm h1 h3, zbg ?_⟩
  refine zbi hh.is (zao (by rw [h2]; exact zak _) ?_)
  have e3 : p + (((u :: r).map wrP).map (sgT [44] :: ·)).flatten.length = p + 1 + (wrP u).length + ((r.map wrP).map (sgT [44] :: ·)).flatten.length := by simp; omega
  rw [e3, show acc ++ u' :: l' = acc ++ [u'] ++ l' by simp]
  exact h4
theorem zx8 (l : List Pt) (hl : ∀ u ∈ l, Pm 9 u) (ts : List Tok) (p : Nat) (hh : Hs ts p (wBrk (l.map wrP))) :
  ∃ l', smL l l' ∧ Ev (fun m => lisP ts (tydP ts 9) (fns ts m).parL p) (.ok l' (p + (wBrk (l.map wrP)).length)) := by
 cases l with
 | nil =>
  have h0 : Hs ts p (tkW 4 (strU [40]) :: tkW 4 (strU [41]) :: []) := by simpa [wBrk, wPar, sgT] using hh
  refine ⟨[], zbo, ?_⟩
  unfold lisP expP
  refine zaz h0.is (zbi h0.tail.is ?_)
  simp [wBrk, wPar]
  exact zak _
 | cons u r =>
  have hw : wBrk ((u :: r).map wrP) = tkW 4 (strU [40]) :: (wrP u ++ (((r.map wrP).map (sgT [44] :: ·)).flatten ++ [sgT [41]])) := by simp [wBrk, wPar, sgT]
  rw [hw] at hh ⊢
  have ht := hh.tail
  have hc := ht.right
  have hn : ∃ s rest, (((r.map wrP).map (sgT [44] :: ·)).flatten ++ [sgT [41]]) = tkW 4 (strU s) :: rest ∧ (s = [44] ∨ s = [41]) := by
   cases r with
   | nil => exact ⟨[41], [], by simp [sgT], .inr rfl⟩
   | cons v r' => exact ⟨[44], _, by simp [sgT]; rfl, .inl rfl⟩
  obtain ⟨s, rest, e1, e2⟩ := hn
  have hc' := hc
  rw [e1] at hc'
  obtain ⟨u', h1, h2⟩ := zx7 (.inr rfl) (hl u (by simp)) ts (p + 1) ht.left (by rcases e2 with rfl | rfl <;> exact hc'.not (by decide))
  obtain ⟨l', h3, h4⟩ := zrv r (fun v hv => hl v (by simp [hv])) ts (p + 1 + (wrP u).length) [u'] hc
  have hz : Hs ts (p + 1 + (wrP u).length + ((r.map wrP).map (sgT [44] :: ·)).flatten.length) (tkW 4 (strU [41]) :: []) := hc.right
  refine ⟨u' :: l', zbm h1 h3, ?_⟩
  unfold lisP expP
  refine zaz hh.is (zaq (by rw [zwd (.inr rfl) (hl u (by simp)) (by decide) ts (p + 1) _ ht]; simp) (zao (by rw [h2]; exact zak _) (zao h4 (zaz hz.is ?_))))
  rw [show p + (tkW 4 (strU [40]) :: (wrP u ++ (((r.map wrP).map (sgT [44] :: ·)).flatten ++ [sgT [41]]))).length = p + 1 + (wrP u).length + ((r.map wrP).map (sgT [44] :: ·)).flatten.length + 1 by simp; omega]
  exact zak _
theorem zrw : ∀ (l : List Pt), (∀ u ∈ l, Pm 6 u) -> ∀ (ts : List Tok) (p : Nat) (acc : List Pt), Hs ts p (wEnd (l.map wrP) ++ [sgT [125]]) ->
  ∃ l', smL l l' ∧ Ev (fun m => (fns ts m).fieL acc p) (.ok (acc ++ l') (p + (wEnd (l.map wrP)).length))
 | [], _, ts, p, acc, hh => by
  refine ⟨[], zbo, zbg ?_⟩
  have h0 : Hs ts p (tkW 4 (strU [125]) :: []) := by simpa [sgT, wEnd] using hh
  rw [List.append_nil]
  exact zbi h0.is (zak _)
 | u :: r, hl, ts, p, acc, hh => by
  have hw : wEnd ((u :: r).map wrP) ++ [sgT [125]] = wrP u ++ (tkW 5 (strU [59]) :: (wEnd (r.map wrP) ++ [sgT [125]])) := by simp [wEnd, enT]
  rw [hw] at hh
  have hc := hh.right
  have hk : (nxT ts (p + (wrP u).length)).kind = 5 := hc.knd
  obtain ⟨u', h1, h2⟩ := zx7 (.inl rfl) (hl u (by simp)) ts p hh.left (hc.not (by decide))
  obtain ⟨l', h3, h4⟩ := zrw r (fun v hv => hl v (by simp [hv])) ts (p + (wrP u).length + 1) (acc ++ [u']) hc.tail
  refine ⟨u' :: l', zbm h1 h3, zbg ?_⟩
  refine zaq (by rw [zwd (.inl rfl) (hl u (by simp)) (by decide) ts p _ hh]; simp) (zao (by rw [h2]; exact zak _) (zaq (by rw [hc.not (by decide)]; simp) ?_))
  unfold kinP
  refine zaz (by rw [hk]; rfl) ?_
  have e3 : p + (wEnd ((u :: r).map wrP)).length = p + (wrP u).length + 1 + (wEnd (r.map wrP)).length := by simp [wEnd]; omega
  rw [e3, show acc ++ u' :: l' = acc ++ [u'] ++ l' by simp]
  exact h4
def noA (u : Tok) : Prop := (u.text.data.toList == [58, 61]) = false
theorem zik {s : List UInt8} (h : (s == [58, 61]) = false) : noA (sgT s) := by
 show ((strU s).data.toList == [58, 61]) = false
 simpa [strU] using h
theorem z0k {s : List UInt8} (hs : noA (sgT s)) {os : List (List Tok)} (h : ∀ o ∈ os, ∀ u ∈ o, noA u) : ∀ u ∈ wPar s os, noA u := by
 intro u hu
 cases os with
 | nil => simp [wPar] at hu
 | cons o r =>
  simp only [wPar, List.mem_append, List.mem_flatten, List.mem_map] at hu
  rcases hu with hu | ⟨_, ⟨b, hb, rfl⟩, hu⟩
  ·exact h o (by simp) u hu
  ·rcases List.mem_cons.1 hu with rfl | hu
   ·exact hs
   ·exact h b (by simp [hb]) u hu
theorem zwe {os : List (List Tok)} (h : ∀ o ∈ os, ∀ u ∈ o, noA u) : ∀ u ∈ wBrk os, noA u := by
 intro u hu
 simp only [wBrk, List.mem_append, List.mem_singleton] at hu
 rcases hu with (rfl | hu) | rfl
 ·exact zik (by decide)
 ·exact z0k (zik (by decide)) h u hu
 ·exact zik (by decide)
theorem zk5 {k : Int} {x : ByteArray} {e : Pt} {i : Nat} (h : ∀ u ∈ wrP e, noA u) : ∀ u ∈ opeT k x e i, noA u := by
 unfold opeT
 split
 ·exact zwe fun o ho => by
   obtain rfl : o = wrP e := by simpa using ho
   exact h
 ·exact h
theorem z2p {e : Pt} (h : Ex e) : ∀ u ∈ wrP e, noA u := by
 induction h with
 | @int n a f t hn hp =>
  rw [zgm]
  intro u hu
  obtain rfl : u = nuT n := by simpa using hu
  exact zf1 hp (by decide)
 | @text x a f t hx hp =>
  rw [zge]
  intro u hu
  obtain rfl : u = tkW 3 (quoT x) := by simpa using hu
  exact zf1 hp (by decide)
 | @bool x a f t hx =>
  rw [zgf]
  intro u hu
  obtain rfl : u = tkW 1 x := by simpa using hu
  show (x.data.toList == [58, 61]) = false
  rcases hx with rfl | rfl <;> decide
 | @name x a f t hk hp =>
  rw [zhm]
  intro u hu
  obtain rfl : u = tkW 1 x := by simpa using hu
  exact zf1 hp (by decide)
 | @dot x a f t e hk hp _ ih =>
  rw [zk0]
  intro u hu
  simp only [List.mem_append, List.mem_cons, List.not_mem_nil, or_false] at hu
  rcases hu with hu | rfl | rfl
  ·exact zk5 ih u hu
  ·exact zik (by decide)
  ·exact zf1 hp (by decide)
 | @call a f t e l _ _ ih il =>
  rw [zhn]
  intro u hu
  rcases List.mem_append.1 hu with hu | hu
  ·exact zk5 ih u hu
  ·refine zwe (fun o ho => ?_) u hu
   obtain ⟨v, hv, rfl⟩ := List.mem_map.1 ho
   exact il v hv
 | @una x a f t e hx _ ih =>
  rw [zk1]
  intro u hu
  rcases List.mem_cons.1 hu with rfl | hu
  ·show (x.data.toList == [58, 61]) = false
   rcases hx with rfl | rfl <;> decide
  ·exact zk5 ih u hu
 | @bin x a f t u v hr _ _ iu iv =>
  rw [zk2]
  intro w hw
  rcases List.mem_append.1 hw with hw | hw
  ·exact zk5 iu w hw
  ·rcases List.mem_cons.1 hw with rfl | hw
   ·show (x.data.toList == [58, 61]) = false
    rw [Bool.eq_false_iff]
    intro e
    have e2 : x.data.toList = [58, 61] := eq_of_beq e
    unfold rowI at hr
    rw [e2] at hr
    revert hr
    decide
   ·exact zk5 iv w hw
theorem znl {e : Pt} (h : Ex e) {w : Tok} {r : List Tok} (hw : noA w) (ts : List Tok) (p : Nat) (hh : Hs ts p (wrP e ++ w :: r)) : isT ts (p + 1) [58, 61] = false := by
 obtain ⟨a, q, e1, -⟩ := zrp h
 have h2 : ∃ b s, q ++ w :: r = b :: s ∧ noA b := by
  cases q with
  | nil => exact ⟨w, r, rfl, hw⟩
  | cons b s => exact ⟨b, s ++ w :: r, rfl, z2p h b (by rw [e1]; simp)⟩
 obtain ⟨b, s, e2, hb⟩ := h2
 rw [e1, List.cons_append, e2] at hh
 exact hh.tail.notT hb
def foS (s : List UInt8) : Prop := (s == [46]) = false ∧ (s == [40]) = false ∧ rowI (strU s) < 0
theorem zjp {e : Pt} (h : Ex e) {k : Int} {s : List UInt8} {r : List Tok} (hs : foS s) (ts : List Tok) (p : Nat) (hh : Hs ts p (wrP e ++ tkW k (strU s) :: r)) : ∃ e', smP e e' ∧ Ev (fun m => (fns ts m).bin 0 p) (.ok e' (p + (wrP e).length)) := by
 have hc := hh.right
 exact (z2o h).c4 0 (by omega) (by omega) ts p hh.left ⟨hc.not hs.1, hc.not hs.2.1⟩ (zu8 hc hs.2.2 (by omega))
def fol (k : Int) (s : List UInt8) : Prop := (k = 5 ∧ s = [59]) ∨ (k = 4 ∧ s = [125])
theorem zil {k : Int} {s : List UInt8} (h : fol k s) : foS s := by
 rcases h with ⟨-, rfl⟩ | ⟨-, rfl⟩ <;> exact ⟨by decide, by decide, by decide⟩
theorem zx9 {a f t : Int} {e : Pt} (he : Ex e) {k : Int} {s : List UInt8} {r : List Tok} (hf : fol k s) (ts : List Tok) (p : Nat) (hh : Hs ts p (wrP e ++ tkW k (strU s) :: r)) : ∃ e', smP (.mk 19 ⟨#[]⟩ 0 a f t [e]) e' ∧ Ev (fun m => simP ts (fns ts m) p) (.ok e' (p + (wrP e).length)) := by
 obtain ⟨e', h1, h2⟩ := zjp he (zil hf) ts p hh
 have hc := hh.right
 refine ⟨.mk 19 ⟨#[]⟩ 0 (herI ts p) (herI ts p) (behI ts (p + (wrP e).length)) [e'], zbf (zb9 h1), ?_⟩
 unfold simP
 refine zao h2 (zaq ?_ (zak _))
 rw [show isT ts (p + (wrP e).length) [61] = false by rcases hf with ⟨rfl, rfl⟩ | ⟨rfl, rfl⟩ <;> exact hc.not (by decide)]
 simp
theorem zya {a f t : Int} {e d : Pt} (he : Ex e) (hd : Ex d) {k : Int} {s : List UInt8} {r : List Tok} (hf : fol k s) (ts : List Tok) (p : Nat) (hh : Hs ts p (wrP e ++ tkW 4 (strU [61]) :: (wrP d ++ tkW k (strU s) :: r))) : ∃ e', smP (.mk 18 ⟨#[]⟩ 0 a f t [e, d]) e' ∧ Ev (fun m => simP ts (fns ts m) p) (.ok e' (p + (wrP e).length + 1 + (wrP d).length)) := by
 obtain ⟨e', h1, h2⟩ := zjp he ⟨by decide, by decide, by decide⟩ ts p hh
 have hc := hh.right
 obtain ⟨d', h3, h4⟩ := zjp hd (zil hf) ts (p + (wrP e).length + 1) hc.tail
 refine ⟨.mk 18 ⟨#[]⟩ 0 (herI ts p) (herI ts p) (behI ts (p + (wrP e).length + 1 + (wrP d).length)) [e', d'], zbf (zbm h1 (zb9 h3)), ?_⟩
 unfold simP
 exact zao h2 (zbi hc.is (zao h4 (zak _)))
theorem zyb {a f t : Int} {x : ByteArray} {e : Pt} (hx : kepB x = false) (he : Ex e) {k : Int} {s : List UInt8} {r : List Tok} (hf : fol k s) (ts : List Tok) (p : Nat) (hh : Hs ts p (tkW 1 x :: tkW 4 (strU [58, 61]) :: (wrP e ++ tkW k (strU s) :: r))) : ∃ e', smP (.mk 17 x 0 a f t [e]) e' ∧ Ev (fun m => shoP ts (fns ts m) p) (.ok e' (p + 1 + 1 + (wrP e).length)) := by
 have htx : (nxT ts p).text = x := hh.one.2
 obtain ⟨e', h1, h2⟩ := zjp he (zil hf) ts (p + 1 + 1) hh.tail.tail
 refine ⟨.mk 17 x 0 (nxT ts p).pos (herI ts p) (behI ts (p + 1 + 1 + (wrP e).length)) [e'], zbf (zb9 h1), ?_⟩
 unfold shoP namP expP
 refine zaz (zd1 hh hx) (zaz hh.tail.is (zao h2 ?_))
 rw [htx]
 exact zak _
theorem zvb {a f t : Int} {k : Int} {s : List UInt8} {r : List Tok} (hf : fol k s) (ts : List Tok) (p : Nat) (hh : Hs ts p (wdT [114, 101, 116, 117, 114, 110] :: tkW k (strU s) :: r)) : ∃ e', smP (.mk 16 ⟨#[]⟩ 0 a f t []) e' ∧ Ev (fun m => resP ts (fns ts m) p) (.ok e' (p + 1)) := by
 refine ⟨.mk 16 ⟨#[]⟩ 0 (herI ts p) (herI ts p) (behI ts (p + 1)) [], zbf zbo, ?_⟩
 have hk : (nxT ts (p + 1)).kind = k := hh.tail.knd
 unfold resP expP
 refine zaz hh.is (zaq ?_ (zak _))
 rcases hf with ⟨rfl, rfl⟩ | ⟨rfl, rfl⟩
 ·rw [hk]; simp
 ·rw [show isT ts (p + 1) [125] = true from hh.tail.is]; simp
end Go.Proofs.YtbadafkfjfbnlaaGreatDoor
