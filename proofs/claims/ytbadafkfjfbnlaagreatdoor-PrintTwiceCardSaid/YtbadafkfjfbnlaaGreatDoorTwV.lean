import Derived.Test.YtbadafkfjfbnlaaGreatDoorTwU
import Derived.Test.YtbadafkfjfbnlaaGreatDoorTwT
import Derived.Test.YtbadafkfjfbnlaaGreatDoorTwG
import Derived.Test.YtbadafkfjfbnlaaGreatDoorTwN
import Derived.Test.YtbadafkfjfbnlaaGreatDoorTwR
namespace Go.Proofs.YtbadafkfjfbnlaaGreatDoor
set_option maxRecDepth 100000
open Go.RowKit
theorem clo_41 : clo (sgT [41]) = true := by simp [clo, sgT, tkW, strU_list]
theorem clo_125 : clo (sgT [125]) = true := by simp [clo, sgT, tkW, strU_list]
theorem clo_123 : clo (sgT [123]) = false := by simp [clo, sgT, tkW, strU_list]
def Kc (R : List Pe) : Prop := (∀ x, clo x = true -> okI x R) ∧ ∀ c, (rn R).head? = some c -> inC [3, 4] c = false
theorem stL_sp (k : Int) (L : List UInt8) : stL k L (some 32) = true := by
 unfold stL
 simp only
 split
 ·rfl
 ·split
  ·split
   ·rename_i a
    simp [sig2]
   ·rfl
  ·rfl
theorem stL_br {a : UInt8} (ha : a = 40 ∨ a = 41 ∨ a = 44 ∨ a = 46 ∨ a = 45 ∨ a = 123 ∨ a = 125) (n : Option UInt8) : stL 4 [a] n = true := by
 cases n with
 | none => rfl
 | some c =>
  unfold stL
  simp only
  rw [if_neg (by decide), if_pos trivial]
  rcases ha with rfl | rfl | rfl | rfl | rfl | rfl | rfl <;> simp [sig2]
theorem kc_sp {R : List Pe} (h : ∀ x, okI x R) : Kc (sp :: R) := ⟨fun x _ => ⟨.inl rfl, h x⟩, fun c hc => by
 obtain rfl : (32 : UInt8) = c := by simpa [rn_cons, sp, Pe.bs] using hc
 rfl⟩
theorem kc_e {R : List Pe} (h : okI enT R) : Kc (.e :: R) := ⟨fun x hx => ⟨hx, h⟩, fun c hc => by
 obtain rfl : (10 : UInt8) = c := by simpa [rn_cons, Pe.bs] using hc
 rfl⟩
theorem kc_sg {a : UInt8} (ha : a = 40 ∨ a = 41 ∨ a = 44 ∨ a = 46 ∨ a = 45 ∨ a = 123 ∨ a = 125) {R : List Pe} (h : okI (sgT [a]) R) : Kc (sg [a] :: R) := ⟨fun x _ => ⟨stL_br ha _, h⟩, fun c hc => by
 have e : a = c := by simpa [rn_cons, sg, Pe.bs, sgT, tkW, strU] using hc
 subst e
 rcases ha with rfl | rfl | rfl | rfl | rfl | rfl | rfl <;> rfl⟩
theorem ok_sg {a : UInt8} (ha : a = 40 ∨ a = 41 ∨ a = 44 ∨ a = 46 ∨ a = 45 ∨ a = 123 ∨ a = 125) {R : List Pe} (h : okI (sgT [a]) R) (x : Tok) : okI x (sg [a] :: R) := ⟨stL_br ha _, h⟩
theorem ok_sp {R : List Pe} {x : Tok} (h : okI x R) : okI x (sp :: R) := ⟨.inl rfl, h⟩
theorem ok_ts {R : List Pe} (y x : Tok) (h : okI y R) : okI x (.t y :: sp :: R) := ⟨stL_sp _ _, .inl rfl, h⟩
theorem stL_kc {k : Int} (hk : k = 1 ∨ k = 2 ∨ k = 3) (L : List UInt8) {R : List Pe} (h : Kc R) : stL k L (rn R).head? = true := by
 have h2 := h.2
 unfold stL
 cases hc : (rn R).head? with
 | none => rfl
 | some c =>
  have := h2 c hc
  simp only
  rcases hk with rfl | rfl | rfl
  ·rw [if_pos (.inl rfl), this]; rfl
  ·rw [if_pos (.inr rfl), this]; rfl
  ·rfl
theorem ok_t {y : Tok} (hk : y.kind = 1 ∨ y.kind = 2 ∨ y.kind = 3) {R : List Pe} (h : Kc R) (x : Tok) : okI x (.t y :: R) := by
 refine ⟨stL_kc hk _ h, h.1 y ?_⟩
 unfold clo
 rcases hk with e | e | e <;> rw [e] <;> rfl
structure PI (A : List Pe) (W : List Tok) : Prop where
 tk : tks A = W
 ok : ∀ last R, Kc R -> okI last (A ++ R)
theorem pi_t {y : Tok} (hk : y.kind = 1 ∨ y.kind = 2 ∨ y.kind = 3) : PI [.t y] [y] := ⟨by simp [tks, Pe.tk], fun x _ h => ok_t hk h x⟩
theorem tks_sp (R : List Pe) : tks (sp :: R) = tks R := by rw [tks_cons]; rfl
theorem tks_t (y : Tok) (R : List Pe) : tks (.t y :: R) = y :: tks R := by rw [tks_cons]; rfl
theorem tks_wd (s : List UInt8) (R : List Pe) : tks (wd s :: R) = wdT s :: tks R := by rw [tks_cons]; rfl
theorem tks_sg (s : List UInt8) (R : List Pe) : tks (sg s :: R) = sgT s :: tks R := by rw [tks_cons]; rfl
theorem tks_e (R : List Pe) : tks (.e :: R) = enT :: tks R := by rw [tks_cons]; rfl
theorem tks_tb (d : Nat) (R : List Pe) : tks (tb d ++ R) = tks R := by
 induction d with
 | zero => rfl
 | succ d ih =>
  show tks (.w 9 :: (tb d ++ R)) = _
  rw [tks_cons, ih]
  rfl
theorem ok_tb (d : Nat) {R : List Pe} {x : Tok} (h : okI x R) : okI x (tb d ++ R) := by
 induction d with
 | zero => exact h
 | succ d ih => exact ⟨.inr (.inl rfl), ih⟩
inductive PIs : List (List Pe) -> List (List Tok) -> Prop
 | nil : PIs [] []
 | cons {o : List Pe} {w : List Tok} {os : List (List Pe)} {ws : List (List Tok)} : PI o w -> PIs os ws -> PIs (o :: os) (w :: ws)
theorem pi_flat {os : List (List Pe)} {ws : List (List Tok)} (h : PIs os ws) : os.map tks = ws := by
 induction h with
 | nil => rfl
 | cons a _ ih => rw [List.map_cons, a.tk, ih]
theorem comma_kc {os : List (List Pe)} {ws : List (List Tok)} (h : PIs os ws) {R : List Pe} (hR : Kc R) : Kc ((os.map ([sg [44], sp] ++ ·)).flatten ++ sg [41] :: R) := by
 induction h with
 | nil => exact kc_sg (.inr (.inl rfl)) (hR.1 _ clo_41)
 | @cons o _ os _ a _ ih =>
  have e : (((o :: os).map ([sg [44], sp] ++ ·)).flatten ++ sg [41] :: R) = sg [44] :: sp :: (o ++ ((os.map ([sg [44], sp] ++ ·)).flatten ++ sg [41] :: R)) := by simp
  rw [e]
  exact kc_sg (.inr (.inr (.inl rfl))) (ok_sp (a.ok _ _ ih))
theorem pi_brk {os : List (List Pe)} {ws : List (List Tok)} (h : PIs os ws) : PI (pBrk os) (wBrk ws) := by
 refine ⟨?_, fun last R hR => ?_⟩
 ·have hf := pi_flat h
  cases h with
  | nil => rfl
  | @cons o w os ws a h =>
   rw [List.map_cons] at hf
   injection hf with h1 h2
   have e : tks ((os.map ([sg [44], sp] ++ ·)).flatten) = (ws.map (sgT [44] :: ·)).flatten := by
    rw [tks_flat, <- h2, List.map_map, List.map_map]
    congr 1
   simp only [pBrk, wBrk, pPar, wPar, tks_app, e, h1]
   rfl
 ·cases h with
  | nil => exact ok_sg (.inl rfl) (ok_sg (.inr (.inl rfl)) (hR.1 _ clo_41) _) _
  | @cons o w os ws a h =>
   have e : pBrk (o :: os) ++ R = sg [40] :: (o ++ ((os.map ([sg [44], sp] ++ ·)).flatten ++ sg [41] :: R)) := by simp [pBrk, pPar]
   rw [e]
   exact ok_sg (.inl rfl) (a.ok _ _ (comma_kc h hR)) _
theorem pi_one {A : List Pe} {W : List Tok} (h : PI A W) : PI (pBrk [A]) (wBrk [W]) := pi_brk (.cons h .nil)
theorem PI.two {A B : List Pe} {V W : List Tok} (h : PI A V) (h' : PI B W) : PI (A ++ sp :: B) (V ++ W) := ⟨by rw [tks_app, tks_sp, h.tk, h'.tk], fun last R hR => by
 rw [List.append_assoc, List.cons_append]
 exact h.ok _ _ (kc_sp fun x => h'.ok x R hR)⟩
theorem PI.pre {A : List Pe} {W : List Tok} (y : Tok) (h : PI A W) : PI (.t y :: sp :: A) (y :: W) := ⟨by rw [tks_t, tks_sp, h.tk], fun last R hR => ok_ts y last (h.ok y R hR)⟩
theorem PI.mid {A B : List Pe} {V W : List Tok} (y : Tok) (h : PI A V) (h' : PI B W) : PI (A ++ sp :: .t y :: sp :: B) (V ++ y :: W) := by
 have := h.two (h'.pre y)
 exact this
theorem lin_ok {d d2 : Nat} {os : List (List Pe)} {ws : List (List Tok)} (h : PIs os ws) {R : List Pe} (hR : Kc R) : ∀ last, clo last = false -> okI last (pLin d os ++ (tb d2 ++ sg [125] :: R)) := by
 induction h with
 | nil => exact fun last _ => ok_tb d2 (ok_sg (.inr (.inr (.inr (.inr (.inr (.inr rfl)))))) (hR.1 _ clo_125) _)
 | @cons o _ os _ a _ ih =>
  intro last _
  have e : pLin d (o :: os) ++ (tb d2 ++ sg [125] :: R) = tb d ++ (o ++ (.e :: (pLin d os ++ (tb d2 ++ sg [125] :: R)))) := by simp [pLin]
  rw [e]
  exact ok_tb d (a.ok _ _ (kc_e (ih enT rfl)))
theorem lin_tk {d : Nat} {os : List (List Pe)} {ws : List (List Tok)} (h : PIs os ws) (R : List Pe) : tks (pLin d os ++ R) = wEnd ws ++ tks R := by
 induction h with
 | nil => rfl
 | @cons o w os ws a _ ih =>
  have e : pLin d (o :: os) ++ R = tb d ++ (o ++ (.e :: (pLin d os ++ R))) := by simp [pLin]
  rw [e, tks_tb, tks_app, tks_e, ih, a.tk]
  simp [wEnd]
theorem pi_bra (d : Nat) {os : List (List Pe)} {ws : List (List Tok)} (h : PIs os ws) : PI (pBra d os) (wBra ws) := by
 refine ⟨?_, fun last R hR => ?_⟩
 ·have e : pBra d os = sg [123] :: fe :: (pLin (d + 1) os ++ (tb d ++ [sg [125]])) := by simp [pBra]
  rw [e, tks_sg, tks_cons, lin_tk h, tks_tb]
  simp [wBra, tks, fe, Pe.tk, sg]
 ·have e : pBra d os ++ R = sg [123] :: fe :: (pLin (d + 1) os ++ (tb d ++ sg [125] :: R)) := by simp [pBra]
  rw [e]
  exact ok_sg (.inr (.inr (.inr (.inr (.inr (.inl rfl)))))) (show okI (sgT [123]) (fe :: _) from ⟨.inr (.inr ⟨rfl, clo_123⟩), lin_ok h hR _ clo_123⟩) _
def opeI (k : Int) (x : ByteArray) (d : Nat) (u : Pt) (i : Nat) : List Pe := if nedQ k x (hdP u) i then pBrk [prP d u] else prP d u
theorem pr_int (d : Nat) (n a f t : Int) (x : ByteArray) : prP d (.mk 20 x n a f t []) = [.t (nuT n)] := by simp [prP, prK, prS, prX]
theorem pr_text (d : Nat) (n a f t : Int) (x : ByteArray) : prP d (.mk 21 x n a f t []) = [.t (tkW 3 (quoT x))] := by simp [prP, prK, prS, prX]
theorem pr_bool (d : Nat) (n a f t : Int) (x : ByteArray) : prP d (.mk 22 x n a f t []) = [.t (tkW 1 x)] := by simp [prP, prK, prS, prX]
theorem pr_name (d : Nat) (n a f t : Int) (x : ByteArray) : prP d (.mk 23 x n a f t []) = [.t (tkW 1 x)] := by simp [prP, prK, prS, prX]
theorem pr_dot (d : Nat) (n a f t : Int) (x : ByteArray) (e : Pt) : prP d (.mk 24 x n a f t [e]) = opeI 24 x d e 0 ++ [sg [46], .t (tkW 1 x)] := by simp [prP, prK, prS, prX, prM, pOpe, opeI, kdD]
theorem pr_call (d : Nat) (n a f t : Int) (x : ByteArray) (e : Pt) (l : List Pt) : prP d (.mk 25 x n a f t (e :: l)) = opeI 25 x d e 0 ++ pBrk (l.map (prP d)) := by simp [prP, prK, prS, prX, prM, pOpe, opeI, prM_map, kdD]
theorem pr_una (d : Nat) (n a f t : Int) (x : ByteArray) (e : Pt) : prP d (.mk 26 x n a f t [e]) = .t (tkW 4 x) :: opeI 26 x d e 0 := by simp [prP, prK, prS, prX, prM, pOpe, opeI, kdD]
theorem pr_bin (d : Nat) (n a f t : Int) (x : ByteArray) (u v : Pt) : prP d (.mk 27 x n a f t [u, v]) = opeI 27 x d u 0 ++ sp :: .t (tkW 4 x) :: sp :: opeI 27 x d v 1 := by simp [prP, prK, prS, prX, prM, pOpe, opeI, kdD]
theorem row_q {x : ByteArray} (h : 0 <= rowI x) : rowQ x = rowI x + 1 := by
 unfold rowI at h ⊢
 unfold rowQ
 repeat' split
 all_goals first | rfl | skip
 all_goals (rename_i h1 h2 h3 h4 h5; rw [if_neg h1, if_neg h2, if_neg h3, if_neg h4, if_neg h5] at h; omega)
theorem ned_eq {k : Int} {x : ByteArray} {u : Pt} {i : Nat} (hk : k = 27 -> 0 <= rowI x) (hu : Ex u) : nedQ k x (hdP u) i = nedB k x (hdP u) i := by
 unfold nedQ nedB
 by_cases h26 : k = 26
 ·rw [if_pos h26, if_pos h26]
 rw [if_neg h26, if_neg h26]
 by_cases h27 : k = 27
 ·rw [if_pos h27, if_neg (by simpa using h27)]
  cases hb : ((hdP u).1 == 27) with
  | false => rfl
  | true =>
   have hr : 0 <= rowI (hdP u).2 := by
    cases hu
    case bin h _ _ => exact h
    all_goals (simp [hdP] at hb)
   rw [row_q (hk h27), row_q hr]
   simp only [Bool.true_and]
   have e1 : decide (rowI (hdP u).2 + 1 < rowI x + 1) = decide (rowI (hdP u).2 < rowI x) := by rw [Bool.eq_iff_iff]; simp
   have e2 : ((rowI (hdP u).2 + 1) == (rowI x + 1)) = (rowI (hdP u).2 == rowI x) := by rw [Bool.eq_iff_iff]; simp
   have e3 : ((rowI (hdP u).2 + 1) == 3) = (rowI (hdP u).2 == 2) := by rw [Bool.eq_iff_iff]; simp; omega
   rw [e1, e2, e3]
 ·rw [if_neg h27, if_pos h27]
theorem pi_ope {k : Int} {x : ByteArray} {d : Nat} {u : Pt} {i : Nat} (hk : k = 27 -> 0 <= rowI x) (hu : Ex u) (h : PI (prP d u) (wrP u)) : PI (opeI k x d u i) (opeT k x u i) := by
 unfold opeI opeT
 rw [ned_eq hk hu]
 split
 ·exact pi_one h
 ·exact h
def HdE (A : List Pe) : Prop := ∃ a r, A = .t a :: r ∧ fstE a
theorem hd_ope {k : Int} {x : ByteArray} {d : Nat} {u : Pt} {i : Nat} (h : HdE (prP d u)) : HdE (opeI k x d u i) := by
 unfold opeI
 split
 ·exact ⟨sgT [40], _, rfl, .inl ⟨rfl, .inl rfl⟩⟩
 ·exact h
theorem hd_ex {e : Pt} (h : Ex e) (d : Nat) : HdE (prP d e) := by
 induction h with
 | int _ hp => exact ⟨_, _, pr_int _ _ _ _ _ _, .inr (.inl ⟨.inl rfl, hp⟩)⟩
 | text _ hp => exact ⟨_, _, pr_text _ _ _ _ _ _, .inr (.inl ⟨.inr rfl, hp⟩)⟩
 | bool hx =>
  refine ⟨_, _, pr_bool _ _ _ _ _ _, .inr (.inr ⟨rfl, ?_, .inr hx⟩)⟩
  rcases hx with rfl | rfl
  ·exact ⟨116, [114, 117, 101], rfl, by decide⟩
  ·exact ⟨102, [97, 108, 115, 101], rfl, by decide⟩
 | name hk hp => exact ⟨_, _, pr_name _ _ _ _ _ _, .inr (.inr ⟨rfl, hp, .inl hk⟩)⟩
 | dot _ _ _ ih =>
  obtain ⟨a, r, e1, e2⟩ := hd_ope ih
  exact ⟨a, r ++ _, by rw [pr_dot, e1]; rfl, e2⟩
 | call _ _ ih _ =>
  obtain ⟨a, r, e1, e2⟩ := hd_ope ih
  exact ⟨a, r ++ _, by rw [pr_call, e1]; rfl, e2⟩
 | una hx _ _ => exact ⟨_, _, pr_una _ _ _ _ _ _ _, .inl ⟨rfl, .inr hx⟩⟩
 | bin _ _ _ ih _ =>
  obtain ⟨a, r, e1, e2⟩ := hd_ope ih
  exact ⟨a, r ++ _, by rw [pr_bin, e1]; rfl, e2⟩
theorem st_not {A R : List Pe} (h : HdE A) : stL 4 [33] (rn (A ++ R)).head? = true := by
 obtain ⟨a, r, rfl, hf⟩ := h
 rw [List.cons_append, rn_cons]
 show stL 4 [33] (a.text.data.toList ++ rn (r ++ R)).head? = true
 have key : ∀ c : UInt8, c ≠ 61 -> stL 4 [33] (some c) = true := fun c hc => by
  unfold stL
  simp only
  rw [if_neg (by decide), if_pos trivial]
  simp [sig2, hc]
 rcases hf with ⟨-, h | h | h⟩ | ⟨-, c, q, h, hc⟩ | ⟨-, ⟨c, q, h, hc⟩, -⟩
 ·rw [h]; exact key 40 (by decide)
 ·rw [h]; exact key 45 (by decide)
 ·rw [h]; exact key 33 (by decide)
 all_goals
  rw [h]
  exact key c fun e => by rw [e] at hc; exact absurd hc (by decide)
theorem forall_pi {l : List Pt} {d : Nat} (h : ∀ u ∈ l, PI (prP d u) (wrP u)) : PIs (l.map (prP d)) (l.map wrP) := by
 induction l with
 | nil => exact .nil
 | cons a r ih => exact .cons (h a (by simp)) (ih fun u hu => h u (by simp [hu]))
theorem pi_ex {e : Pt} (h : Ex e) (d : Nat) : PI (prP d e) (wrP e) := by
 induction h with
 | int _ _ => rw [pr_int, wr_int]; exact pi_t (.inr (.inl rfl))
 | text _ _ => rw [pr_text, wr_text]; exact pi_t (.inr (.inr rfl))
 | bool _ => rw [pr_bool, wr_bool]; exact pi_t (.inl rfl)
 | name _ _ => rw [pr_name, wr_name]; exact pi_t (.inl rfl)
 | @dot x a f t e _ _ he ih =>
  rw [pr_dot, wr_dot]
  have ho := pi_ope (k := 24) (x := x) (i := 0) (fun h => absurd h (by decide)) he ih
  refine ⟨by rw [tks_app, ho.tk]; rfl, fun last R hR => ?_⟩
  rw [List.append_assoc]
  exact ho.ok _ _ (kc_sg (.inr (.inr (.inr (.inl rfl)))) (ok_t (.inl rfl) hR _))
 | @call a f t e l he hl ih ihl =>
  rw [pr_call, wr_call]
  have ho := pi_ope (k := 25) (x := ⟨#[]⟩) (i := 0) (fun h => absurd h (by decide)) he ih
  have hb := pi_brk (forall_pi ihl)
  refine ⟨by rw [tks_app, ho.tk, hb.tk], fun last R hR => ?_⟩
  rw [List.append_assoc]
  refine ho.ok _ _ ⟨fun x _ => hb.ok x R hR, fun c hc => ?_⟩
  have e : pBrk (l.map (prP d)) ++ R = sg [40] :: (pPar [sg [44], sp] (l.map (prP d)) ++ sg [41] :: R) := by simp [pBrk]
  rw [e] at hc
  obtain rfl : (40 : UInt8) = c := by simpa [rn_cons, sg, Pe.bs, sgT, tkW, strU] using hc
  rfl
 | @una x a f t e hx he ih =>
  rw [pr_una, wr_una]
  have ho := pi_ope (k := 26) (x := x) (i := 0) (fun h => absurd h (by decide)) he ih
  refine ⟨by rw [tks_t, ho.tk], fun last R hR => ⟨?_, ho.ok _ R hR⟩⟩
  rcases hx with rfl | rfl
  ·exact stL_br (.inr (.inr (.inr (.inr (.inl rfl))))) _
  ·exact st_not (hd_ope (hd_ex he d))
 | @bin x a f t u v hx hu hv ihu ihv =>
  rw [pr_bin, wr_bin]
  exact (pi_ope (k := 27) (x := x) (i := 0) (fun _ => hx) hu ihu).mid _ (pi_ope (k := 27) (x := x) (i := 1) (fun _ => hx) hv ihv)
theorem pr_ten (d : Nat) (x : ByteArray) (a f t : Int) : prP d (.mk 10 x 0 a f t []) = [.t (tkW 1 x)] := by simp [prP, prK]
theorem pr_eleven (d : Nat) (x : ByteArray) (a f t : Int) : prP d (.mk 11 x 0 a f t []) = [.t (tkW 1 x)] := by simp [prP, prK]
theorem pr_twelve (d : Nat) (x y : ByteArray) (a f t a' f' t' : Int) : prP d (.mk 12 x 0 a f t [.mk 23 y 0 a' f' t' []]) = [.t (tkW 1 y), sg [46], .t (tkW 1 x)] := by
 rw [prP, prM_map]
 simp [prK, pr_name, kdD, pOne]
theorem pi_ty {v : Pt} (h : Ty v) (d : Nat) : PI (prP d v) (wrP v) := by
 cases h with
 | basic _ => rw [pr_ten, wr_ten]; exact pi_t (.inl rfl)
 | named _ _ => rw [pr_eleven, wr_eleven]; exact pi_t (.inl rfl)
 | far _ _ _ =>
  rw [pr_twelve, wr_twelve]
  exact ⟨rfl, fun last R hR => ok_t (.inl rfl) (kc_sg (.inr (.inr (.inr (.inl rfl)))) (ok_t (.inl rfl) hR _)) _⟩
theorem pi_va {v : Pt} (h : Va v) (d : Nat) : PI (prP d v) (wrP v) := by
 cases h with
 | int h1 h2 => exact pi_ex (.int h1 h2) d
 | text h1 h2 => exact pi_ex (.text h1 h2) d
 | bool h1 => exact pi_ex (.bool h1) d
theorem pi_vc {v : Pt} (h : Vc v) (d : Nat) : PI (prP d v) (wrP v) := by
 cases h with
 | va h => exact pi_va h d
 | neg h1 h2 => exact pi_ex (.una (.inl rfl) (.int h1 h2)) d
theorem pr_pm {k a f t : Int} {x : ByteArray} {v : Pt} (hk : k = 6 ∨ k = 8 ∨ k = 9) (d : Nat) : prP d (.mk k x 0 a f t [v]) = .t (tkW 1 x) :: sp :: prP d v := by
 rcases hk with rfl | rfl | rfl <;> simp [prP, prK, prM_map, kdD, pOne]
theorem pi_pm {k : Int} {u : Pt} (hk : k = 6 ∨ k = 9) (h : Pm k u) (d : Nat) : PI (prP d u) (wrP u) := by
 obtain ⟨x, v, a, f, t, rfl, -, -, hv⟩ := h
 rw [pr_pm (hk.imp id .inr), wr_pm hk]
 exact (pi_ty hv d).pre _
theorem pr_blo (d : Nat) (a f t : Int) (l : List Pt) : prP d (.mk 13 ⟨#[]⟩ 0 a f t l) = pBra d (l.map (prP (d + 1))) := by simp [prP, prK, prS, prM_map, kdD]
theorem pr_loop (d : Nat) (a f t : Int) (c b : Pt) : prP d (.mk 15 ⟨#[]⟩ 0 a f t [c, b]) = wd [102, 111, 114] :: sp :: (prP d c ++ sp :: prP d b) := by simp [prP, prK, prS, prM_map, kdD, pPar]
theorem pr_if1 (d : Nat) (a f t : Int) (c b : Pt) : prP d (.mk 14 ⟨#[]⟩ 0 a f t [c, b]) = wd [105, 102] :: sp :: (prP d c ++ sp :: prP d b) := by simp [prP, prK, prS, prM_map, kdD, pPar, pBeh]
theorem pr_if2 (d : Nat) (a f t : Int) (c b e : Pt) : prP d (.mk 14 ⟨#[]⟩ 0 a f t [c, b, e]) = wd [105, 102] :: sp :: (prP d c ++ sp :: (prP d b ++ sp :: wd [101, 108, 115, 101] :: sp :: prP d e)) := by simp [prP, prK, prS, prM_map, kdD, pPar, pBeh]
theorem pr_var1 (d : Nat) (a f t : Int) (x : ByteArray) (v : Pt) : prP d (.mk 4 x 0 a f t [v]) = wd [118, 97, 114] :: sp :: .t (tkW 1 x) :: sp :: prP d v := by simp [prP, prK, prM_map, pPar, kdD]
theorem pr_var2 (d : Nat) (a f t : Int) (x : ByteArray) (v e : Pt) : prP d (.mk 4 x 0 a f t [v, e]) = wd [118, 97, 114] :: sp :: .t (tkW 1 x) :: sp :: (prP d v ++ sp :: sg [61] :: sp :: prP d e) := by simp [prP, prK, prM_map, pPar, kdD]
theorem pr_res0 (d : Nat) (a f t : Int) : prP d (.mk 16 ⟨#[]⟩ 0 a f t []) = [wd [114, 101, 116, 117, 114, 110]] := by simp [prP, prK, prS, prM_map, pBeh]
theorem pr_res1 (d : Nat) (a f t : Int) (e : Pt) : prP d (.mk 16 ⟨#[]⟩ 0 a f t [e]) = wd [114, 101, 116, 117, 114, 110] :: sp :: prP d e := by simp [prP, prK, prS, prM_map, pBeh, kdD]
theorem pr_short (d : Nat) (a f t : Int) (x : ByteArray) (e : Pt) : prP d (.mk 17 x 0 a f t [e]) = .t (tkW 1 x) :: sp :: sg [58, 61] :: sp :: prP d e := by simp [prP, prK, prS, prM_map, pOne, kdD]
theorem pr_assign (d : Nat) (a f t : Int) (e u : Pt) : prP d (.mk 18 ⟨#[]⟩ 0 a f t [e, u]) = prP d e ++ sp :: sg [61] :: sp :: prP d u := by simp [prP, prK, prS, prM_map, pPar, kdD]
theorem pr_expr (d : Nat) (a f t : Int) (e : Pt) : prP d (.mk 19 ⟨#[]⟩ 0 a f t [e]) = prP d e := by simp [prP, prK, prS, prM_map, pOne, kdD]
theorem pi_st {u : Pt} (h : St u) (d : Nat) : PI (prP d u) (wrP u) := by
 induction h generalizing d with
 | block _ ih => rw [pr_blo, wr_blo]; exact pi_bra d (forall_pi fun u hu => ih u hu (d + 1))
 | loop hc _ ih => rw [pr_loop, wr_loop, pr_blo, wr_blo]; exact ((pi_ex hc d).two (pi_bra d (forall_pi fun u hu => ih u hu (d + 1)))).pre _
 | if1 hc _ ih => rw [pr_if1, wr_if1, pr_blo, wr_blo]; exact ((pi_ex hc d).two (pi_bra d (forall_pi fun u hu => ih u hu (d + 1)))).pre _
 | if2 hc _ _ ih ih' =>
  rw [pr_if2, wr_if2, pr_blo, wr_blo, pr_blo, wr_blo]
  exact ((pi_ex hc d).two ((pi_bra d (forall_pi fun u hu => ih u hu (d + 1))).mid _ (pi_bra d (forall_pi fun u hu => ih' u hu (d + 1))))).pre _
 | if3 hc _ _ _ ih ih' =>
  rw [pr_if2, wr_if2, pr_blo, wr_blo]
  exact ((pi_ex hc d).two ((pi_bra d (forall_pi fun u hu => ih u hu (d + 1))).mid _ (ih' d))).pre _
 | var1 _ hv => rw [pr_var1, wr_var1]; exact ((pi_ty hv d).pre _).pre _
 | var2 _ hv he => rw [pr_var2, wr_var2]; exact (((pi_ty hv d).mid _ (pi_ex he d)).pre _).pre _
 | res0 => rw [pr_res0, wr_res0]; exact pi_t (.inl rfl)
 | res1 he => rw [pr_res1, wr_res1]; exact (pi_ex he d).pre _
 | short _ _ he => rw [pr_short, wr_short]; exact ((pi_ex he d).pre _).pre _
 | assign he hu => rw [pr_assign, wr_assign]; exact (pi_ex he d).mid _ (pi_ex hu d)
 | expr he => rw [pr_expr, wr_expr]; exact pi_ex he d
theorem pi_bl {b : Pt} (h : Bl b) (d : Nat) : PI (prP d b) (wrP b) := by
 obtain ⟨a, f, t, l, rfl, hl⟩ := h
 exact pi_st (.block hl) d
theorem pr_con (d : Nat) (a f t : Int) (x : ByteArray) (v : Pt) : prP d (.mk 3 x 0 a f t [v]) = wd [99, 111, 110, 115, 116] :: sp :: .t (tkW 1 x) :: sp :: sg [61] :: sp :: prP d v := by simp [prP, prK, prM_map, pOne, kdD]
theorem pr_str (d : Nat) (a f t : Int) (x : ByteArray) (l : List Pt) : prP d (.mk 5 x 0 a f t l) = wd [116, 121, 112, 101] :: sp :: .t (tkW 1 x) :: sp :: wd [115, 116, 114, 117, 99, 116] :: sp :: pBra d (l.map (prP (d + 1))) := by simp [prP, prK, prM_map, kdD]
theorem wr_str' (a f t : Int) (x : ByteArray) (l : List Pt) : wrP (.mk 5 x 0 a f t l) = wdT [116, 121, 112, 101] :: tkW 1 x :: wdT [115, 116, 114, 117, 99, 116] :: wBra (l.map wrP) := by simp [wrP, wrK, wrM_map]
def pRec (d : Nat) (rs : List Pt) : List Pe := match rs with | [] => [] | _ => pBrk (rs.map (prP d)) ++ [sp]
theorem pr_fun {a f t : Int} {x : ByteArray} {rs ps ys : List Pt} {b : Pt} (d : Nat) (h1 : ReL rs) (h2 : ∀ u ∈ ps, Pm 9 u) (h3 : TyL ys) (h4 : Bl b) :
  prP d (.mk 7 x 0 a f t (rs ++ ps ++ ys ++ [b])) = wd [102, 117, 110, 99] :: sp :: (pRec d rs ++ .t (tkW 1 x) :: (pBrk (ps.map (prP d)) ++ pBeh [sp] ((ys ++ [b]).map (prP d)))) := by
 have hr : ∀ h ∈ rs.map hdP, h.1 = 8 := by
  rcases h1 with rfl | ⟨y, z, a, f, t, a', f', t', rfl, -⟩
  ·simp
  ·simp [hdP]
 have hy : ∀ h ∈ (ys ++ [b]).map hdP, h.1 ≠ 8 ∧ h.1 ≠ 9 := by
  intro h hh
  obtain ⟨u, hu, rfl⟩ := List.mem_map.1 hh
  rcases List.mem_append.1 hu with hu | hu
  ·rcases h3 with rfl | ⟨v, rfl, hv⟩
   ·simp at hu
   ·obtain rfl : u = v := by simpa using hu
    exact ty_kind hv
  ·obtain rfl : u = b := by simpa using hu
   exact bl_kind h4
 have hp : ∀ h ∈ ps.map hdP, h.1 = 9 := by
  intro h hh
  obtain ⟨u, hu, rfl⟩ := List.mem_map.1 hh
  exact pm_kind (h2 u hu)
 have c8 : cutN 8 ((rs ++ ps ++ ys ++ [b]).map hdP) = rs.length := by
  rw [show (rs ++ ps ++ ys ++ [b]).map hdP = rs.map hdP ++ (ps ++ (ys ++ [b])).map hdP by simp]
  rw [cut_all _ _ hr, List.length_map]
  intro h hh
  rw [List.map_append] at hh
  rcases List.mem_append.1 hh with hh | hh
  ·rw [hp h hh]; decide
  ·exact (hy h hh).1
 have d8 : ((rs ++ ps ++ ys ++ [b]).map hdP).drop rs.length = ps.map hdP ++ (ys ++ [b]).map hdP := by
  rw [show (rs ++ ps ++ ys ++ [b]).map hdP = rs.map hdP ++ (ps ++ (ys ++ [b])).map hdP by simp]
  rw [List.drop_left' (by simp), List.map_append]
 have c9 : cutN 9 (((rs ++ ps ++ ys ++ [b]).map hdP).drop rs.length) = ps.length := by
  rw [d8, cut_all _ _ hp fun h hh => (hy h hh).2, List.length_map]
 have d9 : ((rs ++ ps ++ ys ++ [b]).map (prP d)).drop rs.length = ps.map (prP d) ++ (ys ++ [b]).map (prP d) := by
  rw [show (rs ++ ps ++ ys ++ [b]).map (prP d) = rs.map (prP d) ++ (ps ++ (ys ++ [b])).map (prP d) by simp]
  rw [List.drop_left' (by simp), List.map_append]
 have t8 : ((rs ++ ps ++ ys ++ [b]).map (prP d)).take rs.length = rs.map (prP d) := by
  rw [show (rs ++ ps ++ ys ++ [b]).map (prP d) = rs.map (prP d) ++ (ps ++ (ys ++ [b])).map (prP d) by simp]
  rw [List.take_left' (by simp)]
 have e : prP d (.mk 7 x 0 a f t (rs ++ ps ++ ys ++ [b])) = pFun x ((rs ++ ps ++ ys ++ [b]).map hdP) ((rs ++ ps ++ ys ++ [b]).map (prP d)) := by
  rw [prP, prM_map]
  simp [prK, kdD]
 rw [e]
 unfold pFun
 rw [c8, c9, d9, t8, List.take_left' (by simp), List.drop_left' (by simp)]
 have hif : (if 0 < rs.length then pBrk (rs.map (prP d)) ++ [sp] else []) = pRec d rs := by
  cases rs with
  | nil => rfl
  | cons => rfl
 rw [hif]
 simp
theorem pi_rec {rs : List Pt} (h : ReL rs) (d : Nat) : tks (pRec d rs) = wRec rs ∧ ∀ (y : Tok) (last : Tok) (R : List Pe), okI y R -> stL y.kind y.text.data.toList (rn R).head? = true -> okI last (pRec d rs ++ .t y :: R) := by
 rcases h with rfl | ⟨y, z, a, f, t, a', f', t', rfl, -, -⟩
 ·exact ⟨rfl, fun y last R h1 h2 => ⟨h2, h1⟩⟩
 ·have hp : PI (prP d (.mk 8 y 0 a f t [.mk 11 z 0 a' f' t' []])) (wrP (.mk 8 y 0 a f t [.mk 11 z 0 a' f' t' []])) := by
   rw [pr_pm (.inr (.inl rfl)), wr_rec, pr_eleven]
   exact (pi_t (.inl rfl)).pre _
  have hb := pi_one hp
  refine ⟨?_, fun y last R h1 h2 => ?_⟩
  ·show tks (pBrk [_] ++ [sp]) = wBrk [_]
   rw [tks_app, hb.tk]
   simp [tks, sp, Pe.tk]
  ·show okI last (pBrk [_] ++ [sp] ++ .t y :: R)
   rw [List.append_assoc]
   exact hb.ok _ _ (kc_sp fun x => ⟨h2, h1⟩)
theorem pi_beh {ys : List Pt} {b : Pt} (h : TyL ys) (hb : Bl b) (d : Nat) : tks (pBeh [sp] ((ys ++ [b]).map (prP d))) = (ys.map wrP).flatten ++ wrP b ∧ ∀ R, Kc R -> Kc (pBeh [sp] ((ys ++ [b]).map (prP d)) ++ R) := by
 have hB := pi_bl hb d
 rcases h with rfl | ⟨v, rfl, hv⟩
 ·refine ⟨?_, fun R hR => ?_⟩
  ·show tks (pBeh [sp] [prP d b]) = wrP b
   simp only [pBeh, List.map_cons, List.map_nil, List.flatten_cons, List.flatten_nil, List.append_nil]
   rw [List.cons_append, tks_sp, List.nil_append, hB.tk]
  ·show Kc (pBeh [sp] [prP d b] ++ R)
   have e : pBeh [sp] [prP d b] ++ R = sp :: (prP d b ++ R) := by simp [pBeh]
   rw [e]
   exact kc_sp fun x => hB.ok x R hR
 ·have hV := pi_ty hv d
  refine ⟨?_, fun R hR => ?_⟩
  ·show tks (pBeh [sp] [prP d v, prP d b]) = [wrP v].flatten ++ wrP b
   have e : pBeh [sp] [prP d v, prP d b] = sp :: (prP d v ++ sp :: prP d b) := by simp [pBeh]
   rw [e, tks_sp, tks_app, tks_sp, hV.tk, hB.tk]
   simp
  ·show Kc (pBeh [sp] [prP d v, prP d b] ++ R)
   have e : pBeh [sp] [prP d v, prP d b] ++ R = sp :: (prP d v ++ sp :: (prP d b ++ R)) := by simp [pBeh]
   rw [e]
   exact kc_sp fun x => hV.ok x _ (kc_sp fun y => hB.ok y R hR)
theorem pi_dc {u : Pt} (h : Dc u) (d : Nat) : PI (prP d u) (wrP u) := by
 cases h with
 | con _ hv => rw [pr_con, wr_con]; exact (((pi_vc hv d).pre _).pre _).pre _
 | var1 h1 h2 => exact pi_st (.var1 h1 h2) d
 | var2 h1 h2 h3 => exact pi_st (.var2 h1 h2 h3) d
 | str _ hl => rw [pr_str, wr_str']; exact (((pi_bra d (forall_pi fun u hu => pi_pm (.inl rfl) (hl u hu) (d + 1))).pre _).pre _).pre _
 | @fn a f t x rs ps ys b _ _ h1 h2 h3 h4 =>
  rw [pr_fun d h1 h2 h3 h4, wr_fun h1 h2 h3 h4]
  obtain ⟨r1, r2⟩ := pi_rec h1 d
  obtain ⟨b1, b2⟩ := pi_beh h3 h4 d
  have hp := pi_brk (forall_pi fun u hu => pi_pm (.inr rfl) (h2 u hu) d)
  refine ⟨?_, fun last R hR => ?_⟩
  ·rw [tks_wd, tks_sp, tks_app, tks_t, tks_app, r1, b1, hp.tk]
  ·have e : wd [102, 117, 110, 99] :: sp :: (pRec d rs ++ .t (tkW 1 x) :: (pBrk (ps.map (prP d)) ++ pBeh [sp] ((ys ++ [b]).map (prP d)))) ++ R = wd [102, 117, 110, 99] :: sp :: (pRec d rs ++ .t (tkW 1 x) :: (pBrk (ps.map (prP d)) ++ (pBeh [sp] ((ys ++ [b]).map (prP d)) ++ R))) := by simp
   rw [e]
   have hk := b2 R hR
   have h40 : Kc (pBrk (ps.map (prP d)) ++ (pBeh [sp] ((ys ++ [b]).map (prP d)) ++ R)) := by
    refine ⟨fun x _ => hp.ok x _ hk, fun c hc => ?_⟩
    have e : pBrk (ps.map (prP d)) ++ (pBeh [sp] ((ys ++ [b]).map (prP d)) ++ R) = sg [40] :: (pPar [sg [44], sp] (ps.map (prP d)) ++ sg [41] :: (pBeh [sp] ((ys ++ [b]).map (prP d)) ++ R)) := by simp [pBrk]
    rw [e] at hc
    obtain rfl : (40 : UInt8) = c := by simpa [rn_cons, sg, Pe.bs, sgT, tkW, strU] using hc
    rfl
   have h1 := ok_t (y := tkW 1 x) (.inl rfl) h40 ⟨0, ⟨#[]⟩, 0⟩
   exact ok_ts _ _ (r2 (tkW 1 x) _ _ h1.2 h1.1)
theorem fik_pi {d : Nat} {l : List Pt} (h : ∀ u ∈ l, PI (prP d u) (wrP u)) : ∀ b, tks (pFiK d b (l.map hdP) (l.map (prP d))) = wEnd (l.map wrP) ∧ ∀ last, clo last = false -> okI last (pFiK d b (l.map hdP) (l.map (prP d))) := by
 induction l with
 | nil => exact fun b => ⟨rfl, fun last hl => hl⟩
 | cons u r ih =>
  intro b
  have hu := h u (by simp)
  obtain ⟨i1, i2⟩ := ih (fun v hv => h v (by simp [hv])) false
  have e : pFiK d b ((u :: r).map hdP) ((u :: r).map (prP d)) = (if b || (hdP u).1 != 2 then [fe] else []) ++ (tb d ++ (prP d u ++ .e :: pFiK d false (r.map hdP) (r.map (prP d)))) := by
   rw [List.map_cons, List.map_cons, pFiK]
   simp
  rw [e]
  refine ⟨?_, fun last hl => ?_⟩
  ·rw [tks_app, tks_tb, tks_app, tks_e, i1, hu.tk, wEnd_cons]
   have : tks (if b || (hdP u).1 != 2 then [fe] else []) = [] := by split <;> rfl
   rw [this]
   rfl
  ·have hk : okI last (tb d ++ (prP d u ++ .e :: pFiK d false (r.map hdP) (r.map (prP d)))) := ok_tb d (hu.ok _ _ (kc_e (i2 enT rfl)))
   split
   ·exact ⟨.inr (.inr ⟨rfl, hl⟩), hk⟩
   ·exact hk
theorem pi_file {t : Pt} (h : FiT t) (d : Nat) : tks (prP d t) = wrP t ∧ okI ⟨0, ⟨#[]⟩, 0⟩ (prP d t) := by
 obtain ⟨x, a, f, e, is, ds, rfl, -, hi, hd⟩ := h
 have hall : ∀ u ∈ is ++ ds, PI (prP d u) (wrP u) := fun u hu => by
  rcases List.mem_append.1 hu with hu | hu
  ·obtain ⟨y, a, f, t, rfl, -⟩ := hi u hu
   have e : prP d (.mk 2 y 0 a f t []) = .t (wdT [105, 109, 112, 111, 114, 116]) :: sp :: [.t (tkW 3 (quoT y))] := by simp [prP, prK, wd]
   rw [e, wr_imp]
   exact (pi_t (.inr (.inr rfl))).pre _
  ·exact pi_dc (hd u hu) d
 obtain ⟨h1, h2⟩ := fik_pi hall true
 have e1 : prP d (.mk 1 x 0 a f e (is ++ ds)) = wd [112, 97, 99, 107, 97, 103, 101] :: sp :: .t (tkW 1 x) :: .e :: pFiK d true ((is ++ ds).map hdP) ((is ++ ds).map (prP d)) := by
  rw [prP, prM_map]
  simp [prK, kdD]
 rw [e1, wr_file]
 refine ⟨?_, ?_⟩
 ·rw [tks_wd, tks_sp, tks_t, tks_e, h1, List.map_append, wEnd_app]
  rfl
 ·exact ok_ts _ _ (ok_t (.inl rfl) (kc_e (h2 enT rfl)) _)
structure Std (ts : List Tok) (N : Int) : Prop where
 zero : 0 <= N
 one : ∀ p, p < ts.length -> 0 <= (nxT ts p).pos ∧ (nxT ts p).pos + (nxT ts p).text.size <= N
 two : ∀ p, p + 1 < ts.length -> (nxT ts p).pos + (nxT ts p).text.size <= (nxT ts (p + 1)).pos
section
variable {ts : List Tok} {N : Int}
theorem Std.hp {p : Nat} (h : p < ts.length) : herI ts p = (nxT ts p).pos := by unfold herI; rw [if_pos h]
theorem Std.bh (hs : Std ts N) {p : Nat} (_h : p <= ts.length) : behI ts p <= herI ts p := by
 unfold herI
 split
 ·rename_i hp
  unfold behI
  split
  ·exact (hs.one p hp).1
  ·have := hs.two (p - 1) (by omega)
   rw [show p - 1 + 1 = p by omega] at this
   exact this
 ·exact Int.le_refl _
theorem Std.hb {p : Nat} (h : p < ts.length) : herI ts p <= behI ts (p + 1) := by
 rw [Std.hp h]
 unfold behI
 rw [if_neg (by omega), show p + 1 - 1 = p by omega]
 omega
theorem Std.bb (hs : Std ts N) {p q : Nat} (h : p <= q) (hq : q <= ts.length) : behI ts p <= behI ts q := by
 induction q with
 | zero =>
  obtain rfl : p = 0 := by omega
  exact Int.le_refl _
 | succ q ih =>
  rcases Nat.lt_or_ge p (q + 1) with h1 | h1
  ·have h2 := ih (by omega) (by omega)
   have h3 := hs.bh (p := q) (by omega)
   have h4 := Std.hb (ts := ts) (p := q) (by omega)
   omega
  ·obtain rfl : p = q + 1 := by omega
   exact Int.le_refl _
theorem Std.z (hs : Std ts N) {p : Nat} (h : p <= ts.length) : 0 <= behI ts p ∧ behI ts p <= N := by
 refine ⟨hs.bb (p := 0) (Nat.zero_le _) h, ?_⟩
 unfold behI
 split
 ·exact hs.zero
 ·exact (hs.one (p - 1) (by omega)).2
theorem Std.hz (hs : Std ts N) {p : Nat} (h : p <= ts.length) : 0 <= herI ts p := by
 have := hs.z h
 have := hs.bh h
 omega
end
theorem nx_cons (t : Tok) (r : List Tok) (p : Nat) : nxT (t :: r) (p + 1) = nxT r p := rfl
theorem stl_std {L : List UInt8} : ∀ (ms : List Tok) (e : Nat), StL L e ms ->
  (∀ p, p < ms.length -> ∃ a : Nat, (nxT ms p).pos = a ∧ e <= a ∧ a + (nxT ms p).text.size <= L.length ∧ (L.drop a).take (nxT ms p).text.size = (nxT ms p).text.data.toList) ∧
  ∀ p, p + 1 < ms.length -> (nxT ms p).pos + (nxT ms p).text.size <= (nxT ms (p + 1)).pos
 | [], e, _ => ⟨fun p hp => by simp at hp, fun p hp => by simp at hp⟩
 | t :: r, e, h => by
  obtain ⟨a, h1, h2, h3, h4, -, h5⟩ := h
  have hsz : t.text.data.toList.length = t.text.size := by rw [Array.length_toList]; rfl
  rw [hsz] at h3 h4 h5
  obtain ⟨i1, i2⟩ := stl_std r _ h5
  constructor
  ·intro p hp
   cases p with
   | zero => exact ⟨a, h1, h2, h3, h4⟩
   | succ p =>
    obtain ⟨b, k1, k2, k3, k4⟩ := i1 p (by simpa using hp)
    exact ⟨b, k1, by omega, k3, k4⟩
  ·intro p hp
   cases p with
   | zero =>
    obtain ⟨b, k1, k2, k3, k4⟩ := i1 0 (by simpa using hp)
    rw [nx_cons, k1]
    show t.pos + t.text.size <= (b : Int)
    rw [h1]
    omega
   | succ p => exact i2 p (by simpa using hp)
theorem stl_of {L : List UInt8} {ms : List Tok} (h : StL L 0 ms) : Std ms L.length := by
 obtain ⟨h1, h2⟩ := stl_std ms 0 h
 refine ⟨by omega, fun p hp => ?_, h2⟩
 obtain ⟨a, e, -, h3, -⟩ := h1 p hp
 omega
def bd (ts : List Tok) {α : Type} (r : Rs α) (p : Nat) : Prop := match r with | .ok _ q => p <= q ∧ q <= ts.length | .bad s => ∃ p', p <= p' ∧ p' <= ts.length ∧ s = herI ts p' | .out => True
section
variable {ts : List Tok} {α β : Type}
theorem bd_mono {r : Rs α} {p m : Nat} (h : bd ts r p) (hm : m <= p) : bd ts r m := by
 cases r with
 | ok v q => exact ⟨Nat.le_trans hm h.1, h.2⟩
 | bad s => obtain ⟨p', h1, h2, h3⟩ := h; exact ⟨p', Nat.le_trans hm h1, h2, h3⟩
 | out => trivial
theorem bd_bind {r : Rs α} {f : α -> Nat -> Rs β} {p m : Nat} (h : bd ts r p) (hm : m <= p) (hf : ∀ v q, p <= q -> q <= ts.length -> bd ts (f v q) q) : bd ts (r.bind f) m := by
 cases r with
 | ok v q => exact bd_mono (hf v q h.1 h.2) (Nat.le_trans hm h.1)
 | bad s => exact bd_mono (r := (.bad s : Rs β)) h hm
 | out => trivial
theorem bd_ite {c : Prop} [Decidable c] {a b : Rs α} {m : Nat} (h : c -> bd ts a m) (h' : ¬ c -> bd ts b m) : bd ts (if c then a else b) m := by
 split
 ·rename_i hc; exact h hc
 ·rename_i hc; exact h' hc
theorem bd_bad {p : Nat} (h : p <= ts.length) : bd ts (.bad (herI ts p) : Rs α) p := ⟨p, Nat.le_refl _, h, rfl⟩
theorem bd_need {b : Bool} {p : Nat} {k : Rs α} (hp : p <= ts.length) (h : b = true -> bd ts k p) : bd ts (Rs.need b (herI ts p) k) p := by
 unfold Rs.need
 exact bd_ite h fun _ => bd_bad hp
theorem bd_ok {v : α} {p q : Nat} (h : p <= q) (hq : q <= ts.length) : bd ts (.ok v q) p := ⟨h, hq⟩
theorem bd_exp {p : Nat} {s : List UInt8} {k : Nat -> Rs α} (hs : s ≠ []) (hp : p <= ts.length) (h : p < ts.length -> bd ts (k (p + 1)) (p + 1)) : bd ts (expP ts s p k) p := bd_need hp fun hb => bd_mono (h (is_lt hb hs)) (by omega)
theorem bd_kin {p : Nat} {n : Int} {k : Tok -> Nat -> Rs α} (hn : n ≠ 0) (hp : p <= ts.length) (h : p < ts.length -> bd ts (k (nxT ts p) (p + 1)) (p + 1)) : bd ts (kinP ts n p k) p := bd_need hp fun hb => bd_mono (h (kin_lt hb hn)) (by omega)
theorem bd_nam {p : Nat} {k : Tok -> Nat -> Rs α} (hp : p <= ts.length) (h : p < ts.length -> bd ts (k (nxT ts p) (p + 1)) (p + 1)) : bd ts (namP ts p k) p := bd_need hp fun hb => bd_mono (h (nam_lt hb)) (by omega)
theorem bd_lea (k : Int) {p : Nat} (h : p < ts.length) : bd ts (leaP ts k p) p := ⟨by omega, by omega⟩
theorem bd_wor (k : Int) {p : Nat} (h : p <= ts.length) : bd ts (worP ts k p) p := bd_need h fun hb => bd_lea k (nam_lt hb)
theorem bd_va1 {p : Nat} (h : p <= ts.length) : bd ts (va1P ts p) p := by
 unfold va1P
 refine bd_ite (fun hc => bd_ok (by omega) (by have := kin_lt hc (by decide); omega)) fun _ => bd_ite (fun hc => bd_ok (by omega) (by have := kin_lt hc (by decide); omega)) fun _ => bd_ite (fun hc => bd_lea _ ?_) fun _ => bd_bad h
 rw [Bool.or_eq_true] at hc
 rcases hc with hc | hc <;> exact is_lt hc (by simp)
theorem bd_val {p : Nat} (h : p <= ts.length) : bd ts (valP ts p) p := by
 unfold valP
 refine bd_ite (fun hc => ?_) fun _ => bd_va1 h
 have hp := is_lt hc (by simp)
 exact bd_ite (fun _ => bd_bind (bd_va1 hp) (by omega) fun v q h1 h2 => bd_ok (Nat.le_refl _) h2) fun _ => bd_mono (bd_bad hp) (by omega)
theorem bd_typ {p : Nat} (h : p <= ts.length) : bd ts (typP ts p) p := by
 unfold typP
 refine bd_ite (fun hc => bd_lea _ ?_) fun _ => bd_ite (fun _ => bd_bind (bd_wor _ h) (Nat.le_refl _) fun v q h1 h2 => bd_exp (by simp) h2 fun h3 => bd_nam h3 fun h4 => bd_ok (Nat.le_refl _) h4) fun _ => bd_wor _ h
 rw [Bool.or_eq_true, Bool.or_eq_true] at hc
 rcases hc with (hc | hc) | hc <;> exact is_lt hc (by simp)
theorem bd_tyd (k : Int) {p : Nat} (h : p <= ts.length) : bd ts (tydP ts k p) p := by
 unfold tydP
 exact bd_nam h fun h1 => bd_bind (bd_typ h1) (Nat.le_refl _) fun v q _ h2 => bd_ok (Nat.le_refl _) h2
theorem bd_imp {p : Nat} (h : p <= ts.length) : bd ts (impP ts p) p := by
 unfold impP
 exact bd_exp (by simp) h fun h1 => bd_kin (by simp) h1 fun h2 => bd_ok (Nat.le_refl _) h2
theorem bd_con {p : Nat} (h : p <= ts.length) : bd ts (conP ts p) p := by
 unfold conP
 exact bd_exp (by simp) h fun h1 => bd_nam h1 fun h2 => bd_exp (by simp) h2 fun h3 => bd_bind (bd_val h3) (Nat.le_refl _) fun v q _ h4 => bd_ok (Nat.le_refl _) h4
theorem bd_rec {p : Nat} (h : p <= ts.length) : bd ts (recP ts p) p := by
 unfold recP
 exact bd_nam h fun h1 => bd_bind (bd_wor _ h1) (Nat.le_refl _) fun v q _ h4 => bd_ok (Nat.le_refl _) h4
structure BdA (ts : List Tok) (n : Nat) : Prop where
 bin : ∀ l p, p <= ts.length -> bd ts ((fns ts n).bin l p) p
 binL : ∀ l fr t p, p <= ts.length -> bd ts ((fns ts n).binL l fr t p) p
 una : ∀ p, p <= ts.length -> bd ts ((fns ts n).una p) p
 post : ∀ p, p <= ts.length -> bd ts ((fns ts n).post p) p
 posL : ∀ fr t p, p <= ts.length -> bd ts ((fns ts n).posL fr t p) p
 prim : ∀ p, p <= ts.length -> bd ts ((fns ts n).prim p) p
 argL : ∀ l p, p <= ts.length -> bd ts ((fns ts n).argL l p) p
 parL : ∀ l p, p <= ts.length -> bd ts ((fns ts n).parL l p) p
 fieL : ∀ l p, p <= ts.length -> bd ts ((fns ts n).fieL l p) p
 stmt : ∀ p, p <= ts.length -> bd ts ((fns ts n).stmt p) p
 bran : ∀ p, p <= ts.length -> bd ts ((fns ts n).bran p) p
 stmL : ∀ l p, p <= ts.length -> bd ts ((fns ts n).stmL l p) p
 impL : ∀ l p, p <= ts.length -> bd ts ((fns ts n).impL l p) p
 decL : ∀ l p, p <= ts.length -> bd ts ((fns ts n).decL l p) p
theorem bd_lis {one : Nat -> Rs Pt} {more : List Pt -> Nat -> Rs (List Pt)} {p : Nat} (h1 : ∀ q, q <= ts.length -> bd ts (one q) q) (h2 : ∀ l q, q <= ts.length -> bd ts (more l q) q) (hp : p <= ts.length) : bd ts (lisP ts one more p) p := by
 unfold lisP
 exact bd_exp (by simp) hp fun h => bd_ite (fun hc => bd_ok (by omega) (is_lt hc (by simp))) fun _ => bd_bind (h1 _ h) (Nat.le_refl _) fun v q _ hq => bd_bind (h2 _ _ hq) (Nat.le_refl _) fun l q' _ hq' => bd_exp (by simp) hq' fun h' => bd_ok (Nat.le_refl _) h'
theorem bd_lin {more : List Pt -> Nat -> Rs (List Pt)} {p : Nat} (h2 : ∀ l q, q <= ts.length -> bd ts (more l q) q) (hp : p <= ts.length) : bd ts (linP ts more p) p := by
 unfold linP
 exact bd_exp (by simp) hp fun h => bd_bind (h2 _ _ h) (Nat.le_refl _) fun l q' _ hq' => bd_exp (by simp) hq' fun h' => bd_ok (Nat.le_refl _) h'
theorem bd_blo {n p : Nat} (ih : BdA ts n) (hp : p <= ts.length) : bd ts (bloP ts (fns ts n) p) p := by
 unfold bloP
 exact bd_bind (bd_lin ih.stmL hp) (Nat.le_refl _) fun l q _ hq => bd_ok (Nat.le_refl _) hq
theorem bd_var {n p : Nat} (ih : BdA ts n) (hp : p <= ts.length) : bd ts (varP ts (fns ts n) p) p := by
 unfold varP
 exact bd_exp (by simp) hp fun h1 => bd_nam h1 fun h2 => bd_bind (bd_typ h2) (Nat.le_refl _) fun v q _ hq => bd_ite (fun hc => bd_bind (ih.bin _ _ (is_lt hc (by simp))) (by omega) fun x q' _ hq' => bd_ok (Nat.le_refl _) hq') fun _ => bd_ok (Nat.le_refl _) hq
theorem bd_dec {n p : Nat} (ih : BdA ts n) (hp : p <= ts.length) : bd ts (decP ts (fns ts n) p) p := by
 have hfun : ∀ fr l q, q <= ts.length -> bd ts (funR ts (fns ts n) fr l q) q := fun fr l q hq => by
  unfold funR
  exact bd_nam hq fun h1 => bd_bind (bd_lis (fun _ => bd_tyd 9) ih.parL h1) (Nat.le_refl _) fun ps q1 _ h2 => bd_ite (fun _ => bd_bind (bd_blo ih h2) (Nat.le_refl _) fun b q2 _ h3 => bd_ok (Nat.le_refl _) h3) fun _ => bd_bind (bd_typ h2) (Nat.le_refl _) fun v q2 _ h3 => bd_bind (bd_blo ih h3) (Nat.le_refl _) fun b q3 _ h4 => bd_ok (Nat.le_refl _) h4
 unfold decP
 refine bd_ite (fun _ => bd_con hp) fun _ => bd_ite (fun _ => bd_var ih hp) fun _ => bd_ite (fun _ => ?_) fun _ => bd_ite (fun _ => ?_) fun _ => bd_bad hp
 ·unfold strP
  exact bd_exp (by simp) hp fun h1 => bd_nam h1 fun h2 => bd_exp (by simp) h2 fun h3 => bd_bind (bd_lin ih.fieL h3) (Nat.le_refl _) fun l q _ hq => bd_ok (Nat.le_refl _) hq
 ·unfold funP
  exact bd_exp (by simp) hp fun h1 => bd_ite (fun hc => bd_bind (bd_rec (is_lt hc (by simp))) (by omega) fun v q _ hq => bd_exp (by simp) hq fun h2 => hfun _ _ _ h2) fun _ => hfun _ _ _ h1
theorem bdA (n : Nat) : BdA ts n := by
 induction n with
 | zero => constructor <;> (intros; trivial)
 | succ n ih =>
  constructor
  ·intro l p hp
   show bd ts (if l = 5 then (fns ts n).una p else ((fns ts n).bin (l + 1) p).bind fun t q => (fns ts n).binL l (herI ts p) t q) p
   exact bd_ite (fun _ => ih.una p hp) fun _ => bd_bind (ih.bin _ _ hp) (Nat.le_refl _) fun t q _ hq => ih.binL _ _ _ _ hq
  ·intro l fr t p hp
   refine bd_ite (fun h => ?_) fun _ => bd_ok (Nat.le_refl _) hp
   have h1 := row_lt h
   exact bd_bind (ih.bin _ _ h1) (by omega) fun u q _ hq => bd_ite (fun _ => bd_ok (Nat.le_refl _) hq) fun _ => ih.binL _ _ _ _ hq
  ·intro p hp
   refine bd_ite (fun h => ?_) fun _ => ih.post p hp
   have h1 : p < ts.length := by
    rw [Bool.or_eq_true] at h
    rcases h with h | h <;> exact is_lt h (by simp)
   exact bd_bind (ih.una _ h1) (by omega) fun u q _ hq => bd_ok (Nat.le_refl _) hq
  ·intro p hp
   exact bd_bind (ih.prim p hp) (Nat.le_refl _) fun t q _ hq => ih.posL _ _ _ hq
  ·intro fr t p hp
   refine bd_ite (fun h => ?_) fun _ => bd_ite (fun h => ?_) fun _ => bd_ok (Nat.le_refl _) hp
   ·have h1 := is_lt h (by simp)
    exact bd_mono (bd_nam h1 fun h2 => ih.posL _ _ _ h2) (by omega)
   ·exact bd_bind (bd_lis (ih.bin 0) ih.argL hp) (Nat.le_refl _) fun l q _ hq => ih.posL _ _ _ hq
  ·intro p hp
   refine bd_ite (fun h => ?_) fun _ => bd_ite (fun h => bd_lea _ (nam_lt h)) fun _ => bd_va1 hp
   exact bd_bind (ih.bin _ _ (is_lt h (by simp))) (by omega) fun t q _ hq => bd_exp (by simp) hq fun h' => bd_ok (Nat.le_refl _) h'
  ·intro l p hp
   exact bd_ite (fun h => bd_bind (ih.bin _ _ (is_lt h (by simp))) (by omega) fun t q _ hq => ih.argL _ _ hq) fun _ => bd_ok (Nat.le_refl _) hp
  ·intro l p hp
   exact bd_ite (fun h => bd_bind (bd_tyd _ (is_lt h (by simp))) (by omega) fun t q _ hq => ih.parL _ _ hq) fun _ => bd_ok (Nat.le_refl _) hp
  ·intro l p hp
   exact bd_ite (fun _ => bd_ok (Nat.le_refl _) hp) fun _ => bd_bind (bd_tyd _ hp) (Nat.le_refl _) fun t q _ hq => bd_ite (fun _ => ih.fieL _ _ hq) fun _ => bd_kin (by simp) hq fun h => ih.fieL _ _ h
  ·intro p hp
   refine bd_ite (fun _ => bd_blo ih hp) fun _ => bd_ite (fun _ => bd_var ih hp) fun _ => bd_ite (fun _ => ih.bran p hp) fun _ => bd_ite (fun _ => ?_) fun _ => bd_ite (fun _ => ?_) fun _ => bd_ite (fun _ => ?_) fun _ => ?_
   ·unfold looP
    exact bd_exp (by simp) hp fun h1 => bd_bind (ih.bin _ _ h1) (Nat.le_refl _) fun x q _ hq => bd_bind (bd_blo ih hq) (Nat.le_refl _) fun b q' _ hq' => bd_ok (Nat.le_refl _) hq'
   ·unfold resP
    exact bd_exp (by simp) hp fun h1 => bd_ite (fun _ => bd_bind (ih.bin _ _ h1) (Nat.le_refl _) fun x q _ hq => bd_ok (Nat.le_refl _) hq) fun _ => bd_ok (Nat.le_refl _) h1
   ·unfold shoP
    exact bd_nam hp fun h1 => bd_exp (by simp) h1 fun h2 => bd_bind (ih.bin _ _ h2) (Nat.le_refl _) fun x q _ hq => bd_ok (Nat.le_refl _) hq
   ·unfold simP
    exact bd_bind (ih.bin _ _ hp) (Nat.le_refl _) fun x q _ hq => bd_ite (fun hc => bd_bind (ih.bin _ _ (is_lt hc (by simp))) (by omega) fun y q' _ hq' => bd_ok (Nat.le_refl _) hq') fun _ => bd_ok (Nat.le_refl _) hq
  ·intro p hp
   unfold fns
   dsimp only
   exact bd_exp (by simp) hp fun h1 => bd_bind (ih.bin _ _ h1) (Nat.le_refl _) fun x q _ hq => bd_bind (bd_blo ih hq) (Nat.le_refl _) fun b q' _ hq' => bd_ite (fun hc => bd_bind (p := q' + 1) (bd_ite (fun _ => ih.bran _ (is_lt hc (by simp))) fun _ => bd_blo ih (is_lt hc (by simp))) (by omega) fun c q'' _ hq'' => bd_ok (Nat.le_refl _) hq'') fun _ => bd_ok (Nat.le_refl _) hq'
  ·intro l p hp
   exact bd_ite (fun _ => bd_ok (Nat.le_refl _) hp) fun _ => bd_bind (ih.stmt _ hp) (Nat.le_refl _) fun t q _ hq => bd_ite (fun _ => ih.stmL _ _ hq) fun _ => bd_kin (by simp) hq fun h => ih.stmL _ _ h
  ·intro l p hp
   exact bd_ite (fun _ => bd_bind (bd_imp hp) (Nat.le_refl _) fun t q _ hq => bd_kin (by simp) hq fun h => ih.impL _ _ h) fun _ => bd_ok (Nat.le_refl _) hp
  ·intro l p hp
   exact bd_ite (fun _ => bd_bind (bd_dec ih hp) (Nat.le_refl _) fun t q _ hq => bd_kin (by simp) hq fun h => ih.decL _ _ h) fun _ => bd_ok (Nat.le_refl _) hp
theorem bd_fil (n : Nat) {p : Nat} (hp : p <= ts.length) : bd ts (filP ts n p) p := by
 have ih := bdA (ts := ts) n
 unfold filP
 exact bd_exp (by simp) hp fun h1 => bd_nam h1 fun h2 => bd_kin (by simp) h2 fun h3 => bd_bind (ih.impL _ _ h3) (Nat.le_refl _) fun l q _ hq => bd_bind (ih.decL _ _ hq) (Nat.le_refl _) fun l' q' _ hq' => bd_ok (Nat.le_refl _) hq'
end
theorem ris_snoc : ∀ (a : List Tok) (l : Int) (t : Tok), risB l a = true -> (∀ x, a.getLast? = some x -> x.pos < t.pos) -> (a = [] -> l < t.pos) -> risB l (a ++ [t]) = true
 | [], l, t, _, _, h => by
  show (if t.pos <= l then false else true) = true
  rw [if_neg (by have := h rfl; omega)]
 | x :: r, l, t, h, h', _ => by
  rw [risB] at h
  split at h
  ·cases h
  rename_i hx
  rw [List.cons_append, risB, if_neg hx]
  refine ris_snoc r x.pos t h (fun y hy => h' y ?_) fun e => h' x ?_
  ·rw [List.getLast?_cons, hy]; rfl
  ·rw [e]; rfl
theorem lex_ris {L : List UInt8} : ∀ (f p : Nat) (ds ms : List Tok), p <= L.length -> risB (-1) ds = true -> (∀ x, ds.getLast? = some x -> x.pos < (p : Int) ∨ (x.pos = p ∧ clo (lastT ds) = false ∧ (p < L.length -> lookR (L.drop p) false = (0, 1, 0)))) ->
  lexG L f p ds = (ms, 0, 0) -> risB (-1) ms = true := by
 intro f
 induction f with
 | zero =>
  intro p ds ms _ h _ he
  rw [lexG] at he
  simp only [Prod.mk.injEq] at he
  rw [<- he.1]
  exact h
 | succ f ih =>
  intro p ds ms hp hr hla he
  obtain ⟨k, n, e, hl⟩ : ∃ k n e, lookR (L.drop p) (clo (lastT ds)) = (k, n, e) := ⟨_, _, _, rfl⟩
  by_cases h1 : p < L.length ∨ clo (lastT ds) = true
  ·by_cases hee : e = 0
   ·subst hee
    have hsz := look_size hl (fun e => by
     rcases h1 with h1 | h1
     ·have := congrArg List.length e; rw [List.length_drop] at this; simp at this; omega
     ·exact h1)
    have hpn : p + n <= L.length := by have := hsz.1; rw [List.length_drop] at this; omega
    by_cases hk : k = 0
    ·subst hk
     rw [lexG_gap h1 hl] at he
     have hn : 0 < n := by
      rcases hsz.2 with h | h
      ·exact h
      ·exact absurd h.1 (by decide)
     refine ih (p + n) ds ms hpn hr (fun x hx => .inl ?_) he
     rcases hla x hx with h | h
     ·have : ((p + n : Nat) : Int) = (p : Int) + n := by omega
      omega
     ·have := h.1
      have : ((p + n : Nat) : Int) = (p : Int) + n := by omega
      omega
    ·have hbe : ∀ x, ds.getLast? = some x -> x.pos < (p : Int) := fun x hx => by
      rcases hla x hx with h | ⟨-, h2, h3⟩
      ·exact h
      ·rcases h1 with h1 | h1
       ·rw [h2, h3 h1] at hl
        simp only [Prod.mk.injEq] at hl
        exact absurd hl.1.symm hk
       ·rw [h2] at h1; cases h1
     by_cases ht : ds.length = 1024
     ·rw [lexG_full h1 hl hk ht] at he
      simp at he
     ·rw [lexG_tok h1 hl hk ht] at he
      refine ih (p + n) _ ms hpn (ris_snoc ds (-1) _ hr hbe fun _ => by show (-1 : Int) < (p : Int); omega) (fun x hx => ?_) he
      rw [List.getLast?_concat] at hx
      injection hx with hx
      subst hx
      rcases hsz.2 with h0 | ⟨hk5, h0, hen⟩
      ·refine .inl ?_
       show (p : Int) < ((p + n : Nat) : Int)
       omega
      ·subst hk5 h0
       refine .inr ⟨rfl, by rw [lastT_push]; rfl, fun hlt => ?_⟩
       rw [Nat.add_zero]
       cases hd : L.drop p with
       | nil => have := congrArg List.length hd; rw [List.length_drop] at this; simp at this; omega
       | cons c r =>
        rw [hd, hen] at hl
        unfold lookR at hl ⊢
        simp only at hl ⊢
        split at hl
        ·rename_i hc
         rw [if_pos hc]
         rfl
        ·exfalso
         split at hl
         ·simp at hl
         split at hl
         ·simp at hl
         split at hl
         ·simp only [Prod.mk.injEq] at hl; exact absurd hl.1 (by decide)
         split at hl
         ·simp only [Prod.mk.injEq] at hl; exact absurd hl.1 (by decide)
         split at hl
         ·simp only [Prod.mk.injEq] at hl; exact absurd hl.1 (by decide)
         split at hl
         ·simp at hl
         ·simp only [Prod.mk.injEq] at hl; exact absurd hl.1 (by decide)
   ·rw [lexG_err h1 hl hee] at he
    simp only [Prod.mk.injEq] at he
    exact absurd he.2.1 hee
  ·rw [lexG, if_neg h1] at he
   simp only [Prod.mk.injEq] at he
   rw [<- he.1]
   exact hr
theorem lexO_ris {L : List UInt8} {ms : List Tok} (h : lexO L = (ms, 0, 0)) : risB (-1) ms = true := by
 unfold lexO at h
 split at h
 ·simp at h
 ·exact lex_ris _ 0 [] ms (Nat.zero_le _) rfl (fun x hx => by simp at hx) h
theorem txt_inl {s : List UInt8} {p : Int × Int} (h : txtO s = .inl p) : p.1 ≠ 0 ∧ 0 <= p.2 ∧ p.2 <= s.length := by
 unfold txtO at h
 by_cases hL : s.length <= 4096
 ·rcases lexO_stands hL with ⟨e, q, he, h0, hq⟩ | ⟨ms, hm, hst, hck, hlen⟩
  ·rw [he, if_neg h0] at h
   injection h with h
   subst h
   exact ⟨h0, by show (0 : Int) <= (q : Int); omega, by show (q : Int) <= _; omega⟩
  ·rw [hm, if_pos rfl] at h
   unfold parO at h
   split at h
   ·injection h with h; subst h; exact ⟨by decide, by decide, by show (0 : Int) <= _; omega⟩
   split at h
   ·injection h with h; subst h; exact ⟨by decide, by decide, by show (0 : Int) <= _; omega⟩
   have hstd := stl_of hst
   split at h
   ·split at h
    ·injection h with h; subst h; exact ⟨by decide, by decide, by show (0 : Int) <= _; omega⟩
    split at h
    ·injection h with h; subst h; exact ⟨by decide, by decide, by show (0 : Int) <= _; omega⟩
    ·cases h
   ·rename_i x hx
    injection h with h
    subst h
    have hb := bd_fil (ts := ms) (12 * ms.length + 12) (p := 0) (Nat.zero_le _)
    have hx' : filP ms (12 * ms.length + 12) 0 = .bad x := hx
    rw [hx'] at hb
    obtain ⟨q, -, hq, e⟩ := hb
    refine ⟨by show (210 : Int) ≠ 0; decide, ?_, ?_⟩
    ·show 0 <= x
     rw [e]
     exact hstd.hz hq
    ·show x <= _
     rw [e]
     by_cases hlt : q < ms.length
     ·rw [Std.hp hlt]
      have := hstd.one q hlt
      omega
     ·have e2 : herI ms q = behI ms q := by unfold herI; rw [if_neg hlt]
      rw [e2]
      exact (hstd.z hq).2
   ·rename_i hx
    exact absurd hx fil_ends
 ·have he : lexO s = ([], 3, 0) := by unfold lexO; rw [if_pos (by omega)]
  rw [he, if_neg (by decide)] at h
  injection h with h
  subst h
  exact ⟨by decide, by decide, by show ((0 : Nat) : Int) <= _; omega⟩
theorem txt_inr {s : List UInt8} {t : Pt} (h : txtO s = .inr t) : ∃ ts q, lexO s = (ts, 0, 0) ∧ chkO ts = 0 ∧ filO ts = .ok t q ∧ (layP 0 t).length <= 2048 ∧ dpF (fun _ => 0) 0 0 (layP 0 t) <= 24 := by
 unfold txtO at h
 by_cases hL : s.length <= 4096
 ·rcases lexO_stands hL with ⟨e, q, he, h0, hq⟩ | ⟨ms, hm, hst, hck, hlen⟩
  ·rw [he, if_neg h0] at h
   cases h
  ·rw [hm, if_pos rfl] at h
   refine ⟨ms, ?_⟩
   unfold parO at h
   split at h
   ·cases h
   split at h
   ·cases h
   split at h
   ·rename_i u q hu
    split at h
    ·cases h
    split at h
    ·cases h
    ·injection h with h
     subst h
     exact ⟨q, hm, hck, hu, by omega, by omega⟩
   ·cases h
   ·cases h
 ·have he : lexO s = ([], 3, 0) := by unfold lexO; rw [if_pos (by omega)]
  rw [he, if_neg (by decide)] at h
  cases h
theorem dp_eq : ∀ (a b : List Nd) (D : Nat -> Int) (i : Nat) (m : Int), eqAll ndEq a b = true -> dpF D i m a = dpF D i m b
 | [], [], _, _, _, _ => rfl
 | [], _ :: _, _, _, _, h => by simp [eqAll] at h
 | _ :: _, [], _, _, _, h => by simp [eqAll] at h
 | x :: a, y :: b, D, i, m, h => by
  rw [eqAll, Bool.and_eq_true] at h
  have hk : x.kids = y.kids := by
   have := h.1
   unfold ndEq at this
   simp only [Bool.and_eq_true, beq_iff_eq] at this
   exact this.2
  rw [dpF, dpF, hk]
  exact dp_eq a b _ _ _ h.2
theorem hs_self (ws : List Tok) : Hs ws 0 ws := fun i t hi => by
 have hlt := (List.getElem?_eq_some_iff.1 hi).1
 have e : nxT ws (0 + i) = t := by unfold nxT; rw [Nat.zero_add, List.getD_eq_getElem?_getD, hi]; rfl
 rw [e]
 exact ⟨rfl, .inl rfl⟩
end Go.Proofs.YtbadafkfjfbnlaaGreatDoor
