import Derived.Test.YtbadafkfjfbnlaaGreatDoorTwW
import Derived.Test.YtbadafkfjfbnlaaGreatDoorTwO
namespace Go.Proofs.YtbadafkfjfbnlaaGreatDoor
set_option maxRecDepth 100000
open Go.RowKit
theorem hs_ofE : ∀ (ws ts : List Tok), eqAll tkE ws ts = true -> Hs ts 0 ws ∧ ts.length = ws.length := fun ws ts h => by
 have hlen := eqAll_len h
 refine ⟨fun i t hi => ?_, hlen.symm⟩
 have hlt : i < ts.length := by have := (List.getElem?_eq_some_iff.1 hi).1; omega
 have := (eqAll_iff hlen).1 h i t ts[i] hi (List.getElem?_eq_getElem hlt)
 unfold tkE at this
 simp only [Bool.and_eq_true, Bool.or_eq_true, beq_iff_eq] at this
 have e : nxT ts (0 + i) = ts[i] := by unfold nxT; rw [Nat.zero_add, List.getD_eq_getElem?_getD, List.getElem?_eq_getElem hlt]; rfl
 rw [e]
 refine ⟨this.1.symm, ?_⟩
 rcases this.2 with h2 | ⟨h2, h3⟩
 ·left
  rw [ByteArray.toList_eq, ByteArray.toList_eq] at h2
  exact (ByteArray.ext (Array.toList_inj.1 h2)).symm
 ·right
  refine ⟨h2, ?_⟩
  rw [List.isEmpty_iff, ByteArray.toList_eq] at h3
  exact ByteArray.ext (Array.toList_inj.1 (by simpa using h3))
mutual
theorem sm_hd : ∀ (t t' : Pt), smP t t' -> hdP t = hdP t'
 | .mk k x n a f e l, .mk k' x' n' a' f' e' l', h => by
  unfold smP at h
  rw [hdP, hdP, h.1, h.2.1]
end
theorem sm_hds : ∀ (l l' : List Pt), smL l l' -> l.map hdP = l'.map hdP
 | [], [], _ => rfl
 | [], _ :: _, h => by unfold smL smP.go at h; exact h.elim
 | _ :: _, [], h => by unfold smL smP.go at h; exact h.elim
 | t :: r, t' :: r', h => by
  unfold smL smP.go at h
  rw [List.map_cons, List.map_cons, sm_hd t t' h.1, sm_hds r r' h.2]
mutual
theorem sm_pr : ∀ (t t' : Pt) (d : Nat), smP t t' -> prP d t = prP d t'
 | .mk k x n a f e l, .mk k' x' n' a' f' e' l', d, h => by
  unfold smP at h
  obtain ⟨rfl, rfl, rfl, h4⟩ := h
  rw [prP, prP, sm_hds l l' h4, sm_prL l l' _ h4]
theorem sm_prL : ∀ (l l' : List Pt) (d : Nat), smL l l' -> prM d l = prM d l'
 | [], [], _, _ => rfl
 | [], _ :: _, _, h => by unfold smL smP.go at h; exact h.elim
 | _ :: _, [], _, h => by unfold smL smP.go at h; exact h.elim
 | t :: r, t' :: r', d, h => by
  unfold smL smP.go at h
  rw [prM, prM, sm_pr t t' d h.1, sm_prL r r' d h.2]
end
mutual
theorem sm_wr : ∀ (t t' : Pt), smP t t' -> wrP t = wrP t'
 | .mk k x n a f e l, .mk k' x' n' a' f' e' l', h => by
  unfold smP at h
  obtain ⟨rfl, rfl, rfl, h4⟩ := h
  rw [wrP, wrP, sm_hds l l' h4, sm_wrL l l' h4]
theorem sm_wrL : ∀ (l l' : List Pt), smL l l' -> wrM l = wrM l'
 | [], [], _ => rfl
 | [], _ :: _, h => by unfold smL smP.go at h; exact h.elim
 | _ :: _, [], h => by unfold smL smP.go at h; exact h.elim
 | t :: r, t' :: r', h => by
  unfold smL smP.go at h
  rw [wrM, wrM, sm_wr t t' h.1, sm_wrL r r' h.2]
end
structure TrP (t : Pt) : Prop where
 f : FiT t
 o : okP t
 n : (layP 0 t).length <= 2048
 d : dpF (fun _ => 0) 0 0 (layP 0 t) <= 24
theorem txt_trp {s : List UInt8} {t : Pt} (h : txtO s = .inr t) : TrP t := by
 obtain ⟨ts, q, h1, h2, h3, h4, h5⟩ := txt_inr h
 obtain ⟨hf, ho⟩ := fil_good (chk_good h2) h3
 exact ⟨hf, ho, h4, h5⟩
theorem TrP.ar {t : Pt} (h : TrP t) : arP t := ar_of t (fi_sh h.f) (ok_gd t h.o)
theorem TrP.len {t : Pt} (h : TrP t) : (rn (prP 0 t)).length <= 1000000000000 ∧ cntP t <= 2048 := by
 have h1 := h.n
 rw [lay_cnt] at h1
 have := pr_ln t 0 h.ar (by omega)
 omega
theorem TrP.ne {t : Pt} (h : TrP t) : rn (prP 0 t) ≠ [] := by
 obtain ⟨x, a, f, e, is, ds, rfl, -⟩ := h.f
 have e1 : prP 0 (.mk 1 x 0 a f e (is ++ ds)) = wd [112, 97, 99, 107, 97, 103, 101] :: sp :: .t (tkW 1 x) :: .e :: pFiK 0 true ((is ++ ds).map hdP) ((is ++ ds).map (prP 0)) := by
  rw [prP, prM_map]
  simp [prK, kdD]
 rw [e1, rn_cons]
 exact fun h => by cases h
theorem prt_back {t : Pt} (h : TrP t) (hl : (wrP t).length <= 1024) (hp : ¬ 4096 < (rn (prP 0 t)).length) : ∃ t' ms, txtO (rn (prP 0 t)) = .inr t' ∧ smP t t' ∧ lexO (rn (prP 0 t)) = (ms, 0, 0) ∧ eqAll tkE (wrP t) ms = true := by
 obtain ⟨h1, h2⟩ := pi_file h.f 0
 have ha := ok_aT t h.o
 obtain ⟨ms, hm, he⟩ := pe_lex h2 (fun x hx => (ha x (by rw [<- h1]; exact hx)).1) (by rw [h1]; exact hl) hp
 rw [h1] at he
 obtain ⟨hs, hlen⟩ := hs_ofE _ _ he
 obtain ⟨t', e1, e2⟩ := file_back h.f ms hs hlen
 refine ⟨t', ms, ?_, e2, hm, he⟩
 have hsm := sm_lay t t' 0 e2
 have hck : chkO ms = 0 := by
  rcases lexO_stands (L := rn (prP 0 t)) (by omega) with ⟨e, q, g, h0, -⟩ | ⟨ms', g, -, g2, -⟩
  ·rw [hm] at g
   simp only [Prod.mk.injEq] at g
   exact absurd g.2.1.symm h0
  ·rw [hm] at g
   simp only [Prod.mk.injEq] at g
   rw [g.1]
   exact g2
 unfold txtO
 rw [hm, if_pos rfl]
 unfold parO
 rw [if_neg (by rw [hck]; simp), if_neg (by rw [lexO_ris hm]; simp), e1]
 simp only
 rw [if_neg (by have := eqAll_len hsm; have := h.n; omega), if_neg (by rw [<- dp_eq _ _ _ _ _ hsm]; have := h.d; omega)]
def prnO (t : Pt) : List UInt8 × Int := if 1024 < (wrP t).length then ([], 3) else if 4096 < (rn (prP 0 t)).length then ([], 3) else (rn (prP 0 t), 0)
def fmO (s : List UInt8) : List UInt8 × Int × Int := match txtO s with | .inl p => ([], p.1, p.2) | .inr t => ((prnO t).1, (prnO t).2, 0)
def fdB (s : List UInt8) : Bool := ((fmO s).2.1 == 0) && ((fmO s).1 == s)
theorem sm_prn {t t' : Pt} (h : smP t t') : prnO t = prnO t' := by
 unfold prnO
 rw [sm_pr t t' 0 h, sm_wr t t' h]
theorem prn_back {t : Pt} (h : TrP t) (h0 : (prnO t).2 = 0) : (prnO t).1 = rn (prP 0 t) ∧ ∃ t' ms, txtO (rn (prP 0 t)) = .inr t' ∧ smP t t' ∧ lexO (rn (prP 0 t)) = (ms, 0, 0) ∧ eqAll tkE (wrP t) ms = true := by
 unfold prnO at h0 ⊢
 split at h0
 ·simp at h0
 rename_i h1
 rw [if_neg h1]
 split at h0
 ·simp at h0
 rename_i h2
 rw [if_neg h2]
 exact ⟨rfl, prt_back h (by omega) h2⟩
theorem prn_formed {t : Pt} (h : TrP t) (h0 : (prnO t).2 = 0) : fmO (rn (prP 0 t)) = (rn (prP 0 t), 0, 0) ∧ fdB (rn (prP 0 t)) = true := by
 obtain ⟨h1, t', ms, h2, h3, -⟩ := prn_back h h0
 have e : fmO (rn (prP 0 t)) = (rn (prP 0 t), 0, 0) := by
  unfold fmO
  rw [h2]
  simp only
  rw [<- sm_prn h3, h1, h0]
 refine ⟨e, ?_⟩
 unfold fdB
 rw [e]
 simp
theorem fm_again {s : List UInt8} (h : (fmO s).2.1 = 0) : ∃ t, txtO s = .inr t ∧ TrP t ∧ (prnO t).2 = 0 ∧ fmO s = (rn (prP 0 t), 0, 0) := by
 cases ht : txtO s with
 | inl p =>
  have e : fmO s = ([], p.1, p.2) := by unfold fmO; rw [ht]
  rw [e] at h
  exact absurd h (txt_inl ht).1
 | inr t =>
  have e : fmO s = ((prnO t).1, (prnO t).2, 0) := by unfold fmO; rw [ht]
  rw [e] at h
  have h0 : (prnO t).2 = 0 := h
  have hp := txt_trp ht
  refine ⟨t, rfl, hp, h0, ?_⟩
  rw [e, (prn_back hp h0).1, h0]
def wdX (x : ByteArray) : List ByteArray := if x.data.toList = [40] ∨ x.data.toList = [41] then [] else [x]
def wdO (t : Tok) : List ByteArray := if t.kind = 5 then [] else wdX t.text
def wds (l : List Tok) : List ByteArray := (l.map wdO).flatten
theorem wds_nil : wds [] = [] := rfl
theorem wds_cons (t : Tok) (l : List Tok) : wds (t :: l) = wdO t ++ wds l := by simp [wds]
theorem wds_app (a b : List Tok) : wds (a ++ b) = wds a ++ wds b := by simp [wds]
theorem wdO_w (k : Int) (hk : k ≠ 5) (x : ByteArray) : wdO (tkW k x) = wdX x := if_neg hk
theorem wdO_sg (s : List UInt8) : wdO (sgT s) = wdX (strU s) := wdO_w 4 (by decide) _
theorem wdO_wd (s : List UInt8) : wdO (wdT s) = wdX (strU s) := wdO_w 1 (by decide) _
theorem wdO_1 (x : ByteArray) : wdO (tkW 1 x) = wdX x := wdO_w 1 (by decide) _
theorem wdO_3 (x : ByteArray) : wdO (tkW 3 x) = wdX x := wdO_w 3 (by decide) _
theorem wdO_4 (x : ByteArray) : wdO (tkW 4 x) = wdX x := wdO_w 4 (by decide) _
theorem wdO_5 (x : ByteArray) : wdO (tkW 5 x) = [] := rfl
theorem wdX_40 : wdX (strU [40]) = [] := rfl
theorem wdX_41 : wdX (strU [41]) = [] := rfl
def wv (t : Pt) : List ByteArray := wds (wrP t)
def wL (l : List Pt) : List ByteArray := wds (wPar [44] (l.map wrP))
def wE (l : List Pt) : List ByteArray := wds (wEnd (l.map wrP))
theorem wds_brk (os : List (List Tok)) : wds (wBrk os) = wds (wPar [44] os) := by
 unfold wBrk
 rw [wds_app, wds_app, wds_cons, wds_nil, wds_cons, wds_nil, wdO_sg, wdO_sg, wdX_40, wdX_41]
 simp
theorem wds_ope {k : Int} {x : ByteArray} {u : Pt} {i : Nat} : wds (opeT k x u i) = wv u := by
 unfold opeT
 split
 ·rw [wds_brk]
  show wds (wPar [44] [wrP u]) = wv u
  simp [wPar, wv]
 ·rfl
theorem wL_one (t : Pt) : wL [t] = wv t := by simp [wL, wPar, wv]
theorem wL_snoc {l : List Pt} (h : l ≠ []) (t : Pt) : wL (l ++ [t]) = wL l ++ (wdX (strU [44]) ++ wv t) := by
 unfold wL
 rw [List.map_append, show [t].map wrP = [wrP t] from rfl, par_snoc, if_neg (by simpa using h), wds_app, wds_cons, wdO_sg]
 rfl
theorem wE_nil : wE [] = [] := rfl
theorem wE_snoc (l : List Pt) (t : Pt) : wE (l ++ [t]) = wE l ++ wv t := by
 unfold wE
 rw [List.map_append, show [t].map wrP = [wrP t] from rfl, end_snoc, wds_app, wds_app, wds_cons, wds_nil]
 show _ ++ _ ++ ([] ++ []) = _
 simp [wv]
theorem wds_bra (l : List Pt) : wds (wBra (l.map wrP)) = wdX (strU [123]) ++ (wE l ++ wdX (strU [125])) := by
 unfold wBra
 rw [wds_app, wds_app, wds_cons, wds_cons, wds_nil, wdO_sg, wdO_sg]
 simp [wE]
section
variable (ts : List Tok)
def wdF (p : Nat) : List ByteArray := wds (ts.drop p)
structure TkW : Prop where
 i : ∀ p, (nxT ts p).kind = 2 -> (⟨(Lib.itoa (numT (nxT ts p))).toArray⟩ : ByteArray) = (nxT ts p).text
 q : ∀ p, (nxT ts p).kind = 3 -> quoT (valT (nxT ts p)) = (nxT ts p).text
 e : ∀ p, (nxT ts p).kind = 5 -> (nxT ts p).text.data.toList = [59] ∨ (nxT ts p).text.data.toList = []
def gw {α : Type} (f : α -> List ByteArray) (W : List ByteArray) (r : Rs α) : Prop := match r with | .ok v q => W = f v ++ wdF ts q | _ => True
end
section
variable {ts : List Tok} {α β : Type} {f : α -> List ByteArray} {g : β -> List ByteArray} {W W0 : List ByteArray}
theorem wdF_in {p : Nat} (h : p < ts.length) : wdF ts p = wdO (nxT ts p) ++ wdF ts (p + 1) := by
 unfold wdF
 rw [List.drop_eq_getElem_cons h, wds_cons]
 congr 2
 unfold nxT
 rw [List.getD_eq_getElem?_getD, List.getElem?_eq_getElem h]
 rfl
theorem in_kind {p : Nat} (h : (nxT ts p).kind ≠ 0) : p < ts.length := by
 by_cases hp : p < ts.length
 ·exact hp
 ·exfalso
  apply h
  unfold nxT
  rw [List.getD_eq_getElem?_getD, List.getElem?_eq_none (by omega)]
  rfl
theorem in_text {p : Nat} (h : (nxT ts p).text.data.toList ≠ []) : p < ts.length := by
 by_cases hp : p < ts.length
 ·exact hp
 ·exfalso
  apply h
  unfold nxT
  rw [List.getD_eq_getElem?_getD, List.getElem?_eq_none (by omega)]
  rfl
theorem wd_is (hK : TkW ts) {p : Nat} {s : List UInt8} (h : isT ts p s = true) (h0 : (s == []) = false := by rfl) (h1 : (s == [59]) = false := by rfl) : wdF ts p = wdX (strU s) ++ wdF ts (p + 1) := by
 have e : (nxT ts p).text.data.toList = s := by simpa [isT] using h
 rw [wdF_in (in_text (by rw [e]; simpa using h0))]
 congr 1
 unfold wdO
 rw [if_neg (fun h5 => by rcases hK.e p h5 with h | h <;> rw [e] at h <;> rw [h] at h0 h1 <;> simp at h0 h1)]
 congr 1
 rw [<- e]
 rfl
theorem wd_kin {p : Nat} (h : (nxT ts p).kind ≠ 0) (h5 : (nxT ts p).kind ≠ 5) : wdF ts p = wdX (nxT ts p).text ++ wdF ts (p + 1) := by
 rw [wdF_in (in_kind h)]
 unfold wdO
 rw [if_neg h5]
theorem wd_end {p : Nat} (h5 : (nxT ts p).kind = 5) : wdF ts p = wdF ts (p + 1) := by
 rw [wdF_in (in_kind (by rw [h5]; decide))]
 unfold wdO
 rw [if_pos h5]
 rfl
theorem wd_nam {p : Nat} (h : namB ts p = true) : wdF ts p = wdX (nxT ts p).text ++ wdF ts (p + 1) := by
 unfold namB at h
 rw [Bool.and_eq_true, beq_iff_eq] at h
 exact wd_kin (by rw [h.1]; decide) (by rw [h.1]; decide)
theorem gw_bind {r : Rs α} {k : α -> Nat -> Rs β} (h : gw ts f W r) (hk : ∀ v q, W = f v ++ wdF ts q -> gw ts g W0 (k v q)) : gw ts g W0 (r.bind k) := by
 cases r with
 | ok v q => exact hk v q h
 | bad s => trivial
 | out => trivial
theorem gw_bindP {P : α -> Prop} {r : Rs α} {k : α -> Nat -> Rs β} (hp : gd P r) (h : gw ts f W r) (hk : ∀ v q, P v -> W = f v ++ wdF ts q -> gw ts g W0 (k v q)) : gw ts g W0 (r.bind k) := by
 cases r with
 | ok v q => exact hk v q hp h
 | bad s => trivial
 | out => trivial
theorem gw_need {b : Bool} {s : Int} {k : Rs α} (h : b = true -> gw ts f W k) : gw ts f W (Rs.need b s k) := by
 unfold Rs.need
 split
 ·rename_i hb; exact h hb
 ·trivial
theorem gw_ite {c : Prop} [Decidable c] {a b : Rs α} (h : c -> gw ts f W a) (h' : ¬ c -> gw ts f W b) : gw ts f W (if c then a else b) := by
 split
 ·rename_i hc; exact h hc
 ·rename_i hc; exact h' hc
theorem gw_exp {p : Nat} {s : List UInt8} {k : Nat -> Rs α} (h : isT ts p s = true -> gw ts f W (k (p + 1))) : gw ts f W (expP ts s p k) := gw_need h
theorem gw_nam {p : Nat} {k : Tok -> Nat -> Rs α} (h : namB ts p = true -> gw ts f W (k (nxT ts p) (p + 1))) : gw ts f W (namP ts p k) := gw_need h
theorem gw_kin {p : Nat} {n : Int} {k : Tok -> Nat -> Rs α} (h : (nxT ts p).kind = n -> gw ts f W (k (nxT ts p) (p + 1))) : gw ts f W (kinP ts n p k) := gw_need fun hb => h (by simpa using hb)
theorem gw_ok {v : α} {q : Nat} (h : W = f v ++ wdF ts q) : gw ts f W (.ok v q) := h
theorem lea_wd {p : Nat} {k : Int} (hk : k = 10 ∨ k = 11 ∨ k = 22 ∨ k = 23) (h : wdF ts p = wdX (nxT ts p).text ++ wdF ts (p + 1)) : gw ts wv (wdF ts p) (leaP ts k p) := by
 refine gw_ok ?_
 rw [h]
 congr 1
 unfold wv
 rcases hk with rfl | rfl | rfl | rfl
 ·rw [wr_ten, wds_cons, wdO_1, wds_nil, List.append_nil]
 ·rw [wr_eleven, wds_cons, wdO_1, wds_nil, List.append_nil]
 ·rw [wr_bool, wds_cons, wdO_1, wds_nil, List.append_nil]
 ·rw [wr_name, wds_cons, wdO_1, wds_nil, List.append_nil]
theorem wor_wd {p : Nat} {k : Int} (hk : k = 11 ∨ k = 23) : gw ts wv (wdF ts p) (worP ts k p) := gw_need fun hb => lea_wd (by rcases hk with h | h <;> simp [h]) (wd_nam hb)
theorem is_wdX {p : Nat} {s : List UInt8} (h : isT ts p s = true) : wdX (nxT ts p).text = wdX (strU s) := by rw [is_txt h]
theorem va1_wd (hK : TkW ts) (p : Nat) : gw ts wv (wdF ts p) (va1P ts p) := by
 unfold va1P
 refine gw_ite (fun h => gw_ok ?_) fun _ => gw_ite (fun h => gw_ok ?_) fun _ => gw_ite (fun h => lea_wd (by simp) ?_) fun _ => trivial
 ·have hk : (nxT ts p).kind = 2 := by simpa using h
  rw [wd_kin (by rw [hk]; decide) (by rw [hk]; decide)]
  congr 1
  unfold wv
  rw [wr_int, wds_cons, wds_nil, List.append_nil, <- hK.i p hk]
  rfl
 ·have hk : (nxT ts p).kind = 3 := by simpa using h
  rw [wd_kin (by rw [hk]; decide) (by rw [hk]; decide)]
  congr 1
  unfold wv
  rw [wr_text, wds_cons, wds_nil, List.append_nil, wdO_3, hK.q p hk]
 ·rw [Bool.or_eq_true] at h
  rcases h with h | h
  ·rw [wd_is hK h, is_wdX h]
  ·rw [wd_is hK h, is_wdX h]
theorem val_wd (hK : TkW ts) (p : Nat) : gw ts wv (wdF ts p) (valP ts p) := by
 unfold valP
 refine gw_ite (fun h => gw_ite (fun _ => gw_bind (va1_wd hK _) fun v q hv => gw_ok ?_) fun _ => trivial) fun _ => va1_wd hK p
 rw [wd_is hK h, hv]
 have e : wv (.mk 26 (nxT ts p).text 0 (nxT ts p).pos (herI ts p) (behI ts q) [v]) = wdX (strU [45]) ++ wv v := by
  unfold wv
  rw [wr_una, wds_cons, wdO_4, is_wdX h, wds_ope]
  rfl
 rw [e, List.append_assoc]
theorem wor_bind {p : Nat} {k : Int} {K : Pt -> Nat -> Rs α} (h : namB ts p = true -> gw ts f W (K (.mk k (nxT ts p).text 0 (nxT ts p).pos (herI ts p) (behI ts (p + 1)) []) (p + 1))) : gw ts f W ((worP ts k p).bind K) := by
 unfold worP leaP Rs.need
 split
 ·rename_i hb; exact h hb
 ·trivial
theorem typ_wd (hK : TkW ts) (p : Nat) : gw ts wv (wdF ts p) (typP ts p) := by
 unfold typP
 refine gw_ite (fun h => lea_wd (by simp) ?_) fun _ => gw_ite (fun _ => ?_) fun _ => wor_wd (.inl rfl)
 ·simp only [Bool.or_eq_true] at h
  rcases h with (h | h) | h
  ·rw [wd_is hK h, is_wdX h]
  ·rw [wd_is hK h, is_wdX h]
  ·rw [wd_is hK h, is_wdX h]
 ·refine wor_bind fun hb => gw_exp fun h46 => gw_nam fun hn => gw_ok ?_
  rw [wd_nam hb, wd_is hK h46, wd_nam hn]
  unfold wv
  rw [wr_twelve, wds_cons, wds_cons, wds_cons, wds_nil, wdO_1, wdO_sg, wdO_1]
  simp
theorem tyd_wd (hK : TkW ts) {k : Int} (hk : k = 6 ∨ k = 9) (p : Nat) : gw ts wv (wdF ts p) (tydP ts k p) := by
 unfold tydP
 refine gw_nam fun hn => gw_bind (typ_wd hK _) fun v q hv => gw_ok ?_
 rw [wd_nam hn, hv]
 unfold wv
 rw [wr_pm hk, wds_cons, wdO_1, List.append_assoc]
theorem lis_wd (hK : TkW ts) {one : Nat -> Rs Pt} {more : List Pt -> Nat -> Rs (List Pt)} (h1 : ∀ q, gw ts wv (wdF ts q) (one q)) (h2 : ∀ l q, l ≠ [] -> gw ts wL (wL l ++ wdF ts q) (more l q)) (p : Nat) : gw ts wL (wdF ts p) (lisP ts one more p) := by
 unfold lisP
 refine gw_exp fun h40 => gw_ite (fun h41 => gw_ok ?_) fun _ => gw_bind (h1 _) fun v q hv => gw_bind (h2 _ _ (by simp)) fun l q hl => gw_exp fun h41 => gw_ok ?_
 ·rw [wd_is hK h40, wd_is hK h41, wdX_40, wdX_41]
  rfl
 ·rw [wd_is hK h40, wdX_40, hv, List.nil_append, <- wL_one, hl, wd_is hK h41, wdX_41]
  rfl
theorem lin_wd (hK : TkW ts) {more : List Pt -> Nat -> Rs (List Pt)} (h2 : ∀ l q, gw ts wE (wE l ++ wdF ts q) (more l q)) (p : Nat) : gw ts (fun l => wds (wBra (l.map wrP))) (wdF ts p) (linP ts more p) := by
 unfold linP
 refine gw_exp fun h1 => gw_bind (h2 _ _) fun l q hl => gw_exp fun h3 => gw_ok ?_
 rw [wE_nil, List.nil_append] at hl
 rw [wd_is hK h1, hl, wd_is hK h3, wds_bra]
 simp
structure WdA (ts : List Tok) (n : Nat) : Prop where
 bin : ∀ l p, gw ts wv (wdF ts p) ((fns ts n).bin l p)
 binL : ∀ l fr t p, gw ts wv (wv t ++ wdF ts p) ((fns ts n).binL l fr t p)
 una : ∀ p, gw ts wv (wdF ts p) ((fns ts n).una p)
 post : ∀ p, gw ts wv (wdF ts p) ((fns ts n).post p)
 posL : ∀ fr t p, gw ts wv (wv t ++ wdF ts p) ((fns ts n).posL fr t p)
 prim : ∀ p, gw ts wv (wdF ts p) ((fns ts n).prim p)
 argL : ∀ l p, l ≠ [] -> gw ts wL (wL l ++ wdF ts p) ((fns ts n).argL l p)
 parL : ∀ l p, l ≠ [] -> gw ts wL (wL l ++ wdF ts p) ((fns ts n).parL l p)
 fieL : ∀ l p, gw ts wE (wE l ++ wdF ts p) ((fns ts n).fieL l p)
 stmt : ∀ p, gw ts wv (wdF ts p) ((fns ts n).stmt p)
 bran : ∀ p, gw ts wv (wdF ts p) ((fns ts n).bran p)
 stmL : ∀ l p, gw ts wE (wE l ++ wdF ts p) ((fns ts n).stmL l p)
 impL : ∀ l p, gw ts wE (wE l ++ wdF ts p) ((fns ts n).impL l p)
 decL : ∀ l p, gw ts wE (wE l ++ wdF ts p) ((fns ts n).decL l p)
theorem blo_wd (hK : TkW ts) {n : Nat} (h : WdA ts n) (p : Nat) : gw ts wv (wdF ts p) (bloP ts (fns ts n) p) := by
 unfold bloP
 refine gw_bind (lin_wd hK h.stmL p) fun l q hl => gw_ok ?_
 rw [hl]
 unfold wv
 rw [wr_blo]
theorem var_wd (hK : TkW ts) {n : Nat} (h : WdA ts n) (p : Nat) : gw ts wv (wdF ts p) (varP ts (fns ts n) p) := by
 unfold varP
 refine gw_exp fun h1 => gw_nam fun h2 => gw_bind (typ_wd hK _) fun v q hv => gw_ite (fun h3 => gw_bind (h.bin _ _) fun x q' hx => gw_ok ?_) fun _ => gw_ok ?_
 ·rw [wd_is hK h1, wd_nam h2, hv, wd_is hK h3, hx]
  unfold wv
  rw [wr_var2, wds_cons, wds_cons, wds_app, wds_cons, wdO_wd, wdO_1, wdO_4]
  simp
 ·rw [wd_is hK h1, wd_nam h2, hv]
  unfold wv
  rw [wr_var1, wds_cons, wds_cons, wdO_wd, wdO_1]
  simp
theorem imp_wd (hK : TkW ts) (p : Nat) : gw ts wv (wdF ts p) (impP ts p) := by
 unfold impP
 refine gw_exp fun h1 => gw_kin fun h3 => gw_ok ?_
 rw [wd_is hK h1, wd_kin (by rw [h3]; decide) (by rw [h3]; decide)]
 unfold wv
 rw [wr_imp, wds_cons, wds_cons, wds_nil, wdO_wd, wdO_3, hK.q _ h3]
 simp
theorem con_wd (hK : TkW ts) (p : Nat) : gw ts wv (wdF ts p) (conP ts p) := by
 unfold conP
 refine gw_exp fun h1 => gw_nam fun h2 => gw_exp fun h3 => gw_bind (val_wd hK _) fun v q hv => gw_ok ?_
 rw [wd_is hK h1, wd_nam h2, wd_is hK h3, hv]
 unfold wv
 rw [wr_con, wds_cons, wds_cons, wds_cons, wdO_wd, wdO_1, wdO_sg]
 simp
theorem str_wd (hK : TkW ts) {n : Nat} (h : WdA ts n) (p : Nat) : gw ts wv (wdF ts p) (strP ts (fns ts n) p) := by
 unfold strP
 refine gw_exp fun h1 => gw_nam fun h2 => gw_exp fun h3 => gw_bind (lin_wd hK h.fieL _) fun l q hl => gw_ok ?_
 rw [wd_is hK h1, wd_nam h2, wd_is hK h3, hl]
 unfold wv
 rw [wr_str', wds_cons, wds_cons, wds_cons, wdO_wd, wdO_1, wdO_wd]
 simp
theorem funR_wd (hK : TkW ts) (hG : ∀ p, tgood (nxT ts p)) {n : Nat} (h : WdA ts n) (fr : Int) (l : List Pt) (hr : ReL l) (p : Nat) : gw ts wv (wdX (strU [102, 117, 110, 99]) ++ (wds (wRec l) ++ wdF ts p)) (funR ts (fns ts n) fr l p) := by
 have hA := gdA hG n
 unfold funR
 refine gw_nam fun h2 => gw_bindP (gd_lis (P := fun u => Pm 9 u ∧ okP u) (fun q => gd_tyd hG (.inr rfl) q) hA.parL _) (lis_wd hK (fun q => tyd_wd hK (.inr rfl) q) h.parL _) fun ps q hps hpw => gw_ite (fun _ => gw_bindP (gd_blo hA _) (blo_wd hK h _) fun b q' hb hbw => gw_ok ?_) fun _ => gw_bindP (gd_typ hG _) (typ_wd hK _) fun v q1 hv hvw => gw_bindP (gd_blo hA _) (blo_wd hK h _) fun b q' hb hbw => gw_ok ?_
 ·have e := wr_fun (a := (nxT ts p).pos) (f := fr) (t := behI ts q') (x := (nxT ts p).text) hr (fun u hu => (hps u hu).1) (.inl rfl) hb.bl
  rw [List.append_nil] at e
  rw [wd_nam h2, hpw, hbw]
  unfold wv
  rw [e, wds_cons, wds_app, wds_cons, wds_app, wds_app, wds_brk, wdO_wd, wdO_1]
  simp [wL, wds]
 ·have e := wr_fun (a := (nxT ts p).pos) (f := fr) (t := behI ts q') (x := (nxT ts p).text) hr (fun u hu => (hps u hu).1) (.inr ⟨v, rfl, hv.1⟩) hb.bl
  rw [wd_nam h2, hpw, hvw, hbw]
  unfold wv
  rw [e, wds_cons, wds_app, wds_cons, wds_app, wds_app, wds_brk, wdO_wd, wdO_1]
  simp [wL, wds]
theorem rec_wd {p : Nat} : gw ts (fun v => wds (wRec [v])) (wdF ts p) (recP ts p) := by
 unfold recP
 refine gw_nam fun h1 => wor_bind fun h2 => gw_ok ?_
 rw [wd_nam h1, wd_nam h2]
 show _ = wds (wBrk [wrP _]) ++ _
 rw [wds_brk, wr_rec]
 simp only [wPar, List.map_nil, List.flatten_nil, List.append_nil]
 rw [wds_cons, wds_cons, wds_nil, wdO_1, wdO_1]
 simp
theorem fun_wd (hK : TkW ts) (hG : ∀ p, tgood (nxT ts p)) {n : Nat} (h : WdA ts n) (p : Nat) : gw ts wv (wdF ts p) (funP ts (fns ts n) p) := by
 unfold funP
 refine gw_exp fun h1 => gw_ite (fun h40 => gw_bindP (gd_rec hG _) rec_wd fun v q hv hvw => gw_exp fun h41 => ?_) fun _ => ?_
 ·have e := funR_wd hK hG h (herI ts p) [v] hv.1 (q + 1)
  rw [wd_is hK h1, wd_is hK h40, wdX_40, hvw, wd_is hK h41, wdX_41]
  exact e
 ·have e := funR_wd hK hG h (herI ts p) [] (.inl rfl) (p + 1)
  rw [wd_is hK h1]
  exact e
theorem dec_wd (hK : TkW ts) (hG : ∀ p, tgood (nxT ts p)) {n : Nat} (h : WdA ts n) (p : Nat) : gw ts wv (wdF ts p) (decP ts (fns ts n) p) := by
 unfold decP
 exact gw_ite (fun _ => con_wd hK p) fun _ => gw_ite (fun _ => var_wd hK h p) fun _ => gw_ite (fun _ => str_wd hK h p) fun _ => gw_ite (fun _ => fun_wd hK hG h p) fun _ => trivial
theorem wdA (hK : TkW ts) (hG : ∀ p, tgood (nxT ts p)) (n : Nat) : WdA ts n := by
 induction n with
 | zero => constructor <;> (intros; trivial)
 | succ n ih =>
  have hblo : ∀ p, gw ts wv (wdF ts p) (bloP ts (fns ts n) p) := fun p => blo_wd hK ih p
  constructor
  ·intro l p
   exact gw_ite (fun _ => ih.una p) fun _ => gw_bind (ih.bin _ _) fun t q ht => by rw [ht]; exact ih.binL _ _ _ _
  ·intro l fr t p
   refine gw_ite (fun h => gw_bind (ih.bin _ _) fun u q hu => ?_) fun _ => gw_ok rfl
   have hr : 0 <= rowI (nxT ts p).text := by omega
   have hrow : wdF ts p = wdX (nxT ts p).text ++ wdF ts (p + 1) := by
    have hne : (nxT ts p).text.data.toList ≠ [] := fun e => by
     have e2 : (nxT ts p).text = ⟨#[]⟩ := by rw [<- strU_of (nxT ts p).text, e]; rfl
     rw [e2] at hr
     exact absurd hr (by decide)
    have h5 : (nxT ts p).kind ≠ 5 := fun e => by
     rcases hK.e p e with e | e
     ·have e2 : (nxT ts p).text = strU [59] := by rw [<- strU_of (nxT ts p).text, e]
      rw [e2] at hr
      exact absurd hr (by decide)
     ·exact hne e
    rw [wdF_in (in_text hne)]
    unfold wdO
    rw [if_neg h5]
   have e : wv t ++ wdF ts p = wv (.mk 27 (nxT ts p).text 0 (nxT ts p).pos fr (behI ts q) [t, u]) ++ wdF ts q := by
    rw [hrow, hu]
    show wv t ++ _ = wds (wrP _) ++ _
    rw [wr_bin, wds_app, wds_cons, wdO_4, wds_ope, wds_ope]
    simp
   rw [e]
   exact gw_ite (fun _ => gw_ok rfl) fun _ => ih.binL _ _ _ _
  ·intro p
   refine gw_ite (fun h => gw_bind (ih.una _) fun u q hu => gw_ok ?_) fun _ => ih.post p
   rw [Bool.or_eq_true] at h
   have e : wdF ts p = wdX (nxT ts p).text ++ wdF ts (p + 1) := by
    rcases h with h | h
    ·rw [wd_is hK h, is_wdX h]
    ·rw [wd_is hK h, is_wdX h]
   rw [e, hu]
   unfold wv
   rw [wr_una, wds_cons, wdO_4, wds_ope, List.append_assoc]
   rfl
  ·intro p
   exact gw_bind (ih.prim p) fun t q ht => by rw [ht]; exact ih.posL _ _ _
  ·intro fr t p
   refine gw_ite (fun h => gw_nam fun hn => ?_) fun _ => gw_ite (fun h => gw_bind (lis_wd hK (fun q => ih.bin 0 q) ih.argL p) fun l q hl => ?_) fun _ => gw_ok rfl
   ·have e : wv t ++ wdF ts p = wv (.mk 24 (nxT ts (p + 1)).text 0 (nxT ts (p + 1)).pos fr (behI ts (p + 1 + 1)) [t]) ++ wdF ts (p + 1 + 1) := by
     rw [wd_is hK h, wd_nam hn]
     show wv t ++ _ = wds (wrP _) ++ _
     rw [wr_dot, wds_app, wds_cons, wds_cons, wds_nil, wdO_sg, wdO_1, wds_ope]
     simp
    rw [e]
    exact ih.posL _ _ _
   ·have e : wv t ++ wdF ts p = wv (.mk 25 ⟨#[]⟩ 0 fr fr (behI ts q) ([t] ++ l)) ++ wdF ts q := by
     rw [hl]
     show wv t ++ _ = wds (wrP (.mk 25 ⟨#[]⟩ 0 fr fr (behI ts q) (t :: l))) ++ _
     rw [wr_call, wds_app, wds_ope, wds_brk, List.append_assoc]
     rfl
    rw [e]
    exact ih.posL _ _ _
  ·intro p
   refine gw_ite (fun h => gw_bind (ih.bin _ _) fun t q ht => gw_exp fun h41 => gw_ok ?_) fun _ => gw_ite (fun h => lea_wd (by simp) (wd_nam h)) fun _ => va1_wd hK p
   rw [wd_is hK h, wdX_40, ht, wd_is hK h41, wdX_41]
   rfl
  ·intro l p hl
   refine gw_ite (fun h => gw_bind (ih.bin _ _) fun t q ht => ?_) fun _ => gw_ok rfl
   rw [wd_is hK h, ht, <- List.append_assoc, <- List.append_assoc, List.append_assoc (wL l), <- wL_snoc hl]
   exact ih.argL _ _ (by simp)
  ·intro l p hl
   refine gw_ite (fun h => gw_bind (tyd_wd hK (.inr rfl) _) fun t q ht => ?_) fun _ => gw_ok rfl
   rw [wd_is hK h, ht, <- List.append_assoc, <- List.append_assoc, List.append_assoc (wL l), <- wL_snoc hl]
   exact ih.parL _ _ (by simp)
  ·intro l p
   refine gw_ite (fun _ => gw_ok rfl) fun _ => gw_bind (tyd_wd hK (.inl rfl) _) fun t q ht => ?_
   rw [ht, <- List.append_assoc, <- wE_snoc]
   exact gw_ite (fun _ => ih.fieL _ _) fun _ => gw_kin fun h5 => by rw [wd_end h5]; exact ih.fieL _ _
  ·intro p
   refine gw_ite (fun _ => hblo p) fun _ => gw_ite (fun _ => var_wd hK ih p) fun _ => gw_ite (fun _ => ih.bran p) fun _ => gw_ite (fun _ => ?_) fun _ => gw_ite (fun _ => ?_) fun _ => gw_ite (fun _ => ?_) fun _ => ?_
   ·unfold looP
    refine gw_exp fun h1 => gw_bind (ih.bin _ _) fun x q hx => gw_bind (hblo _) fun b q' hb => gw_ok ?_
    rw [wd_is hK h1, hx, hb]
    unfold wv
    rw [wr_loop, wds_cons, wds_app, wdO_wd]
    simp
   ·unfold resP
    refine gw_exp fun h1 => gw_ite (fun _ => gw_bind (ih.bin _ _) fun x q hx => gw_ok ?_) fun _ => gw_ok ?_
    ·rw [wd_is hK h1, hx]
     unfold wv
     rw [wr_res1, wds_cons, wdO_wd]
     simp
    ·rw [wd_is hK h1]
     unfold wv
     rw [wr_res0, wds_cons, wdO_wd, wds_nil]
     simp
   ·unfold shoP
    refine gw_nam fun h1 => gw_exp fun h2 => gw_bind (ih.bin _ _) fun x q hx => gw_ok ?_
    rw [wd_nam h1, wd_is hK h2, hx]
    unfold wv
    rw [wr_short, wds_cons, wds_cons, wdO_1, wdO_4]
    simp
   ·unfold simP
    refine gw_bind (ih.bin _ _) fun x q hx => gw_ite (fun h1 => gw_bind (ih.bin _ _) fun y q' hy => gw_ok ?_) fun _ => gw_ok ?_
    ·rw [hx, wd_is hK h1, hy]
     unfold wv
     rw [wr_assign, wds_app, wds_cons, wdO_4]
     simp
    ·rw [hx]
     unfold wv
     rw [wr_expr]
  ·intro p
   unfold fns
   dsimp only
   refine gw_exp fun h1 => gw_bind (ih.bin _ _) fun x q hx => gw_bind (hblo _) fun b q' hb => gw_ite (fun h2 => gw_bind (f := wv) (W := wdF ts (q' + 1)) (gw_ite (fun _ => ih.bran _) fun _ => hblo _) fun c q3 hc => gw_ok ?_) fun _ => gw_ok ?_
   ·rw [wd_is hK h1, hx, hb, wd_is hK h2, hc]
    unfold wv
    rw [wr_if2, wds_cons, wds_app, wds_app, wds_cons, wdO_wd, wdO_wd]
    simp
   ·rw [wd_is hK h1, hx, hb]
    unfold wv
    rw [wr_if1, wds_cons, wds_app, wdO_wd]
    simp
  ·intro l p
   refine gw_ite (fun _ => gw_ok rfl) fun _ => gw_bind (ih.stmt _) fun t q ht => ?_
   rw [ht, <- List.append_assoc, <- wE_snoc]
   exact gw_ite (fun _ => ih.stmL _ _) fun _ => gw_kin fun h5 => by rw [wd_end h5]; exact ih.stmL _ _
  ·intro l p
   refine gw_ite (fun _ => gw_bind (imp_wd hK _) fun t q ht => ?_) fun _ => gw_ok rfl
   rw [ht, <- List.append_assoc, <- wE_snoc]
   exact gw_kin fun h5 => by rw [wd_end h5]; exact ih.impL _ _
  ·intro l p
   refine gw_ite (fun _ => gw_bind (dec_wd hK hG ih p) fun t q ht => ?_) fun _ => gw_ok rfl
   rw [ht, <- List.append_assoc, <- wE_snoc]
   exact gw_kin fun h5 => by rw [wd_end h5]; exact ih.decL _ _
end
theorem aln_end {t : Tok} (h : alnB t = true) (hk : t.kind = 5) : t.text.data.toList = [59] := by
 obtain ⟨h1, h2, h3⟩ := aln_look h
 rw [hk] at h1
 generalize t.text.data.toList = L at h1 h3 ⊢
 cases L with
 | nil => exact absurd rfl h3
 | cons c r =>
  unfold lookR at h1
  simp only at h1
  split at h1
  ·simp at h1
  split at h1
  ·simp at h1
  split at h1
  ·rename_i hc
   simp only [Prod.mk.injEq, List.length_cons] at h1
   have hr : r = [] := List.eq_nil_of_length_eq_zero (by have := h1.2.1; omega)
   subst hr
   have hc' : c.toNat = 59 := by
    unfold clsI at hc
    repeat' split at hc
    all_goals first | omega | (cases hc)
   have : c = 59 := UInt8.toNat_inj.1 hc'
   rw [this]
  split at h1
  ·simp only [Prod.mk.injEq] at h1; exact absurd h1.1 (by decide)
  split at h1
  ·simp only [Prod.mk.injEq] at h1; exact absurd h1.1 (by decide)
  split at h1
  ·simp only [Prod.mk.injEq] at h1; exact absurd h1.1 (by decide)
  split at h1
  ·simp at h1
  ·simp only [Prod.mk.injEq] at h1; exact absurd h1.1 (by decide)
theorem chkF_each : ∀ (ts : List Tok) (last : Tok), chkF last ts = true -> ∀ t ∈ ts, bareB t = true ∨ alnB t = true
 | [], _, _ => fun t ht => by simp at ht
 | x :: r, last, h => fun t ht => by
  rw [chkF] at h
  split at h
  ·rename_i hb
   split at h
   ·rcases List.mem_cons.1 ht with rfl | ht
    ·exact .inl hb
    ·exact chkF_each r x h t ht
   ·cases h
  ·split at h
   ·rename_i ha
    rcases List.mem_cons.1 ht with rfl | ht
    ·exact .inr ha
    ·exact chkF_each r x h t ht
   ·cases h
theorem chk_tkw {ts : List Tok} (h : chkO ts = 0) : TkW ts := by
 have key : ∀ p, (nxT ts p).kind ≠ 0 -> bareB (nxT ts p) = true ∨ alnB (nxT ts p) = true := fun p hk => by
  unfold chkO at h
  split at h
  ·cases h
  split at h
  ·rename_i hc
   have hp := in_kind hk
   exact chkF_each ts _ hc _ (by unfold nxT; rw [List.getD_eq_getElem?_getD, List.getElem?_eq_getElem hp]; simp)
  ·cases h
 refine ⟨fun p hk => ?_, fun p hk => ?_, fun p hk => ?_⟩
 ·rcases key p (by rw [hk]; decide) with hb | ha
  ·have := (bare_clo hb).2.1
   rw [hk] at this
   exact absurd this (by decide)
  ·obtain ⟨m, hm⟩ := (aln_kinds ha).2.1 hk
   have hn : numT (nxT ts p) = m := by unfold numT numO; rw [if_pos hk, hm]
   have hd := decO_digits hm
   have hi : Lib.itoa (numT (nxT ts p)) = (nxT ts p).text.data.toList := by rw [hn]; unfold Lib.itoa; rw [if_neg (by omega), Int.toNat_natCast, hd]
   rw [hi]
 ·rcases key p (by rw [hk]; decide) with hb | ha
  ·have := (bare_clo hb).2.1
   rw [hk] at this
   exact absurd this (by decide)
  ·obtain ⟨v, hv⟩ := (aln_kinds ha).2.2 hk
   obtain ⟨hq, hl⟩ := unqO_quo hv
   have hz : (nxT ts p).text.size = (nxT ts p).text.data.toList.length := by simp
   have hval : valT (nxT ts p) = strU v := by
    unfold valT valO
    rw [if_pos hk, hv]
    simp only [hz, if_true]
   rw [hval]
   unfold quoT
   rw [show (strU v).data.toList = v by simp [strU], hq]
   rfl
 ·rcases key p (by rw [hk]; decide) with hb | ha
  ·right
   have := (bare_clo hb).2.2
   rw [ByteArray.toList_eq] at this
   exact this
  ·exact .inl (aln_end ha hk)
theorem decL_q {ts : List Tok} : ∀ (n : Nat) (l : List Pt) (p : Nat) (v : List Pt) (q : Nat), (fns ts n).decL l p = .ok v q -> ts.length <= q
 | 0, l, p, v, q, h => by cases h
 | n + 1, l, p, v, q, h => by
  have h' : (if p < ts.length then (decP ts (fns ts n) p).bind fun t q => kinP ts 5 q fun _ q => (fns ts n).decL (l ++ [t]) q else .ok l p) = .ok v q := h
  split at h'
  ·cases hd : decP ts (fns ts n) p with
   | ok t q1 =>
    rw [hd] at h'
    have h2 : kinP ts 5 q1 (fun _ q => (fns ts n).decL (l ++ [t]) q) = .ok v q := h'
    unfold kinP Rs.need at h2
    split at h2
    ·exact decL_q n _ _ _ _ h2
    ·cases h2
   | bad s => rw [hd] at h'; cases h'
   | out => rw [hd] at h'; cases h'
  ·rename_i hp
   injection h' with h1 h2
   omega
theorem fil_wds {ts : List Tok} {t : Pt} {q : Nat} (hc : chkO ts = 0) (h : filO ts = .ok t q) : wds ts = wds (wrP t) := by
 have hK := chk_tkw hc
 have ih := wdA hK (chk_good hc) (12 * ts.length + 12)
 have h' : filP ts (12 * ts.length + 12) 0 = .ok t q := h
 have hw : gw ts (fun v => wv v) (wdF ts 0) (filP ts (12 * ts.length + 12) 0) := by
  unfold filP
  refine gw_exp fun h1 => gw_nam fun h2 => gw_kin fun h3 => gw_bind (ih.impL [] _) fun l q hl => gw_bind (ih.decL _ _) fun l' q' hl' => gw_ok ?_
  rw [wE_nil, List.nil_append] at hl
  rw [wd_is hK h1, wd_nam h2, wd_end h3, hl, hl']
  show _ = wds (wrP _) ++ _
  have e := wr_file (nxT ts (0 + 1)).text (nxT ts (0 + 1)).pos (herI ts 0) (behI ts q') [] l'
  rw [List.nil_append] at e
  rw [e, wds_cons, wds_cons, wds_cons, wds_app, wdO_wd, wdO_1, wdO_5]
  show _ = _ ++ (_ ++ ([] ++ (wds [] ++ wE l'))) ++ _
  rw [wds_nil]
  simp
 have hq : ts.length <= q := by
  unfold filP expP namP kinP Rs.need at h'
  split at h'
  ·dsimp only at h'
   split at h'
   ·try dsimp only at h'
    split at h'
    ·cases hi : (fns ts (12 * ts.length + 12)).impL [] (0 + 1 + 1 + 1) with
     | ok l q1 =>
      rw [hi] at h'
      have h2 : ((fns ts (12 * ts.length + 12)).decL l q1).bind (fun l q => Rs.ok (Pt.mk 1 (nxT ts (0 + 1)).text 0 (nxT ts (0 + 1)).pos (herI ts 0) (behI ts q) l) q) = .ok t q := h'
      cases hd : (fns ts (12 * ts.length + 12)).decL l q1 with
      | ok l2 q2 =>
       rw [hd] at h2
       have h3 : Rs.ok (Pt.mk 1 (nxT ts (0 + 1)).text 0 (nxT ts (0 + 1)).pos (herI ts 0) (behI ts q2) l2) q2 = .ok t q := h2
       injection h3 with _ h4
       have := decL_q _ _ _ _ _ hd
       omega
      | bad s => rw [hd] at h2; cases h2
      | out => rw [hd] at h2; cases h2
     | bad s => rw [hi] at h'; cases h'
     | out => rw [hi] at h'; cases h'
    ·cases h'
   ·cases h'
  ·cases h'
 rw [h'] at hw
 have hw' : wdF ts 0 = wv t ++ wdF ts q := hw
 unfold wdF at hw'
 rw [List.drop_zero, List.drop_eq_nil_of_le hq, wds_nil, List.append_nil] at hw'
 exact hw'
theorem wds_E : ∀ (ws ms : List Tok), eqAll tkE ws ms = true -> wds ws = wds ms
 | [], [], _ => rfl
 | [], _ :: _, h => by simp [eqAll] at h
 | _ :: _, [], h => by simp [eqAll] at h
 | a :: r, b :: s, h => by
  rw [eqAll, Bool.and_eq_true] at h
  rw [wds_cons, wds_cons, wds_E r s h.2]
  congr 1
  have h1 := h.1
  unfold tkE at h1
  simp only [Bool.and_eq_true, Bool.or_eq_true, beq_iff_eq] at h1
  unfold wdO
  rw [<- h1.1]
  split
  ·rfl
  ·rename_i h5
   rcases h1.2 with e | e
   ·rw [ByteArray.toList_eq, ByteArray.toList_eq] at e
    have e2 : a.text = b.text := ByteArray.ext (Array.toList_inj.1 e)
    rw [e2]
   ·exact absurd e.1 h5
theorem fm_words {s : List UInt8} {t : Pt} (h : txtO s = .inr t) (h0 : (prnO t).2 = 0) : ∃ ts ms, lexO s = (ts, 0, 0) ∧ lexO (rn (prP 0 t)) = (ms, 0, 0) ∧ wds ts = wds ms := by
 obtain ⟨ts, q, h1, h2, h3, -, -⟩ := txt_inr h
 obtain ⟨-, t', ms, -, -, h6, h7⟩ := prn_back (txt_trp h) h0
 exact ⟨ts, ms, h1, h6, by rw [fil_wds h2 h3, wds_E _ _ h7]⟩
set_option maxHeartbeats 4000000
theorem prow_any (x : ByteArray) (w : World) : Calls Tryz.prog 166 #[.string x] w fun e w' => e = .returned (.int .i64 (rowQ x)) ∧ w' = w := by
 go_enter Tryz.func166, Tryz.ntmps166
 go_wp2
 all_goals (go_ret; refine ⟨?_, rfl⟩; simp only [rowQ, <- ByteArray.toList_eq]; simp_all)
theorem pneeded_any (m n : NdM) (i : Nat) (w : World) : Calls Tryz.prog 149 #[.agg m.cells, .agg n.cells, .int .i64 i] w fun e w' => e = .returned (.bool (nedQ m.k m.x (n.k, n.x) i)) ∧ Below w.heap.size w w' := by
 unfold NdM.cells
 go_enter Tryz.func149, Tryz.ntmps149
 go_wp2_with fail
 refine wp_gen (fun W => W.heap[w.heap.size]? = some (.cells m.cells 49 (0, 0)) ∧ W.heap[w.heap.size + 1]? = some (.cells n.cells 49 (0, 0)) ∧ Below w.heap.size w W) ?_ ?_
 ·have n0 := heap_alloc_new w (.cells m.cells 49)
  have n1 := heap_alloc_new (w.alloc (.cells m.cells 49)) (.cells n.cells 49)
  simp only [World.size_alloc] at n1
  exact ⟨(Below.heap_alloc _ _ _ (by simp)).trans n0, n1, ((Below.refl _ _).alloc (Nat.le_refl _) _).alloc (by simp) _⟩
 rintro W0 ⟨r0, r1, hB0⟩
 have HR : Hid (∀ W, Below W0.heap.size W0 W -> W.cell? ⟨w.heap.size, 0, none⟩ = some (.int .i64 m.k) ∧ W.cell? ⟨w.heap.size, 1, none⟩ = some (.string m.x) ∧ W.cell? ⟨w.heap.size + 1, 0, none⟩ = some (.int .i64 n.k) ∧ W.cell? ⟨w.heap.size + 1, 1, none⟩ = some (.string n.x) ∧ Below w.heap.size w W) := fun W hb =>
  ⟨(cell_of_row _ _ 0 _ _ _ ((hb.block _ (lt_of_row r0)).trans r0)).trans rfl, (cell_of_row _ _ 1 _ _ _ ((hb.block _ (lt_of_row r0)).trans r0)).trans rfl, (cell_of_row _ _ 0 _ _ _ ((hb.block _ (lt_of_row r1)).trans r1)).trans rfl, (cell_of_row _ _ 1 _ _ _ ((hb.block _ (lt_of_row r1)).trans r1)).trans rfl, hB0.trans (hb.mono hB0.size)⟩
 clear r0 r1 hB0
 obtain ⟨c0, c1, d0, d1, -⟩ := HR.out W0 (Below.refl _ _)
 go_quiet (fail)
 have HBw : Hid _ := (HR.out (W0.drewN nq) (below_dN _ _)).2.2.2.2
 cases b1 : (m.k == 26)
 rotate_left
 focus (
  have HX : Hid (nedQ m.k m.x (n.k, n.x) i = (n.k == 27)) := by
   show nedQ _ _ _ _ = _
   unfold nedQ
   rw [if_pos (by simpa using b1)]
  go_wp2
  go_ret
  exact ⟨ret_bool HX.out.symm, HBw.out⟩)
 cases b2 : (m.k == 27)
 focus (
  have HX : Hid (nedQ m.k m.x (n.k, n.x) i = ((n.k == 26) || (n.k == 27))) := by
   show nedQ _ _ _ _ = _
   unfold nedQ
   rw [if_neg (by simpa using b1), if_neg (by simpa using b2)]
  cases b3 : (n.k == 26)
  ·rw [b3] at HX
   go_wp2
   go_ret
   exact ⟨ret_bool (by rw [HX.out]; rfl), HBw.out⟩
  ·rw [b3] at HX
   go_wp2
   go_ret
   exact ⟨ret_bool (by rw [HX.out]; rfl), HBw.out⟩)
 have HX : Hid (nedQ m.k m.x (n.k, n.x) i = ((n.k == 27) && (decide (rowQ n.x < rowQ m.x) || ((rowQ n.x == rowQ m.x) && (decide (0 < i) || (rowQ n.x == 3)))))) := by
  show nedQ _ _ _ _ = _
  unfold nedQ
  rw [if_neg (by simpa using b1), if_pos (by simpa using b2)]
 go_wp2_with fail
 obtain ⟨f0, f1, g0, g1, -⟩ := HR.out (W0.drewN nq) (below_dN _ _)
 have HFB : Hid (∀ W, Below (W0.drewN nq).heap.size (W0.drewN nq) W -> Below w.heap.size w W) := fun W hb => HBw.out.trans (hb.mono HBw.out.size)
 clear c0 c1 d0 d1 HR HBw
 generalize W0.drewN nq = W1 at *
 go_quiet ((go_at_call 166; refine Calls.quiet_of_same (prow_any _ _)))
 have HB2 : Hid _ := HFB.out _ (below_dN W1 nq)
 clear HFB f0 f1 g0 g1
 generalize rowQ m.x = ra at HX ⊢
 generalize rowQ n.x = rb at HX ⊢
 cases b3 : (n.k == 27)
 ·rw [b3] at HX
  go_wp2
  go_ret
  exact ⟨ret_bool (by rw [HX.out]; rfl), HB2.out⟩
 rw [b3] at HX
 cases b4 : decide (rb < ra)
 rotate_left
 focus (
  rw [b4] at HX
  go_wp2
  go_ret
  exact ⟨ret_bool (by rw [HX.out]; rfl), HB2.out⟩)
 rw [b4] at HX
 cases b5 : (rb == ra)
 ·rw [b5] at HX
  go_wp2
  go_ret
  exact ⟨ret_bool (by rw [HX.out]; rfl), HB2.out⟩
 rw [b5] at HX
 cases b6 : decide (0 < i)
 rotate_left
 focus (
  rw [b6] at HX
  go_wp2
  go_ret
  exact ⟨ret_bool (by rw [HX.out]; rfl), HB2.out⟩)
 rw [b6] at HX
 go_wp2
 go_ret
 exact ⟨ret_bool (by rw [HX.out]; simp), HB2.out⟩
theorem pcut_any {w0 w : World} {g d0 : Nat} {nv v : Value} {out : List UInt8} {L : List Nd} (kind : Int) (sk : Option Addr) (ck : Nat) (ks : List Nat) (ts : List Pt) (hE : EnW w0 nv L) (hk : KsP w0 g nv L sk ks ts) (h : Pw w0 g nv d0 w v out) (hc : ks.length <= ck) (hcm : ck <= maxLen) (hz : sk = none -> ck = 0) :
  Calls Tryz.prog 101 #[.pointer (some ⟨g, 0, none⟩), .slice sk ks.length ck, .int .i64 kind] w fun e w' => (∃ sk2 ck2, e = .returned (.tuple #[.slice sk (cutN kind (ts.map hdP)) ck, .slice sk2 (ks.length - cutN kind (ts.map hdP)) ck2]) ∧ RowsAt w0 1 intC sk2 (ks.drop (cutN kind (ts.map hdP))) ∧ ks.length - cutN kind (ts.map hdP) <= ck2 ∧ ck2 <= maxLen ∧ (sk2 = none -> ck2 = 0)) ∧ ∃ n, w' = w.drewN n := by
 have HW : Hid (Pw w0 g nv d0 w v out) := h
 have HK : Hid (KsP w0 g nv L sk ks ts) := hk
 have HE : Hid (EnW w0 nv L) := hE
 have hks := hk.s
 have HLK : Hid (ks.length = ts.length) := hk.l
 have hmx : maxLen = 9223372036854775807 := rfl
 obtain ⟨sn, cn, N, S, hnv, hN, hR⟩ := hE.x
 have HNL : Hid (N.length = L.length) := hR.1
 have hLl := hE.l
 have HN : Hid (RowsAt w0 7 NdM.cells sn N) := hN
 have HR : Hid (Rep w0 S N L) := hR
 have cg : w.cell? ⟨g, 2, none⟩ = some nv := h.c2
 subst hnv
 clear h hk hE hN hR
 go_enter Tryz.func101, Tryz.ntmps101
 go_wp2_with fail
 go_loopw [8] (fun i wr => ∃ q n : Nat, q <= ks.length ∧ i = .int .i64 q ∧ wr = w.drewN n ∧ cutN kind (ts.map hdP) = q + cutN kind ((ts.map hdP).drop q)) (fun i _ => ks.length - (intOf i).toNat)
 case atStart => exact ⟨0, 0, Nat.zero_le _, rfl, rfl, by simp⟩
 case round =>
  obtain ⟨q, n, hq, rfl, rfl, hcu⟩ := hrel
  have HCU : Hid _ := hcu
  clear hcu
  by_cases hlt : q < ks.length
  ·have hd : decide ((q : Int) < ks.length) = true := by simp; omega
   have hd' : decide (q < ks.length) = true := by simp; omega
   obtain ⟨k, hk⟩ : ∃ k, ks[q]? = some k := ⟨_, List.getElem?_eq_getElem hlt⟩
   obtain ⟨t, ht⟩ : ∃ t, ts[q]? = some t := ⟨_, List.getElem?_eq_getElem (by have := HLK.out; omega)⟩
   obtain ⟨d, hdL, hde⟩ := (HK.out.e q k t hk ht).hd
   have hkL : k < L.length := (List.getElem?_eq_some_iff.1 hdL).1
   obtain ⟨m, hm⟩ : ∃ m, N[k]? = some m := ⟨_, List.getElem?_eq_getElem (by have := HNL.out; omega)⟩
   have hrk := HW.out.env HK.out.r
   have hrn := HW.out.env HN.out
   obtain ⟨b, o, rfl, -⟩ := hrk (by omega)
   obtain ⟨bn, on, rfl, -⟩ := hrn (by have := HNL.out; omega)
   have kc := ints_cell hrk q (by simpa using hlt)
   rw [List.getD_eq_getElem?_getD, List.getElem?_map, hk] at kc
   simp only [Option.map_some, Option.getD_some] at kc
   have kn := (node_cells hrn hm).1
   rw [(HR.out.at hm hdL).1.1] at kn
   have hh : (ts.map hdP)[q]? = some (hdP t) := by rw [List.getElem?_map, ht]; rfl
   have hdk : d.kind = (hdP t).1 := by rw [<- hde]
   rw [hdk] at kn
   have hkk : decide ((k : Int) < L.length) = true := by simp; omega
   have HH : Hid _ := hh
   clear hk ht hdL hde hm hrk hrn hdk hh
   cases c1 : ((hdP t).1 == kind)
   ·have HN2 : Hid (cutN kind (ts.map hdP) = q) := by
     show _ = _
     rw [HCU.out, cutN_no HH.out c1]
     rfl
    have hz1 : (q : Int) <= ck := by omega
    have hz2 : (q : Int) <= ks.length := by omega
    have HRD : Hid (RowsAt w0 1 intC (some ⟨b, o + q, none⟩) (ks.drop q)) := rows_drop1 HK.out.r q
    go_wp2
    go_quiet (fail)
    go_wp2
    have hcq : ¬ ck = q := by omega
    have hcq' : ¬ (ck : Int) = q := by omega
    go_wp2
    go_quiet (fail)
    go_wp2
    go_ret2
    refine ⟨⟨some ⟨b, o + q, none⟩, ck - q, by rw [HN2.out]; rfl, by rw [HN2.out]; exact HRD.out, by rw [HN2.out]; omega, by omega, fun h => by cases h⟩, ?_⟩
    first | exact ⟨_, drewN_two _ _ _⟩ | exact ⟨_, drewN_three _ _ _ _⟩
   ·have HN2 : Hid (cutN kind (ts.map hdP) = q + 1 + cutN kind ((ts.map hdP).drop (q + 1))) := by
     show _ = _
     rw [HCU.out, cutN_hit HH.out c1]
     omega
    go_wp2
    go_quiet (fail)
    go_wp2
    exact ⟨⟨q + 1, n + nq, by omega, by go_num, rfl, HN2.out⟩, by simp [intOf]; omega⟩
  ·have hd : decide ((q : Int) < ks.length) = false := by simp; omega
   have hd' : decide (q < ks.length) = false := by simp; omega
   have HN2 : Hid (cutN kind (ts.map hdP) = q) := by
    show _ = _
    rw [HCU.out, List.drop_eq_nil_of_le (by rw [List.length_map]; have := HLK.out; omega)]
    rfl
   go_wp2
   go_quiet (fail)
   go_wp2
   have hz1 : (q : Int) <= ck := by omega
   have hz2 : (q : Int) <= ks.length := by omega
   have HRK : Hid _ := HK.out.r
   by_cases hk0 : ks.length = 0
   focus (
    have hq0 : q = 0 := by omega
    subst hq0
    have HRD : Hid (∀ sp, RowsAt w0 1 intC sp (ks.drop (cutN kind (ts.map hdP)))) := fun sp hl => by rw [List.length_drop] at hl; omega
    cases sk with
    | none =>
     have hck : ck = 0 := hz rfl
     subst hck
     go_wp2
     go_quiet (fail)
     go_wp2
     go_ret2
     refine ⟨⟨none, 0, by rw [HN2.out, hk0]; rfl, HRD.out _, by rw [HN2.out, hk0]; exact Nat.le_refl _, by omega, fun _ => rfl⟩, ?_⟩
     first | exact ⟨_, drewN_two _ _ _⟩ | exact ⟨_, drewN_three _ _ _ _⟩
    | some a =>
     have HK0 : Hid (ks.length = 0) := hk0
     clear hk0
     go_wp2
     go_quiet (fail)
     go_wp2
     go_ret2
     refine ⟨⟨some a, ck, by rw [HN2.out, HK0.out]; rfl, HRD.out _, by rw [HN2.out]; omega, by omega, fun h => by cases h⟩, ?_⟩
     first | exact ⟨_, drewN_two _ _ _⟩ | exact ⟨_, drewN_three _ _ _ _⟩)
   obtain ⟨b, o, rfl, -⟩ := HRK.out (by omega)
   have HRD : Hid (RowsAt w0 1 intC (some ⟨b, o + q, none⟩) (ks.drop q)) := rows_drop1 HRK.out q
   by_cases hcq : ck = q
   ·subst hcq
    have HRE : Hid (RowsAt w0 1 intC (some ⟨b, o, none⟩) (ks.drop ck)) := fun hl => by rw [List.length_drop] at hl; omega
    have hle : ks.length = ck := by omega
    have HLE : Hid (ks.length = ck) := hle
    clear hle
    go_wp2
    go_quiet (fail)
    go_wp2
    go_ret2
    refine ⟨⟨some ⟨b, o, none⟩, 0, by rw [HN2.out, HLE.out, Nat.sub_self]; rfl, by rw [HN2.out]; exact HRE.out, by rw [HN2.out, HLE.out]; omega, by omega, fun h => by cases h⟩, ?_⟩
    first | exact ⟨_, drewN_two _ _ _⟩ | exact ⟨_, drewN_three _ _ _ _⟩
   ·have hcq' : ¬ (ck : Int) = q := by omega
    go_wp2
    go_quiet (fail)
    go_wp2
    go_ret2
    refine ⟨⟨some ⟨b, o + q, none⟩, ck - q, by rw [HN2.out]; rfl, by rw [HN2.out]; exact HRD.out, by rw [HN2.out]; omega, by omega, fun h => by cases h⟩, ?_⟩
    first | exact ⟨_, drewN_two _ _ _⟩ | exact ⟨_, drewN_three _ _ _ _⟩
end Go.Proofs.YtbadafkfjfbnlaaGreatDoor
