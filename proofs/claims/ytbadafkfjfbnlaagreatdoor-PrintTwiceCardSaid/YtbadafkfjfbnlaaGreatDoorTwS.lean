import Derived.Test.YtbadafkfjfbnlaaGreatDoorTwR
import Derived.Test.YtbadafkfjfbnlaaGreatDoorTwG
namespace Go.Proofs.YtbadafkfjfbnlaaGreatDoor
set_option maxRecDepth 100000
open Go.RowKit
inductive St : Pt -> Prop
 | block {a f t : Int} {l : List Pt} : (∀ u ∈ l, St u) -> St (.mk 13 ⟨#[]⟩ 0 a f t l)
 | loop {a f t a' f' t' : Int} {c : Pt} {l : List Pt} : Ex c -> (∀ u ∈ l, St u) -> St (.mk 15 ⟨#[]⟩ 0 a f t [c, .mk 13 ⟨#[]⟩ 0 a' f' t' l])
 | if1 {a f t a' f' t' : Int} {c : Pt} {l : List Pt} : Ex c -> (∀ u ∈ l, St u) -> St (.mk 14 ⟨#[]⟩ 0 a f t [c, .mk 13 ⟨#[]⟩ 0 a' f' t' l])
 | if2 {a f t a' f' t' a2 f2 t2 : Int} {c : Pt} {l m : List Pt} : Ex c -> (∀ u ∈ l, St u) -> (∀ u ∈ m, St u) -> St (.mk 14 ⟨#[]⟩ 0 a f t [c, .mk 13 ⟨#[]⟩ 0 a' f' t' l, .mk 13 ⟨#[]⟩ 0 a2 f2 t2 m])
 | if3 {a f t a' f' t' : Int} {c d : Pt} {l : List Pt} : Ex c -> (∀ u ∈ l, St u) -> St d -> (hdP d).1 = 14 -> St (.mk 14 ⟨#[]⟩ 0 a f t [c, .mk 13 ⟨#[]⟩ 0 a' f' t' l, d])
 | var1 {a f t : Int} {x : ByteArray} {v : Pt} : kepB x = false -> Ty v -> St (.mk 4 x 0 a f t [v])
 | var2 {a f t : Int} {x : ByteArray} {v d : Pt} : kepB x = false -> Ty v -> Ex d -> St (.mk 4 x 0 a f t [v, d])
 | res0 {a f t : Int} : St (.mk 16 ⟨#[]⟩ 0 a f t [])
 | res1 {a f t : Int} {e : Pt} : Ex e -> St (.mk 16 ⟨#[]⟩ 0 a f t [e])
 | short {a f t : Int} {x : ByteArray} {e : Pt} : kepB x = false -> plF x -> Ex e -> St (.mk 17 x 0 a f t [e])
 | assign {a f t : Int} {e d : Pt} : Ex e -> Ex d -> St (.mk 18 ⟨#[]⟩ 0 a f t [e, d])
 | expr {a f t : Int} {e : Pt} : Ex e -> St (.mk 19 ⟨#[]⟩ 0 a f t [e])
def StI (e : Pt) : Prop := ∀ (k : Int) (s : List UInt8) (r : List Tok), fol k s -> ∀ (ts : List Tok) (p : Nat), Hs ts p (wrP e ++ tkW k (strU s) :: r) -> isT ts p [125] = false ∧ ∃ e', smP e e' ∧ Ev (fun m => (fns ts m).stmt p) (.ok e' (p + (wrP e).length))
theorem stms_ev : ∀ (l : List Pt), (∀ u ∈ l, StI u) -> ∀ (ts : List Tok) (p : Nat) (acc : List Pt), Hs ts p (wEnd (l.map wrP) ++ [sgT [125]]) ->
  ∃ l', smL l l' ∧ Ev (fun m => (fns ts m).stmL acc p) (.ok (acc ++ l') (p + (wEnd (l.map wrP)).length))
 | [], _, ts, p, acc, hh => by
  refine ⟨[], smL_nil, ev_succ ?_⟩
  have h0 : Hs ts p (tkW 4 (strU [125]) :: []) := by simpa [sgT, wEnd] using hh
  rw [List.append_nil]
  exact ev_pos h0.is (ev_const _)
 | u :: r, hl, ts, p, acc, hh => by
  have hw : wEnd ((u :: r).map wrP) ++ [sgT [125]] = wrP u ++ (tkW 5 (strU [59]) :: (wEnd (r.map wrP) ++ [sgT [125]])) := by simp [wEnd, enT]
  rw [hw] at hh
  have hc := hh.right
  have hk : (nxT ts (p + (wrP u).length)).kind = 5 := hc.knd
  obtain ⟨h0, u', h1, h2⟩ := hl u (by simp) 5 [59] _ (.inl ⟨rfl, rfl⟩) ts p hh
  obtain ⟨l', h3, h4⟩ := stms_ev r (fun v hv => hl v (by simp [hv])) ts (p + (wrP u).length + 1) (acc ++ [u']) hc.tail
  refine ⟨u' :: l', smL_cons h1 h3, ev_succ ?_⟩
  refine ev_neg (by rw [h0]; simp) (ev_bind h2 (ev_neg (by rw [hc.not (by decide)]; simp) ?_))
  unfold kinP
  refine ev_need (by rw [hk]; rfl) ?_
  have e3 : p + (wEnd ((u :: r).map wrP)).length = p + (wrP u).length + 1 + (wEnd (r.map wrP)).length := by simp [wEnd]; omega
  rw [e3, show acc ++ u' :: l' = acc ++ [u'] ++ l' by simp]
  exact h4
theorem blo_ev {a f t : Int} {l : List Pt} (hl : ∀ u ∈ l, StI u) (ts : List Tok) (p : Nat) (hh : Hs ts p (wBra (l.map wrP))) : ∃ e', smP (.mk 13 ⟨#[]⟩ 0 a f t l) e' ∧ Ev (fun m => bloP ts (fns ts m) p) (.ok e' (p + (wBra (l.map wrP)).length)) := by
 have hw : wBra (l.map wrP) = tkW 4 (strU [123]) :: (wEnd (l.map wrP) ++ [sgT [125]]) := by simp [wBra, sgT]
 rw [hw] at hh ⊢
 obtain ⟨l', h1, h2⟩ := stms_ev l hl ts (p + 1) [] hh.tail
 have hz : Hs ts (p + 1 + (wEnd (l.map wrP)).length) (tkW 4 (strU [125]) :: []) := hh.tail.right
 refine ⟨.mk 13 ⟨#[]⟩ 0 (herI ts p) (herI ts p) (behI ts (p + 1 + (wEnd (l.map wrP)).length + 1)) l', smP_mk h1, ?_⟩
 rw [show p + (tkW 4 (strU [123]) :: (wEnd (l.map wrP) ++ [sgT [125]])).length = p + 1 + (wEnd (l.map wrP)).length + 1 by simp; omega]
 unfold bloP linP expP
 exact ev_bind (ev_need hh.is (ev_bind h2 (ev_need hz.is (ev_const _)))) (ev_const _)
theorem wr_blo (a f t : Int) (l : List Pt) : wrP (.mk 13 ⟨#[]⟩ 0 a f t l) = wBra (l.map wrP) := by simp [wrP, wrK, wrS, wrM_map]
theorem wr_bra (l : List Pt) : wBra (l.map wrP) = tkW 4 (strU [123]) :: (wEnd (l.map wrP) ++ [sgT [125]]) := by simp [wBra, sgT]
theorem wr_loop (a f t : Int) (c b : Pt) : wrP (.mk 15 ⟨#[]⟩ 0 a f t [c, b]) = wdT [102, 111, 114] :: (wrP c ++ wrP b) := by simp [wrP, wrK, wrS, wrM_map]
theorem wr_if1 (a f t : Int) (c b : Pt) : wrP (.mk 14 ⟨#[]⟩ 0 a f t [c, b]) = wdT [105, 102] :: (wrP c ++ wrP b) := by simp [wrP, wrK, wrS, wrM_map, wIf]
theorem wr_if2 (a f t : Int) (c b d : Pt) : wrP (.mk 14 ⟨#[]⟩ 0 a f t [c, b, d]) = wdT [105, 102] :: (wrP c ++ (wrP b ++ wdT [101, 108, 115, 101] :: wrP d)) := by simp [wrP, wrK, wrS, wrM_map, wIf]
theorem loo_ev {a f t a' f' t' : Int} {c : Pt} {l : List Pt} (hc : Ex c) (hl : ∀ u ∈ l, StI u) (ts : List Tok) (p : Nat) (hh : Hs ts p (wdT [102, 111, 114] :: (wrP c ++ wBra (l.map wrP)))) :
  ∃ e', smP (.mk 15 ⟨#[]⟩ 0 a f t [c, .mk 13 ⟨#[]⟩ 0 a' f' t' l]) e' ∧ Ev (fun m => looP ts (fns ts m) p) (.ok e' (p + 1 + (wrP c).length + (wBra (l.map wrP)).length)) := by
 have ht := hh.tail
 obtain ⟨c', h1, h2⟩ := ex_ev hc (s := [123]) ⟨by decide, by decide, by decide⟩ ts (p + 1) (by have := ht; rw [wr_bra] at this; exact this)
 obtain ⟨b', h3, h4⟩ := blo_ev (a := a') (f := f') (t := t') hl ts (p + 1 + (wrP c).length) ht.right
 refine ⟨.mk 15 ⟨#[]⟩ 0 (herI ts p) (herI ts p) (behI ts (p + 1 + (wrP c).length + (wBra (l.map wrP)).length)) [c', b'], smP_mk (smL_cons h1 (smL_one h3)), ?_⟩
 unfold looP expP
 exact ev_need hh.is (ev_bind h2 (ev_bind h4 (ev_const _)))
theorem bran1_ev {a f t a' f' t' : Int} {c : Pt} {l : List Pt} (hc : Ex c) (hl : ∀ u ∈ l, StI u) {k : Int} {s : List UInt8} {r : List Tok} (hf : fol k s) (ts : List Tok) (p : Nat) (hh : Hs ts p (wdT [105, 102] :: (wrP c ++ (wBra (l.map wrP) ++ tkW k (strU s) :: r)))) :
  ∃ e', smP (.mk 14 ⟨#[]⟩ 0 a f t [c, .mk 13 ⟨#[]⟩ 0 a' f' t' l]) e' ∧ Ev (fun m => (fns ts m).bran p) (.ok e' (p + 1 + (wrP c).length + (wBra (l.map wrP)).length)) := by
 have ht := hh.tail
 obtain ⟨c', h1, h2⟩ := ex_ev hc (s := [123]) ⟨by decide, by decide, by decide⟩ ts (p + 1) (by have := ht; rw [wr_bra, List.cons_append] at this; exact this)
 obtain ⟨b', h3, h4⟩ := blo_ev (a := a') (f := f') (t := t') hl ts (p + 1 + (wrP c).length) ht.right.left
 have hz := ht.right.right
 refine ⟨.mk 14 ⟨#[]⟩ 0 (herI ts p) (herI ts p) (behI ts (p + 1 + (wrP c).length + (wBra (l.map wrP)).length)) [c', b'], smP_mk (smL_cons h1 (smL_one h3)), ev_succ ?_⟩
 show Ev (fun m => expP ts [105, 102] p fun q => ((fns ts m).bin 0 q).bind fun x q => (bloP ts (fns ts m) q).bind fun b q =>
    if isT ts q [101, 108, 115, 101] then
     (if isT ts (q + 1) [105, 102] then (fns ts m).bran (q + 1) else bloP ts (fns ts m) (q + 1)).bind fun c q => Rs.ok (Pt.mk 14 ⟨#[]⟩ 0 (herI ts p) (herI ts p) (behI ts q) [x, b, c]) q
    else Rs.ok (Pt.mk 14 ⟨#[]⟩ 0 (herI ts p) (herI ts p) (behI ts q) [x, b]) q) _
 unfold expP
 refine ev_need hh.is (ev_bind h2 (ev_bind h4 (ev_neg ?_ (ev_const _))))
 rw [show isT ts (p + 1 + (wrP c).length + (wBra (l.map wrP)).length) [101, 108, 115, 101] = false by rcases hf with ⟨rfl, rfl⟩ | ⟨rfl, rfl⟩ <;> exact hz.not (by decide)]
 simp
theorem bran2_ev {a f t a' f' t' : Int} {c d : Pt} {l : List Pt} (hc : Ex c) (hl : ∀ u ∈ l, StI u) (ts : List Tok) (p : Nat) (r : List Tok) (hh : Hs ts p (wdT [105, 102] :: (wrP c ++ (wBra (l.map wrP) ++ wdT [101, 108, 115, 101] :: r))))
  (q : Nat) (hd : ∃ d', smP d d' ∧ Ev (fun m => if isT ts (p + 1 + (wrP c).length + (wBra (l.map wrP)).length + 1) [105, 102] then (fns ts m).bran (p + 1 + (wrP c).length + (wBra (l.map wrP)).length + 1) else bloP ts (fns ts m) (p + 1 + (wrP c).length + (wBra (l.map wrP)).length + 1)) (.ok d' q)) :
  ∃ e', smP (.mk 14 ⟨#[]⟩ 0 a f t [c, .mk 13 ⟨#[]⟩ 0 a' f' t' l, d]) e' ∧ Ev (fun m => (fns ts m).bran p) (.ok e' q) := by
 have ht := hh.tail
 obtain ⟨c', h1, h2⟩ := ex_ev hc (s := [123]) ⟨by decide, by decide, by decide⟩ ts (p + 1) (by have := ht; rw [wr_bra, List.cons_append] at this; exact this)
 obtain ⟨b', h3, h4⟩ := blo_ev (a := a') (f := f') (t := t') hl ts (p + 1 + (wrP c).length) ht.right.left
 have hz := ht.right.right
 obtain ⟨d', h5, h6⟩ := hd
 refine ⟨.mk 14 ⟨#[]⟩ 0 (herI ts p) (herI ts p) (behI ts q) [c', b', d'], smP_mk (smL_cons h1 (smL_cons h3 (smL_one h5))), ev_succ ?_⟩
 show Ev (fun m => expP ts [105, 102] p fun q => ((fns ts m).bin 0 q).bind fun x q => (bloP ts (fns ts m) q).bind fun b q =>
    if isT ts q [101, 108, 115, 101] then
     (if isT ts (q + 1) [105, 102] then (fns ts m).bran (q + 1) else bloP ts (fns ts m) (q + 1)).bind fun c q => Rs.ok (Pt.mk 14 ⟨#[]⟩ 0 (herI ts p) (herI ts p) (behI ts q) [x, b, c]) q
    else Rs.ok (Pt.mk 14 ⟨#[]⟩ 0 (herI ts p) (herI ts p) (behI ts q) [x, b]) q) _
 unfold expP
 exact ev_need hh.is (ev_bind h2 (ev_bind h4 (ev_pos hz.is (ev_bind h6 (ev_const _)))))
theorem dd_ne : ∀ (m : Nat), ∃ c r, Lib.decDigits m = c :: r ∧ (48 <= c ∧ c <= 57) := by
 intro m
 induction m using Nat.strongRecOn with
 | _ m ih =>
  rw [Lib.decDigits]
  split
  ·rename_i h
   refine ⟨_, [], rfl, ?_⟩
   have e : (UInt8.ofNat (48 + m)).toNat = 48 + m := by rw [UInt8.toNat_ofNat']; omega
   constructor
   ·rw [UInt8.le_iff_toNat_le, e]; show 48 <= 48 + m; omega
   ·rw [UInt8.le_iff_toNat_le, e]; show 48 + m <= 57; omega
  ·rename_i h
   obtain ⟨c, r, e, h1⟩ := ih (m / 10) (by omega)
   exact ⟨c, _, by rw [e]; rfl, h1⟩
theorem itoa_dig {n : Int} (h : plF ⟨(Lib.itoa n).toArray⟩) : ∃ c r, Lib.itoa n = c :: r ∧ (48 <= c ∧ c <= 57) := by
 unfold Lib.itoa at h ⊢
 split
 ·rename_i hn
  rw [if_pos hn] at h
  obtain ⟨c, r, e, hc⟩ := h
  have e2 : (45 : UInt8) :: Lib.decDigits n.natAbs = c :: r := by simpa using e
  injection e2 with e3 _
  rw [<- e3] at hc
  exact absurd hc (by decide)
 ·exact dd_ne _
theorem quoG_acc : ∀ (L acc Q : List UInt8), quoG acc L = some Q -> ∃ r, Q = acc ++ r
 | [], acc, Q, h => by
  rw [quoG] at h
  injection h with h
  exact ⟨[34], h.symm⟩
 | c :: L, acc, Q, h => by
  rw [quoG] at h
  split at h
  ·cases h
  ·rename_i x hx
   obtain ⟨r, e⟩ := quoG_acc L _ Q h
   exact ⟨x ++ r, by rw [e, List.append_assoc]⟩
theorem quo_fst {x : ByteArray} (h : plF (quoT x)) : ∃ r, (quoT x).data.toList = 34 :: r := by
 unfold quoT at h ⊢
 split
 ·rename_i q hq
  unfold quoO at hq
  obtain ⟨r, e⟩ := quoG_acc _ _ _ hq
  exact ⟨r, by rw [e]; simp [strU]⟩
 ·rename_i hq
  rw [hq] at h
  obtain ⟨c, r, e, -⟩ := h
  simp at e
theorem kep_dig {x : ByteArray} {c : UInt8} {r : List UInt8} (h : x.data.toList = c :: r) (hc : c < 97) : kepB x = false := by
 have hne : ∀ d : UInt8, 97 <= d -> ∀ u : List UInt8, ((c :: r) == (d :: u)) = false := fun d hd u => by
  rw [Bool.eq_false_iff]
  intro e
  have e2 : c :: r = d :: u := eq_of_beq e
  injection e2 with e3 _
  subst e3
  exact absurd hc (by simpa [UInt8.not_lt] using hd)
 unfold kepB
 rw [h]
 simp only [hne 112 (by decide), hne 105 (by decide), hne 99 (by decide), hne 118 (by decide), hne 116 (by decide), hne 115 (by decide), hne 102 (by decide), hne 101 (by decide), hne 114 (by decide), hne 98 (by decide), Bool.or_self]
theorem kep_words {x : ByteArray} (h : kepB x = false) : (x.data.toList == [118, 97, 114]) = false ∧ (x.data.toList == [105, 102]) = false ∧ (x.data.toList == [102, 111, 114]) = false ∧ (x.data.toList == [114, 101, 116, 117, 114, 110]) = false := by
 unfold kepB at h
 simp only [Bool.or_eq_false_iff] at h
 obtain ⟨⟨⟨⟨⟨⟨⟨⟨⟨⟨⟨⟨⟨⟨⟨-, -⟩, -⟩, h4⟩, -⟩, -⟩, -⟩, h8⟩, -⟩, h10⟩, h11⟩, -⟩, -⟩, -⟩, -⟩, -⟩ := h
 exact ⟨h4, h8, h10, h11⟩
structure plSt (a : Tok) : Prop where
 b : (a.text.data.toList == [123]) = false
 c : (a.text.data.toList == [125]) = false
 v : (a.text.data.toList == [118, 97, 114]) = false
 i : (a.text.data.toList == [105, 102]) = false
 f : (a.text.data.toList == [102, 111, 114]) = false
 r : (a.text.data.toList == [114, 101, 116, 117, 114, 110]) = false
theorem pls_kep {k : Int} {x : ByteArray} (hp : plF x) (hk : kepB x = false) : plSt (tkW k x) := by
 obtain ⟨h1, h2, h3, h4⟩ := kep_words hk
 exact ⟨pl_not hp (by decide), pl_not hp (by decide), h1, h2, h3, h4⟩
theorem pls_sg {k : Int} {s : List UInt8} (h1 : (s == [123]) = false) (h2 : (s == [125]) = false) (h3 : (s == [118, 97, 114]) = false) (h4 : (s == [105, 102]) = false) (h5 : (s == [102, 111, 114]) = false) (h6 : (s == [114, 101, 116, 117, 114, 110]) = false) : plSt (tkW k (strU s)) := by
 exact ⟨by simpa [tkW, strU] using h1, by simpa [tkW, strU] using h2, by simpa [tkW, strU] using h3, by simpa [tkW, strU] using h4, by simpa [tkW, strU] using h5, by simpa [tkW, strU] using h6⟩
theorem ope_pls {k : Int} {x : ByteArray} {u : Pt} {i : Nat} (h : ∃ a r, wrP u = a :: r ∧ plSt a) : ∃ a r, opeT k x u i = a :: r ∧ plSt a := by
 unfold opeT
 split
 ·exact ⟨sgT [40], wrP u ++ [sgT [41]], by simp [wBrk, wPar], pls_sg (by decide) (by decide) (by decide) (by decide) (by decide) (by decide)⟩
 ·exact h
theorem ex_pls {e : Pt} (h : Ex e) : ∃ a r, wrP e = a :: r ∧ plSt a := by
 induction h with
 | @int n a f t hn hp =>
  obtain ⟨c, r, e1, h1, h2⟩ := itoa_dig hp
  refine ⟨_, _, wr_int _ _ _ _ _, pls_kep hp (kep_dig (c := c) (r := r) (by simpa using e1) ?_)⟩
  exact Nat.lt_of_le_of_lt (UInt8.le_iff_toNat_le.1 h2) (by decide)
 | @text x a f t hx hp =>
  obtain ⟨r, e1⟩ := quo_fst hp
  exact ⟨_, _, wr_text _ _ _ _ _, pls_kep hp (kep_dig e1 (by decide))⟩
 | bool hx =>
  refine ⟨_, _, wr_bool _ _ _ _ _, ?_⟩
  rcases hx with rfl | rfl <;> exact pls_sg (by decide) (by decide) (by decide) (by decide) (by decide) (by decide)
 | name hk hp => exact ⟨_, _, wr_name _ _ _ _ _, pls_kep hp hk⟩
 | dot _ _ _ ih =>
  obtain ⟨a, r, e1, e2⟩ := ope_pls ih
  exact ⟨a, r ++ _, by rw [wr_dot, e1]; rfl, e2⟩
 | call _ _ ih _ =>
  obtain ⟨a, r, e1, e2⟩ := ope_pls ih
  exact ⟨a, r ++ _, by rw [wr_call, e1]; rfl, e2⟩
 | una hx _ _ =>
  refine ⟨_, _, wr_una _ _ _ _ _ _, ?_⟩
  rcases hx with rfl | rfl <;> exact pls_sg (by decide) (by decide) (by decide) (by decide) (by decide) (by decide)
 | bin _ _ _ ih _ =>
  obtain ⟨a, r, e1, e2⟩ := ope_pls ih
  exact ⟨a, r ++ _, by rw [wr_bin, e1]; rfl, e2⟩
theorem wr_var1 (a f t : Int) (x : ByteArray) (v : Pt) : wrP (.mk 4 x 0 a f t [v]) = wdT [118, 97, 114] :: tkW 1 x :: wrP v := by simp [wrP, wrK, wrM_map, wPar]
theorem wr_var2 (a f t : Int) (x : ByteArray) (v d : Pt) : wrP (.mk 4 x 0 a f t [v, d]) = wdT [118, 97, 114] :: tkW 1 x :: (wrP v ++ tkW 4 (strU [61]) :: wrP d) := by simp [wrP, wrK, wrM_map, wPar, sgT]
theorem wr_res0 (a f t : Int) : wrP (.mk 16 ⟨#[]⟩ 0 a f t []) = [wdT [114, 101, 116, 117, 114, 110]] := by simp [wrP, wrK, wrS, wrM_map]
theorem wr_res1 (a f t : Int) (e : Pt) : wrP (.mk 16 ⟨#[]⟩ 0 a f t [e]) = wdT [114, 101, 116, 117, 114, 110] :: wrP e := by simp [wrP, wrK, wrS, wrM_map]
theorem wr_short (a f t : Int) (x : ByteArray) (e : Pt) : wrP (.mk 17 x 0 a f t [e]) = tkW 1 x :: tkW 4 (strU [58, 61]) :: wrP e := by simp [wrP, wrK, wrS, wrM_map, sgT]
theorem wr_assign (a f t : Int) (e d : Pt) : wrP (.mk 18 ⟨#[]⟩ 0 a f t [e, d]) = wrP e ++ tkW 4 (strU [61]) :: wrP d := by simp [wrP, wrK, wrS, wrM_map, wPar, sgT]
theorem wr_expr (a f t : Int) (e : Pt) : wrP (.mk 19 ⟨#[]⟩ 0 a f t [e]) = wrP e := by simp [wrP, wrK, wrS, wrM_map]
def BrI (e : Pt) : Prop := ∀ (k : Int) (s : List UInt8) (r : List Tok), fol k s -> ∀ (ts : List Tok) (p : Nat), Hs ts p (wrP e ++ tkW k (strU s) :: r) -> isT ts p [105, 102] = true ∧ ∃ e', smP e e' ∧ Ev (fun m => (fns ts m).bran p) (.ok e' (p + (wrP e).length))
theorem ev_stmt {ts : List Tok} {p : Nat} {r : Rs Pt} (h : Ev (fun n =>
   if isT ts p [123] then bloP ts (fns ts n) p else if isT ts p [118, 97, 114] then varP ts (fns ts n) p else if isT ts p [105, 102] then (fns ts n).bran p
   else if isT ts p [102, 111, 114] then looP ts (fns ts n) p else if isT ts p [114, 101, 116, 117, 114, 110] then resP ts (fns ts n) p
   else if namB ts p && isT ts (p + 1) [58, 61] then shoP ts (fns ts n) p else simP ts (fns ts n) p) r) : Ev (fun m => (fns ts m).stmt p) r := ev_succ h
theorem bf {b : Bool} (h : b = false) : ¬ b = true := by rw [h]; simp
theorem sti_bran {e : Pt} (h : BrI e) (hw : ∃ r, wrP e = wdT [105, 102] :: r) : StI e := by
 intro k s r hf ts p hh
 obtain ⟨q, hq⟩ := hw
 have h0 : Hs ts p (wdT [105, 102] :: (q ++ tkW k (strU s) :: r)) := by have := hh; rw [hq] at this; exact this
 obtain ⟨h1, e', h2, h3⟩ := h k s r hf ts p hh
 exact ⟨h0.not (by decide), e', h2, ev_stmt (ev_neg (bf (h0.not (by decide))) (ev_neg (bf (h0.not (by decide))) (ev_pos h1 h3)))⟩
theorem sti_plain {e : Pt} {a : Tok} {q : List Tok} (ha : plSt a) {ts : List Tok} {p : Nat} {e' : Pt} {n : Nat} (hh : Hs ts p (a :: q)) (h2 : smP e e')
  (h : Ev (fun n => if namB ts p && isT ts (p + 1) [58, 61] then shoP ts (fns ts n) p else simP ts (fns ts n) p) (.ok e' n)) : isT ts p [125] = false ∧ ∃ e', smP e e' ∧ Ev (fun m => (fns ts m).stmt p) (.ok e' n) := by
 refine ⟨hh.notT ha.c, e', h2, ev_stmt (ev_neg (bf (hh.notT ha.b)) (ev_neg (bf (hh.notT ha.v)) (ev_neg (bf (hh.notT ha.i)) (ev_neg (bf (hh.notT ha.f)) (ev_neg (bf (hh.notT ha.r)) h)))))⟩
theorem st_both {u : Pt} (h : St u) : StI u ∧ ((hdP u).1 = 14 -> BrI u) := by
 induction h with
 | @block a f t l hl ih =>
  refine ⟨fun k s r hf ts p hh => ?_, fun h => by simp [hdP] at h⟩
  rw [wr_blo] at hh ⊢
  obtain ⟨e', h1, h2⟩ := blo_ev (a := a) (f := f) (t := t) (fun u hu => (ih u hu).1) ts p hh.left
  have h0 : Hs ts p (tkW 4 (strU [123]) :: (wEnd (l.map wrP) ++ [sgT [125]])) := by have := hh.left; rw [wr_bra] at this; exact this
  exact ⟨h0.not (by decide), e', h1, ev_stmt (ev_pos h0.is h2)⟩
 | @loop a f t a' f' t' c l hc hl ih =>
  refine ⟨fun k s r hf ts p hh => ?_, fun h => by simp [hdP] at h⟩
  rw [wr_loop, wr_blo] at hh ⊢
  obtain ⟨e', h1, h2⟩ := loo_ev (a := a) (f := f) (t := t) (a' := a') (f' := f') (t' := t') hc (fun u hu => (ih u hu).1) ts p hh.left
  have h0 : Hs ts p (wdT [102, 111, 114] :: (wrP c ++ wBra (l.map wrP))) := hh.left
  refine ⟨h0.not (by decide), e', h1, ev_stmt (ev_neg (bf (h0.not (by decide))) (ev_neg (bf (h0.not (by decide))) (ev_neg (bf (h0.not (by decide))) (ev_pos h0.is ?_))))⟩
  rw [show p + (wdT [102, 111, 114] :: (wrP c ++ wBra (l.map wrP))).length = p + 1 + (wrP c).length + (wBra (l.map wrP)).length by simp; omega]
  exact h2
 | @if1 a f t a' f' t' c l hc hl ih =>
  have hb : BrI (.mk 14 ⟨#[]⟩ 0 a f t [c, .mk 13 ⟨#[]⟩ 0 a' f' t' l]) := fun k s r hf ts p hh => by
   rw [wr_if1, wr_blo] at hh ⊢
   have h0 : Hs ts p (wdT [105, 102] :: (wrP c ++ (wBra (l.map wrP) ++ tkW k (strU s) :: r))) := by simpa using hh
   obtain ⟨e', h1, h2⟩ := bran1_ev (a := a) (f := f) (t := t) (a' := a') (f' := f') (t' := t') hc (fun u hu => (ih u hu).1) hf ts p h0
   refine ⟨h0.is, e', h1, ?_⟩
   rw [show p + (wdT [105, 102] :: (wrP c ++ wBra (l.map wrP))).length = p + 1 + (wrP c).length + (wBra (l.map wrP)).length by simp; omega]
   exact h2
  exact ⟨sti_bran hb ⟨_, wr_if1 _ _ _ _ _⟩, fun _ => hb⟩
 | @if2 a f t a' f' t' a2 f2 t2 c l m hc hl hm ih im =>
  have hb : BrI (.mk 14 ⟨#[]⟩ 0 a f t [c, .mk 13 ⟨#[]⟩ 0 a' f' t' l, .mk 13 ⟨#[]⟩ 0 a2 f2 t2 m]) := fun k s r hf ts p hh => by
   rw [wr_if2, wr_blo, wr_blo] at hh ⊢
   have h0 : Hs ts p (wdT [105, 102] :: (wrP c ++ (wBra (l.map wrP) ++ wdT [101, 108, 115, 101] :: (wBra (m.map wrP) ++ tkW k (strU s) :: r)))) := by simpa using hh
   have hz : Hs ts (p + 1 + (wrP c).length + (wBra (l.map wrP)).length + 1) (wBra (m.map wrP) ++ tkW k (strU s) :: r) := h0.tail.right.right.tail
   have hz2 : Hs ts (p + 1 + (wrP c).length + (wBra (l.map wrP)).length + 1) (tkW 4 (strU [123]) :: (wEnd (m.map wrP) ++ [sgT [125]])) := by have := hz.left; rw [wr_bra] at this; exact this
   obtain ⟨d', h3, h4⟩ := blo_ev (a := a2) (f := f2) (t := t2) (fun u hu => (im u hu).1) ts _ hz.left
   obtain ⟨e', h1, h2⟩ := bran2_ev (a := a) (f := f) (t := t) (a' := a') (f' := f') (t' := t') hc (fun u hu => (ih u hu).1) ts p _ h0 _ ⟨d', h3, ev_neg (bf (hz2.not (by decide))) h4⟩
   refine ⟨h0.is, e', h1, ?_⟩
   rw [show p + (wdT [105, 102] :: (wrP c ++ (wBra (l.map wrP) ++ wdT [101, 108, 115, 101] :: wBra (m.map wrP)))).length = p + 1 + (wrP c).length + (wBra (l.map wrP)).length + 1 + (wBra (m.map wrP)).length by simp; omega]
   exact h2
  exact ⟨sti_bran hb ⟨_, wr_if2 _ _ _ _ _ _⟩, fun _ => hb⟩
 | @if3 a f t a' f' t' c d l hc hl hd h14 ih id =>
  have hb : BrI (.mk 14 ⟨#[]⟩ 0 a f t [c, .mk 13 ⟨#[]⟩ 0 a' f' t' l, d]) := fun k s r hf ts p hh => by
   rw [wr_if2, wr_blo] at hh ⊢
   have h0 : Hs ts p (wdT [105, 102] :: (wrP c ++ (wBra (l.map wrP) ++ wdT [101, 108, 115, 101] :: (wrP d ++ tkW k (strU s) :: r)))) := by simpa using hh
   have hz : Hs ts (p + 1 + (wrP c).length + (wBra (l.map wrP)).length + 1) (wrP d ++ tkW k (strU s) :: r) := h0.tail.right.right.tail
   obtain ⟨g1, d', h3, h4⟩ := id.2 h14 k s r hf ts _ hz
   obtain ⟨e', h1, h2⟩ := bran2_ev (a := a) (f := f) (t := t) (a' := a') (f' := f') (t' := t') hc (fun u hu => (ih u hu).1) ts p _ h0 _ ⟨d', h3, ev_pos g1 h4⟩
   refine ⟨h0.is, e', h1, ?_⟩
   rw [show p + (wdT [105, 102] :: (wrP c ++ (wBra (l.map wrP) ++ wdT [101, 108, 115, 101] :: wrP d))).length = p + 1 + (wrP c).length + (wBra (l.map wrP)).length + 1 + (wrP d).length by simp; omega]
   exact h2
  exact ⟨sti_bran hb ⟨_, wr_if2 _ _ _ _ _ _⟩, fun _ => hb⟩
 | @var1 a f t x v hx hv =>
  refine ⟨fun k s r hf ts p hh => ?_, fun h => by simp [hdP] at h⟩
  rw [wr_var1] at hh ⊢
  have h0 : Hs ts p (wdT [118, 97, 114] :: tkW 1 x :: (wrP v ++ tkW k (strU s) :: r)) := hh
  obtain ⟨e', h1, h2⟩ := var_one (a := a) (f := f) (t := t) hx hv hf ts p h0
  refine ⟨h0.not (by decide), e', h1, ev_stmt (ev_neg (bf (h0.not (by decide))) (ev_pos h0.is ?_))⟩
  rw [show p + (wdT [118, 97, 114] :: tkW 1 x :: wrP v).length = p + 1 + 1 + (wrP v).length by simp; omega]
  exact h2
 | @var2 a f t x v d hx hv hd =>
  refine ⟨fun k s r hf ts p hh => ?_, fun h => by simp [hdP] at h⟩
  rw [wr_var2] at hh ⊢
  have h0 : Hs ts p (wdT [118, 97, 114] :: tkW 1 x :: (wrP v ++ tkW 4 (strU [61]) :: (wrP d ++ tkW k (strU s) :: r))) := by simpa using hh
  obtain ⟨e', h1, h2⟩ := var_two (a := a) (f := f) (t := t) hx hv hd hf ts p h0
  refine ⟨h0.not (by decide), e', h1, ev_stmt (ev_neg (bf (h0.not (by decide))) (ev_pos h0.is ?_))⟩
  rw [show p + (wdT [118, 97, 114] :: tkW 1 x :: (wrP v ++ tkW 4 (strU [61]) :: wrP d)).length = p + 1 + 1 + (wrP v).length + 1 + (wrP d).length by simp; omega]
  exact h2
 | @res0 a f t =>
  refine ⟨fun k s r hf ts p hh => ?_, fun h => by simp [hdP] at h⟩
  rw [wr_res0] at hh ⊢
  have h0 : Hs ts p (wdT [114, 101, 116, 117, 114, 110] :: tkW k (strU s) :: r) := hh
  obtain ⟨e', h1, h2⟩ := res_none (a := a) (f := f) (t := t) hf ts p h0
  exact ⟨h0.not (by decide), e', h1, ev_stmt (ev_neg (bf (h0.not (by decide))) (ev_neg (bf (h0.not (by decide))) (ev_neg (bf (h0.not (by decide))) (ev_neg (bf (h0.not (by decide))) (ev_pos h0.is h2)))))⟩
 | @res1 a f t e he =>
  refine ⟨fun k s r hf ts p hh => ?_, fun h => by simp [hdP] at h⟩
  rw [wr_res1] at hh ⊢
  have h0 : Hs ts p (wdT [114, 101, 116, 117, 114, 110] :: (wrP e ++ tkW k (strU s) :: r)) := hh
  obtain ⟨e', h1, h2⟩ := res_one (a := a) (f := f) (t := t) he hf ts p h0
  refine ⟨h0.not (by decide), e', h1, ev_stmt (ev_neg (bf (h0.not (by decide))) (ev_neg (bf (h0.not (by decide))) (ev_neg (bf (h0.not (by decide))) (ev_neg (bf (h0.not (by decide))) (ev_pos h0.is ?_)))))⟩
  rw [show p + (wdT [114, 101, 116, 117, 114, 110] :: wrP e).length = p + 1 + (wrP e).length by simp; omega]
  exact h2
 | @short a f t x e hx hp he =>
  refine ⟨fun k s r hf ts p hh => ?_, fun h => by simp [hdP] at h⟩
  rw [wr_short] at hh ⊢
  have h0 : Hs ts p (tkW 1 x :: tkW 4 (strU [58, 61]) :: (wrP e ++ tkW k (strU s) :: r)) := hh
  obtain ⟨e', h1, h2⟩ := sho_one (a := a) (f := f) (t := t) hx he hf ts p h0
  refine sti_plain (pls_kep hp hx) h0 h1 (ev_pos (by rw [nam_of h0 hx, h0.tail.is]; rfl) ?_)
  rw [show p + (tkW 1 x :: tkW 4 (strU [58, 61]) :: wrP e).length = p + 1 + 1 + (wrP e).length by simp; omega]
  exact h2
 | @assign a f t e d he hd =>
  refine ⟨fun k s r hf ts p hh => ?_, fun h => by simp [hdP] at h⟩
  rw [wr_assign] at hh ⊢
  have h0 : Hs ts p (wrP e ++ tkW 4 (strU [61]) :: (wrP d ++ tkW k (strU s) :: r)) := by simpa using hh
  obtain ⟨e', h1, h2⟩ := sim_two (a := a) (f := f) (t := t) he hd hf ts p h0
  obtain ⟨b, q, hb, hpl⟩ := ex_pls he
  have h3 : Hs ts p (b :: (q ++ tkW 4 (strU [61]) :: (wrP d ++ tkW k (strU s) :: r))) := by have := h0; rw [hb] at this; exact this
  refine sti_plain hpl h3 h1 (ev_neg (by rw [ex_short he (noA_sg (by decide)) ts p h0]; simp) ?_)
  rw [show p + (wrP e ++ tkW 4 (strU [61]) :: wrP d).length = p + (wrP e).length + 1 + (wrP d).length by simp; omega]
  exact h2
 | @expr a f t e he =>
  refine ⟨fun k s r hf ts p hh => ?_, fun h => by simp [hdP] at h⟩
  rw [wr_expr] at hh ⊢
  obtain ⟨e', h1, h2⟩ := sim_one (a := a) (f := f) (t := t) he hf ts p hh
  obtain ⟨b, q, hb, hpl⟩ := ex_pls he
  have h3 : Hs ts p (b :: (q ++ tkW k (strU s) :: r)) := by have := hh; rw [hb] at this; exact this
  refine sti_plain hpl h3 h1 (ev_neg (by rw [ex_short he (w := tkW k (strU s)) (by rcases hf with ⟨-, rfl⟩ | ⟨-, rfl⟩ <;> exact noA_sg (by decide)) ts p hh]; simp) h2)
theorem st_it {u : Pt} (h : St u) : StI u := (st_both h).1
structure Kn (ts us : List Tok) (K : Nat -> Prop) : Prop where
 down : ∀ p q, p <= q -> K q -> K p
 nx : ∀ p, K p -> nxT ts p = nxT us p
 lt : ∀ p, K p -> (p < ts.length ↔ p < us.length)
def farR (ts : List Tok) (K : Nat -> Prop) {α : Type} (r : Rs α) : Prop := match r with | .ok _ q => ¬ K q | .bad s => ∃ p, ¬ K p ∧ s = herI ts p | .out => True
def relR (ts : List Tok) (K : Nat -> Prop) {α : Type} (r s : Rs α) : Prop := match r with | .ok v q => K q -> s = .ok v q | .bad x => (∃ p, ¬ K p ∧ x = herI ts p) ∨ s = .bad x | .out => True
def qR (ts : List Tok) (K : Nat -> Prop) (p : Nat) {α : Type} (r s : Rs α) : Prop := (K p -> relR ts K r s) ∧ (¬ K p -> farR ts K r)
section
variable {ts us : List Tok} {K : Nat -> Prop} {α β : Type}
theorem far_rel {r : Rs α} (s : Rs α) (h : farR ts K r) : relR ts K r s := by
 cases r with
 | ok v q => exact fun hk => (h hk).elim
 | bad x => exact .inl h
 | out => trivial
theorem far_bind {r : Rs α} {f : α -> Nat -> Rs β} (h : farR ts K r) (hf : ∀ v q, ¬ K q -> farR ts K (f v q)) : farR ts K (r.bind f) := by
 cases r with
 | ok v q => exact hf v q h
 | bad x => exact h
 | out => trivial
theorem q_mono (hK : Kn ts us K) {p q : Nat} {r s : Rs α} (h : qR ts K q r s) (hp : p <= q) : qR ts K p r s := by
 refine ⟨fun _ => ?_, fun hn => h.2 fun hk => hn (hK.down p q hp hk)⟩
 by_cases hk : K q
 ·exact h.1 hk
 ·exact far_rel s (h.2 hk)
theorem q_bind {p : Nat} {r s : Rs α} {f g : α -> Nat -> Rs β} (h : qR ts K p r s) (hf : ∀ v q, (K q -> K p) -> qR ts K q (f v q) (g v q)) : qR ts K p (r.bind f) (s.bind g) := by
 constructor
 ·intro hp
  have h1 := h.1 hp
  cases r with
  | ok v q =>
   have h2 := hf v q fun _ => hp
   by_cases hq : K q
   ·rw [h1 hq]
    exact h2.1 hq
   ·exact far_rel _ (h2.2 hq)
  | bad x =>
   rcases h1 with h1 | h1
   ·exact .inl h1
   ·rw [h1]; exact .inr rfl
  | out => trivial
 ·intro hp
  have h1 := h.2 hp
  cases r with
  | ok v q => exact (hf v q fun hq => (h1 hq).elim).2 h1
  | bad x => exact h1
  | out => trivial
theorem q_ok {p q : Nat} {v v' : α} (hq : K q -> K p) (hv : K q -> v = v') : qR ts K p (.ok v q) (.ok v' q) :=
 ⟨fun _ hk => by rw [hv hk], fun hn hk => hn (hq hk)⟩
theorem q_ite {p : Nat} {c c' : Prop} [Decidable c] [Decidable c'] {a b a' b' : Rs α} (hc : K p -> (c ↔ c')) (h1 : qR ts K p a a') (h2 : qR ts K p b b') : qR ts K p (if c then a else b) (if c' then a' else b') := by
 constructor
 ·intro hp
  by_cases h : c
  ·rw [if_pos h, if_pos ((hc hp).1 h)]; exact h1.1 hp
  ·rw [if_neg h, if_neg fun h' => h ((hc hp).2 h')]; exact h2.1 hp
 ·intro hp
  by_cases h : c
  ·rw [if_pos h]; exact h1.2 hp
  ·rw [if_neg h]; exact h2.2 hp
theorem far_ite {c : Prop} [Decidable c] {a b : Rs α} (h1 : c -> farR ts K a) (h2 : ¬ c -> farR ts K b) : farR ts K (if c then a else b) := by
 split
 ·rename_i h; exact h1 h
 ·rename_i h; exact h2 h
theorem Kn.he (hK : Kn ts us K) {p : Nat} (h : K p) : herI ts p = herI us p := by
 unfold herI behI
 have h1 := hK.lt p h
 rw [<- hK.nx p h, <- hK.nx (p - 1) (hK.down _ _ (by omega) h)]
 by_cases hp : p < ts.length
 ·rw [if_pos hp, if_pos (h1.1 hp)]
 ·rw [if_neg hp, if_neg fun h' => hp (h1.2 h')]
theorem Kn.be (hK : Kn ts us K) {p : Nat} (h : K p) : behI ts p = behI us p := by
 unfold behI
 rw [<- hK.nx (p - 1) (hK.down _ _ (by omega) h)]
theorem Kn.is (hK : Kn ts us K) {p : Nat} (h : K p) (s : List UInt8) : isT ts p s = isT us p s := by unfold isT; rw [hK.nx p h]
theorem Kn.isi (hK : Kn ts us K) (p : Nat) (s : List UInt8) : K p -> (isT ts p s = true ↔ isT us p s = true) := fun h => by rw [hK.is h]
theorem Kn.na (hK : Kn ts us K) {p : Nat} (h : K p) : namB ts p = namB us p := by unfold namB; rw [hK.nx p h]
theorem Kn.one (hK : Kn ts us K) {p : Nat} (h : K (p + 1)) : K p := hK.down _ _ (by omega) h
theorem q_bad (hK : Kn ts us K) (p : Nat) : qR ts K p (.bad (herI ts p) : Rs α) (.bad (herI us p)) := ⟨fun h => .inr (by rw [hK.he h]), fun h => ⟨p, h, rfl⟩⟩
theorem q_need (hK : Kn ts us K) {p : Nat} {b b' : Bool} {k k' : Rs α} (hb : K p -> b = b') (h : qR ts K (p + 1) k k') : qR ts K p (Rs.need b (herI ts p) k) (Rs.need b' (herI us p) k') := by
 unfold Rs.need
 exact q_ite (fun hp => by rw [hb hp]) (q_mono hK h (by omega)) (q_bad hK p)
theorem far_need (hK : Kn ts us K) {p : Nat} {b : Bool} {k : Rs α} (hp : ¬ K p) (hk : ¬ K (p + 1) -> farR ts K k) : farR ts K (Rs.need b (herI ts p) k) := by
 unfold Rs.need
 exact far_ite (fun _ => hk fun h => hp (hK.one h)) fun _ => ⟨p, hp, rfl⟩
theorem q_exp (hK : Kn ts us K) {p : Nat} {s : List UInt8} {k k' : Nat -> Rs α} (h : (K (p + 1) -> K p) -> qR ts K (p + 1) (k (p + 1)) (k' (p + 1))) : qR ts K p (expP ts s p k) (expP us s p k') := q_need hK (fun hp => hK.is hp s) (h hK.one)
theorem q_kin (hK : Kn ts us K) {p : Nat} {n : Int} {k k' : Tok -> Nat -> Rs α} (h : (K (p + 1) -> K p) -> qR ts K (p + 1) (k (nxT ts p) (p + 1)) (k' (nxT us p) (p + 1))) : qR ts K p (kinP ts n p k) (kinP us n p k') := q_need hK (fun hp => by rw [hK.nx p hp]) (h hK.one)
theorem q_nam (hK : Kn ts us K) {p : Nat} {k k' : Tok -> Nat -> Rs α} (h : (K (p + 1) -> K p) -> qR ts K (p + 1) (k (nxT ts p) (p + 1)) (k' (nxT us p) (p + 1))) : qR ts K p (namP ts p k) (namP us p k') := q_need hK (fun hp => hK.na hp) (h hK.one)
theorem mk_eq {k n : Int} {x x' : ByteArray} {a a' f f' t t' : Int} {l l' : List Pt} (h1 : x = x') (h2 : a = a') (h3 : f = f') (h4 : t = t') (h5 : l = l') : Pt.mk k x n a f t l = .mk k x' n a' f' t' l' := by rw [h1, h2, h3, h4, h5]
theorem q_lea (hK : Kn ts us K) (k : Int) (p : Nat) : qR ts K p (leaP ts k p) (leaP us k p) :=
 q_ok hK.one fun h => mk_eq (by rw [hK.nx p (hK.one h)]) (by rw [hK.nx p (hK.one h)]) (hK.he (hK.one h)) (hK.be h) rfl
theorem q_wor (hK : Kn ts us K) (k : Int) (p : Nat) : qR ts K p (worP ts k p) (worP us k p) := by
 unfold worP Rs.need
 exact q_ite (fun hp => by rw [hK.na hp]) (q_lea hK k p) (q_bad hK p)
theorem q_va1 (hK : Kn ts us K) (p : Nat) : qR ts K p (va1P ts p) (va1P us p) := by
 unfold va1P
 refine q_ite (fun hp => by rw [hK.nx p hp]) (q_ok hK.one fun h => ?_) (q_ite (fun hp => by rw [hK.nx p hp]) (q_ok hK.one fun h => ?_) (q_ite (fun hp => by rw [hK.is hp, hK.is hp]) (q_lea hK _ _) (q_bad hK p)))
 ·rw [hK.nx p (hK.one h), hK.he (hK.one h), hK.be h]
 ·rw [hK.nx p (hK.one h), hK.he (hK.one h), hK.be h]
theorem q_val (hK : Kn ts us K) (p : Nat) : qR ts K p (valP ts p) (valP us p) := by
 unfold valP
 refine q_ite (fun hp => by rw [hK.is hp]) (q_mono hK (q := p + 1) (q_ite (fun hp => by rw [hK.nx _ hp]) (q_bind (q_va1 hK _) fun v q hq => q_ok (fun h => h) fun h => ?_) (q_bad hK _)) (by omega)) (q_va1 hK p)
 have hp := hK.one (hq h)
 rw [hK.nx p hp, hK.he hp, hK.be h]
theorem q_typ (hK : Kn ts us K) (p : Nat) : qR ts K p (typP ts p) (typP us p) := by
 unfold typP
 refine q_ite (fun hp => by rw [hK.is hp, hK.is hp, hK.is hp]) (q_lea hK _ _) ?_
 have hfar : qR ts K p ((worP ts 23 p).bind fun v q => expP ts [46] q fun q => namP ts q fun t q => Rs.ok (Pt.mk 12 t.text 0 t.pos (herI ts p) (behI ts q) [v]) q) ((worP us 23 p).bind fun v q => expP us [46] q fun q => namP us q fun t q => Rs.ok (Pt.mk 12 t.text 0 t.pos (herI us p) (behI us q) [v]) q) := by
  refine q_bind (q_wor hK _ _) fun v q hq => q_exp hK fun h1 => q_nam hK fun h2 => q_ok (fun h => h) fun h => ?_
  have hp := hq (h1 (h2 h))
  rw [hK.nx _ (h2 h), hK.he hp, hK.be h]
 by_cases h1 : K (p + 1)
 ·exact q_ite (fun _ => by rw [hK.is h1]) hfar (q_wor hK _ _)
 ·by_cases hn : namB ts p = true
  ·have f2 : farR ts K (worP ts 11 p) := by unfold worP Rs.need; rw [if_pos hn]; exact h1
   have f1 : farR ts K ((worP ts 23 p).bind fun v q => expP ts [46] q fun q => namP ts q fun t q => Rs.ok (Pt.mk 12 t.text 0 t.pos (herI ts p) (behI ts q) [v]) q) := by
    have e : worP ts 23 p = leaP ts 23 p := by unfold worP Rs.need; rw [if_pos hn]
    rw [e]
    show farR ts K (expP ts [46] (p + 1) fun q => namP ts q fun t q => Rs.ok (Pt.mk 12 t.text 0 t.pos (herI ts p) (behI ts q) [Pt.mk 23 (nxT ts p).text 0 (nxT ts p).pos (herI ts p) (behI ts (p + 1)) []]) q)
    exact far_need hK h1 fun h2 => far_need hK h2 fun h3 => h3
   have f : farR ts K (if isT ts (p + 1) [46] = true then (worP ts 23 p).bind fun v q => expP ts [46] q fun q => namP ts q fun t q => Rs.ok (Pt.mk 12 t.text 0 t.pos (herI ts p) (behI ts q) [v]) q else worP ts 11 p) := far_ite (fun _ => f1) fun _ => f2
   exact ⟨fun _ => far_rel _ f, fun _ => f⟩
  ·have e : ∀ (X : List Tok) (k : Int), namB X p = false -> worP X k p = .bad (herI X p) := fun X k h => by unfold worP Rs.need; rw [h]; rfl
   have hn' : namB ts p = false := by simpa using hn
   rw [e ts 23 hn', e ts 11 hn']
   constructor
   ·intro hp
    have hu : namB us p = false := by rw [<- hK.na hp]; exact hn'
    rw [e us 23 hu, e us 11 hu, hK.he hp]
    have : ∀ (c c' : Prop) [Decidable c] [Decidable c'] (y : Int), relR ts K (if c then (.bad y : Rs Pt).bind (fun v q => expP ts [46] q fun q => namP ts q fun t q => Rs.ok (Pt.mk 12 t.text 0 t.pos (herI us p) (behI ts q) [v]) q) else .bad y) (if c' then (.bad y : Rs Pt).bind (fun v q => expP us [46] q fun q => namP us q fun t q => Rs.ok (Pt.mk 12 t.text 0 t.pos (herI us p) (behI us q) [v]) q) else .bad y) := fun c c' _ _ y => by
     split <;> split <;> exact .inr rfl
    exact this _ _ _
   ·intro hp
    exact far_ite (fun _ => ⟨p, hp, rfl⟩) fun _ => ⟨p, hp, rfl⟩
theorem q_tyd (hK : Kn ts us K) (k : Int) (p : Nat) : qR ts K p (tydP ts k p) (tydP us k p) := by
 unfold tydP
 refine q_nam hK fun h1 => q_bind (q_typ hK _) fun v q hq => q_ok (fun h => h) fun h => ?_
 have hp := h1 (hq h)
 rw [hK.nx p hp, hK.he hp, hK.be h]
theorem q_imp (hK : Kn ts us K) (p : Nat) : qR ts K p (impP ts p) (impP us p) := by
 unfold impP
 refine q_exp hK fun h1 => q_kin hK fun h2 => q_ok (fun h => h) fun h => ?_
 rw [hK.nx _ (h2 h), hK.he (h1 (h2 h)), hK.be h]
theorem q_con (hK : Kn ts us K) (p : Nat) : qR ts K p (conP ts p) (conP us p) := by
 unfold conP
 refine q_exp hK fun h1 => q_nam hK fun h2 => q_exp hK fun h3 => q_bind (q_val hK _) fun v q hq => q_ok (fun h => h) fun h => ?_
 rw [hK.nx _ (h2 (h3 (hq h))), hK.he (h1 (h2 (h3 (hq h)))), hK.be h]
theorem q_rec (hK : Kn ts us K) (p : Nat) : qR ts K p (recP ts p) (recP us p) := by
 unfold recP
 refine q_nam hK fun h1 => q_bind (q_wor hK _ _) fun v q hq => q_ok (fun h => h) fun h => ?_
 have hp := h1 (hq h)
 rw [hK.nx p hp, hK.he hp, hK.be h]
structure RlA (ts us : List Tok) (K : Nat -> Prop) (n m : Nat) : Prop where
 bin : ∀ l p, qR ts K p ((fns ts n).bin l p) ((fns us m).bin l p)
 binL : ∀ l fr fr' t t' p, (K p -> fr = fr' ∧ t = t') -> qR ts K p ((fns ts n).binL l fr t p) ((fns us m).binL l fr' t' p)
 una : ∀ p, qR ts K p ((fns ts n).una p) ((fns us m).una p)
 post : ∀ p, qR ts K p ((fns ts n).post p) ((fns us m).post p)
 posL : ∀ fr fr' t t' p, (K p -> fr = fr' ∧ t = t') -> qR ts K p ((fns ts n).posL fr t p) ((fns us m).posL fr' t' p)
 prim : ∀ p, qR ts K p ((fns ts n).prim p) ((fns us m).prim p)
 argL : ∀ l l' p, (K p -> l = l') -> qR ts K p ((fns ts n).argL l p) ((fns us m).argL l' p)
 parL : ∀ l l' p, (K p -> l = l') -> qR ts K p ((fns ts n).parL l p) ((fns us m).parL l' p)
 fieL : ∀ l l' p, (K p -> l = l') -> qR ts K p ((fns ts n).fieL l p) ((fns us m).fieL l' p)
 stmt : ∀ p, qR ts K p ((fns ts n).stmt p) ((fns us m).stmt p)
 bran : ∀ p, qR ts K p ((fns ts n).bran p) ((fns us m).bran p)
 stmL : ∀ l l' p, (K p -> l = l') -> qR ts K p ((fns ts n).stmL l p) ((fns us m).stmL l' p)
 impL : ∀ l l' p, (K p -> l = l') -> qR ts K p ((fns ts n).impL l p) ((fns us m).impL l' p)
 decL : ∀ l l' p, (K p -> l = l') -> qR ts K p ((fns ts n).decL l p) ((fns us m).decL l' p)
 nbin : ∀ l p, namB ts p = true -> ¬ K (p + 1) -> farR ts K ((fns ts n).bin l p)
 nuna : ∀ p, namB ts p = true -> ¬ K (p + 1) -> farR ts K ((fns ts n).una p)
 npost : ∀ p, namB ts p = true -> ¬ K (p + 1) -> farR ts K ((fns ts n).post p)
 nprim : ∀ p, namB ts p = true -> ¬ K (p + 1) -> farR ts K ((fns ts n).prim p)
theorem q_lis (hK : Kn ts us K) {one one' : Nat -> Rs Pt} {more more' : List Pt -> Nat -> Rs (List Pt)} {p : Nat} (h1 : ∀ q, qR ts K q (one q) (one' q)) (h2 : ∀ l l' q, (K q -> l = l') -> qR ts K q (more l q) (more' l' q)) : qR ts K p (lisP ts one more p) (lisP us one' more' p) := by
 unfold lisP
 exact q_exp hK fun _ => q_ite (hK.isi _ _) (q_mono hK (q_ok (p := p + 1 + 1) (fun h => h) fun _ => rfl) (by omega)) (q_bind (h1 _) fun v q _ => q_bind (h2 _ _ _ fun _ => rfl) fun l q _ => q_exp hK fun _ => q_ok (fun h => h) fun _ => rfl)
theorem q_lin (hK : Kn ts us K) {more more' : List Pt -> Nat -> Rs (List Pt)} {p : Nat} (h2 : ∀ l l' q, (K q -> l = l') -> qR ts K q (more l q) (more' l' q)) : qR ts K p (linP ts more p) (linP us more' p) := by
 unfold linP
 exact q_exp hK fun _ => q_bind (h2 _ _ _ fun _ => rfl) fun l q _ => q_exp hK fun _ => q_ok (fun h => h) fun _ => rfl
theorem q_blo (hK : Kn ts us K) {n m : Nat} (ih : RlA ts us K n m) (p : Nat) : qR ts K p (bloP ts (fns ts n) p) (bloP us (fns us m) p) := by
 unfold bloP
 refine q_bind (q_lin hK ih.stmL) fun l q hq => q_ok (fun h => h) fun h => ?_
 rw [hK.he (hq h), hK.be h]
theorem q_var (hK : Kn ts us K) {n m : Nat} (ih : RlA ts us K n m) (p : Nat) : qR ts K p (varP ts (fns ts n) p) (varP us (fns us m) p) := by
 unfold varP
 refine q_exp hK fun h1 => q_nam hK fun h2 => q_bind (q_typ hK _) fun v q hq => q_ite (hK.isi _ _) (q_mono hK (q_bind (ih.bin 0 _) fun x q' hq' => q_ok (fun h => h) fun h => ?_) (by omega)) (q_ok (fun h => h) fun h => ?_)
 ·have h3 := hq (hK.one (hq' h))
  rw [hK.nx _ (h2 h3), hK.he (h1 (h2 h3)), hK.be h]
 ·have h3 := hq h
  rw [hK.nx _ (h2 h3), hK.he (h1 (h2 h3)), hK.be h]
theorem q_dec (hK : Kn ts us K) {n m : Nat} (ih : RlA ts us K n m) (p : Nat) : qR ts K p (decP ts (fns ts n) p) (decP us (fns us m) p) := by
 have hfun : ∀ fr fr' l l' q, (K q -> fr = fr' ∧ l = l') -> qR ts K q (funR ts (fns ts n) fr l q) (funR us (fns us m) fr' l' q) := fun fr fr' l l' q hd => by
  unfold funR
  refine q_nam hK fun h1 => q_bind (q_lis hK (q_tyd hK 9) ih.parL) fun ps q1 hq1 => q_ite (hK.isi _ _) (q_bind (q_blo hK ih _) fun b q2 hq2 => q_ok (fun h => h) fun h => ?_) (q_bind (q_typ hK _) fun v q2 hq2 => q_bind (q_blo hK ih _) fun b q3 hq3 => q_ok (fun h => h) fun h => ?_)
  ·have h3 := h1 (hq1 (hq2 h))
   rw [hK.nx _ h3, hK.be h, (hd h3).1, (hd h3).2]
  ·have h3 := h1 (hq1 (hq2 (hq3 h)))
   rw [hK.nx _ h3, hK.be h, (hd h3).1, (hd h3).2]
 unfold decP
 refine q_ite (hK.isi _ _) (q_con hK p) (q_ite (hK.isi _ _) (q_var hK ih p) (q_ite (hK.isi _ _) ?_ (q_ite (hK.isi _ _) ?_ (q_bad hK p))))
 ·unfold strP
  refine q_exp hK fun h1 => q_nam hK fun h2 => q_exp hK fun h3 => q_bind (q_lin hK ih.fieL) fun l q hq => q_ok (fun h => h) fun h => ?_
  rw [hK.nx _ (h2 (h3 (hq h))), hK.he (h1 (h2 (h3 (hq h)))), hK.be h]
 ·unfold funP
  refine q_exp hK fun h1 => q_ite (hK.isi _ _) (q_mono hK (q_bind (q_rec hK _) fun v q hq => q_exp hK fun h2 => hfun _ _ _ _ _ fun h => ⟨hK.he (h1 (hK.one (hq (h2 h)))), rfl⟩) (by omega)) (hfun _ _ _ _ _ fun h => ⟨hK.he (h1 h), rfl⟩)
theorem rlA (hK : Kn ts us K) : ∀ n m, n <= m -> RlA ts us K n m := by
 intro n
 induction n with
 | zero =>
  intro m _
  have ho : ∀ {γ : Type} (p : Nat) (s : Rs γ), qR ts K p (.out : Rs γ) s := fun p s => ⟨fun _ => trivial, fun _ => trivial⟩
  constructor <;> intros <;> first | exact ho _ _ | trivial
 | succ n ih0 =>
  intro m0 hm
  obtain ⟨m, rfl⟩ : ∃ m, m0 = m + 1 := ⟨m0 - 1, by omega⟩
  have ih := ih0 m (by omega)
  clear ih0 hm
  constructor
  ·intro l p
   show qR ts K p (if l = 5 then (fns ts n).una p else ((fns ts n).bin (l + 1) p).bind fun t q => (fns ts n).binL l (herI ts p) t q) (if l = 5 then (fns us m).una p else ((fns us m).bin (l + 1) p).bind fun t q => (fns us m).binL l (herI us p) t q)
   exact q_ite (fun _ => Iff.rfl) (ih.una p) (q_bind (ih.bin _ _) fun t q hq => ih.binL _ _ _ _ _ _ fun h => ⟨hK.he (hq h), rfl⟩)
  ·intro l fr fr' t t' p hd
   show qR ts K p (if rowI (nxT ts p).text = l then ((fns ts n).bin (l + 1) (p + 1)).bind fun u q => if l = 2 then .ok (.mk 27 (nxT ts p).text 0 (nxT ts p).pos fr (behI ts q) [t, u]) q else (fns ts n).binL l fr (.mk 27 (nxT ts p).text 0 (nxT ts p).pos fr (behI ts q) [t, u]) q else .ok t p)
    (if rowI (nxT us p).text = l then ((fns us m).bin (l + 1) (p + 1)).bind fun u q => if l = 2 then .ok (.mk 27 (nxT us p).text 0 (nxT us p).pos fr' (behI us q) [t', u]) q else (fns us m).binL l fr' (.mk 27 (nxT us p).text 0 (nxT us p).pos fr' (behI us q) [t', u]) q else .ok t' p)
   refine q_ite (fun hp => by rw [hK.nx _ hp]) (q_mono hK (q_bind (ih.bin _ _) fun u q hq => q_ite (fun _ => Iff.rfl) (q_ok (fun h => h) fun h => ?_) (ih.binL _ _ _ _ _ _ fun h => ⟨(hd (hK.one (hq h))).1, ?_⟩)) (by omega)) (q_ok (fun h => h) fun h => (hd h).2)
   ·have h3 := hK.one (hq h)
    rw [hK.nx _ h3, hK.be h, (hd h3).1, (hd h3).2]
   ·have h3 := hK.one (hq h)
    rw [hK.nx _ h3, hK.be h, (hd h3).1, (hd h3).2]
  ·intro p
   show qR ts K p (if isT ts p [45] || isT ts p [33] then ((fns ts n).una (p + 1)).bind fun u q => .ok (.mk 26 (nxT ts p).text 0 (nxT ts p).pos (herI ts p) (behI ts q) [u]) q else (fns ts n).post p) (if isT us p [45] || isT us p [33] then ((fns us m).una (p + 1)).bind fun u q => .ok (.mk 26 (nxT us p).text 0 (nxT us p).pos (herI us p) (behI us q) [u]) q else (fns us m).post p)
   refine q_ite (fun hp => by rw [hK.is hp, hK.is hp]) (q_mono hK (q_bind (ih.una _) fun u q hq => q_ok (fun h => h) fun h => ?_) (by omega)) (ih.post p)
   have h3 := hK.one (hq h)
   rw [hK.nx _ h3, hK.be h, hK.he h3]
  ·intro p
   exact q_bind (ih.prim p) fun t q hq => ih.posL _ _ _ _ _ fun h => ⟨hK.he (hq h), rfl⟩
  ·intro fr fr' t t' p hd
   refine q_ite (hK.isi _ _) (q_mono hK (q_nam hK fun h1 => ih.posL _ _ _ _ _ fun h => ?_) (by omega)) (q_ite (hK.isi _ _) (q_bind (q_lis hK (ih.bin 0) ih.argL) fun l q hq => ih.posL _ _ _ _ _ fun h => ?_) (q_ok (fun h => h) fun h => (hd h).2))
   ·have h3 := hd (hK.one (h1 h))
    exact ⟨h3.1, by rw [hK.nx _ (h1 h), hK.be h, h3.1, h3.2]⟩
   ·have h3 := hd (hq h)
    exact ⟨h3.1, by rw [hK.be h, h3.1, h3.2]⟩
  ·intro p
   exact q_ite (hK.isi _ _) (q_mono hK (q_bind (ih.bin _ _) fun t q hq => q_exp hK fun _ => q_ok (fun h => h) fun _ => rfl) (by omega)) (q_ite (fun hp => by rw [hK.na hp]) (q_lea hK _ _) (q_va1 hK _))
  ·intro l l' p hd
   exact q_ite (hK.isi _ _) (q_mono hK (q_bind (ih.bin _ _) fun t q hq => ih.argL _ _ _ fun h => by rw [hd (hK.one (hq h))]) (by omega)) (q_ok (fun h => h) hd)
  ·intro l l' p hd
   exact q_ite (hK.isi _ _) (q_mono hK (q_bind (q_tyd hK _ _) fun t q hq => ih.parL _ _ _ fun h => by rw [hd (hK.one (hq h))]) (by omega)) (q_ok (fun h => h) hd)
  ·intro l l' p hd
   exact q_ite (hK.isi _ _) (q_ok (fun h => h) hd) (q_bind (q_tyd hK _ _) fun t q hq => q_ite (hK.isi _ _) (ih.fieL _ _ _ fun h => by rw [hd (hq h)]) (q_kin hK fun h1 => ih.fieL _ _ _ fun h => by rw [hd (hq (h1 h))]))
  ·intro p
   have hsho : qR ts K p (shoP ts (fns ts n) p) (shoP us (fns us m) p) := by
    unfold shoP
    refine q_nam hK fun h1 => q_exp hK fun h2 => q_bind (ih.bin _ _) fun x q hq => q_ok (fun h => h) fun h => ?_
    have h3 := h1 (h2 (hq h))
    rw [hK.nx _ h3, hK.he h3, hK.be h]
   have hsim : qR ts K p (simP ts (fns ts n) p) (simP us (fns us m) p) := by
    unfold simP
    refine q_bind (ih.bin _ _) fun x q hq => q_ite (hK.isi _ _) (q_mono hK (q_bind (ih.bin _ _) fun y q' hq' => q_ok (fun h => h) fun h => ?_) (by omega)) (q_ok (fun h => h) fun h => ?_)
    ·rw [hK.he (hq (hK.one (hq' h))), hK.be h]
    ·rw [hK.he (hq h), hK.be h]
   refine q_ite (hK.isi _ _) (q_blo hK ih p) (q_ite (hK.isi _ _) (q_var hK ih p) (q_ite (hK.isi _ _) (ih.bran p) (q_ite (hK.isi _ _) ?_ (q_ite (hK.isi _ _) ?_ ?_))))
   ·unfold looP
    refine q_exp hK fun h1 => q_bind (ih.bin _ _) fun x q hq => q_bind (q_blo hK ih _) fun b q' hq' => q_ok (fun h => h) fun h => ?_
    rw [hK.he (h1 (hq (hq' h))), hK.be h]
   ·unfold resP
    refine q_exp hK fun h1 => q_ite (fun hp => by rw [hK.nx _ hp, hK.is hp]) (q_bind (ih.bin _ _) fun x q hq => q_ok (fun h => h) fun h => ?_) (q_ok (fun h => h) fun h => ?_)
    ·rw [hK.he (h1 (hq h)), hK.be h]
    ·rw [hK.he (h1 h), hK.be h]
   ·by_cases h1 : K (p + 1)
    ·exact q_ite (fun hp => by rw [hK.na hp, hK.is h1]) hsho hsim
    ·by_cases hn : namB ts p = true
     ·have f1 : farR ts K (shoP ts (fns ts n) p) := by
       unfold shoP namP Rs.need
       rw [if_pos hn]
       exact (q_exp (us := us) (k' := fun q => ((fns us m).bin 0 q).bind fun x q => .ok (.mk 17 (nxT ts p).text 0 (nxT ts p).pos (herI ts p) (behI ts q) [x]) q) hK fun _ => q_bind (ih.bin _ _) fun x q hq => q_ok (fun h => h) fun h => rfl).2 h1
      have f2 : farR ts K (simP ts (fns ts n) p) := by
       unfold simP
       refine far_bind (ih.nbin 0 p hn h1) fun x q hq => ?_
       exact (q_ite (p := q) (c' := isT us q [61] = true) (a' := ((fns us m).bin 0 (q + 1)).bind fun y q => .ok (.mk 18 ⟨#[]⟩ 0 (herI ts p) (herI ts p) (behI us q) [x, y]) q) (b' := .ok (.mk 19 ⟨#[]⟩ 0 (herI ts p) (herI ts p) (behI us q) [x]) q) (hK.isi _ _) (q_mono hK (q_bind (ih.bin _ _) fun y q' hq' => q_ok (fun h => h) fun h => by rw [hK.be h]) (by omega)) (q_ok (fun h => h) fun h => by rw [hK.be h])).2 hq
      have f := far_ite (ts := ts) (K := K) (c := (namB ts p && isT ts (p + 1) [58, 61]) = true) (fun _ => f1) fun _ => f2
      exact ⟨fun _ => far_rel _ f, fun _ => f⟩
     ·have hn' : namB ts p = false := by simpa using hn
      refine ⟨fun hp => ?_, fun hp => ?_⟩
      ·rw [hn', <- hK.na hp, hn']
       exact hsim.1 hp
      ·rw [hn']
       exact hsim.2 hp
  ·intro p
   show qR ts K p (expP ts [105, 102] p fun q => ((fns ts n).bin 0 q).bind fun x q => (bloP ts (fns ts n) q).bind fun b q => if isT ts q [101, 108, 115, 101] then (if isT ts (q + 1) [105, 102] then (fns ts n).bran (q + 1) else bloP ts (fns ts n) (q + 1)).bind fun c q => Rs.ok (Pt.mk 14 ⟨#[]⟩ 0 (herI ts p) (herI ts p) (behI ts q) [x, b, c]) q else Rs.ok (Pt.mk 14 ⟨#[]⟩ 0 (herI ts p) (herI ts p) (behI ts q) [x, b]) q)
    (expP us [105, 102] p fun q => ((fns us m).bin 0 q).bind fun x q => (bloP us (fns us m) q).bind fun b q => if isT us q [101, 108, 115, 101] then (if isT us (q + 1) [105, 102] then (fns us m).bran (q + 1) else bloP us (fns us m) (q + 1)).bind fun c q => Rs.ok (Pt.mk 14 ⟨#[]⟩ 0 (herI us p) (herI us p) (behI us q) [x, b, c]) q else Rs.ok (Pt.mk 14 ⟨#[]⟩ 0 (herI us p) (herI us p) (behI us q) [x, b]) q)
   refine q_exp hK fun h1 => q_bind (ih.bin _ _) fun x q hq => q_bind (q_blo hK ih _) fun b q' hq' => q_ite (hK.isi _ _) (q_mono hK (q_bind (q_ite (p := q' + 1) (hK.isi _ _) (ih.bran _) (q_blo hK ih _)) fun c q'' hq'' => q_ok (fun h => h) fun h => ?_) (by omega)) (q_ok (fun h => h) fun h => ?_)
   ·rw [hK.he (h1 (hq (hq' (hK.one (hq'' h))))), hK.be h]
   ·rw [hK.he (h1 (hq (hq' h))), hK.be h]
  ·intro l l' p hd
   exact q_ite (hK.isi _ _) (q_ok (fun h => h) hd) (q_bind (ih.stmt _) fun t q hq => q_ite (hK.isi _ _) (ih.stmL _ _ _ fun h => by rw [hd (hq h)]) (q_kin hK fun h1 => ih.stmL _ _ _ fun h => by rw [hd (hq (h1 h))]))
  ·intro l l' p hd
   exact q_ite (hK.isi _ _) (q_bind (q_imp hK _) fun t q hq => q_kin hK fun h1 => ih.impL _ _ _ fun h => by rw [hd (hq (h1 h))]) (q_ok (fun h => h) hd)
  ·intro l l' p hd
   exact q_ite (fun hp => hK.lt p hp) (q_bind (q_dec hK ih _) fun t q hq => q_kin hK fun h1 => ih.decL _ _ _ fun h => by rw [hd (hq (h1 h))]) (q_ok (fun h => h) hd)
  ·intro l p hn h1
   show farR ts K (if l = 5 then (fns ts n).una p else ((fns ts n).bin (l + 1) p).bind fun t q => (fns ts n).binL l (herI ts p) t q)
   exact far_ite (fun _ => ih.nuna p hn h1) fun _ => far_bind (ih.nbin _ p hn h1) fun t q hq => (ih.binL l (herI ts p) (herI ts p) t t q fun h => (hq h).elim).2 hq
  ·intro p hn h1
   show farR ts K (if isT ts p [45] || isT ts p [33] then ((fns ts n).una (p + 1)).bind fun u q => .ok (.mk 26 (nxT ts p).text 0 (nxT ts p).pos (herI ts p) (behI ts q) [u]) q else (fns ts n).post p)
   exact far_ite (fun _ => far_bind ((ih.una (p + 1)).2 h1) fun u q hq => hq) fun _ => ih.npost p hn h1
  ·intro p hn h1
   exact far_bind (ih.nprim p hn h1) fun t q hq => (ih.posL (herI ts p) (herI ts p) t t q fun h => (hq h).elim).2 hq
  ·intro p hn h1
   refine far_ite (fun _ => far_bind ((ih.bin 0 (p + 1)).2 h1) fun t q hq => ?_) fun _ => far_ite (fun _ => h1) fun h => (h hn).elim
   exact (q_exp (us := us) (k' := fun q => .ok t q) hK fun _ => q_ok (fun h => h) fun _ => rfl).2 hq
theorem q_fil (hK : Kn ts us K) {n m : Nat} (hn : n <= m) (p : Nat) : qR ts K p (filP ts n p) (filP us m p) := by
 have ih := rlA hK n m hn
 unfold filP
 refine q_exp hK fun h1 => q_nam hK fun h2 => q_kin hK fun h3 => q_bind (ih.impL _ _ _ fun _ => rfl) fun l q hq => q_bind (ih.decL _ _ _ fun _ => rfl) fun l' q' hq' => q_ok (fun h => h) fun h => ?_
 have h4 := h2 (h3 (hq (hq' h)))
 rw [hK.nx _ h4, hK.he (h1 h4), hK.be h]
end
theorem fil_more {ts : List Tok} {n m : Nat} (hn : n <= m) (h : filP ts n 0 ≠ .out) : filP ts m 0 = filP ts n 0 := by
 have hK : Kn ts ts (fun _ => True) := ⟨fun _ _ _ _ => trivial, fun _ _ => rfl, fun _ _ => Iff.rfl⟩
 have hq := (q_fil hK hn 0).1 trivial
 cases hr : filP ts n 0 with
 | ok v q => rw [hr] at hq; exact hq trivial
 | bad s =>
  rw [hr] at hq
  rcases hq with ⟨p, hp, -⟩ | hq
  ·exact (hp trivial).elim
  ·exact hq
 | out => exact (h hr).elim
end Go.Proofs.YtbadafkfjfbnlaaGreatDoor
