import Derived.Test.YtbadafkfjfbnlaaGreatDoorTbS
import Derived.Test.YtbadafkfjfbnlaaGreatDoorTbG
namespace Go.Proofs.YtbadafkfjfbnlaaGreatDoor
set_option maxRecDepth 100000
open Go.RowKit
theorem zyc {a f t : Int} {e : Pt} (he : Ex e) {k : Int} {s : List UInt8} {r : List Tok} (hf : fol k s) (ts : List Tok) (p : Nat) (hh : Hs ts p (wdT [114, 101, 116, 117, 114, 110] :: (wrP e ++ tkW k (strU s) :: r))) : ∃ e', smP (.mk 16 ⟨#[]⟩ 0 a f t [e]) e' ∧ Ev (fun m => resP ts (fns ts m) p) (.ok e' (p + 1 + (wrP e).length)) := by
 obtain ⟨e', h1, h2⟩ := zjp he (zil hf) ts (p + 1) hh.tail
 refine ⟨.mk 16 ⟨#[]⟩ 0 (herI ts p) (herI ts p) (behI ts (p + 1 + (wrP e).length)) [e'], zbf (zb9 h1), ?_⟩
 obtain ⟨b, q, e1, hb⟩ := zrp he
 have hq : Hs ts (p + 1) (b :: (q ++ tkW k (strU s) :: r)) := by have := hh.tail; rw [e1, List.cons_append] at this; exact this
 have hk : ((nxT ts (p + 1)).kind == 5) = false := by rw [hq.knd]; simpa using zjo hb
 have hi : isT ts (p + 1) [125] = false := by
  unfold isT
  rw [(hq.one (zjo hb)).2]
  exact zrq hb (by decide) (by decide) (by decide) (by decide)
 unfold resP expP
 exact zaz hh.is (zbi (by rw [hk, hi]; rfl) (zao h2 (zak _)))
theorem zrx {a f t : Int} {x : ByteArray} {v : Pt} (hx : kepB x = false) (hv : Ty v) {k : Int} {s : List UInt8} {r : List Tok} (hf : fol k s) (ts : List Tok) (p : Nat) (hh : Hs ts p (wdT [118, 97, 114] :: tkW 1 x :: (wrP v ++ tkW k (strU s) :: r))) : ∃ e', smP (.mk 4 x 0 a f t [v]) e' ∧ Ev (fun m => varP ts (fns ts m) p) (.ok e' (p + 1 + 1 + (wrP v).length)) := by
 have h2 := hh.tail
 have htx : (nxT ts (p + 1)).text = x := h2.one.2
 have hc := h2.tail.right
 obtain ⟨v', h3, h4⟩ := zva hv ts (p + 1 + 1) h2.tail.left (hc.not (zil hf).1)
 refine ⟨.mk 4 x 0 (nxT ts (p + 1)).pos (herI ts p) (behI ts (p + 1 + 1 + (wrP v).length)) [v'], zbf (zb9 h3), ?_⟩
 unfold varP expP namP
 refine zaz hh.is (zaz (zd1 h2 hx) (zao (by rw [h4]; exact zak _) (zaq ?_ ?_)))
 ·rw [show isT ts (p + 1 + 1 + (wrP v).length) [61] = false by rcases hf with ⟨rfl, rfl⟩ | ⟨rfl, rfl⟩ <;> exact hc.not (by decide)]
  simp
 ·rw [htx]
  exact zak _
theorem zry {a f t : Int} {x : ByteArray} {v d : Pt} (hx : kepB x = false) (hv : Ty v) (hd : Ex d) {k : Int} {s : List UInt8} {r : List Tok} (hf : fol k s) (ts : List Tok) (p : Nat) (hh : Hs ts p (wdT [118, 97, 114] :: tkW 1 x :: (wrP v ++ tkW 4 (strU [61]) :: (wrP d ++ tkW k (strU s) :: r)))) : ∃ e', smP (.mk 4 x 0 a f t [v, d]) e' ∧ Ev (fun m => varP ts (fns ts m) p) (.ok e' (p + 1 + 1 + (wrP v).length + 1 + (wrP d).length)) := by
 have h2 := hh.tail
 have htx : (nxT ts (p + 1)).text = x := h2.one.2
 have hc := h2.tail.right
 obtain ⟨v', h3, h4⟩ := zva hv ts (p + 1 + 1) h2.tail.left (hc.not (by decide))
 obtain ⟨d', h5, h6⟩ := zjp hd (zil hf) ts (p + 1 + 1 + (wrP v).length + 1) hc.tail
 refine ⟨.mk 4 x 0 (nxT ts (p + 1)).pos (herI ts p) (behI ts (p + 1 + 1 + (wrP v).length + 1 + (wrP d).length)) [v', d'], zbf (zbm h3 (zb9 h5)), ?_⟩
 unfold varP expP namP
 refine zaz hh.is (zaz (zd1 h2 hx) (zao (by rw [h4]; exact zak _) (zbi hc.is (zao h6 ?_))))
 rw [htx]
 exact zak _
inductive St : Pt -> Prop
 | block {a f t : Int} {l : List Pt} : (∀ u ∈ l, St u) -> St (.mk 13 ⟨#[]⟩ 0 a f t l)
 | loop {a f t a' f' t' : Int} {c : Pt} {l : List Pt} : Ex c -> (∀ u ∈ l, St u) -> St (.mk 15 ⟨#[]⟩ 0 a f t [c, .mk 13 ⟨#[]⟩ 0 a' f' t' l])
 | if1 {a f t a' f' t' : Int} {c : Pt} {l : List Pt} : Ex c -> (∀ u ∈ l, St u) -> St (.mk 14 ⟨#[]⟩ 0 a f t [c, .mk 13 ⟨#[]⟩ 0 a' f' t' l])
 | if2 {a f t a' f' t' a2 f2 t2 : Int} {c : Pt} {l m : List Pt} : Ex c -> (∀ u ∈ l, St u) -> (∀ u ∈ m, St u) -> St (.mk 14 ⟨#[]⟩ 0 a f t [c, .mk 13 ⟨#[]⟩ 0 a' f' t' l, .mk 13 ⟨#[]⟩ 0 a2 f2 t2 m])
 | if3 {a f t a' f' t' : Int} {c d : Pt} {l : List Pt} : Ex c -> (∀ u ∈ l, St u) -> St d -> (hdP d).1 = 14 -> St (.mk 14 ⟨#[]⟩ 0 a f t [c, .mk 13 ⟨#[]⟩ 0 a' f' t' l, d])
 | var1 {a f t : Int} {x : ByteArray} {v : Pt} : kepB x = false -> Ty v -> St (.mk 4 x 0 a f t [v])
 | var2 {a f t : Int} {x : ByteArray} {v d : Pt} : kepB x = false -> Ty v -> Ex d -> St (.mk 4 x 0 a f t [v, d])
 | res0 {a f t : Int} : St (.mk 16 ⟨#[]⟩ 0 a f t [])
 | res1 {a f t : Int} {e : Pt} : Ex e -> St (.mk 16 ⟨#[]⟩ 0 a f t [e])
 | short {a f t : Int} {x : ByteArray} {e : Pt} : kepB x = false -> plF x -> Ex e -> St (.mk 17 x 0 a f t [e])
 | assign {a f t : Int} {e d : Pt} : Ex e -> Ex d -> St (.mk 18 ⟨#[]⟩ 0 a f t [e, d])
 | expr {a f t : Int} {e : Pt} : Ex e -> St (.mk 19 ⟨#[]⟩ 0 a f t [e])
def StI (e : Pt) : Prop := ∀ (k : Int) (s : List UInt8) (r : List Tok), fol k s -> ∀ (ts : List Tok) (p : Nat), Hs ts p (wrP e ++ tkW k (strU s) :: r) -> isT ts p [125] = false ∧ ∃ e', smP e e' ∧ Ev (fun m => (fns ts m).stmt p) (.ok e' (p + (wrP e).length))
theorem zrz : ∀ (l : List Pt), (∀ u ∈ l, StI u) -> ∀ (ts : List Tok) (p : Nat) (acc : List Pt), Hs ts p (wEnd (l.map wrP) ++ [sgT [125]]) ->
  ∃ l', smL l l' ∧ Ev (fun m => (fns ts m).stmL acc p) (.ok (acc ++ l') (p + (wEnd (l.map wrP)).length))
 | [], _, ts, p, acc, hh => by
  refine ⟨[], zbo, zbg ?_⟩
  have h0 : Hs ts p (tkW 4 (strU [125]) :: []) := by simpa [sgT, wEnd] using hh
  rw [List.append_nil]
  exact zbi h0.is (zak _)
 | u :: r, hl, ts, p, acc, hh => by
  have hw : wEnd ((u :: r).map wrP) ++ [sgT [125]] = wrP u ++ (tkW 5 (strU [59]) :: (wEnd (r.map wrP) ++ [sgT [125]])) := by simp [wEnd, enT]
  rw [hw] at hh
  have hc := hh.right
  have hk : (nxT ts (p + (wrP u).length)).kind = 5 := hc.knd
  obtain ⟨h0, u', h1, h2⟩ := hl u (by simp) 5 [59] _ (.inl ⟨rfl, rfl⟩) ts p hh
  obtain ⟨l', h3, h4⟩ := zrz r (fun v hv => hl v (by simp [hv])) ts (p + (wrP u).length + 1) (acc ++ [u']) hc.tail
  refine ⟨u' :: l', zbm h1 h3, zbg ?_⟩
  refine zaq (by rw [h0]; simp) (zao h2 (zaq (by rw [hc.not (by decide)]; simp) ?_))
  unfold kinP
  refine zaz (by rw [hk]; rfl) ?_
  have e3 : p + (wEnd ((u :: r).map wrP)).length = p + (wrP u).length + 1 + (wEnd (r.map wrP)).length := by simp [wEnd]; omega
  rw [e3, show acc ++ u' :: l' = acc ++ [u'] ++ l' by simp]
  exact h4
theorem zim {a f t : Int} {l : List Pt} (hl : ∀ u ∈ l, StI u) (ts : List Tok) (p : Nat) (hh : Hs ts p (wBra (l.map wrP))) : ∃ e', smP (.mk 13 ⟨#[]⟩ 0 a f t l) e' ∧ Ev (fun m => bloP ts (fns ts m) p) (.ok e' (p + (wBra (l.map wrP)).length)) := by
 have hw : wBra (l.map wrP) = tkW 4 (strU [123]) :: (wEnd (l.map wrP) ++ [sgT [125]]) := by simp [wBra, sgT]
 rw [hw] at hh ⊢
 obtain ⟨l', h1, h2⟩ := zrz l hl ts (p + 1) [] hh.tail
 have hz : Hs ts (p + 1 + (wEnd (l.map wrP)).length) (tkW 4 (strU [125]) :: []) := hh.tail.right
 refine ⟨.mk 13 ⟨#[]⟩ 0 (herI ts p) (herI ts p) (behI ts (p + 1 + (wEnd (l.map wrP)).length + 1)) l', zbf h1, ?_⟩
 rw [show p + (tkW 4 (strU [123]) :: (wEnd (l.map wrP) ++ [sgT [125]])).length = p + 1 + (wEnd (l.map wrP)).length + 1 by simp; omega]
 unfold bloP linP expP
 exact zao (zaz hh.is (zao h2 (zaz hz.is (zak _)))) (zak _)
theorem zeh (a f t : Int) (l : List Pt) : wrP (.mk 13 ⟨#[]⟩ 0 a f t l) = wBra (l.map wrP) := by simp [wrP, wrK, wrS, zcd]
theorem zin (l : List Pt) : wBra (l.map wrP) = tkW 4 (strU [123]) :: (wEnd (l.map wrP) ++ [sgT [125]]) := by simp [wBra, sgT]
theorem zr0 (a f t : Int) (c b : Pt) : wrP (.mk 15 ⟨#[]⟩ 0 a f t [c, b]) = wdT [102, 111, 114] :: (wrP c ++ wrP b) := by simp [wrP, wrK, wrS, zcd]
theorem zr1 (a f t : Int) (c b : Pt) : wrP (.mk 14 ⟨#[]⟩ 0 a f t [c, b]) = wdT [105, 102] :: (wrP c ++ wrP b) := by simp [wrP, wrK, wrS, zcd, wIf]
theorem zio (a f t : Int) (c b d : Pt) : wrP (.mk 14 ⟨#[]⟩ 0 a f t [c, b, d]) = wdT [105, 102] :: (wrP c ++ (wrP b ++ wdT [101, 108, 115, 101] :: wrP d)) := by simp [wrP, wrK, wrS, zcd, wIf]
theorem z0l {a f t a' f' t' : Int} {c : Pt} {l : List Pt} (hc : Ex c) (hl : ∀ u ∈ l, StI u) (ts : List Tok) (p : Nat) (hh : Hs ts p (wdT [102, 111, 114] :: (wrP c ++ wBra (l.map wrP)))) :
  ∃ e', smP (.mk 15 ⟨#[]⟩ 0 a f t [c, .mk 13 ⟨#[]⟩ 0 a' f' t' l]) e' ∧ Ev (fun m => looP ts (fns ts m) p) (.ok e' (p + 1 + (wrP c).length + (wBra (l.map wrP)).length)) := by
 have ht := hh.tail
 obtain ⟨c', h1, h2⟩ := zjp hc (s := [123]) ⟨by decide, by decide, by decide⟩ ts (p + 1) (by have := ht; rw [zin] at this; exact this)
 obtain ⟨b', h3, h4⟩ := zim (a := a') (f := f') (t := t') hl ts (p + 1 + (wrP c).length) ht.right
 refine ⟨.mk 15 ⟨#[]⟩ 0 (herI ts p) (herI ts p) (behI ts (p + 1 + (wrP c).length + (wBra (l.map wrP)).length)) [c', b'], zbf (zbm h1 (zb9 h3)), ?_⟩
 unfold looP expP
 exact zaz hh.is (zao h2 (zao h4 (zak _)))
theorem zvc {a f t a' f' t' : Int} {c : Pt} {l : List Pt} (hc : Ex c) (hl : ∀ u ∈ l, StI u) {k : Int} {s : List UInt8} {r : List Tok} (hf : fol k s) (ts : List Tok) (p : Nat) (hh : Hs ts p (wdT [105, 102] :: (wrP c ++ (wBra (l.map wrP) ++ tkW k (strU s) :: r)))) :
  ∃ e', smP (.mk 14 ⟨#[]⟩ 0 a f t [c, .mk 13 ⟨#[]⟩ 0 a' f' t' l]) e' ∧ Ev (fun m => (fns ts m).bran p) (.ok e' (p + 1 + (wrP c).length + (wBra (l.map wrP)).length)) := by
 have ht := hh.tail
 obtain ⟨c', h1, h2⟩ := zjp hc (s := [123]) ⟨by decide, by decide, by decide⟩ ts (p + 1) (by have := ht; rw [zin, List.cons_append] at this; exact this)
 obtain ⟨b', h3, h4⟩ := zim (a := a') (f := f') (t := t') hl ts (p + 1 + (wrP c).length) ht.right.left
 have hz := ht.right.right
 refine ⟨.mk 14 ⟨#[]⟩ 0 (herI ts p) (herI ts p) (behI ts (p + 1 + (wrP c).length + (wBra (l.map wrP)).length)) [c', b'], zbf (zbm h1 (zb9 h3)), zbg ?_⟩
 show Ev (fun m => expP ts [105, 102] p fun q => ((fns ts m).bin 0 q).bind fun x q => (bloP ts (fns ts m) q).bind fun b q =>
    if isT ts q [101, 108, 115, 101] then
     (if isT ts (q + 1) [105, 102] then (fns ts m).bran (q + 1) else bloP ts (fns ts m) (q + 1)).bind fun c q => Rs.ok (Pt.mk 14 ⟨#[]⟩ 0 (herI ts p) (herI ts p) (behI ts q) [x, b, c]) q
    else Rs.ok (Pt.mk 14 ⟨#[]⟩ 0 (herI ts p) (herI ts p) (behI ts q) [x, b]) q) _
 unfold expP
 refine zaz hh.is (zao h2 (zao h4 (zaq ?_ (zak _))))
 rw [show isT ts (p + 1 + (wrP c).length + (wBra (l.map wrP)).length) [101, 108, 115, 101] = false by rcases hf with ⟨rfl, rfl⟩ | ⟨rfl, rfl⟩ <;> exact hz.not (by decide)]
 simp
theorem znm {a f t a' f' t' : Int} {c d : Pt} {l : List Pt} (hc : Ex c) (hl : ∀ u ∈ l, StI u) (ts : List Tok) (p : Nat) (r : List Tok) (hh : Hs ts p (wdT [105, 102] :: (wrP c ++ (wBra (l.map wrP) ++ wdT [101, 108, 115, 101] :: r))))
  (q : Nat) (hd : ∃ d', smP d d' ∧ Ev (fun m => if isT ts (p + 1 + (wrP c).length + (wBra (l.map wrP)).length + 1) [105, 102] then (fns ts m).bran (p + 1 + (wrP c).length + (wBra (l.map wrP)).length + 1) else bloP ts (fns ts m) (p + 1 + (wrP c).length + (wBra (l.map wrP)).length + 1)) (.ok d' q)) :
  ∃ e', smP (.mk 14 ⟨#[]⟩ 0 a f t [c, .mk 13 ⟨#[]⟩ 0 a' f' t' l, d]) e' ∧ Ev (fun m => (fns ts m).bran p) (.ok e' q) := by
 have ht := hh.tail
 obtain ⟨c', h1, h2⟩ := zjp hc (s := [123]) ⟨by decide, by decide, by decide⟩ ts (p + 1) (by have := ht; rw [zin, List.cons_append] at this; exact this)
 obtain ⟨b', h3, h4⟩ := zim (a := a') (f := f') (t := t') hl ts (p + 1 + (wrP c).length) ht.right.left
 have hz := ht.right.right
 obtain ⟨d', h5, h6⟩ := hd
 refine ⟨.mk 14 ⟨#[]⟩ 0 (herI ts p) (herI ts p) (behI ts q) [c', b', d'], zbf (zbm h1 (zbm h3 (zb9 h5))), zbg ?_⟩
 show Ev (fun m => expP ts [105, 102] p fun q => ((fns ts m).bin 0 q).bind fun x q => (bloP ts (fns ts m) q).bind fun b q =>
    if isT ts q [101, 108, 115, 101] then
     (if isT ts (q + 1) [105, 102] then (fns ts m).bran (q + 1) else bloP ts (fns ts m) (q + 1)).bind fun c q => Rs.ok (Pt.mk 14 ⟨#[]⟩ 0 (herI ts p) (herI ts p) (behI ts q) [x, b, c]) q
    else Rs.ok (Pt.mk 14 ⟨#[]⟩ 0 (herI ts p) (herI ts p) (behI ts q) [x, b]) q) _
 unfold expP
 exact zaz hh.is (zao h2 (zao h4 (zbi hz.is (zao h6 (zak _)))))
theorem z0m : ∀ (m : Nat), ∃ c r, Lib.decDigits m = c :: r ∧ (48 <= c ∧ c <= 57) := by
 intro m
 induction m using Nat.strongRecOn with
 | _ m ih =>
  rw [Lib.decDigits]
  split
  ·rename_i h
   refine ⟨_, [], rfl, ?_⟩
   have e : (UInt8.ofNat (48 + m)).toNat = 48 + m := by rw [UInt8.toNat_ofNat']; omega
   constructor
   ·rw [UInt8.le_iff_toNat_le, e]; show 48 <= 48 + m; omega
   ·rw [UInt8.le_iff_toNat_le, e]; show 48 + m <= 57; omega
  ·rename_i h
   obtain ⟨c, r, e, h1⟩ := ih (m / 10) (by omega)
   exact ⟨c, _, by rw [e]; rfl, h1⟩
theorem zvd {n : Int} (h : plF ⟨(Lib.itoa n).toArray⟩) : ∃ c r, Lib.itoa n = c :: r ∧ (48 <= c ∧ c <= 57) := by
 unfold Lib.itoa at h ⊢
 split
 ·rename_i hn
  rw [if_pos hn] at h
  obtain ⟨c, r, e, hc⟩ := h
  have e2 : (45 : UInt8) :: Lib.decDigits n.natAbs = c :: r := by simpa using e
  injection e2 with e3 _
  rw [<- e3] at hc
  exact absurd hc (by decide)
 ·exact z0m _
theorem znn : ∀ (L acc Q : List UInt8), quoG acc L = some Q -> ∃ r, Q = acc ++ r
 | [], acc, Q, h => by
  rw [quoG] at h
  injection h with h
  exact ⟨[34], h.symm⟩
 | c :: L, acc, Q, h => by
  rw [quoG] at h
  split at h
  ·cases h
  ·rename_i x hx
   obtain ⟨r, e⟩ := znn L _ Q h
   exact ⟨x ++ r, by rw [e, List.append_assoc]⟩
theorem zyd {x : ByteArray} (h : plF (quoT x)) : ∃ r, (quoT x).data.toList = 34 :: r := by
 unfold quoT at h ⊢
 split
 ·rename_i q hq
  unfold quoO at hq
  obtain ⟨r, e⟩ := znn _ _ _ hq
  exact ⟨r, by rw [e]; simp [strU]⟩
 ·rename_i hq
  rw [hq] at h
  obtain ⟨c, r, e, -⟩ := h
  simp at e
theorem zr2 {x : ByteArray} {c : UInt8} {r : List UInt8} (h : x.data.toList = c :: r) (hc : c < 97) : kepB x = false := by
 have hne : ∀ d : UInt8, 97 <= d -> ∀ u : List UInt8, ((c :: r) == (d :: u)) = false := fun d hd u => by
  rw [Bool.eq_false_iff]
  intro e
  have e2 : c :: r = d :: u := eq_of_beq e
  injection e2 with e3 _
  subst e3
  exact absurd hc (by simpa [UInt8.not_lt] using hd)
 unfold kepB
 rw [h]
 simp only [hne 112 (by decide), hne 105 (by decide), hne 99 (by decide), hne 118 (by decide), hne 116 (by decide), hne 115 (by decide), hne 102 (by decide), hne 101 (by decide), hne 114 (by decide), hne 98 (by decide), Bool.or_self]
theorem zr3 {x : ByteArray} (h : kepB x = false) : (x.data.toList == [118, 97, 114]) = false ∧ (x.data.toList == [105, 102]) = false ∧ (x.data.toList == [102, 111, 114]) = false ∧ (x.data.toList == [114, 101, 116, 117, 114, 110]) = false := by
 unfold kepB at h
 simp only [Bool.or_eq_false_iff] at h
 obtain ⟨⟨⟨⟨⟨⟨⟨⟨⟨⟨⟨⟨⟨⟨⟨-, -⟩, -⟩, h4⟩, -⟩, -⟩, -⟩, h8⟩, -⟩, h10⟩, h11⟩, -⟩, -⟩, -⟩, -⟩, -⟩ := h
 exact ⟨h4, h8, h10, h11⟩
structure plSt (a : Tok) : Prop where
 b : (a.text.data.toList == [123]) = false
 c : (a.text.data.toList == [125]) = false
 v : (a.text.data.toList == [118, 97, 114]) = false
 i : (a.text.data.toList == [105, 102]) = false
 f : (a.text.data.toList == [102, 111, 114]) = false
 r : (a.text.data.toList == [114, 101, 116, 117, 114, 110]) = false
theorem zjq {k : Int} {x : ByteArray} (hp : plF x) (hk : kepB x = false) : plSt (tkW k x) := by
 obtain ⟨h1, h2, h3, h4⟩ := zr3 hk
 exact ⟨zf1 hp (by decide), zf1 hp (by decide), h1, h2, h3, h4⟩
theorem zr4 {k : Int} {s : List UInt8} (h1 : (s == [123]) = false) (h2 : (s == [125]) = false) (h3 : (s == [118, 97, 114]) = false) (h4 : (s == [105, 102]) = false) (h5 : (s == [102, 111, 114]) = false) (h6 : (s == [114, 101, 116, 117, 114, 110]) = false) : plSt (tkW k (strU s)) := by
 exact ⟨by simpa [tkW, strU] using h1, by simpa [tkW, strU] using h2, by simpa [tkW, strU] using h3, by simpa [tkW, strU] using h4, by simpa [tkW, strU] using h5, by simpa [tkW, strU] using h6⟩
theorem zl5 {k : Int} {x : ByteArray} {u : Pt} {i : Nat} (h : ∃ a r, wrP u = a :: r ∧ plSt a) : ∃ a r, opeT k x u i = a :: r ∧ plSt a := by
 unfold opeT
 split
 ·exact ⟨sgT [40], wrP u ++ [sgT [41]], by simp [wBrk, wPar], zr4 (by decide) (by decide) (by decide) (by decide) (by decide) (by decide)⟩
 ·exact h
theorem zwf {e : Pt} (h : Ex e) : ∃ a r, wrP e = a :: r ∧ plSt a := by
 induction h with
 | @int n a f t hn hp =>
  obtain ⟨c, r, e1, h1, h2⟩ := zvd hp
  refine ⟨_, _, zgm _ _ _ _ _, zjq hp (zr2 (c := c) (r := r) (by simpa using e1) ?_)⟩
  exact Nat.lt_of_le_of_lt (UInt8.le_iff_toNat_le.1 h2) (by decide)
 | @text x a f t hx hp =>
  obtain ⟨r, e1⟩ := zyd hp
  exact ⟨_, _, zge _ _ _ _ _, zjq hp (zr2 e1 (by decide))⟩
 | bool hx =>
  refine ⟨_, _, zgf _ _ _ _ _, ?_⟩
  rcases hx with rfl | rfl <;> exact zr4 (by decide) (by decide) (by decide) (by decide) (by decide) (by decide)
 | name hk hp => exact ⟨_, _, zhm _ _ _ _ _, zjq hp hk⟩
 | dot _ _ _ ih =>
  obtain ⟨a, r, e1, e2⟩ := zl5 ih
  exact ⟨a, r ++ _, by rw [zk0, e1]; rfl, e2⟩
 | call _ _ ih _ =>
  obtain ⟨a, r, e1, e2⟩ := zl5 ih
  exact ⟨a, r ++ _, by rw [zhn, e1]; rfl, e2⟩
 | una hx _ _ =>
  refine ⟨_, _, zk1 _ _ _ _ _ _, ?_⟩
  rcases hx with rfl | rfl <;> exact zr4 (by decide) (by decide) (by decide) (by decide) (by decide) (by decide)
 | bin _ _ _ ih _ =>
  obtain ⟨a, r, e1, e2⟩ := zl5 ih
  exact ⟨a, r ++ _, by rw [zk2, e1]; rfl, e2⟩
theorem zl6 (a f t : Int) (x : ByteArray) (v : Pt) : wrP (.mk 4 x 0 a f t [v]) = wdT [118, 97, 114] :: tkW 1 x :: wrP v := by simp [wrP, wrK, zcd, wPar]
theorem zl7 (a f t : Int) (x : ByteArray) (v d : Pt) : wrP (.mk 4 x 0 a f t [v, d]) = wdT [118, 97, 114] :: tkW 1 x :: (wrP v ++ tkW 4 (strU [61]) :: wrP d) := by simp [wrP, wrK, zcd, wPar, sgT]
theorem zr5 (a f t : Int) : wrP (.mk 16 ⟨#[]⟩ 0 a f t []) = [wdT [114, 101, 116, 117, 114, 110]] := by simp [wrP, wrK, wrS, zcd]
theorem zr6 (a f t : Int) (e : Pt) : wrP (.mk 16 ⟨#[]⟩ 0 a f t [e]) = wdT [114, 101, 116, 117, 114, 110] :: wrP e := by simp [wrP, wrK, wrS, zcd]
theorem zno (a f t : Int) (x : ByteArray) (e : Pt) : wrP (.mk 17 x 0 a f t [e]) = tkW 1 x :: tkW 4 (strU [58, 61]) :: wrP e := by simp [wrP, wrK, wrS, zcd, sgT]
theorem zk6 (a f t : Int) (e d : Pt) : wrP (.mk 18 ⟨#[]⟩ 0 a f t [e, d]) = wrP e ++ tkW 4 (strU [61]) :: wrP d := by simp [wrP, wrK, wrS, zcd, wPar, sgT]
theorem zr7 (a f t : Int) (e : Pt) : wrP (.mk 19 ⟨#[]⟩ 0 a f t [e]) = wrP e := by simp [wrP, wrK, wrS, zcd]
def BrI (e : Pt) : Prop := ∀ (k : Int) (s : List UInt8) (r : List Tok), fol k s -> ∀ (ts : List Tok) (p : Nat), Hs ts p (wrP e ++ tkW k (strU s) :: r) -> isT ts p [105, 102] = true ∧ ∃ e', smP e e' ∧ Ev (fun m => (fns ts m).bran p) (.ok e' (p + (wrP e).length))
theorem ze2 {ts : List Tok} {p : Nat} {r : Rs Pt} (h : Ev (fun n =>
   if isT ts p [123] then bloP ts (fns ts n) p else if isT ts p [118, 97, 114] then varP ts (fns ts n) p else if isT ts p [105, 102] then (fns ts n).bran p
   else if isT ts p [102, 111, 114] then looP ts (fns ts n) p else if isT ts p [114, 101, 116, 117, 114, 110] then resP ts (fns ts n) p
   else if namB ts p && isT ts (p + 1) [58, 61] then shoP ts (fns ts n) p else simP ts (fns ts n) p) r) : Ev (fun m => (fns ts m).stmt p) r := zbg h
theorem bf {b : Bool} (h : b = false) : ¬ b = true := by rw [h]; simp
theorem zjr {e : Pt} (h : BrI e) (hw : ∃ r, wrP e = wdT [105, 102] :: r) : StI e := by
 intro k s r hf ts p hh
 obtain ⟨q, hq⟩ := hw
 have h0 : Hs ts p (wdT [105, 102] :: (q ++ tkW k (strU s) :: r)) := by have := hh; rw [hq] at this; exact this
 obtain ⟨h1, e', h2, h3⟩ := h k s r hf ts p hh
 exact ⟨h0.not (by decide), e', h2, ze2 (zaq (bf (h0.not (by decide))) (zaq (bf (h0.not (by decide))) (zbi h1 h3)))⟩
theorem zhp {e : Pt} {a : Tok} {q : List Tok} (ha : plSt a) {ts : List Tok} {p : Nat} {e' : Pt} {n : Nat} (hh : Hs ts p (a :: q)) (h2 : smP e e')
  (h : Ev (fun n => if namB ts p && isT ts (p + 1) [58, 61] then shoP ts (fns ts n) p else simP ts (fns ts n) p) (.ok e' n)) : isT ts p [125] = false ∧ ∃ e', smP e e' ∧ Ev (fun m => (fns ts m).stmt p) (.ok e' n) := by
 refine ⟨hh.notT ha.c, e', h2, ze2 (zaq (bf (hh.notT ha.b)) (zaq (bf (hh.notT ha.v)) (zaq (bf (hh.notT ha.i)) (zaq (bf (hh.notT ha.f)) (zaq (bf (hh.notT ha.r)) h)))))⟩
theorem zye {u : Pt} (h : St u) : StI u ∧ ((hdP u).1 = 14 -> BrI u) := by
 induction h with
 | @block a f t l hl ih =>
  refine ⟨fun k s r hf ts p hh => ?_, fun h => by simp [hdP] at h⟩
  rw [zeh] at hh ⊢
  obtain ⟨e', h1, h2⟩ := zim (a := a) (f := f) (t := t) (fun u hu => (ih u hu).1) ts p hh.left
  have h0 : Hs ts p (tkW 4 (strU [123]) :: (wEnd (l.map wrP) ++ [sgT [125]])) := by have := hh.left; rw [zin] at this; exact this
  exact ⟨h0.not (by decide), e', h1, ze2 (zbi h0.is h2)⟩
 | @loop a f t a' f' t' c l hc hl ih =>
  refine ⟨fun k s r hf ts p hh => ?_, fun h => by simp [hdP] at h⟩
  rw [zr0, zeh] at hh ⊢
  obtain ⟨e', h1, h2⟩ := z0l (a := a) (f := f) (t := t) (a' := a') (f' := f') (t' := t') hc (fun u hu => (ih u hu).1) ts p hh.left
  have h0 : Hs ts p (wdT [102, 111, 114] :: (wrP c ++ wBra (l.map wrP))) := hh.left
  refine ⟨h0.not (by decide), e', h1, ze2 (zaq (bf (h0.not (by decide))) (zaq (bf (h0.not (by decide))) (zaq (bf (h0.not (by decide))) (zbi h0.is ?_))))⟩
  rw [show p + (wdT [102, 111, 114] :: (wrP c ++ wBra (l.map wrP))).length = p + 1 + (wrP c).length + (wBra (l.map wrP)).length by simp; omega]
  exact h2
 | @if1 a f t a' f' t' c l hc hl ih =>
  have hb : BrI (.mk 14 ⟨#[]⟩ 0 a f t [c, .mk 13 ⟨#[]⟩ 0 a' f' t' l]) := fun k s r hf ts p hh => by
   rw [zr1, zeh] at hh ⊢
   have h0 : Hs ts p (wdT [105, 102] :: (wrP c ++ (wBra (l.map wrP) ++ tkW k (strU s) :: r))) := by simpa using hh
   obtain ⟨e', h1, h2⟩ := zvc (a := a) (f := f) (t := t) (a' := a') (f' := f') (t' := t') hc (fun u hu => (ih u hu).1) hf ts p h0
   refine ⟨h0.is, e', h1, ?_⟩
   rw [show p + (wdT [105, 102] :: (wrP c ++ wBra (l.map wrP))).length = p + 1 + (wrP c).length + (wBra (l.map wrP)).length by simp; omega]
   exact h2
  exact ⟨zjr hb ⟨_, zr1 _ _ _ _ _⟩, fun _ => hb⟩
 | @if2 a f t a' f' t' a2 f2 t2 c l m hc hl hm ih im =>
  have hb : BrI (.mk 14 ⟨#[]⟩ 0 a f t [c, .mk 13 ⟨#[]⟩ 0 a' f' t' l, .mk 13 ⟨#[]⟩ 0 a2 f2 t2 m]) := fun k s r hf ts p hh => by
   rw [zio, zeh, zeh] at hh ⊢
   have h0 : Hs ts p (wdT [105, 102] :: (wrP c ++ (wBra (l.map wrP) ++ wdT [101, 108, 115, 101] :: (wBra (m.map wrP) ++ tkW k (strU s) :: r)))) := by simpa using hh
   have hz : Hs ts (p + 1 + (wrP c).length + (wBra (l.map wrP)).length + 1) (wBra (m.map wrP) ++ tkW k (strU s) :: r) := h0.tail.right.right.tail
   have hz2 : Hs ts (p + 1 + (wrP c).length + (wBra (l.map wrP)).length + 1) (tkW 4 (strU [123]) :: (wEnd (m.map wrP) ++ [sgT [125]])) := by have := hz.left; rw [zin] at this; exact this
   obtain ⟨d', h3, h4⟩ := zim (a := a2) (f := f2) (t := t2) (fun u hu => (im u hu).1) ts _ hz.left
   obtain ⟨e', h1, h2⟩ := znm (a := a) (f := f) (t := t) (a' := a') (f' := f') (t' := t') hc (fun u hu => (ih u hu).1) ts p _ h0 _ ⟨d', h3, zaq (bf (hz2.not (by decide))) h4⟩
   refine ⟨h0.is, e', h1, ?_⟩
   rw [show p + (wdT [105, 102] :: (wrP c ++ (wBra (l.map wrP) ++ wdT [101, 108, 115, 101] :: wBra (m.map wrP)))).length = p + 1 + (wrP c).length + (wBra (l.map wrP)).length + 1 + (wBra (m.map wrP)).length by simp; omega]
   exact h2
  exact ⟨zjr hb ⟨_, zio _ _ _ _ _ _⟩, fun _ => hb⟩
 | @if3 a f t a' f' t' c d l hc hl hd h14 ih id =>
  have hb : BrI (.mk 14 ⟨#[]⟩ 0 a f t [c, .mk 13 ⟨#[]⟩ 0 a' f' t' l, d]) := fun k s r hf ts p hh => by
   rw [zio, zeh] at hh ⊢
   have h0 : Hs ts p (wdT [105, 102] :: (wrP c ++ (wBra (l.map wrP) ++ wdT [101, 108, 115, 101] :: (wrP d ++ tkW k (strU s) :: r)))) := by simpa using hh
   have hz : Hs ts (p + 1 + (wrP c).length + (wBra (l.map wrP)).length + 1) (wrP d ++ tkW k (strU s) :: r) := h0.tail.right.right.tail
   obtain ⟨g1, d', h3, h4⟩ := id.2 h14 k s r hf ts _ hz
   obtain ⟨e', h1, h2⟩ := znm (a := a) (f := f) (t := t) (a' := a') (f' := f') (t' := t') hc (fun u hu => (ih u hu).1) ts p _ h0 _ ⟨d', h3, zbi g1 h4⟩
   refine ⟨h0.is, e', h1, ?_⟩
   rw [show p + (wdT [105, 102] :: (wrP c ++ (wBra (l.map wrP) ++ wdT [101, 108, 115, 101] :: wrP d))).length = p + 1 + (wrP c).length + (wBra (l.map wrP)).length + 1 + (wrP d).length by simp; omega]
   exact h2
  exact ⟨zjr hb ⟨_, zio _ _ _ _ _ _⟩, fun _ => hb⟩
 | @var1 a f t x v hx hv =>
  refine ⟨fun k s r hf ts p hh => ?_, fun h => by simp [hdP] at h⟩
  rw [zl6] at hh ⊢
  have h0 : Hs ts p (wdT [118, 97, 114] :: tkW 1 x :: (wrP v ++ tkW k (strU s) :: r)) := hh
  obtain ⟨e', h1, h2⟩ := zrx (a := a) (f := f) (t := t) hx hv hf ts p h0
  refine ⟨h0.not (by decide), e', h1, ze2 (zaq (bf (h0.not (by decide))) (zbi h0.is ?_))⟩
  rw [show p + (wdT [118, 97, 114] :: tkW 1 x :: wrP v).length = p + 1 + 1 + (wrP v).length by simp; omega]
  exact h2
 | @var2 a f t x v d hx hv hd =>
  refine ⟨fun k s r hf ts p hh => ?_, fun h => by simp [hdP] at h⟩
  rw [zl7] at hh ⊢
  have h0 : Hs ts p (wdT [118, 97, 114] :: tkW 1 x :: (wrP v ++ tkW 4 (strU [61]) :: (wrP d ++ tkW k (strU s) :: r))) := by simpa using hh
  obtain ⟨e', h1, h2⟩ := zry (a := a) (f := f) (t := t) hx hv hd hf ts p h0
  refine ⟨h0.not (by decide), e', h1, ze2 (zaq (bf (h0.not (by decide))) (zbi h0.is ?_))⟩
  rw [show p + (wdT [118, 97, 114] :: tkW 1 x :: (wrP v ++ tkW 4 (strU [61]) :: wrP d)).length = p + 1 + 1 + (wrP v).length + 1 + (wrP d).length by simp; omega]
  exact h2
 | @res0 a f t =>
  refine ⟨fun k s r hf ts p hh => ?_, fun h => by simp [hdP] at h⟩
  rw [zr5] at hh ⊢
  have h0 : Hs ts p (wdT [114, 101, 116, 117, 114, 110] :: tkW k (strU s) :: r) := hh
  obtain ⟨e', h1, h2⟩ := zvb (a := a) (f := f) (t := t) hf ts p h0
  exact ⟨h0.not (by decide), e', h1, ze2 (zaq (bf (h0.not (by decide))) (zaq (bf (h0.not (by decide))) (zaq (bf (h0.not (by decide))) (zaq (bf (h0.not (by decide))) (zbi h0.is h2)))))⟩
 | @res1 a f t e he =>
  refine ⟨fun k s r hf ts p hh => ?_, fun h => by simp [hdP] at h⟩
  rw [zr6] at hh ⊢
  have h0 : Hs ts p (wdT [114, 101, 116, 117, 114, 110] :: (wrP e ++ tkW k (strU s) :: r)) := hh
  obtain ⟨e', h1, h2⟩ := zyc (a := a) (f := f) (t := t) he hf ts p h0
  refine ⟨h0.not (by decide), e', h1, ze2 (zaq (bf (h0.not (by decide))) (zaq (bf (h0.not (by decide))) (zaq (bf (h0.not (by decide))) (zaq (bf (h0.not (by decide))) (zbi h0.is ?_)))))⟩
  rw [show p + (wdT [114, 101, 116, 117, 114, 110] :: wrP e).length = p + 1 + (wrP e).length by simp; omega]
  exact h2
 | @short a f t x e hx hp he =>
  refine ⟨fun k s r hf ts p hh => ?_, fun h => by simp [hdP] at h⟩
  rw [zno] at hh ⊢
  have h0 : Hs ts p (tkW 1 x :: tkW 4 (strU [58, 61]) :: (wrP e ++ tkW k (strU s) :: r)) := hh
  obtain ⟨e', h1, h2⟩ := zyb (a := a) (f := f) (t := t) hx he hf ts p h0
  refine zhp (zjq hp hx) h0 h1 (zbi (by rw [zd1 h0 hx, h0.tail.is]; rfl) ?_)
  rw [show p + (tkW 1 x :: tkW 4 (strU [58, 61]) :: wrP e).length = p + 1 + 1 + (wrP e).length by simp; omega]
  exact h2
 | @assign a f t e d he hd =>
  refine ⟨fun k s r hf ts p hh => ?_, fun h => by simp [hdP] at h⟩
  rw [zk6] at hh ⊢
  have h0 : Hs ts p (wrP e ++ tkW 4 (strU [61]) :: (wrP d ++ tkW k (strU s) :: r)) := by simpa using hh
  obtain ⟨e', h1, h2⟩ := zya (a := a) (f := f) (t := t) he hd hf ts p h0
  obtain ⟨b, q, hb, hpl⟩ := zwf he
  have h3 : Hs ts p (b :: (q ++ tkW 4 (strU [61]) :: (wrP d ++ tkW k (strU s) :: r))) := by have := h0; rw [hb] at this; exact this
  refine zhp hpl h3 h1 (zaq (by rw [znl he (zik (by decide)) ts p h0]; simp) ?_)
  rw [show p + (wrP e ++ tkW 4 (strU [61]) :: wrP d).length = p + (wrP e).length + 1 + (wrP d).length by simp; omega]
  exact h2
 | @expr a f t e he =>
  refine ⟨fun k s r hf ts p hh => ?_, fun h => by simp [hdP] at h⟩
  rw [zr7] at hh ⊢
  obtain ⟨e', h1, h2⟩ := zx9 (a := a) (f := f) (t := t) he hf ts p hh
  obtain ⟨b, q, hb, hpl⟩ := zwf he
  have h3 : Hs ts p (b :: (q ++ tkW k (strU s) :: r)) := by have := hh; rw [hb] at this; exact this
  refine zhp hpl h3 h1 (zaq (by rw [znl he (w := tkW k (strU s)) (by rcases hf with ⟨-, rfl⟩ | ⟨-, rfl⟩ <;> exact zik (by decide)) ts p hh]; simp) h2)
theorem z2q {u : Pt} (h : St u) : StI u := (zye h).1
structure Kn (ts us : List Tok) (K : Nat -> Prop) : Prop where
 down : ∀ p q, p <= q -> K q -> K p
 nx : ∀ p, K p -> nxT ts p = nxT us p
 lt : ∀ p, K p -> (p < ts.length ↔ p < us.length)
def farR (ts : List Tok) (K : Nat -> Prop) {α : Type} (r : Rs α) : Prop := match r with | .ok _ q => ¬ K q | .bad s => ∃ p, ¬ K p ∧ s = herI ts p | .out => True
def relR (ts : List Tok) (K : Nat -> Prop) {α : Type} (r s : Rs α) : Prop := match r with | .ok v q => K q -> s = .ok v q | .bad x => (∃ p, ¬ K p ∧ x = herI ts p) ∨ s = .bad x | .out => True
def qR (ts : List Tok) (K : Nat -> Prop) (p : Nat) {α : Type} (r s : Rs α) : Prop := (K p -> relR ts K r s) ∧ (¬ K p -> farR ts K r)
section
variable {ts us : List Tok} {K : Nat -> Prop} {α β : Type}
theorem zjs {r : Rs α} (s : Rs α) (h : farR ts K r) : relR ts K r s := by
 cases r with
 | ok v q => exact fun hk => (h hk).elim
 | bad x => exact .inl h
 | out => trivial
theorem zf3 {r : Rs α} {f : α -> Nat -> Rs β} (h : farR ts K r) (hf : ∀ v q, ¬ K q -> farR ts K (f v q)) : farR ts K (r.bind f) := by
 cases r with
 | ok v q => exact hf v q h
 | bad x => exact h
 | out => trivial
theorem zea (hK : Kn ts us K) {p q : Nat} {r s : Rs α} (h : qR ts K q r s) (hp : p <= q) : qR ts K p r s := by
 refine ⟨fun _ => ?_, fun hn => h.2 fun hk => hn (hK.down p q hp hk)⟩
 by_cases hk : K q
 ·exact h.1 hk
 ·exact zjs s (h.2 hk)
theorem za6 {p : Nat} {r s : Rs α} {f g : α -> Nat -> Rs β} (h : qR ts K p r s) (hf : ∀ v q, (K q -> K p) -> qR ts K q (f v q) (g v q)) : qR ts K p (r.bind f) (s.bind g) := by
 constructor
 ·intro hp
  have h1 := h.1 hp
  cases r with
  | ok v q =>
   have h2 := hf v q fun _ => hp
   by_cases hq : K q
   ·rw [h1 hq]
    exact h2.1 hq
   ·exact zjs _ (h2.2 hq)
  | bad x =>
   rcases h1 with h1 | h1
   ·exact .inl h1
   ·rw [h1]; exact .inr rfl
  | out => trivial
 ·intro hp
  have h1 := h.2 hp
  cases r with
  | ok v q => exact (hf v q fun hq => (h1 hq).elim).2 h1
  | bad x => exact h1
  | out => trivial
theorem q_ok {p q : Nat} {v v' : α} (hq : K q -> K p) (hv : K q -> v = v') : qR ts K p (.ok v q) (.ok v' q) :=
 ⟨fun _ hk => by rw [hv hk], fun hn hk => hn (hq hk)⟩
theorem zb6 {p : Nat} {c c' : Prop} [Decidable c] [Decidable c'] {a b a' b' : Rs α} (hc : K p -> (c ↔ c')) (h1 : qR ts K p a a') (h2 : qR ts K p b b') : qR ts K p (if c then a else b) (if c' then a' else b') := by
 constructor
 ·intro hp
  by_cases h : c
  ·rw [if_pos h, if_pos ((hc hp).1 h)]; exact h1.1 hp
  ·rw [if_neg h, if_neg fun h' => h ((hc hp).2 h')]; exact h2.1 hp
 ·intro hp
  by_cases h : c
  ·rw [if_pos h]; exact h1.2 hp
  ·rw [if_neg h]; exact h2.2 hp
theorem ze3 {c : Prop} [Decidable c] {a b : Rs α} (h1 : c -> farR ts K a) (h2 : ¬ c -> farR ts K b) : farR ts K (if c then a else b) := by
 split
 ·rename_i h; exact h1 h
 ·rename_i h; exact h2 h
theorem Kn.he (hK : Kn ts us K) {p : Nat} (h : K p) : herI ts p = herI us p := by
 unfold herI behI
 have h1 := hK.lt p h
 rw [<- hK.nx p h, <- hK.nx (p - 1) (hK.down _ _ (by omega) h)]
 by_cases hp : p < ts.length
 ·rw [if_pos hp, if_pos (h1.1 hp)]
 ·rw [if_neg hp, if_neg fun h' => hp (h1.2 h')]
theorem Kn.be (hK : Kn ts us K) {p : Nat} (h : K p) : behI ts p = behI us p := by
 unfold behI
 rw [<- hK.nx (p - 1) (hK.down _ _ (by omega) h)]
theorem Kn.is (hK : Kn ts us K) {p : Nat} (h : K p) (s : List UInt8) : isT ts p s = isT us p s := by unfold isT; rw [hK.nx p h]
theorem Kn.isi (hK : Kn ts us K) (p : Nat) (s : List UInt8) : K p -> (isT ts p s = true ↔ isT us p s = true) := fun h => by rw [hK.is h]
theorem Kn.na (hK : Kn ts us K) {p : Nat} (h : K p) : namB ts p = namB us p := by unfold namB; rw [hK.nx p h]
theorem Kn.one (hK : Kn ts us K) {p : Nat} (h : K (p + 1)) : K p := hK.down _ _ (by omega) h
theorem zr8 (hK : Kn ts us K) (p : Nat) : qR ts K p (.bad (herI ts p) : Rs α) (.bad (herI us p)) := ⟨fun h => .inr (by rw [hK.he h]), fun h => ⟨p, h, rfl⟩⟩
theorem zr9 (hK : Kn ts us K) {p : Nat} {b b' : Bool} {k k' : Rs α} (hb : K p -> b = b') (h : qR ts K (p + 1) k k') : qR ts K p (Rs.need b (herI ts p) k) (Rs.need b' (herI us p) k') := by
 unfold Rs.need
 exact zb6 (fun hp => by rw [hb hp]) (zea hK h (by omega)) (zr8 hK p)
theorem znp (hK : Kn ts us K) {p : Nat} {b : Bool} {k : Rs α} (hp : ¬ K p) (hk : ¬ K (p + 1) -> farR ts K k) : farR ts K (Rs.need b (herI ts p) k) := by
 unfold Rs.need
 exact ze3 (fun _ => hk fun h => hp (hK.one h)) fun _ => ⟨p, hp, rfl⟩
theorem zed (hK : Kn ts us K) {p : Nat} {s : List UInt8} {k k' : Nat -> Rs α} (h : (K (p + 1) -> K p) -> qR ts K (p + 1) (k (p + 1)) (k' (p + 1))) : qR ts K p (expP ts s p k) (expP us s p k') := zr9 hK (fun hp => hK.is hp s) (h hK.one)
theorem zpa (hK : Kn ts us K) {p : Nat} {n : Int} {k k' : Tok -> Nat -> Rs α} (h : (K (p + 1) -> K p) -> qR ts K (p + 1) (k (nxT ts p) (p + 1)) (k' (nxT us p) (p + 1))) : qR ts K p (kinP ts n p k) (kinP us n p k') := zr9 hK (fun hp => by rw [hK.nx p hp]) (h hK.one)
theorem zh3 (hK : Kn ts us K) {p : Nat} {k k' : Tok -> Nat -> Rs α} (h : (K (p + 1) -> K p) -> qR ts K (p + 1) (k (nxT ts p) (p + 1)) (k' (nxT us p) (p + 1))) : qR ts K p (namP ts p k) (namP us p k') := zr9 hK (fun hp => hK.na hp) (h hK.one)
theorem z2r {k n : Int} {x x' : ByteArray} {a a' f f' t t' : Int} {l l' : List Pt} (h1 : x = x') (h2 : a = a') (h3 : f = f') (h4 : t = t') (h5 : l = l') : Pt.mk k x n a f t l = .mk k x' n a' f' t' l' := by rw [h1, h2, h3, h4, h5]
theorem zve (hK : Kn ts us K) (k : Int) (p : Nat) : qR ts K p (leaP ts k p) (leaP us k p) :=
 q_ok hK.one fun h => z2r (by rw [hK.nx p (hK.one h)]) (by rw [hK.nx p (hK.one h)]) (hK.he (hK.one h)) (hK.be h) rfl
theorem zyf (hK : Kn ts us K) (k : Int) (p : Nat) : qR ts K p (worP ts k p) (worP us k p) := by
 unfold worP Rs.need
 exact zb6 (fun hp => by rw [hK.na hp]) (zve hK k p) (zr8 hK p)
theorem zyg (hK : Kn ts us K) (p : Nat) : qR ts K p (va1P ts p) (va1P us p) := by
 unfold va1P
 refine zb6 (fun hp => by rw [hK.nx p hp]) (q_ok hK.one fun h => ?_) (zb6 (fun hp => by rw [hK.nx p hp]) (q_ok hK.one fun h => ?_) (zb6 (fun hp => by rw [hK.is hp, hK.is hp]) (zve hK _ _) (zr8 hK p)))
 ·rw [hK.nx p (hK.one h), hK.he (hK.one h), hK.be h]
 ·rw [hK.nx p (hK.one h), hK.he (hK.one h), hK.be h]
theorem z2s (hK : Kn ts us K) (p : Nat) : qR ts K p (valP ts p) (valP us p) := by
 unfold valP
 refine zb6 (fun hp => by rw [hK.is hp]) (zea hK (q := p + 1) (zb6 (fun hp => by rw [hK.nx _ hp]) (za6 (zyg hK _) fun v q hq => q_ok (fun h => h) fun h => ?_) (zr8 hK _)) (by omega)) (zyg hK p)
 have hp := hK.one (hq h)
 rw [hK.nx p hp, hK.he hp, hK.be h]
theorem zyh (hK : Kn ts us K) (p : Nat) : qR ts K p (typP ts p) (typP us p) := by
 unfold typP
 refine zb6 (fun hp => by rw [hK.is hp, hK.is hp, hK.is hp]) (zve hK _ _) ?_
 have hfar : qR ts K p ((worP ts 23 p).bind fun v q => expP ts [46] q fun q => namP ts q fun t q => Rs.ok (Pt.mk 12 t.text 0 t.pos (herI ts p) (behI ts q) [v]) q) ((worP us 23 p).bind fun v q => expP us [46] q fun q => namP us q fun t q => Rs.ok (Pt.mk 12 t.text 0 t.pos (herI us p) (behI us q) [v]) q) := by
  refine za6 (zyf hK _ _) fun v q hq => zed hK fun h1 => zh3 hK fun h2 => q_ok (fun h => h) fun h => ?_
  have hp := hq (h1 (h2 h))
  rw [hK.nx _ (h2 h), hK.he hp, hK.be h]
 by_cases h1 : K (p + 1)
 ·exact zb6 (fun _ => by rw [hK.is h1]) hfar (zyf hK _ _)
 ·by_cases hn : namB ts p = true
  ·have f2 : farR ts K (worP ts 11 p) := by unfold worP Rs.need; rw [if_pos hn]; exact h1
   have f1 : farR ts K ((worP ts 23 p).bind fun v q => expP ts [46] q fun q => namP ts q fun t q => Rs.ok (Pt.mk 12 t.text 0 t.pos (herI ts p) (behI ts q) [v]) q) := by
    have e : worP ts 23 p = leaP ts 23 p := by unfold worP Rs.need; rw [if_pos hn]
    rw [e]
    show farR ts K (expP ts [46] (p + 1) fun q => namP ts q fun t q => Rs.ok (Pt.mk 12 t.text 0 t.pos (herI ts p) (behI ts q) [Pt.mk 23 (nxT ts p).text 0 (nxT ts p).pos (herI ts p) (behI ts (p + 1)) []]) q)
    exact znp hK h1 fun h2 => znp hK h2 fun h3 => h3
   have f : farR ts K (if isT ts (p + 1) [46] = true then (worP ts 23 p).bind fun v q => expP ts [46] q fun q => namP ts q fun t q => Rs.ok (Pt.mk 12 t.text 0 t.pos (herI ts p) (behI ts q) [v]) q else worP ts 11 p) := ze3 (fun _ => f1) fun _ => f2
   exact ⟨fun _ => zjs _ f, fun _ => f⟩
  ·have e : ∀ (X : List Tok) (k : Int), namB X p = false -> worP X k p = .bad (herI X p) := fun X k h => by unfold worP Rs.need; rw [h]; rfl
   have hn' : namB ts p = false := by simpa using hn
   rw [e ts 23 hn', e ts 11 hn']
   constructor
   ·intro hp
    have hu : namB us p = false := by rw [<- hK.na hp]; exact hn'
    rw [e us 23 hu, e us 11 hu, hK.he hp]
    have : ∀ (c c' : Prop) [Decidable c] [Decidable c'] (y : Int), relR ts K (if c then (.bad y : Rs Pt).bind (fun v q => expP ts [46] q fun q => namP ts q fun t q => Rs.ok (Pt.mk 12 t.text 0 t.pos (herI us p) (behI ts q) [v]) q) else .bad y) (if c' then (.bad y : Rs Pt).bind (fun v q => expP us [46] q fun q => namP us q fun t q => Rs.ok (Pt.mk 12 t.text 0 t.pos (herI us p) (behI us q) [v]) q) else .bad y) := fun c c' _ _ y => by
     split <;> split <;> exact .inr rfl
    exact this _ _ _
   ·intro hp
    exact ze3 (fun _ => ⟨p, hp, rfl⟩) fun _ => ⟨p, hp, rfl⟩
theorem zyi (hK : Kn ts us K) (k : Int) (p : Nat) : qR ts K p (tydP ts k p) (tydP us k p) := by
 unfold tydP
 refine zh3 hK fun h1 => za6 (zyh hK _) fun v q hq => q_ok (fun h => h) fun h => ?_
 have hp := h1 (hq h)
 rw [hK.nx p hp, hK.he hp, hK.be h]
theorem z2t (hK : Kn ts us K) (p : Nat) : qR ts K p (impP ts p) (impP us p) := by
 unfold impP
 refine zed hK fun h1 => zpa hK fun h2 => q_ok (fun h => h) fun h => ?_
 rw [hK.nx _ (h2 h), hK.he (h1 (h2 h)), hK.be h]
theorem z2u (hK : Kn ts us K) (p : Nat) : qR ts K p (conP ts p) (conP us p) := by
 unfold conP
 refine zed hK fun h1 => zh3 hK fun h2 => zed hK fun h3 => za6 (z2s hK _) fun v q hq => q_ok (fun h => h) fun h => ?_
 rw [hK.nx _ (h2 (h3 (hq h))), hK.he (h1 (h2 (h3 (hq h)))), hK.be h]
theorem z2v (hK : Kn ts us K) (p : Nat) : qR ts K p (recP ts p) (recP us p) := by
 unfold recP
 refine zh3 hK fun h1 => za6 (zyf hK _ _) fun v q hq => q_ok (fun h => h) fun h => ?_
 have hp := h1 (hq h)
 rw [hK.nx p hp, hK.he hp, hK.be h]
structure RlA (ts us : List Tok) (K : Nat -> Prop) (n m : Nat) : Prop where
 bin : ∀ l p, qR ts K p ((fns ts n).bin l p) ((fns us m).bin l p)
 binL : ∀ l fr fr' t t' p, (K p -> fr = fr' ∧ t = t') -> qR ts K p ((fns ts n).binL l fr t p) ((fns us m).binL l fr' t' p)
 una : ∀ p, qR ts K p ((fns ts n).una p) ((fns us m).una p)
 post : ∀ p, qR ts K p ((fns ts n).post p) ((fns us m).post p)
 posL : ∀ fr fr' t t' p, (K p -> fr = fr' ∧ t = t') -> qR ts K p ((fns ts n).posL fr t p) ((fns us m).posL fr' t' p)
 prim : ∀ p, qR ts K p ((fns ts n).prim p) ((fns us m).prim p)
 argL : ∀ l l' p, (K p -> l = l') -> qR ts K p ((fns ts n).argL l p) ((fns us m).argL l' p)
 parL : ∀ l l' p, (K p -> l = l') -> qR ts K p ((fns ts n).parL l p) ((fns us m).parL l' p)
 fieL : ∀ l l' p, (K p -> l = l') -> qR ts K p ((fns ts n).fieL l p) ((fns us m).fieL l' p)
 stmt : ∀ p, qR ts K p ((fns ts n).stmt p) ((fns us m).stmt p)
 bran : ∀ p, qR ts K p ((fns ts n).bran p) ((fns us m).bran p)
 stmL : ∀ l l' p, (K p -> l = l') -> qR ts K p ((fns ts n).stmL l p) ((fns us m).stmL l' p)
 impL : ∀ l l' p, (K p -> l = l') -> qR ts K p ((fns ts n).impL l p) ((fns us m).impL l' p)
 decL : ∀ l l' p, (K p -> l = l') -> qR ts K p ((fns ts n).decL l p) ((fns us m).decL l' p)
 nbin : ∀ l p, namB ts p = true -> ¬ K (p + 1) -> farR ts K ((fns ts n).bin l p)
 nuna : ∀ p, namB ts p = true -> ¬ K (p + 1) -> farR ts K ((fns ts n).una p)
 npost : ∀ p, namB ts p = true -> ¬ K (p + 1) -> farR ts K ((fns ts n).post p)
 nprim : ∀ p, namB ts p = true -> ¬ K (p + 1) -> farR ts K ((fns ts n).prim p)
theorem z0n (hK : Kn ts us K) {one one' : Nat -> Rs Pt} {more more' : List Pt -> Nat -> Rs (List Pt)} {p : Nat} (h1 : ∀ q, qR ts K q (one q) (one' q)) (h2 : ∀ l l' q, (K q -> l = l') -> qR ts K q (more l q) (more' l' q)) : qR ts K p (lisP ts one more p) (lisP us one' more' p) := by
 unfold lisP
 exact zed hK fun _ => zb6 (hK.isi _ _) (zea hK (q_ok (p := p + 1 + 1) (fun h => h) fun _ => rfl) (by omega)) (za6 (h1 _) fun v q _ => za6 (h2 _ _ _ fun _ => rfl) fun l q _ => zed hK fun _ => q_ok (fun h => h) fun _ => rfl)
theorem z0o (hK : Kn ts us K) {more more' : List Pt -> Nat -> Rs (List Pt)} {p : Nat} (h2 : ∀ l l' q, (K q -> l = l') -> qR ts K q (more l q) (more' l' q)) : qR ts K p (linP ts more p) (linP us more' p) := by
 unfold linP
 exact zed hK fun _ => za6 (h2 _ _ _ fun _ => rfl) fun l q _ => zed hK fun _ => q_ok (fun h => h) fun _ => rfl
theorem zpb (hK : Kn ts us K) {n m : Nat} (ih : RlA ts us K n m) (p : Nat) : qR ts K p (bloP ts (fns ts n) p) (bloP us (fns us m) p) := by
 unfold bloP
 refine za6 (z0o hK ih.stmL) fun l q hq => q_ok (fun h => h) fun h => ?_
 rw [hK.he (hq h), hK.be h]
theorem z0p (hK : Kn ts us K) {n m : Nat} (ih : RlA ts us K n m) (p : Nat) : qR ts K p (varP ts (fns ts n) p) (varP us (fns us m) p) := by
 unfold varP
 refine zed hK fun h1 => zh3 hK fun h2 => za6 (zyh hK _) fun v q hq => zb6 (hK.isi _ _) (zea hK (za6 (ih.bin 0 _) fun x q' hq' => q_ok (fun h => h) fun h => ?_) (by omega)) (q_ok (fun h => h) fun h => ?_)
 ·have h3 := hq (hK.one (hq' h))
  rw [hK.nx _ (h2 h3), hK.he (h1 (h2 h3)), hK.be h]
 ·have h3 := hq h
  rw [hK.nx _ (h2 h3), hK.he (h1 (h2 h3)), hK.be h]
theorem z2w (hK : Kn ts us K) {n m : Nat} (ih : RlA ts us K n m) (p : Nat) : qR ts K p (decP ts (fns ts n) p) (decP us (fns us m) p) := by
 have hfun : ∀ fr fr' l l' q, (K q -> fr = fr' ∧ l = l') -> qR ts K q (funR ts (fns ts n) fr l q) (funR us (fns us m) fr' l' q) := fun fr fr' l l' q hd => by
  unfold funR
  refine zh3 hK fun h1 => za6 (z0n hK (zyi hK 9) ih.parL) fun ps q1 hq1 => zb6 (hK.isi _ _) (za6 (zpb hK ih _) fun b q2 hq2 => q_ok (fun h => h) fun h => ?_) (za6 (zyh hK _) fun v q2 hq2 => za6 (zpb hK ih _) fun b q3 hq3 => q_ok (fun h => h) fun h => ?_)
  ·have h3 := h1 (hq1 (hq2 h))
   rw [hK.nx _ h3, hK.be h, (hd h3).1, (hd h3).2]
  ·have h3 := h1 (hq1 (hq2 (hq3 h)))
   rw [hK.nx _ h3, hK.be h, (hd h3).1, (hd h3).2]
 unfold decP
 refine zb6 (hK.isi _ _) (z2u hK p) (zb6 (hK.isi _ _) (z0p hK ih p) (zb6 (hK.isi _ _) ?_ (zb6 (hK.isi _ _) ?_ (zr8 hK p))))
 ·unfold strP
  refine zed hK fun h1 => zh3 hK fun h2 => zed hK fun h3 => za6 (z0o hK ih.fieL) fun l q hq => q_ok (fun h => h) fun h => ?_
  rw [hK.nx _ (h2 (h3 (hq h))), hK.he (h1 (h2 (h3 (hq h)))), hK.be h]
 ·unfold funP
  refine zed hK fun h1 => zb6 (hK.isi _ _) (zea hK (za6 (z2v hK _) fun v q hq => zed hK fun h2 => hfun _ _ _ _ _ fun h => ⟨hK.he (h1 (hK.one (hq (h2 h)))), rfl⟩) (by omega)) (hfun _ _ _ _ _ fun h => ⟨hK.he (h1 h), rfl⟩)
theorem rlA (hK : Kn ts us K) : ∀ n m, n <= m -> RlA ts us K n m := by
 intro n
 induction n with
 | zero =>
  intro m _
  have ho : ∀ {γ : Type} (p : Nat) (s : Rs γ), qR ts K p (.out : Rs γ) s := fun p s => ⟨fun _ => trivial, fun _ => trivial⟩
  constructor <;> intros <;> first | exact ho _ _ | trivial
 | succ n ih0 =>
  intro m0 hm
  obtain ⟨m, rfl⟩ : ∃ m, m0 = m + 1 := ⟨m0 - 1, by omega⟩
  have ih := ih0 m (by omega)
  clear ih0 hm
  constructor
  ·intro l p
   show qR ts K p (if l = 5 then (fns ts n).una p else ((fns ts n).bin (l + 1) p).bind fun t q => (fns ts n).binL l (herI ts p) t q) (if l = 5 then (fns us m).una p else ((fns us m).bin (l + 1) p).bind fun t q => (fns us m).binL l (herI us p) t q)
   exact zb6 (fun _ => Iff.rfl) (ih.una p) (za6 (ih.bin _ _) fun t q hq => ih.binL _ _ _ _ _ _ fun h => ⟨hK.he (hq h), rfl⟩)
  ·intro l fr fr' t t' p hd
   show qR ts K p (if rowI (nxT ts p).text = l then ((fns ts n).bin (l + 1) (p + 1)).bind fun u q => if l = 2 then .ok (.mk 27 (nxT ts p).text 0 (nxT ts p).pos fr (behI ts q) [t, u]) q else (fns ts n).binL l fr (.mk 27 (nxT ts p).text 0 (nxT ts p).pos fr (behI ts q) [t, u]) q else .ok t p)
    (if rowI (nxT us p).text = l then ((fns us m).bin (l + 1) (p + 1)).bind fun u q => if l = 2 then .ok (.mk 27 (nxT us p).text 0 (nxT us p).pos fr' (behI us q) [t', u]) q else (fns us m).binL l fr' (.mk 27 (nxT us p).text 0 (nxT us p).pos fr' (behI us q) [t', u]) q else .ok t' p)
   refine zb6 (fun hp => by rw [hK.nx _ hp]) (zea hK (za6 (ih.bin _ _) fun u q hq => zb6 (fun _ => Iff.rfl) (q_ok (fun h => h) fun h => ?_) (ih.binL _ _ _ _ _ _ fun h => ⟨(hd (hK.one (hq h))).1, ?_⟩)) (by omega)) (q_ok (fun h => h) fun h => (hd h).2)
   ·have h3 := hK.one (hq h)
    rw [hK.nx _ h3, hK.be h, (hd h3).1, (hd h3).2]
   ·have h3 := hK.one (hq h)
    rw [hK.nx _ h3, hK.be h, (hd h3).1, (hd h3).2]
  ·intro p
   show qR ts K p (if isT ts p [45] || isT ts p [33] then ((fns ts n).una (p + 1)).bind fun u q => .ok (.mk 26 (nxT ts p).text 0 (nxT ts p).pos (herI ts p) (behI ts q) [u]) q else (fns ts n).post p) (if isT us p [45] || isT us p [33] then ((fns us m).una (p + 1)).bind fun u q => .ok (.mk 26 (nxT us p).text 0 (nxT us p).pos (herI us p) (behI us q) [u]) q else (fns us m).post p)
   refine zb6 (fun hp => by rw [hK.is hp, hK.is hp]) (zea hK (za6 (ih.una _) fun u q hq => q_ok (fun h => h) fun h => ?_) (by omega)) (ih.post p)
   have h3 := hK.one (hq h)
   rw [hK.nx _ h3, hK.be h, hK.he h3]
  ·intro p
   exact za6 (ih.prim p) fun t q hq => ih.posL _ _ _ _ _ fun h => ⟨hK.he (hq h), rfl⟩
  ·intro fr fr' t t' p hd
   refine zb6 (hK.isi _ _) (zea hK (zh3 hK fun h1 => ih.posL _ _ _ _ _ fun h => ?_) (by omega)) (zb6 (hK.isi _ _) (za6 (z0n hK (ih.bin 0) ih.argL) fun l q hq => ih.posL _ _ _ _ _ fun h => ?_) (q_ok (fun h => h) fun h => (hd h).2))
   ·have h3 := hd (hK.one (h1 h))
    exact ⟨h3.1, by rw [hK.nx _ (h1 h), hK.be h, h3.1, h3.2]⟩
   ·have h3 := hd (hq h)
    exact ⟨h3.1, by rw [hK.be h, h3.1, h3.2]⟩
  ·intro p
   exact zb6 (hK.isi _ _) (zea hK (za6 (ih.bin _ _) fun t q hq => zed hK fun _ => q_ok (fun h => h) fun _ => rfl) (by omega)) (zb6 (fun hp => by rw [hK.na hp]) (zve hK _ _) (zyg hK _))
  ·intro l l' p hd
   exact zb6 (hK.isi _ _) (zea hK (za6 (ih.bin _ _) fun t q hq => ih.argL _ _ _ fun h => by rw [hd (hK.one (hq h))]) (by omega)) (q_ok (fun h => h) hd)
  ·intro l l' p hd
   exact zb6 (hK.isi _ _) (zea hK (za6 (zyi hK _ _) fun t q hq => ih.parL _ _ _ fun h => by rw [hd (hK.one (hq h))]) (by omega)) (q_ok (fun h => h) hd)
  ·intro l l' p hd
   exact zb6 (hK.isi _ _) (q_ok (fun h => h) hd) (za6 (zyi hK _ _) fun t q hq => zb6 (hK.isi _ _) (ih.fieL _ _ _ fun h => by rw [hd (hq h)]) (zpa hK fun h1 => ih.fieL _ _ _ fun h => by rw [hd (hq (h1 h))]))
  ·intro p
   have hsho : qR ts K p (shoP ts (fns ts n) p) (shoP us (fns us m) p) := by
    unfold shoP
    refine zh3 hK fun h1 => zed hK fun h2 => za6 (ih.bin _ _) fun x q hq => q_ok (fun h => h) fun h => ?_
    have h3 := h1 (h2 (hq h))
    rw [hK.nx _ h3, hK.he h3, hK.be h]
   have hsim : qR ts K p (simP ts (fns ts n) p) (simP us (fns us m) p) := by
    unfold simP
    refine za6 (ih.bin _ _) fun x q hq => zb6 (hK.isi _ _) (zea hK (za6 (ih.bin _ _) fun y q' hq' => q_ok (fun h => h) fun h => ?_) (by omega)) (q_ok (fun h => h) fun h => ?_)
    ·rw [hK.he (hq (hK.one (hq' h))), hK.be h]
    ·rw [hK.he (hq h), hK.be h]
   refine zb6 (hK.isi _ _) (zpb hK ih p) (zb6 (hK.isi _ _) (z0p hK ih p) (zb6 (hK.isi _ _) (ih.bran p) (zb6 (hK.isi _ _) ?_ (zb6 (hK.isi _ _) ?_ ?_))))
   ·unfold looP
    refine zed hK fun h1 => za6 (ih.bin _ _) fun x q hq => za6 (zpb hK ih _) fun b q' hq' => q_ok (fun h => h) fun h => ?_
    rw [hK.he (h1 (hq (hq' h))), hK.be h]
   ·unfold resP
    refine zed hK fun h1 => zb6 (fun hp => by rw [hK.nx _ hp, hK.is hp]) (za6 (ih.bin _ _) fun x q hq => q_ok (fun h => h) fun h => ?_) (q_ok (fun h => h) fun h => ?_)
    ·rw [hK.he (h1 (hq h)), hK.be h]
    ·rw [hK.he (h1 h), hK.be h]
   ·by_cases h1 : K (p + 1)
    ·exact zb6 (fun hp => by rw [hK.na hp, hK.is h1]) hsho hsim
    ·by_cases hn : namB ts p = true
     ·have f1 : farR ts K (shoP ts (fns ts n) p) := by
       unfold shoP namP Rs.need
       rw [if_pos hn]
       exact (zed (us := us) (k' := fun q => ((fns us m).bin 0 q).bind fun x q => .ok (.mk 17 (nxT ts p).text 0 (nxT ts p).pos (herI ts p) (behI ts q) [x]) q) hK fun _ => za6 (ih.bin _ _) fun x q hq => q_ok (fun h => h) fun h => rfl).2 h1
      have f2 : farR ts K (simP ts (fns ts n) p) := by
       unfold simP
       refine zf3 (ih.nbin 0 p hn h1) fun x q hq => ?_
       exact (zb6 (p := q) (c' := isT us q [61] = true) (a' := ((fns us m).bin 0 (q + 1)).bind fun y q => .ok (.mk 18 ⟨#[]⟩ 0 (herI ts p) (herI ts p) (behI us q) [x, y]) q) (b' := .ok (.mk 19 ⟨#[]⟩ 0 (herI ts p) (herI ts p) (behI us q) [x]) q) (hK.isi _ _) (zea hK (za6 (ih.bin _ _) fun y q' hq' => q_ok (fun h => h) fun h => by rw [hK.be h]) (by omega)) (q_ok (fun h => h) fun h => by rw [hK.be h])).2 hq
      have f := ze3 (ts := ts) (K := K) (c := (namB ts p && isT ts (p + 1) [58, 61]) = true) (fun _ => f1) fun _ => f2
      exact ⟨fun _ => zjs _ f, fun _ => f⟩
     ·have hn' : namB ts p = false := by simpa using hn
      refine ⟨fun hp => ?_, fun hp => ?_⟩
      ·rw [hn', <- hK.na hp, hn']
       exact hsim.1 hp
      ·rw [hn']
       exact hsim.2 hp
  ·intro p
   show qR ts K p (expP ts [105, 102] p fun q => ((fns ts n).bin 0 q).bind fun x q => (bloP ts (fns ts n) q).bind fun b q => if isT ts q [101, 108, 115, 101] then (if isT ts (q + 1) [105, 102] then (fns ts n).bran (q + 1) else bloP ts (fns ts n) (q + 1)).bind fun c q => Rs.ok (Pt.mk 14 ⟨#[]⟩ 0 (herI ts p) (herI ts p) (behI ts q) [x, b, c]) q else Rs.ok (Pt.mk 14 ⟨#[]⟩ 0 (herI ts p) (herI ts p) (behI ts q) [x, b]) q)
    (expP us [105, 102] p fun q => ((fns us m).bin 0 q).bind fun x q => (bloP us (fns us m) q).bind fun b q => if isT us q [101, 108, 115, 101] then (if isT us (q + 1) [105, 102] then (fns us m).bran (q + 1) else bloP us (fns us m) (q + 1)).bind fun c q => Rs.ok (Pt.mk 14 ⟨#[]⟩ 0 (herI us p) (herI us p) (behI us q) [x, b, c]) q else Rs.ok (Pt.mk 14 ⟨#[]⟩ 0 (herI us p) (herI us p) (behI us q) [x, b]) q)
   refine zed hK fun h1 => za6 (ih.bin _ _) fun x q hq => za6 (zpb hK ih _) fun b q' hq' => zb6 (hK.isi _ _) (zea hK (za6 (zb6 (p := q' + 1) (hK.isi _ _) (ih.bran _) (zpb hK ih _)) fun c q'' hq'' => q_ok (fun h => h) fun h => ?_) (by omega)) (q_ok (fun h => h) fun h => ?_)
   ·rw [hK.he (h1 (hq (hq' (hK.one (hq'' h))))), hK.be h]
   ·rw [hK.he (h1 (hq (hq' h))), hK.be h]
  ·intro l l' p hd
   exact zb6 (hK.isi _ _) (q_ok (fun h => h) hd) (za6 (ih.stmt _) fun t q hq => zb6 (hK.isi _ _) (ih.stmL _ _ _ fun h => by rw [hd (hq h)]) (zpa hK fun h1 => ih.stmL _ _ _ fun h => by rw [hd (hq (h1 h))]))
  ·intro l l' p hd
   exact zb6 (hK.isi _ _) (za6 (z2t hK _) fun t q hq => zpa hK fun h1 => ih.impL _ _ _ fun h => by rw [hd (hq (h1 h))]) (q_ok (fun h => h) hd)
  ·intro l l' p hd
   exact zb6 (fun hp => hK.lt p hp) (za6 (z2w hK ih _) fun t q hq => zpa hK fun h1 => ih.decL _ _ _ fun h => by rw [hd (hq (h1 h))]) (q_ok (fun h => h) hd)
  ·intro l p hn h1
   show farR ts K (if l = 5 then (fns ts n).una p else ((fns ts n).bin (l + 1) p).bind fun t q => (fns ts n).binL l (herI ts p) t q)
   exact ze3 (fun _ => ih.nuna p hn h1) fun _ => zf3 (ih.nbin _ p hn h1) fun t q hq => (ih.binL l (herI ts p) (herI ts p) t t q fun h => (hq h).elim).2 hq
  ·intro p hn h1
   show farR ts K (if isT ts p [45] || isT ts p [33] then ((fns ts n).una (p + 1)).bind fun u q => .ok (.mk 26 (nxT ts p).text 0 (nxT ts p).pos (herI ts p) (behI ts q) [u]) q else (fns ts n).post p)
   exact ze3 (fun _ => zf3 ((ih.una (p + 1)).2 h1) fun u q hq => hq) fun _ => ih.npost p hn h1
  ·intro p hn h1
   exact zf3 (ih.nprim p hn h1) fun t q hq => (ih.posL (herI ts p) (herI ts p) t t q fun h => (hq h).elim).2 hq
  ·intro p hn h1
   refine ze3 (fun _ => zf3 ((ih.bin 0 (p + 1)).2 h1) fun t q hq => ?_) fun _ => ze3 (fun _ => h1) fun h => (h hn).elim
   exact (zed (us := us) (k' := fun q => .ok t q) hK fun _ => q_ok (fun h => h) fun _ => rfl).2 hq
theorem z2x (hK : Kn ts us K) {n m : Nat} (hn : n <= m) (p : Nat) : qR ts K p (filP ts n p) (filP us m p) := by
 have ih := rlA hK n m hn
 unfold filP
 refine zed hK fun h1 => zh3 hK fun h2 => zpa hK fun h3 => za6 (ih.impL _ _ _ fun _ => rfl) fun l q hq => za6 (ih.decL _ _ _ fun _ => rfl) fun l' q' hq' => q_ok (fun h => h) fun h => ?_
 have h4 := h2 (h3 (hq (hq' h)))
 rw [hK.nx _ h4, hK.he (h1 h4), hK.be h]
end
theorem zvf {ts : List Tok} {n m : Nat} (hn : n <= m) (h : filP ts n 0 ≠ .out) : filP ts m 0 = filP ts n 0 := by
 have hK : Kn ts ts (fun _ => True) := ⟨fun _ _ _ _ => trivial, fun _ _ => rfl, fun _ _ => Iff.rfl⟩
 have hq := (z2x hK hn 0).1 trivial
 cases hr : filP ts n 0 with
 | ok v q => rw [hr] at hq; exact hq trivial
 | bad s =>
  rw [hr] at hq
  rcases hq with ⟨p, hp, -⟩ | hq
  ·exact (hp trivial).elim
  ·exact hq
 | out => exact (h hr).elim
end Go.Proofs.YtbadafkfjfbnlaaGreatDoor
