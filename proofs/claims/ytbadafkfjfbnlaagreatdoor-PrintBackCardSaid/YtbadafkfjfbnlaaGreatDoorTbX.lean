import Derived.Test.YtbadafkfjfbnlaaGreatDoorTbW
import Derived.Test.YtbadafkfjfbnlaaGreatDoorTbV
import Derived.Test.YtbadafkfjfbnlaaGreatDoorTbR
import Derived.Lib.ItoaLen
import Derived.Test.YtbadafkfjfbnlaaGreatDoorTbO
namespace Go.Proofs.YtbadafkfjfbnlaaGreatDoor
set_option maxRecDepth 100000
set_option maxHeartbeats 4000000
open Go.RowKit
theorem z3a (d : Nat) : rn (tb d) = Lib.repeatL [9] d := by
 induction d with
 | zero => rfl
 | succ d ih =>
  show rn (.w 9 :: tb d) = _
  rw [zd0, ih]
  rfl
theorem zdd (d : Nat) : (rn (tb d)).length = d := by
 induction d with
 | zero => rfl
 | succ d ih =>
  show (rn (.w 9 :: tb d)).length = _
  rw [zd0, List.length_append, ih]
  show 1 + d = d + 1
  omega
section
variable {w0 w : World} {g d : Nat} {nv v : Value} {out : List UInt8} {L : List Nd}
theorem Pw.c3 (h : Pw w0 g nv d w v out) : w.cell? ⟨g, 3, none⟩ = some (.int .i64 d) ∧ w.frozen? ⟨g, 3, none⟩ = false := by
 obtain ⟨p, -, hr⟩ := h.r
 exact ⟨(cell_of_row _ _ 3 _ _ _ hr).trans rfl, frozen_of_row _ _ _ _ _ hr⟩
theorem Pw.c2 (h : Pw w0 g nv d w v out) : w.cell? ⟨g, 2, none⟩ = some nv := by
 obtain ⟨p, -, hr⟩ := h.r
 exact (cell_of_row _ _ 2 _ _ _ hr).trans rfl
theorem zhw (h : Pw w0 g nv d w v out) (hd1 : d <= 100000) (hl : out.length + d <= 1000000000000) :
  Calls Tryz.prog 100 #[.pointer (some ⟨g, 0, none⟩)] w fun e w' => e = .returned (.tuple #[]) ∧ Pp w0 g nv d w v (out ++ rn (tb d)) w' := by
 have HW : Hid (Pw w0 g nv d w v out) := h
 have c3 := h.c3.1
 clear h
 go_enter Tryz.func100, Tryz.ntmps100
 go_wp2_with fail
 refine (Tryz.strings_Repeat (strU [9]) d w (by omega) (by show 1 * d <= _; omega)).mono ?_
 rintro e W ⟨rfl, hb⟩
 have e1 : fl [⟨(Lib.repeatL (strU [9]).data.toList d).toArray⟩] = rn (tb d) := by
  rw [z3a]
  simp [fl, strU]
 have HC := za0 [⟨(Lib.repeatL (strU [9]).data.toList d).toArray⟩] (HW.out.low hb) (by rw [e1, zdd]; omega) (by simp)
 rw [e1] at HC
 have HB : Hid _ := hb
 generalize (⟨(Lib.repeatL (strU [9]).data.toList d).toArray⟩ : ByteArray) = tabs at HC ⊢
 clear hb e1 c3
 go_wp2_with fail
 refine HC.mono ?_
 rintro e W2 ⟨rfl, hp⟩
 have HN : Hid (Pp w0 g nv d w v (out ++ rn (tb d)) W2) := Pp.pre HB.out hp
 clear hp HC
 go_wp2
 go_end0
 exact ⟨rfl, HN.out⟩
theorem zf6 (i : Nat) (t : Pt) (hn : NodP w0 g nv L t) (he : Emb L i t) (h : Pw w0 g nv d w v out) (hd1 : d + cntP t <= 100000) (hl : out.length + (rn (tb d ++ prP d t ++ [.e])).length <= 1000000000000) :
  Calls Tryz.prog 98 #[.pointer (some ⟨g, 0, none⟩), .int .i64 i] w fun e w' => e = .returned (.tuple #[]) ∧ Pp w0 g nv d w v (out ++ rn (tb d ++ prP d t ++ [.e])) w' := by
 have HNC : Hid (NodP w0 g nv L t) := hn
 have HEM : Hid (Emb L i t) := he
 have e0 : rn (tb d ++ prP d t ++ [.e]) = rn (tb d) ++ rn (prP d t) ++ [10] := by rw [zac, zac]; rfl
 rw [e0] at hl ⊢
 have HL : Hid (out.length + (d + ((rn (prP d t)).length + 1)) <= 1000000000000) := by show _ <= _; rw [List.length_append, List.length_append, zdd] at hl; simp at hl; omega
 have HD1 : Hid _ := hd1
 have HC := zhw h (by omega) (by have := HL.out; omega)
 clear h hn he hl hd1 e0
 go_enter Tryz.func98, Tryz.ntmps98
 go_wp2_with fail
 refine HC.mono ?_
 rintro e W1 ⟨rfl, v1, h1, o1, q1⟩
 have HO : Hid _ := o1
 have HQ : Hid _ := q1
 have HD := HNC.out d i W1 v1 _ HEM.out h1 HD1.out (by have := HL.out; rw [List.length_append, zdd]; omega)
 clear h1 o1 q1 HC
 go_wp2_with fail
 refine HD.mono ?_
 rintro e W2 ⟨rfl, v2, h2, o2, q2⟩
 have HO2 : Hid _ := o2
 have HQ2 : Hid _ := q2
 have HE := za0 [strU [10]] h2 (by have := HL.out; rw [List.length_append, List.length_append, zdd]; show _ + (1 : Nat) <= _; omega) (by simp)
 clear h2 o2 q2 HD
 go_wp2_with fail
 refine HE.mono ?_
 rintro e W3 ⟨rfl, hp⟩
 have HN : Hid (Pp w0 g nv d w v (out ++ (rn (tb d) ++ rn (prP d t) ++ [10])) W3) := by
  refine Pp.trans HO.out HQ.out (Pp.trans HO2.out HQ2.out ?_)
  have e : out ++ (rn (tb d) ++ rn (prP d t) ++ [10]) = out ++ rn (tb d) ++ rn (prP d t) ++ fl [strU [10]] := by simp [fl, strU]
  rw [e]
  exact hp
 clear hp HE
 go_wp2
 go_end0
 exact ⟨rfl, HN.out⟩
theorem zhx (sk : Option Addr) (ck : Nat) (ks : List Nat) (ts : List Pt) (hk : KsP w0 g nv L sk ks ts) (h : Pw w0 g nv d w v out) (hd1 : d + 1 + cntL ts <= 100000) (hl : out.length + (rn (pBra d (ts.map (prP (d + 1))))).length <= 1000000000000) :
  Calls Tryz.prog 67 #[.pointer (some ⟨g, 0, none⟩), .slice sk ks.length ck] w fun e w' => e = .returned (.tuple #[]) ∧ Pp w0 g nv d w v (out ++ rn (pBra d (ts.map (prP (d + 1))))) w' := by
 have HK : Hid (KsP w0 g nv L sk ks ts) := hk
 have hks := hk.s
 have e0 : rn (pBra d (ts.map (prP (d + 1)))) = [123, 10] ++ rn (pLin (d + 1) (ts.map (prP (d + 1)))) ++ rn (tb d) ++ [125] := by
  unfold pBra
  rw [zac, zac, zac]
  rfl
 rw [e0] at hl ⊢
 have HL : Hid (out.length + (2 + ((rn (pLin (d + 1) (ts.map (prP (d + 1))))).length + (d + 1))) <= 1000000000000) := by show _ <= _; rw [List.length_append, List.length_append, List.length_append, zdd] at hl; simp at hl; omega
 have HD1 : Hid _ := hd1
 have hdw : d <= 100000 := by omega
 have HC := za0 [strU [123, 10]] h (by have := HL.out; show _ + (2 : Nat) <= _; omega) (by simp)
 clear h hk hl hd1 e0
 go_enter Tryz.func67, Tryz.ntmps67
 go_wp2_with fail
 refine HC.mono ?_
 rintro e W1 ⟨rfl, v1, h1, o1, q1⟩
 obtain ⟨c3, z3⟩ := h1.c3
 obtain ⟨vd, hd2, od, qd⟩ := h1.deep (d + 1)
 have HSD : Hid (Pp w0 g nv (d + 1) w v (out ++ [123, 10]) (W1.setCell ⟨g, 3, none⟩ (.int .i64 ((d + 1 : Nat) : Int)))) := Pp.trans o1 q1 ⟨vd, hd2, od, qd⟩
 have hcd : ((d + 1 : Nat) : Int) = (d : Int) + 1 := by omega
 rw [hcd] at HSD
 clear h1 o1 q1 HC hd2 od qd hcd
 go_wp2
 go_loopw [18] (fun i wr => ∃ q : Nat, q <= ks.length ∧ i = .int .i64 q ∧ Pp w0 g nv (d + 1) w v (out ++ [123, 10] ++ rn (pLin (d + 1) ((ts.map (prP (d + 1))).take q))) wr) (fun i _ => ks.length - (intOf i).toNat)
 case atStart => exact ⟨0, Nat.zero_le _, rfl, by simpa [pLin, rn] using HSD.out⟩
 case round =>
  obtain ⟨q, hq, rfl, v1, h1, o1, q1⟩ := hrel
  have hlk := HK.out.l
  by_cases hlt : q < ks.length
  ·have hd : decide ((q : Int) < ks.length) = true := by simp; omega
   obtain ⟨k, hk⟩ : ∃ k, ks[q]? = some k := ⟨_, List.getElem?_eq_getElem hlt⟩
   obtain ⟨t, ht⟩ : ∃ t, ts[q]? = some t := ⟨_, List.getElem?_eq_getElem (by omega)⟩
   have hrk := h1.env HK.out.r
   obtain ⟨b, o, rfl, -⟩ := hrk (by omega)
   have kc := za4 hrk q (by simpa using hlt)
   rw [List.getD_eq_getElem?_getD, List.getElem?_map, hk] at kc
   simp only [Option.map_some, Option.getD_some] at kc
   have HTK : Hid (pLin (d + 1) ((ts.map (prP (d + 1))).take (q + 1)) = pLin (d + 1) ((ts.map (prP (d + 1))).take q) ++ (tb (d + 1) ++ prP (d + 1) t ++ [.e])) := by
    show _ = _
    rw [ze4 (d + 1) ht, ztd]
   have hbud : out.length + 2 + (rn (pLin (d + 1) ((ts.map (prP (d + 1))).take q) ++ (tb (d + 1) ++ prP (d + 1) t ++ [.e]))).length <= 1000000000000 := by
    obtain ⟨r, hr⟩ := zvv (d + 1) (ts.map (prP (d + 1))) (q + 1)
    have := zn2 hr
    rw [<- HTK.out]
    have := HL.out
    omega
   have hdt : d + 1 + cntP t <= 100000 := by have := zcn ts q t ht; have := HD1.out; omega
   rw [zac, List.length_append] at hbud
   have HC := zf6 k t (HK.out.n t (List.mem_of_getElem? ht)) (HK.out.e q k t hk ht) h1 hdt (by rw [List.length_append, List.length_append]; show _ + (2 : Nat) + _ + _ <= _; omega)
   have HO : Hid _ := o1
   have HQ : Hid _ := q1
   clear h1 o1 q1 hk ht hrk hbud hlk hdt c3 z3
   go_wp2_with fail
   refine HC.mono ?_
   rintro e W ⟨rfl, hp⟩
   have HN : Hid (Pp w0 g nv (d + 1) w v (out ++ [123, 10] ++ rn (pLin (d + 1) ((ts.map (prP (d + 1))).take (q + 1)))) W) := by
    refine Pp.trans HO.out HQ.out ?_
    rw [HTK.out, zac, <- List.append_assoc]
    exact hp
   clear hp HC
   go_wp2
   exact ⟨⟨q + 1, by omega, by go_num, HN.out⟩, by simp [intOf]; omega⟩
  ·have hd : decide ((q : Int) < ks.length) = false := by simp; omega
   have hp : Pp w0 g nv (d + 1) w v (out ++ [123, 10] ++ rn (pLin (d + 1) (ts.map (prP (d + 1))))) wr := by
    have hp : Pp w0 g nv (d + 1) w v (out ++ [123, 10] ++ rn (pLin (d + 1) ((ts.map (prP (d + 1))).take q))) wr := ⟨v1, h1, o1, q1⟩
    rw [zeb (d + 1) (by omega)] at hp
    exact hp
   clear h1 o1 q1 c3 z3
   obtain ⟨v2, h2, o2, q2⟩ := hp
   obtain ⟨c3, z3⟩ := h2.c3
   have hcd : ((d + 1 : Nat) : Int) = (d : Int) + 1 := by omega
   rw [hcd] at c3
   obtain ⟨v3, h3, o3, q3⟩ := h2.deep d
   have h3' := zhw h3 hdw (by have := HL.out; rw [List.length_append, List.length_append]; show _ + (2 : Nat) + _ + _ <= _; omega)
   have HO : Hid _ := o2.trans q2 o3
   have HQ : Hid _ := q3
   have HO2 : Hid _ := o2
   have HQ2 : Hid _ := q2
   have HO3 : Hid _ := o3
   clear h2 h3 o2 q2 o3 q3 hcd
   go_wp2_with fail
   refine h3'.mono ?_
   rintro e W2 ⟨rfl, v4, h4, o4, q4⟩
   have HE := za0 [strU [125]] h4 (by have := HL.out; rw [List.length_append, List.length_append, List.length_append, zdd]; show _ + (2 : Nat) + _ + _ + (1 : Nat) <= _; omega) (by simp)
   have HO4 : Hid _ := o4
   have HQ4 : Hid _ := q4
   clear h4 o4 q4 h3' c3 z3
   go_wp2_with fail
   refine HE.mono ?_
   rintro e W3 ⟨rfl, hp⟩
   have HN : Hid (Pp w0 g nv d w v (out ++ ([123, 10] ++ rn (pLin (d + 1) (ts.map (prP (d + 1)))) ++ rn (tb d) ++ [125])) W3) := by
    refine Pp.trans HO2.out HQ2.out (Pp.trans HO3.out HQ.out (Pp.trans HO4.out HQ4.out ?_))
    have e : out ++ ([123, 10] ++ rn (pLin (d + 1) (ts.map (prP (d + 1)))) ++ rn (tb d) ++ [125]) = out ++ [123, 10] ++ rn (pLin (d + 1) (ts.map (prP (d + 1)))) ++ rn (tb d) ++ fl [strU [125]] := by simp [fl, strU]
    rw [e]
    exact hp
   clear hp HE
   go_wp2
   go_end0
   exact ⟨rfl, HN.out⟩
end
mutual
def shP : Pt -> Prop | .mk k _ _ _ _ _ l => ndK k <= l.length ∧ shL l
def shL : List Pt -> Prop | [] => True | t :: r => shP t ∧ shL r
end
theorem zte : ∀ {l : List Pt}, shL l ↔ ∀ u ∈ l, shP u
 | [] => by simp [shL]
 | t :: r => by simp [shL, zte (l := r)]
theorem zcl {k n a f t : Int} {x : ByteArray} {l : List Pt} (h : ndK k <= l.length) (hl : ∀ u ∈ l, shP u) : shP (.mk k x n a f t l) := by
 rw [shP]
 exact ⟨h, zte.2 hl⟩
theorem zf7 {e : Pt} (h : Ex e) : shP e := by
 induction h with
 | int _ _ => exact zcl (by decide) (by simp)
 | text _ _ => exact zcl (by decide) (by simp)
 | bool _ => exact zcl (by decide) (by simp)
 | name _ _ => exact zcl (by decide) (by simp)
 | dot _ _ _ ih => exact zcl (by simp [ndK]) (zcj ih)
 | call _ _ ih ihl => exact zcl (by simp [ndK]) fun u hu => (List.mem_cons.1 hu).elim (fun e => by rw [e]; exact ih) (ihl u)
 | una _ _ ih => exact zcl (by simp [ndK]) (zcj ih)
 | bin _ _ _ ihu ihv => exact zcl (by simp [ndK]) (zdr ihu ihv)
theorem zvw {e : Pt} (h : Ty e) : shP e := by
 cases h with
 | basic _ => exact zcl (by decide) (by simp)
 | named _ _ => exact zcl (by decide) (by simp)
 | far _ _ _ => exact zcl (by simp [ndK]) (zcj (zcl (by decide) (by simp)))
theorem z3b {e : Pt} (h : Vc e) : shP e := by
 cases h with
 | va h =>
  cases h with
  | int h1 h2 => exact zf7 (.int h1 h2)
  | text h1 h2 => exact zf7 (.text h1 h2)
  | bool h1 => exact zf7 (.bool h1)
 | neg h1 h2 => exact zf7 (.una (.inl rfl) (.int h1 h2))
theorem zzg {e : Pt} (h : St e) : shP e := by
 induction h with
 | block _ ih => exact zcl (by simp [ndK]) ih
 | loop hc _ ih => exact zcl (by simp [ndK]) (zdr (zf7 hc) (zcl (by simp [ndK]) ih))
 | if1 hc _ ih => exact zcl (by simp [ndK]) (zdr (zf7 hc) (zcl (by simp [ndK]) ih))
 | if2 hc _ _ ih ih' =>
  refine zcl (by simp [ndK]) fun u hu => ?_
  simp only [List.mem_cons, List.not_mem_nil, or_false] at hu
  rcases hu with rfl | rfl | rfl
  ·exact zf7 hc
  ·exact zcl (by simp [ndK]) ih
  ·exact zcl (by simp [ndK]) ih'
 | if3 hc _ _ _ ih ih' =>
  refine zcl (by simp [ndK]) fun u hu => ?_
  simp only [List.mem_cons, List.not_mem_nil, or_false] at hu
  rcases hu with rfl | rfl | rfl
  ·exact zf7 hc
  ·exact zcl (by simp [ndK]) ih
  ·exact ih'
 | var1 _ hv => exact zcl (by simp [ndK]) (zcj (zvw hv))
 | var2 _ hv he => exact zcl (by simp [ndK]) (zdr (zvw hv) (zf7 he))
 | res0 => exact zcl (by simp [ndK]) (by simp)
 | res1 he => exact zcl (by simp [ndK]) (zcj (zf7 he))
 | short _ _ he => exact zcl (by simp [ndK]) (zcj (zf7 he))
 | assign he hu => exact zcl (by simp [ndK]) (zdr (zf7 he) (zf7 hu))
 | expr he => exact zcl (by simp [ndK]) (zcj (zf7 he))
theorem z12 {k : Int} (hk : k = 6 ∨ k = 9) {u : Pt} (h : Pm k u) : shP u := by
 obtain ⟨x, v, a, f, t, rfl, -, -, hv⟩ := h
 exact zcl (by rcases hk with rfl | rfl <;> simp [ndK]) (zcj (zvw hv))
theorem z3c {e : Pt} (h : Dc e) : shP e := by
 cases h with
 | con _ hv => exact zcl (by simp [ndK]) (zcj (z3b hv))
 | var1 h1 h2 => exact zzg (.var1 h1 h2)
 | var2 h1 h2 h3 => exact zzg (.var2 h1 h2 h3)
 | str _ hl => exact zcl (by simp [ndK]) fun u hu => z12 (.inl rfl) (hl u hu)
 | fn _ _ h1 h2 h3 h4 =>
  refine zcl (by simp [ndK]) fun u hu => ?_
  simp only [List.mem_append, List.mem_singleton] at hu
  rcases hu with ((hu | hu) | hu) | rfl
  ·rcases h1 with rfl | ⟨y, z, a, f, t, a', f', t', rfl, -, -⟩
   ·simp at hu
   ·obtain rfl := List.mem_singleton.1 hu
    exact zcl (by simp [ndK]) (zcj (zcl (by simp [ndK]) (by simp)))
  ·exact z12 (.inr rfl) (h2 u hu)
  ·rcases h3 with rfl | ⟨v, rfl, hv⟩
   ·simp at hu
   ·obtain rfl := List.mem_singleton.1 hu
    exact zvw hv
  ·obtain ⟨a, f, t, l, rfl, hl⟩ := h4
   exact zzg (.block hl)
theorem z3d {t : Pt} (h : FiT t) : shP t := by
 obtain ⟨x, a, f, e, is, ds, rfl, -, hi, hd⟩ := h
 refine zcl (by simp [ndK]) fun u hu => ?_
 rcases List.mem_append.1 hu with hu | hu
 ·obtain ⟨y, a, f, t, rfl, -⟩ := hi u hu
  exact zcl (by simp [ndK]) (by simp)
 ·exact z3c (hd u hu)
mutual
theorem z13 : ∀ t : Pt, shP t -> GdP t -> arP t
 | .mk k x n a f t l, h, ho => by
  rw [shP] at h
  rw [GdP] at ho
  rw [arP]
  exact ⟨h.1, ⟨by have := ho.1; omega, ho.2.1.1, ho.2.1.2⟩, zw2 l h.2 ho.2.2⟩
theorem zw2 : ∀ l : List Pt, shL l -> GdL l -> arL l
 | [], _, _ => by rw [arL]; trivial
 | t :: r, h, ho => by
  rw [shL] at h
  rw [GdL] at ho
  rw [arL]
  exact ⟨z13 t h.1 ho.1, zw2 r h.2 ho.2⟩
end
def lnS (os : List (List Pe)) : Nat := (os.map fun o => (rn o).length + 5025).sum
theorem zme : lnS [] = 0 := rfl
theorem zc0 (o : List Pe) (os : List (List Pe)) : lnS (o :: os) = (rn o).length + 5025 + lnS os := by simp [lnS]
theorem zjw (os : List (List Pe)) (n : Nat) : lnS (os.take n) + lnS (os.drop n) = lnS os := by
 induction os generalizing n with
 | nil => simp [lnS]
 | cons a b ih =>
  cases n with
  | zero => simp [lnS]
  | succ n =>
   have := ih n
   rw [List.take_succ_cons, List.drop_succ_cons, zc0, zc0]
   omega
theorem zn3 {s : List Pe} (hs : (rn s).length <= 6) (os : List (List Pe)) : (rn (pBeh s os)).length <= lnS os := by
 induction os with
 | nil => simp [pBeh, rn]
 | cons a b ih =>
  have e : pBeh s (a :: b) = s ++ a ++ pBeh s b := by simp [pBeh]
  rw [e, zac, zac, zc0, List.length_append, List.length_append]
  omega
theorem zle {s : List Pe} (hs : (rn s).length <= 6) (os : List (List Pe)) : (rn (pPar s os)).length <= lnS os := by
 cases os with
 | nil => simp [pPar, rn]
 | cons a b =>
  have e : pPar s (a :: b) = a ++ pBeh s b := by simp [pPar, pBeh]
  have := zn3 hs b
  rw [e, zac, zc0, List.length_append]
  omega
theorem ztf (os : List (List Pe)) : (rn (pBrk os)).length <= 2 + lnS os := by
 have := zle (s := [sg [44], sp]) (by decide) os
 have h1 : (rn [sg [40]]).length = 1 := rfl
 have h2 : (rn [sg [41]]).length = 1 := rfl
 unfold pBrk
 rw [zac, zac, List.length_append, List.length_append]
 omega
theorem z14 {d : Nat} (hd : d <= 5000) (os : List (List Pe)) : (rn (pLin d os)).length <= lnS os := by
 induction os with
 | nil => simp [pLin, rn]
 | cons a b ih =>
  have e : pLin d (a :: b) = tb d ++ a ++ [.e] ++ pLin d b := by simp [pLin]
  have h1 : (rn [Pe.e]).length = 1 := rfl
  have h2 := zdd d
  rw [e, zac, zac, zac, zc0, List.length_append, List.length_append, List.length_append]
  omega
theorem zw3 {d : Nat} (hd : d + 1 <= 5000) (os : List (List Pe)) : (rn (pBra d os)).length <= 5003 + lnS os := by
 have := z14 hd os
 have h1 : (rn [sg [123], fe]).length = 2 := rfl
 have h2 : (rn [sg [125]]).length = 1 := rfl
 have h3 := zdd d
 unfold pBra
 rw [zac, zac, zac, List.length_append, List.length_append, List.length_append]
 omega
theorem zw4 (os : List (List Pe)) : (rn (pOne os)).length <= lnS os := by
 cases os with
 | nil => simp [pOne, rn]
 | cons a b => rw [zc0]; show (rn a).length <= _; omega
theorem zlf (k : Int) (x : ByteArray) (hs : List (Int × ByteArray)) (os : List (List Pe)) (i : Nat) (n : Nat) (h : ∀ o, os[i]? = some o -> (rn o).length + 2 <= n) : (rn (pOpe k x hs os i)).length <= n := by
 unfold pOpe
 split
 ·rename_i h' o e1 e2
  have := h o e2
  split
  ·have e : rn (pBrk [o]) = [40] ++ rn o ++ [41] := by unfold pBrk; rw [zac, zac]; simp [pPar]; rfl
   rw [e]
   simp
   omega
  ·omega
 ·simp [rn]
theorem zzh (k : Int) (x : ByteArray) (hs : List (Int × ByteArray)) (os : List (List Pe)) : (rn (pOpe k x hs os 0)).length + (rn (pOpe k x hs os 1)).length <= lnS os ∧ (rn (pOpe k x hs os 0)).length + lnS (os.drop 1) <= lnS os := by
 cases os with
 | nil =>
  have h0 := zlf k x hs [] 0 0 (by simp)
  have h1 := zlf k x hs [] 1 0 (by simp)
  rw [List.drop_nil, zme]
  omega
 | cons a r =>
  have h0 := zlf k x hs (a :: r) 0 ((rn a).length + 2) (by simp)
  cases r with
  | nil =>
   have h1 := zlf k x hs [a] 1 0 (by simp)
   rw [zc0, List.drop_succ_cons, List.drop_nil, zme]
   omega
  | cons b r =>
   have h1 := zlf k x hs (a :: b :: r) 1 ((rn b).length + 2) (by simp)
   rw [zc0, zc0, List.drop_succ_cons, List.drop_zero, zc0]
   omega
theorem zw5 {d : Nat} (hd : d <= 5000) : ∀ (b : Bool) (hs : List (Int × ByteArray)) (os : List (List Pe)), (rn (pFiK d b hs os)).length <= lnS os
 | _, [], os => by simp [pFiK, rn]
 | _, _ :: _, [] => by simp [pFiK, rn]
 | b, h :: hs, o :: os => by
  have ih := zw5 hd false hs os
  have h1 : (rn [Pe.e]).length = 1 := rfl
  have h2 := zdd d
  have h3 : (rn (if b || h.1 != 2 then [fe] else [])).length <= 1 := by split <;> decide
  rw [pFiK, zac, zac, zac, zac, zc0]
  simp only [List.length_append]
  omega
theorem zw6 {x : ByteArray} (hx : x.size <= 100000) : (quoT x).data.toList.length <= 200002 := by
 unfold quoT
 split
 ·rename_i q hq
  have := (zrc hq).2.1
  have e : x.data.toList.length = x.size := by simp
  rw [zdi]
  omega
 ·simp
theorem rn_t (y : Tok) : (rn [.t y]).length = y.text.data.toList.length := by simp [rn, Pe.bs]
theorem z15 (x : ByteArray) (hs : List (Int × ByteArray)) (os : List (List Pe)) : (rn (pFun x hs os)).length <= 20 + x.data.toList.length + lnS os := by
 have a1 := ztf (os.take (cutN 8 hs))
 have a2 := zjw os (cutN 8 hs)
 have a3 := ztf ((os.drop (cutN 8 hs)).take (cutN 9 (hs.drop (cutN 8 hs))))
 have a4 := zjw (os.drop (cutN 8 hs)) (cutN 9 (hs.drop (cutN 8 hs)))
 have a5 := zn3 (s := [sp]) (by decide) ((os.drop (cutN 8 hs)).drop (cutN 9 (hs.drop (cutN 8 hs))))
 have h1 : (rn [wd [102, 117, 110, 99], sp]).length = 5 := rfl
 have h2 : (rn [sp]).length = 1 := rfl
 have h3 := rn_t (tkW 1 x)
 have h4 : (tkW 1 x).text.data.toList.length = x.data.toList.length := rfl
 unfold pFun
 rw [zac, zac, zac, zac]
 simp only [List.length_append]
 split
 ·rw [zac, List.length_append]
  omega
 ·rw [zrf, List.length_nil]
  omega
theorem z16 (k : Int) (x : ByteArray) (n : Int) (hx : x.size <= 100000) (hn : -9223372036854775808 <= n ∧ n <= 9223372036854775807) (hs : List (Int × ByteArray)) (os : List (List Pe)) : (rn (prX k x n hs os)).length <= 300000 + lnS os := by
 obtain ⟨h1, h2⟩ := zzh k x hs os
 have h3 := ztf (os.drop 1)
 have e1 : x.data.toList.length = x.size := by simp
 have h4 : (rn [.t (tkW 1 x)]).length = x.size := by rw [rn_t]; exact e1
 have h5 : (rn [.t (tkW 4 x)]).length = x.size := by rw [rn_t]; exact e1
 have h6 : (rn [.t (nuT n)]).length <= 21 := by rw [rn_t]; show (Lib.itoa n).toArray.toList.length <= 21; simpa using Lib.itoa_length_le n hn.1 hn.2
 have h7 : (rn [.t (tkW 3 (quoT x))]).length <= 200002 := by rw [rn_t]; exact zw6 hx
 have h8 : (rn [sg [46], .t (tkW 1 x)]).length = 1 + x.size := by rw [zd0, List.length_append, h4]; rfl
 have h9 : (rn [sp, .t (tkW 4 x), sp]).length = 2 + x.size := by
  rw [show [sp, .t (tkW 4 x), sp] = [sp] ++ [.t (tkW 4 x)] ++ [sp] from rfl, zac, zac, List.length_append, List.length_append, h5]
  show 1 + x.size + 1 = _
  omega
 unfold prX
 repeat' split
 all_goals (try simp only [zac, List.length_append])
 all_goals (try rw [zrf])
 all_goals (try simp only [List.length_nil])
 all_goals omega
theorem z17 {d : Nat} (hd : d + 1 <= 5000) (k : Int) (x : ByteArray) (n : Int) (hx : x.size <= 100000) (hn : -9223372036854775808 <= n ∧ n <= 9223372036854775807) (hs : List (Int × ByteArray)) (os : List (List Pe)) : (rn (prS d k x n hs os)).length <= 300000 + lnS os := by
 have h1 := z16 k x n hx hn hs os
 have h2 := zw3 hd os
 have h3 := zle (s := [sp]) (by decide) (os.take 2)
 have h4 := zn3 (s := [sp, wd [101, 108, 115, 101], sp]) (by decide) (os.drop 2)
 have h5 := zjw os 2
 have h6 := zle (s := [sp]) (by decide) os
 have h7 := zn3 (s := [sp]) (by decide) os
 have h8 := zw4 os
 have h9 := zle (s := [sp, sg [61], sp]) (by decide) os
 have e1 : x.data.toList.length = x.size := by simp
 have g4 : (rn [.t (tkW 1 x)]).length = x.size := by rw [rn_t]; exact e1
 have g5 : (rn [.t (tkW 1 x), sp, sg [58, 61], sp]).length = x.size + 4 := by
  rw [show [.t (tkW 1 x), sp, sg [58, 61], sp] = [.t (tkW 1 x)] ++ [sp, sg [58, 61], sp] from rfl, zac, List.length_append, g4]
  rfl
 have g6 : (rn [wd [105, 102], sp]).length = 3 := rfl
 have g7 : (rn [wd [102, 111, 114], sp]).length = 4 := rfl
 have g8 : (rn [wd [114, 101, 116, 117, 114, 110]]).length = 6 := rfl
 unfold prS
 repeat' split
 all_goals (try simp only [zac, List.length_append])
 all_goals omega
theorem z18 {d : Nat} (hd : d + 1 <= 5000) (k : Int) (x : ByteArray) (n : Int) (hx : x.size <= 100000) (hn : -9223372036854775808 <= n ∧ n <= 9223372036854775807) (hs : List (Int × ByteArray)) (os : List (List Pe)) : (rn (prK d k x n hs os)).length <= 300100 + lnS os := by
 have h1 := z17 hd k x n hx hn hs os
 have h2 := zw3 hd os
 have h3 := zw5 (d := d) (by omega) true hs os
 have h4 := zw4 os
 have h5 := zle (s := [sp, sg [61], sp]) (by decide) os
 have h6 := z15 x hs os
 have e1 : x.data.toList.length = x.size := by simp
 have g4 : (rn [.t (tkW 1 x)]).length = x.size := by rw [rn_t]; exact e1
 have g5 : ∀ a b : List Pe, (rn (a ++ .t (tkW 1 x) :: b)).length = (rn a).length + x.size + (rn b).length := fun a b => by
  rw [show a ++ .t (tkW 1 x) :: b = a ++ [.t (tkW 1 x)] ++ b by simp, zac, zac, List.length_append, List.length_append, g4]
 have k1 : (rn [wd [112, 97, 99, 107, 97, 103, 101], sp, .t (tkW 1 x), .e]).length = 8 + x.size + 1 := g5 [wd [112, 97, 99, 107, 97, 103, 101], sp] [.e]
 have k2 : (rn [wd [105, 109, 112, 111, 114, 116], sp, .t (tkW 3 (quoT x))]).length <= 200020 := by
  rw [show [wd [105, 109, 112, 111, 114, 116], sp, .t (tkW 3 (quoT x))] = [wd [105, 109, 112, 111, 114, 116], sp] ++ [.t (tkW 3 (quoT x))] from rfl, zac, List.length_append, rn_t]
  have : (tkW 3 (quoT x)).text.data.toList.length <= 200002 := zw6 hx
  have : (rn [wd [105, 109, 112, 111, 114, 116], sp]).length = 7 := rfl
  omega
 have k3 : (rn [wd [99, 111, 110, 115, 116], sp, .t (tkW 1 x), sp, sg [61], sp]).length = 6 + x.size + 3 := g5 [wd [99, 111, 110, 115, 116], sp] [sp, sg [61], sp]
 have k4 : (rn [wd [118, 97, 114], sp, .t (tkW 1 x), sp]).length = 4 + x.size + 1 := g5 [wd [118, 97, 114], sp] [sp]
 have k5 : (rn [wd [116, 121, 112, 101], sp, .t (tkW 1 x), sp, wd [115, 116, 114, 117, 99, 116], sp]).length = 5 + x.size + 8 := g5 [wd [116, 121, 112, 101], sp] [sp, wd [115, 116, 114, 117, 99, 116], sp]
 have k6 : (rn [.t (tkW 1 x), sp]).length = 0 + x.size + 1 := g5 [] [sp]
 have k7 : (rn [sg [46], .t (tkW 1 x)]).length = 1 + x.size + 0 := g5 [sg [46]] []
 unfold prK
 repeat' split
 all_goals (try simp only [zac, List.length_append])
 all_goals omega
mutual
theorem z19 : ∀ (t : Pt) (d : Nat), arP t -> d + cntP t <= 4999 -> (rn (prP d t)).length + 5025 <= 320000 * cntP t
 | .mk k x n a f t l, d, h, hd => by
  rw [arP] at h
  rw [cntP] at hd ⊢
  have hk : kdD k d <= d + 1 := by unfold kdD; split <;> omega
  have h1 := z18 (d := d) (by omega) k x n h.2.1.1 h.2.1.2 (l.map hdP) (prM (kdD k d) l)
  have h2 := zw7 l (kdD k d) h.2.2 (by omega)
  rw [prP]
  omega
theorem zw7 : ∀ (l : List Pt) (d : Nat), arL l -> d + cntL l <= 4999 -> lnS (prM d l) <= 320000 * cntL l
 | [], d, _, _ => by rw [prM, zme]; omega
 | t :: r, d, h, hd => by
  rw [arL] at h
  rw [cntL] at hd ⊢
  have h1 := z19 t d h.1 (by omega)
  have h2 := zw7 r d h.2 (by omega)
  rw [prM, zc0]
  omega
end
theorem z2a : ∀ (ws ts : List Tok), eqAll tkE ws ts = true -> Hs ts 0 ws ∧ ts.length = ws.length := fun ws ts h => by
 have hlen := zcr h
 refine ⟨fun i t hi => ?_, hlen.symm⟩
 have hlt : i < ts.length := by have := (List.getElem?_eq_some_iff.1 hi).1; omega
 have := (zc2 hlen).1 h i t ts[i] hi (List.getElem?_eq_getElem hlt)
 unfold tkE at this
 simp only [Bool.and_eq_true, Bool.or_eq_true, beq_iff_eq] at this
 have e : nxT ts (0 + i) = ts[i] := by unfold nxT; rw [Nat.zero_add, List.getD_eq_getElem?_getD, List.getElem?_eq_getElem hlt]; rfl
 rw [e]
 refine ⟨this.1.symm, ?_⟩
 rcases this.2 with h2 | ⟨h2, h3⟩
 ·left
  rw [ByteArray.toList_eq, ByteArray.toList_eq] at h2
  exact (ByteArray.ext (Array.toList_inj.1 h2)).symm
 ·right
  refine ⟨h2, ?_⟩
  rw [List.isEmpty_iff, ByteArray.toList_eq] at h3
  exact ByteArray.ext (Array.toList_inj.1 (by simpa using h3))
mutual
theorem z3e : ∀ (t t' : Pt), smP t t' -> hdP t = hdP t'
 | .mk k x n a f e l, .mk k' x' n' a' f' e' l', h => by
  unfold smP at h
  rw [hdP, hdP, h.1, h.2.1]
end
theorem ztg : ∀ (l l' : List Pt), smL l l' -> l.map hdP = l'.map hdP
 | [], [], _ => rfl
 | [], _ :: _, h => by unfold smL smP.go at h; exact h.elim
 | _ :: _, [], h => by unfold smL smP.go at h; exact h.elim
 | t :: r, t' :: r', h => by
  unfold smL smP.go at h
  rw [List.map_cons, List.map_cons, z3e t t' h.1, ztg r r' h.2]
mutual
theorem zzi : ∀ (t t' : Pt) (d : Nat), smP t t' -> prP d t = prP d t'
 | .mk k x n a f e l, .mk k' x' n' a' f' e' l', d, h => by
  unfold smP at h
  obtain ⟨rfl, rfl, rfl, h4⟩ := h
  rw [prP, prP, ztg l l' h4, zw8 l l' _ h4]
theorem zw8 : ∀ (l l' : List Pt) (d : Nat), smL l l' -> prM d l = prM d l'
 | [], [], _, _ => rfl
 | [], _ :: _, _, h => by unfold smL smP.go at h; exact h.elim
 | _ :: _, [], _, h => by unfold smL smP.go at h; exact h.elim
 | t :: r, t' :: r', d, h => by
  unfold smL smP.go at h
  rw [prM, prM, zzi t t' d h.1, zw8 r r' d h.2]
end
mutual
theorem z2b : ∀ (t t' : Pt), smP t t' -> wrP t = wrP t'
 | .mk k x n a f e l, .mk k' x' n' a' f' e' l', h => by
  unfold smP at h
  obtain ⟨rfl, rfl, rfl, h4⟩ := h
  rw [wrP, wrP, ztg l l' h4, zw9 l l' h4]
theorem zw9 : ∀ (l l' : List Pt), smL l l' -> wrM l = wrM l'
 | [], [], _ => rfl
 | [], _ :: _, h => by unfold smL smP.go at h; exact h.elim
 | _ :: _, [], h => by unfold smL smP.go at h; exact h.elim
 | t :: r, t' :: r', h => by
  unfold smL smP.go at h
  rw [wrM, wrM, z2b t t' h.1, zw9 r r' h.2]
end
structure TrP (t : Pt) : Prop where
 f : FiT t
 o : okP t
 n : (layP 0 t).length <= 2048
 d : dpF (fun _ => 0) 0 0 (layP 0 t) <= 24
theorem zzj {s : List UInt8} {t : Pt} (h : txtO s = .inr t) : TrP t := by
 obtain ⟨ts, q, h1, h2, h3, h4, h5⟩ := zzc h
 obtain ⟨hf, ho⟩ := zns (zvk h2) h3
 exact ⟨hf, ho, h4, h5⟩
theorem TrP.ar {t : Pt} (h : TrP t) : arP t := z13 t (z3d h.f) (zyt t h.o)
theorem TrP.len {t : Pt} (h : TrP t) : (rn (prP 0 t)).length <= 1000000000000 ∧ cntP t <= 2048 := by
 have h1 := h.n
 rw [zb1] at h1
 have := z19 t 0 h.ar (by omega)
 omega
theorem TrP.ne {t : Pt} (h : TrP t) : rn (prP 0 t) ≠ [] := by
 obtain ⟨x, a, f, e, is, ds, rfl, -⟩ := h.f
 have e1 : prP 0 (.mk 1 x 0 a f e (is ++ ds)) = wd [112, 97, 99, 107, 97, 103, 101] :: sp :: .t (tkW 1 x) :: .e :: pFiK 0 true ((is ++ ds).map hdP) ((is ++ ds).map (prP 0)) := by
  rw [prP, zb8]
  simp [prK, kdD]
 rw [e1, zd0]
 exact fun h => by cases h
theorem zvx {t : Pt} (h : TrP t) (hl : (wrP t).length <= 1024) (hp : ¬ 4096 < (rn (prP 0 t)).length) : ∃ t' ms, txtO (rn (prP 0 t)) = .inr t' ∧ smP t t' ∧ lexO (rn (prP 0 t)) = (ms, 0, 0) ∧ eqAll tkE (wrP t) ms = true := by
 obtain ⟨h1, h2⟩ := zy8 h.f 0
 have ha := zys t h.o
 obtain ⟨ms, hm, he⟩ := z1b h2 (fun x hx => (ha x (by rw [<- h1]; exact hx)).1) (by rw [h1]; exact hl) hp
 rw [h1] at he
 obtain ⟨hs, hlen⟩ := z2a _ _ he
 obtain ⟨t', e1, e2⟩ := zk7 h.f ms hs hlen
 refine ⟨t', ms, ?_, e2, hm, he⟩
 have hsm := zk4 t t' 0 e2
 have hck : chkO ms = 0 := by
  rcases zfk (L := rn (prP 0 t)) (by omega) with ⟨e, q, g, h0, -⟩ | ⟨ms', g, -, g2, -⟩
  ·rw [hm] at g
   simp only [Prod.mk.injEq] at g
   exact absurd g.2.1.symm h0
  ·rw [hm] at g
   simp only [Prod.mk.injEq] at g
   rw [g.1]
   exact g2
 unfold txtO
 rw [hm, if_pos rfl]
 unfold parO
 rw [if_neg (by rw [hck]; simp), if_neg (by rw [zvr hm]; simp), e1]
 simp only
 rw [if_neg (by have := zcr hsm; have := h.n; omega), if_neg (by rw [<- zzd _ _ _ _ _ hsm]; have := h.d; omega)]
def prnO (t : Pt) : List UInt8 × Int := if 1024 < (wrP t).length then ([], 3) else if 4096 < (rn (prP 0 t)).length then ([], 3) else (rn (prP 0 t), 0)
def fmO (s : List UInt8) : List UInt8 × Int × Int := match txtO s with | .inl p => ([], p.1, p.2) | .inr t => ((prnO t).1, (prnO t).2, 0)
def fdB (s : List UInt8) : Bool := ((fmO s).2.1 == 0) && ((fmO s).1 == s)
theorem zxa {t t' : Pt} (h : smP t t') : prnO t = prnO t' := by
 unfold prnO
 rw [zzi t t' 0 h, z2b t t' h]
theorem zn4 {t : Pt} (h : TrP t) (h0 : (prnO t).2 = 0) : (prnO t).1 = rn (prP 0 t) ∧ ∃ t' ms, txtO (rn (prP 0 t)) = .inr t' ∧ smP t t' ∧ lexO (rn (prP 0 t)) = (ms, 0, 0) ∧ eqAll tkE (wrP t) ms = true := by
 unfold prnO at h0 ⊢
 split at h0
 ·simp at h0
 rename_i h1
 rw [if_neg h1]
 split at h0
 ·simp at h0
 rename_i h2
 rw [if_neg h2]
 exact ⟨rfl, zvx h (by omega) h2⟩
theorem zpd {t : Pt} (h : TrP t) (h0 : (prnO t).2 = 0) : fmO (rn (prP 0 t)) = (rn (prP 0 t), 0, 0) ∧ fdB (rn (prP 0 t)) = true := by
 obtain ⟨h1, t', ms, h2, h3, -⟩ := zn4 h h0
 have e : fmO (rn (prP 0 t)) = (rn (prP 0 t), 0, 0) := by
  unfold fmO
  rw [h2]
  simp only
  rw [<- zxa h3, h1, h0]
 refine ⟨e, ?_⟩
 unfold fdB
 rw [e]
 simp
theorem zvy (x : ByteArray) (w : World) : Calls Tryz.prog 166 #[.string x] w fun e w' => e = .returned (.int .i64 (rowQ x)) ∧ w' = w := by
 go_enter Tryz.func166, Tryz.ntmps166
 go_wp2
 all_goals (go_ret; refine ⟨?_, rfl⟩; simp only [rowQ, <- ByteArray.toList_eq]; simp_all)
theorem zmf (m n : NdM) (i : Nat) (w : World) : Calls Tryz.prog 149 #[.agg m.cells, .agg n.cells, .int .i64 i] w fun e w' => e = .returned (.bool (nedQ m.k m.x (n.k, n.x) i)) ∧ Below w.heap.size w w' := by
 unfold NdM.cells
 go_enter Tryz.func149, Tryz.ntmps149
 go_wp2_with fail
 refine zeu (fun W => W.heap[w.heap.size]? = some (.cells m.cells 49 (0, 0)) ∧ W.heap[w.heap.size + 1]? = some (.cells n.cells 49 (0, 0)) ∧ Below w.heap.size w W) ?_ ?_
 ·have n0 := heap_alloc_new w (.cells m.cells 49)
  have n1 := heap_alloc_new (w.alloc (.cells m.cells 49)) (.cells n.cells 49)
  simp only [World.size_alloc] at n1
  exact ⟨(Below.heap_alloc _ _ _ (by simp)).trans n0, n1, ((Below.refl _ _).alloc (Nat.le_refl _) _).alloc (by simp) _⟩
 rintro W0 ⟨r0, r1, hB0⟩
 have HR : Hid (∀ W, Below W0.heap.size W0 W -> W.cell? ⟨w.heap.size, 0, none⟩ = some (.int .i64 m.k) ∧ W.cell? ⟨w.heap.size, 1, none⟩ = some (.string m.x) ∧ W.cell? ⟨w.heap.size + 1, 0, none⟩ = some (.int .i64 n.k) ∧ W.cell? ⟨w.heap.size + 1, 1, none⟩ = some (.string n.x) ∧ Below w.heap.size w W) := fun W hb =>
  ⟨(cell_of_row _ _ 0 _ _ _ ((hb.block _ (zab r0)).trans r0)).trans rfl, (cell_of_row _ _ 1 _ _ _ ((hb.block _ (zab r0)).trans r0)).trans rfl, (cell_of_row _ _ 0 _ _ _ ((hb.block _ (zab r1)).trans r1)).trans rfl, (cell_of_row _ _ 1 _ _ _ ((hb.block _ (zab r1)).trans r1)).trans rfl, hB0.trans (hb.mono hB0.size)⟩
 clear r0 r1 hB0
 obtain ⟨c0, c1, d0, d1, -⟩ := HR.out W0 (Below.refl _ _)
 go_quiet (fail)
 have HBw : Hid _ := (HR.out (W0.drewN nq) (zb0 _ _)).2.2.2.2
 cases b1 : (m.k == 26)
 rotate_left
 focus (
  have HX : Hid (nedQ m.k m.x (n.k, n.x) i = (n.k == 27)) := by
   show nedQ _ _ _ _ = _
   unfold nedQ
   rw [if_pos (by simpa using b1)]
  go_wp2
  go_ret
  exact ⟨zam HX.out.symm, HBw.out⟩)
 cases b2 : (m.k == 27)
 focus (
  have HX : Hid (nedQ m.k m.x (n.k, n.x) i = ((n.k == 26) || (n.k == 27))) := by
   show nedQ _ _ _ _ = _
   unfold nedQ
   rw [if_neg (by simpa using b1), if_neg (by simpa using b2)]
  cases b3 : (n.k == 26)
  ·rw [b3] at HX
   go_wp2
   go_ret
   exact ⟨zam (by rw [HX.out]; rfl), HBw.out⟩
  ·rw [b3] at HX
   go_wp2
   go_ret
   exact ⟨zam (by rw [HX.out]; rfl), HBw.out⟩)
 have HX : Hid (nedQ m.k m.x (n.k, n.x) i = ((n.k == 27) && (decide (rowQ n.x < rowQ m.x) || ((rowQ n.x == rowQ m.x) && (decide (0 < i) || (rowQ n.x == 3)))))) := by
  show nedQ _ _ _ _ = _
  unfold nedQ
  rw [if_neg (by simpa using b1), if_pos (by simpa using b2)]
 go_wp2_with fail
 obtain ⟨f0, f1, g0, g1, -⟩ := HR.out (W0.drewN nq) (zb0 _ _)
 have HFB : Hid (∀ W, Below (W0.drewN nq).heap.size (W0.drewN nq) W -> Below w.heap.size w W) := fun W hb => HBw.out.trans (hb.mono HBw.out.size)
 clear c0 c1 d0 d1 HR HBw
 generalize W0.drewN nq = W1 at *
 go_quiet ((go_at_call 166; refine Calls.quiet_of_same (zvy _ _)))
 have HB2 : Hid _ := HFB.out _ (zb0 W1 nq)
 clear HFB f0 f1 g0 g1
 generalize rowQ m.x = ra at HX ⊢
 generalize rowQ n.x = rb at HX ⊢
 cases b3 : (n.k == 27)
 ·rw [b3] at HX
  go_wp2
  go_ret
  exact ⟨zam (by rw [HX.out]; rfl), HB2.out⟩
 rw [b3] at HX
 cases b4 : decide (rb < ra)
 rotate_left
 focus (
  rw [b4] at HX
  go_wp2
  go_ret
  exact ⟨zam (by rw [HX.out]; rfl), HB2.out⟩)
 rw [b4] at HX
 cases b5 : (rb == ra)
 ·rw [b5] at HX
  go_wp2
  go_ret
  exact ⟨zam (by rw [HX.out]; rfl), HB2.out⟩
 rw [b5] at HX
 cases b6 : decide (0 < i)
 rotate_left
 focus (
  rw [b6] at HX
  go_wp2
  go_ret
  exact ⟨zam (by rw [HX.out]; rfl), HB2.out⟩)
 rw [b6] at HX
 go_wp2
 go_ret
 exact ⟨zam (by rw [HX.out]; simp), HB2.out⟩
theorem zn5 {w0 w : World} {g d0 : Nat} {nv v : Value} {out : List UInt8} {L : List Nd} (kind : Int) (sk : Option Addr) (ck : Nat) (ks : List Nat) (ts : List Pt) (hE : EnW w0 nv L) (hk : KsP w0 g nv L sk ks ts) (h : Pw w0 g nv d0 w v out) (hc : ks.length <= ck) (hcm : ck <= maxLen) (hz : sk = none -> ck = 0) :
  Calls Tryz.prog 101 #[.pointer (some ⟨g, 0, none⟩), .slice sk ks.length ck, .int .i64 kind] w fun e w' => (∃ sk2 ck2, e = .returned (.tuple #[.slice sk (cutN kind (ts.map hdP)) ck, .slice sk2 (ks.length - cutN kind (ts.map hdP)) ck2]) ∧ RowsAt w0 1 intC sk2 (ks.drop (cutN kind (ts.map hdP))) ∧ ks.length - cutN kind (ts.map hdP) <= ck2 ∧ ck2 <= maxLen ∧ (sk2 = none -> ck2 = 0)) ∧ ∃ n, w' = w.drewN n := by
 have HW : Hid (Pw w0 g nv d0 w v out) := h
 have HK : Hid (KsP w0 g nv L sk ks ts) := hk
 have HE : Hid (EnW w0 nv L) := hE
 have hks := hk.s
 have HLK : Hid (ks.length = ts.length) := hk.l
 have hmx : maxLen = 9223372036854775807 := rfl
 obtain ⟨sn, cn, N, S, hnv, hN, hR⟩ := hE.x
 have HNL : Hid (N.length = L.length) := hR.1
 have hLl := hE.l
 have HN : Hid (RowsAt w0 7 NdM.cells sn N) := hN
 have HR : Hid (Rep w0 S N L) := hR
 have cg : w.cell? ⟨g, 2, none⟩ = some nv := h.c2
 subst hnv
 clear h hk hE hN hR
 go_enter Tryz.func101, Tryz.ntmps101
 go_wp2_with fail
 go_loopw [8] (fun i wr => ∃ q n : Nat, q <= ks.length ∧ i = .int .i64 q ∧ wr = w.drewN n ∧ cutN kind (ts.map hdP) = q + cutN kind ((ts.map hdP).drop q)) (fun i _ => ks.length - (intOf i).toNat)
 case atStart => exact ⟨0, 0, Nat.zero_le _, rfl, rfl, by simp⟩
 case round =>
  obtain ⟨q, n, hq, rfl, rfl, hcu⟩ := hrel
  have HCU : Hid _ := hcu
  clear hcu
  by_cases hlt : q < ks.length
  ·have hd : decide ((q : Int) < ks.length) = true := by simp; omega
   have hd' : decide (q < ks.length) = true := by simp; omega
   obtain ⟨k, hk⟩ : ∃ k, ks[q]? = some k := ⟨_, List.getElem?_eq_getElem hlt⟩
   obtain ⟨t, ht⟩ : ∃ t, ts[q]? = some t := ⟨_, List.getElem?_eq_getElem (by have := HLK.out; omega)⟩
   obtain ⟨d, hdL, hde⟩ := (HK.out.e q k t hk ht).hd
   have hkL : k < L.length := (List.getElem?_eq_some_iff.1 hdL).1
   obtain ⟨m, hm⟩ : ∃ m, N[k]? = some m := ⟨_, List.getElem?_eq_getElem (by have := HNL.out; omega)⟩
   have hrk := HW.out.env HK.out.r
   have hrn := HW.out.env HN.out
   obtain ⟨b, o, rfl, -⟩ := hrk (by omega)
   obtain ⟨bn, on, rfl, -⟩ := hrn (by have := HNL.out; omega)
   have kc := za4 hrk q (by simpa using hlt)
   rw [List.getD_eq_getElem?_getD, List.getElem?_map, hk] at kc
   simp only [Option.map_some, Option.getD_some] at kc
   have kn := (zag hrn hm).1
   rw [(HR.out.at hm hdL).1.1] at kn
   have hh : (ts.map hdP)[q]? = some (hdP t) := by rw [List.getElem?_map, ht]; rfl
   have hdk : d.kind = (hdP t).1 := by rw [<- hde]
   rw [hdk] at kn
   have hkk : decide ((k : Int) < L.length) = true := by simp; omega
   have HH : Hid _ := hh
   clear hk ht hdL hde hm hrk hrn hdk hh
   cases c1 : ((hdP t).1 == kind)
   ·have HN2 : Hid (cutN kind (ts.map hdP) = q) := by
     show _ = _
     rw [HCU.out, zqu HH.out c1]
     rfl
    have hz1 : (q : Int) <= ck := by omega
    have hz2 : (q : Int) <= ks.length := by omega
    have HRD : Hid (RowsAt w0 1 intC (some ⟨b, o + q, none⟩) (ks.drop q)) := zdf HK.out.r q
    go_wp2
    go_quiet (fail)
    go_wp2
    have hcq : ¬ ck = q := by omega
    have hcq' : ¬ (ck : Int) = q := by omega
    go_wp2
    go_quiet (fail)
    go_wp2
    go_ret2
    refine ⟨⟨some ⟨b, o + q, none⟩, ck - q, by rw [HN2.out]; rfl, by rw [HN2.out]; exact HRD.out, by rw [HN2.out]; omega, by omega, fun h => by cases h⟩, ?_⟩
    first | exact ⟨_, zch _ _ _⟩ | exact ⟨_, zb7 _ _ _ _⟩
   ·have HN2 : Hid (cutN kind (ts.map hdP) = q + 1 + cutN kind ((ts.map hdP).drop (q + 1))) := by
     show _ = _
     rw [HCU.out, zne HH.out c1]
     omega
    go_wp2
    go_quiet (fail)
    go_wp2
    exact ⟨⟨q + 1, n + nq, by omega, by go_num, rfl, HN2.out⟩, by simp [intOf]; omega⟩
  ·have hd : decide ((q : Int) < ks.length) = false := by simp; omega
   have hd' : decide (q < ks.length) = false := by simp; omega
   have HN2 : Hid (cutN kind (ts.map hdP) = q) := by
    show _ = _
    rw [HCU.out, List.drop_eq_nil_of_le (by rw [List.length_map]; have := HLK.out; omega)]
    rfl
   go_wp2
   go_quiet (fail)
   go_wp2
   have hz1 : (q : Int) <= ck := by omega
   have hz2 : (q : Int) <= ks.length := by omega
   have HRK : Hid _ := HK.out.r
   by_cases hk0 : ks.length = 0
   focus (
    have hq0 : q = 0 := by omega
    subst hq0
    have HRD : Hid (∀ sp, RowsAt w0 1 intC sp (ks.drop (cutN kind (ts.map hdP)))) := fun sp hl => by rw [List.length_drop] at hl; omega
    cases sk with
    | none =>
     have hck : ck = 0 := hz rfl
     subst hck
     go_wp2
     go_quiet (fail)
     go_wp2
     go_ret2
     refine ⟨⟨none, 0, by rw [HN2.out, hk0]; rfl, HRD.out _, by rw [HN2.out, hk0]; exact Nat.le_refl _, by omega, fun _ => rfl⟩, ?_⟩
     first | exact ⟨_, zch _ _ _⟩ | exact ⟨_, zb7 _ _ _ _⟩
    | some a =>
     have HK0 : Hid (ks.length = 0) := hk0
     clear hk0
     go_wp2
     go_quiet (fail)
     go_wp2
     go_ret2
     refine ⟨⟨some a, ck, by rw [HN2.out, HK0.out]; rfl, HRD.out _, by rw [HN2.out]; omega, by omega, fun h => by cases h⟩, ?_⟩
     first | exact ⟨_, zch _ _ _⟩ | exact ⟨_, zb7 _ _ _ _⟩)
   obtain ⟨b, o, rfl, -⟩ := HRK.out (by omega)
   have HRD : Hid (RowsAt w0 1 intC (some ⟨b, o + q, none⟩) (ks.drop q)) := zdf HRK.out q
   by_cases hcq : ck = q
   ·subst hcq
    have HRE : Hid (RowsAt w0 1 intC (some ⟨b, o, none⟩) (ks.drop ck)) := fun hl => by rw [List.length_drop] at hl; omega
    have hle : ks.length = ck := by omega
    have HLE : Hid (ks.length = ck) := hle
    clear hle
    go_wp2
    go_quiet (fail)
    go_wp2
    go_ret2
    refine ⟨⟨some ⟨b, o, none⟩, 0, by rw [HN2.out, HLE.out, Nat.sub_self]; rfl, by rw [HN2.out]; exact HRE.out, by rw [HN2.out, HLE.out]; omega, by omega, fun h => by cases h⟩, ?_⟩
    first | exact ⟨_, zch _ _ _⟩ | exact ⟨_, zb7 _ _ _ _⟩
   ·have hcq' : ¬ (ck : Int) = q := by omega
    go_wp2
    go_quiet (fail)
    go_wp2
    go_ret2
    refine ⟨⟨some ⟨b, o + q, none⟩, ck - q, by rw [HN2.out]; rfl, by rw [HN2.out]; exact HRD.out, by rw [HN2.out]; omega, by omega, fun h => by cases h⟩, ?_⟩
    first | exact ⟨_, zch _ _ _⟩ | exact ⟨_, zb7 _ _ _ _⟩
section
variable {w0 w : World} {g d : Nat} {nv v : Value} {out : List UInt8} {L : List Nd}
theorem zmg (sb : ByteArray) (b kk : Nat) (t : Pt) (hn : NodP w0 g nv L t) (he : Emb L kk t) (hr : w.heap[b]? = some (.cells #[.int .i64 kk] 3 (0, 0))) (hbg : b ≠ g) (h : Pw w0 g nv d w v out) (hd1 : d + cntP t <= 100000) (hl : out.length + (rn (prP d t)).length <= 1000000000000) :
  Calls Tryz.prog 66 #[.pointer (some ⟨g, 0, none⟩), .string sb, .slice (some ⟨b, 0, none⟩) 1 1] w fun e w' => e = .returned (.tuple #[]) ∧ Pp w0 g nv d w v (out ++ rn (prP d t)) w' := by
 have HW : Hid (Pw w0 g nv d w v out) := h
 have HR : Hid _ := hr
 have HC := hn d kk w v out he h hd1 hl
 have HNC : Hid (NodP w0 g nv L t) := hn
 have HEM : Hid (Emb L kk t) := he
 have HL : Hid _ := hl
 have HD : Hid _ := hd1
 clear h hn he hr hl hd1
 go_enter Tryz.func66, Tryz.ntmps66
 go_wp2
 go_loopw [10] (fun i wr => ∃ q : Nat, q <= 1 ∧ i = .int .i64 q ∧ Pp w0 g nv d w v (out ++ rn (if q = 0 then [] else prP d t)) wr) (fun i _ => 1 - (intOf i).toNat)
 case atStart => exact ⟨0, Nat.zero_le _, rfl, by simpa [rn] using Pp.start HW.out⟩
 case round =>
  obtain ⟨q, hq, rfl, v1, h1, o1, q1⟩ := hrel
  by_cases hq0 : q = 0
  ·subst hq0
   rw [if_pos rfl, zrf, List.append_nil] at h1
   have rb := Pp.row HW.out o1 HR.out hbg (by decide)
   have kc : wr.cell? ⟨b, 0, none⟩ = some (.int .i64 kk) := (cell_of_row _ _ 0 _ _ _ rb).trans rfl
   have HC := HNC.out d kk wr v1 _ HEM.out h1 HD.out HL.out
   have HO : Hid _ := o1
   have HQ : Hid _ := q1
   clear h1 o1 q1 rb
   go_wp2_with fail
   refine HC.mono ?_
   rintro e W ⟨rfl, hp⟩
   have HN : Hid (Pp w0 g nv d w v (out ++ rn (prP d t)) W) := Pp.trans HO.out HQ.out hp
   clear hp HC
   go_wp2
   exact ⟨⟨1, by omega, by go_num, HN.out⟩, by simp [intOf]⟩
  ·have hq1 : q = 1 := by omega
   subst hq1
   have HP : Hid (Pp w0 g nv d w v (out ++ rn (prP d t)) wr) := ⟨v1, h1, o1, q1⟩
   clear h1 o1 q1
   go_wp2
   go_end0
   exact ⟨rfl, HP.out⟩
theorem zth (b kk : Nat) (t : Pt) (hn : NodP w0 g nv L t) (he : Emb L kk t) (hr : w.heap[b]? = some (.cells #[.int .i64 kk] 3 (0, 0))) (hbg : b ≠ g) (h : Pw w0 g nv d w v out) (hd1 : d + cntP t <= 100000) (hl : out.length + (rn (pBrk [prP d t])).length <= 1000000000000) :
  Calls Tryz.prog 102 #[.pointer (some ⟨g, 0, none⟩), .slice (some ⟨b, 0, none⟩) 1 1] w fun e w' => e = .returned (.tuple #[]) ∧ Pp w0 g nv d w v (out ++ rn (pBrk [prP d t])) w' := by
 have HNC : Hid (NodP w0 g nv L t) := hn
 have HEM : Hid (Emb L kk t) := he
 have HR : Hid _ := hr
 have HD : Hid _ := hd1
 have e0 : rn (pBrk [prP d t]) = [40] ++ rn (prP d t) ++ [41] := by
  simp [pBrk, pPar, rn, sg, sgT, tkW, strU, Pe.bs]
 rw [e0] at hl ⊢
 have HL : Hid (out.length + ((rn (prP d t)).length + 2) <= 1000000000000) := by show _ <= _; simp at hl; omega
 have HC := za0 [strU [40]] h (by have := HL.out; show _ + (1 : Nat) <= _; omega) (by simp)
 have HW : Hid _ := h
 clear h hn he hr hl hd1 e0
 go_enter Tryz.func102, Tryz.ntmps102
 go_wp2_with fail
 refine HC.mono ?_
 rintro e W1 ⟨rfl, v1, h1, o1, q1⟩
 have r1 := Pp.row HW.out o1 HR.out hbg (by decide)
 have HO : Hid _ := o1
 have HQ : Hid _ := q1
 have HD := zmg (strU [44, 32]) b kk t HNC.out HEM.out r1 hbg h1 HD.out (by have := HL.out; rw [List.length_append]; show _ + (1 : Nat) + _ <= _; omega)
 clear h1 o1 q1 HC r1
 go_wp2_with fail
 refine HD.mono ?_
 rintro e W2 ⟨rfl, v2, h2, o2, q2⟩
 have HO2 : Hid _ := o2
 have HQ2 : Hid _ := q2
 have HE := za0 [strU [41]] h2 (by have := HL.out; rw [List.length_append, List.length_append]; show _ + (1 : Nat) + _ + (1 : Nat) <= _; omega) (by simp)
 clear h2 o2 q2 HD
 go_wp2_with fail
 refine HE.mono ?_
 rintro e W3 ⟨rfl, hp⟩
 have HN : Hid (Pp w0 g nv d w v (out ++ ([40] ++ rn (prP d t) ++ [41])) W3) := by
  refine Pp.trans HO.out HQ.out (Pp.trans HO2.out HQ2.out ?_)
  have e : out ++ ([40] ++ rn (prP d t) ++ [41]) = out ++ fl [strU [40]] ++ rn (prP d t) ++ fl [strU [41]] := by simp [fl, strU]
  rw [e]
  exact hp
 clear hp HE
 go_wp2
 go_end0
 exact ⟨rfl, HN.out⟩
structure NdP (w0 : World) (g : Nat) (nv : Value) (L : List Nd) (m : NdM) (k : Int) (x : ByteArray) (n : Int) (ts : List Pt) : Prop where
 e : m.k = k ∧ m.x = x ∧ m.n = n
 k : ∃ ks, m.kn = ks.length ∧ KsP w0 g nv L m.ks ks ts
 c : m.kn <= m.kc ∧ m.kc <= maxLen ∧ (m.ks = none -> m.kc = 0)
theorem zdl {m : NdM} {k : Int} {x : ByteArray} {n : Int} {ts : List Pt} (i : Nat) (hi : i < ts.length) (hE : EnW w0 nv L) (hm : NdP w0 g nv L m k x n ts) (h : Pw w0 g nv d w v out) (hd1 : d + cntL ts <= 100000) (hl : out.length + (rn (pOpe k x (ts.map hdP) (ts.map (prP d)) i)).length <= 1000000000000) :
  Calls Tryz.prog 129 #[.pointer (some ⟨g, 0, none⟩), .agg m.cells, .int .i64 i] w fun e w' => e = .returned (.tuple #[]) ∧ Pp w0 g nv d w v (out ++ rn (pOpe k x (ts.map hdP) (ts.map (prP d)) i)) w' := by
 have HW : Hid (Pw w0 g nv d w v out) := h
 have HE : Hid (EnW w0 nv L) := hE
 obtain ⟨ks, hkn, hK⟩ := hm.k
 have HM : Hid (NdP w0 g nv L m k x n ts) := hm
 have HK : Hid (KsP w0 g nv L m.ks ks ts) := hK
 have HKN : Hid (m.kn = ks.length) := hkn
 have HLK : Hid (ks.length = ts.length) := hK.l
 have hks : ks.length <= 100000 := hK.s
 obtain ⟨sn, cn, N, S, hnv, hN, hR⟩ := hE.x
 have HN : Hid (RowsAt w0 7 NdM.cells sn N) := hN
 have HR : Hid (Rep w0 S N L) := hR
 have HNV : Hid (nv = .slice sn L.length cn) := hnv
 have hLl := hE.l
 have HL : Hid _ := hl
 have HD1 : Hid _ := hd1
 obtain ⟨kk, hk⟩ : ∃ kk, ks[i]? = some kk := ⟨_, List.getElem?_eq_getElem (by have := HLK.out; omega)⟩
 obtain ⟨t, ht⟩ : ∃ t, ts[i]? = some t := ⟨_, List.getElem?_eq_getElem hi⟩
 obtain ⟨b, o, hks1, -⟩ := hK.r (by have := HLK.out; omega)
 obtain ⟨dd, hdL, hde⟩ := (hK.e i kk t hk ht).hd
 have hkL : kk < L.length := (List.getElem?_eq_some_iff.1 hdL).1
 obtain ⟨m2, hm2⟩ : ∃ m2, N[kk]? = some m2 := ⟨_, List.getElem?_eq_getElem (by have := HR.out.1; omega)⟩
 have HM2 : Hid (N[kk]? = some m2) := hm2
 have HH : Hid ((m2.k, m2.x) = hdP t) := by
  show _ = _
  obtain ⟨h1, -⟩ := HR.out.2 kk m2 dd hm2 hdL
  rw [<- hde, h1.1, h1.2.1]
 have HOPE : Hid (pOpe k x (ts.map hdP) (ts.map (prP d)) i = if nedQ k x (hdP t) i then pBrk [prP d t] else prP d t) := by
  show _ = _
  unfold pOpe
  rw [List.getElem?_map, List.getElem?_map, ht]
  rfl
 have HNC : Hid (NodP w0 g nv L t) := hK.n t (List.mem_of_getElem? ht)
 have HEM : Hid (Emb L kk t) := hK.e i kk t hk ht
 have HDT : Hid (d + cntP t <= 100000) := by show _ <= _; have := zcn ts i t ht; omega
 have kcw : w.cell? ⟨b, o + i, none⟩ = some (.int .i64 kk) := by
  have hrk := h.env hK.r
  rw [hks1] at hrk
  have := za4 hrk i (by simpa using (List.getElem?_eq_some_iff.1 hk).1)
  rw [List.getD_eq_getElem?_getD, List.getElem?_map, hk] at this
  simpa using this
 have ltb := block_lt_of_cell kcw
 have hlk : decide ((i : Int) < (m.kn : Int)) = true := by have := HLK.out; rw [hkn]; simp; omega
 have HKS : Hid (m.ks = some ⟨b, o, none⟩) := hks1
 have hil : (i : Int) < (m.kn : Int) := by have := HLK.out; rw [hkn]; omega
 clear h hE hm hK hkn hnv hN hR hdL hde hm2 hk ht hks1 hl hd1 hi
 rw [show m.cells = #[.int .i64 m.k, .string m.x, .int .i64 m.n, .slice m.ks m.kn m.kc, .int .i64 m.a, .int .i64 m.f, .int .i64 m.t] from rfl, HKS.out]
 go_enter Tryz.func129, Tryz.ntmps129
 go_wp2_with fail
 refine zeu (fun W => W.heap[w.heap.size]? = some (.cells m.cells 49 (0, 0)) ∧ Below w.heap.size w W) ?_ ?_
 ·rw [show m.cells = #[.int .i64 m.k, .string m.x, .int .i64 m.n, .slice m.ks m.kn m.kc, .int .i64 m.a, .int .i64 m.f, .int .i64 m.t] from rfl, HKS.out]
  exact ⟨heap_alloc_new w _, (Below.refl _ _).alloc (Nat.le_refl _) _⟩
 rintro W0 ⟨r0, hB0⟩
 obtain ⟨bn, on, hsn, hnc⟩ := HN.out (by have := HR.out.1; omega)
 have HF : Hid (∀ W, Below W0.heap.size W0 W -> W.heap[w.heap.size]? = some (.cells m.cells 49 (0, 0)) ∧ W.cell? ⟨g, 2, none⟩ = some (.slice (some ⟨bn, on, none⟩) L.length cn) ∧ W.cell? ⟨b, o + i, none⟩ = some (.int .i64 kk) ∧ (∀ j u, m2.cells[j]? = some u -> W.cell? ⟨bn, on + kk * 7 + j, none⟩ = some u) ∧ Below w.heap.size w W) := fun W hb => by
  have hBw : Below w.heap.size w W := hB0.trans (hb.mono hB0.size)
  have hWr := HW.out.low hBw
  refine ⟨(hb.block _ (zab r0)).trans r0, ?_, (hBw.cell ltb).trans kcw, ?_, hBw⟩
  ·rw [<- hsn, <- HNV.out]; exact hWr.c2
  ·obtain ⟨b', o', e, hc⟩ := (hWr.env HN.out) (by have := HR.out.1; omega)
   rw [hsn] at e
   injection e with e
   injection e with e1 e2
   subst e1 e2
   exact fun j u hu => hc kk m2 HM2.out j u hu
 clear r0 hB0 hnc kcw
 have hkk : decide ((kk : Int) < L.length) = true := by simp; omega
 have hS0 : Below W0.heap.size W0 W0.drew := (Below.refl _ _).drew
 refine zfp (S := fun w' => Below W0.heap.size W0 w') 10 rfl (by kernel_rfl) ?_
 refine zpx 0 12 49 (.tmp 4) rfl (by rfl) w.heap.size 49 m.cells (0, 0) rfl (by kernel_rfl) (by kernel_rfl) (by kernel_rfl) (fun _ _ _ h => h) _ (fun w' hw' => (HF.out w' hw').1) Tryz.underlying49 rfl (by kernel_rfl) hS0 ?_
 simp only [List.setIfInBounds_toArray, List.set_cons_succ, List.set_cons_zero]
 refine zar 1 13 (.pointer (some ⟨g, 0, none⟩)) rfl (by rfl) (by kernel_rfl) (by kernel_rfl) (by kernel_rfl) (fun _ _ _ h => h) (fun w' hw' => by obtain ⟨-, e1, e2, -⟩ := HF.out w' hw'; first | rfl | (go_simp; done)) hS0 ?_
 simp only [List.setIfInBounds_toArray, List.set_cons_succ, List.set_cons_zero]
 refine zar 2 14 (.pointer (some ⟨g, 0, none⟩)) rfl (by rfl) (by kernel_rfl) (by kernel_rfl) (by kernel_rfl) (fun _ _ _ h => h) (fun w' hw' => by obtain ⟨-, e1, e2, -⟩ := HF.out w' hw'; first | rfl | (go_simp; done)) hS0 ?_
 simp only [List.setIfInBounds_toArray, List.set_cons_succ, List.set_cons_zero]
 refine zar 3 15 (.pointer (some ⟨g, 2, none⟩)) rfl (by rfl) (by kernel_rfl) (by kernel_rfl) (by kernel_rfl) (fun _ _ _ h => h) (fun w' hw' => by obtain ⟨-, e1, e2, -⟩ := HF.out w' hw'; first | rfl | (go_simp; done)) hS0 ?_
 simp only [List.setIfInBounds_toArray, List.set_cons_succ, List.set_cons_zero]
 refine zar 4 16 (.slice (some ⟨bn, on, none⟩) L.length cn) rfl (by rfl) (by kernel_rfl) (by kernel_rfl) (by kernel_rfl) (fun _ _ _ h => h) (fun w' hw' => by obtain ⟨-, e1, e2, -⟩ := HF.out w' hw'; first | rfl | (go_simp; done)) hS0 ?_
 simp only [List.setIfInBounds_toArray, List.set_cons_succ, List.set_cons_zero]
 refine zar 5 17 (.int .i64 kk) rfl (by rfl) (by kernel_rfl) (by kernel_rfl) (by kernel_rfl) (fun _ _ _ h => h) (fun w' hw' => by obtain ⟨-, e1, e2, -⟩ := HF.out w' hw'; first | rfl | (go_simp; done)) hS0 ?_
 simp only [List.setIfInBounds_toArray, List.set_cons_succ, List.set_cons_zero]
 refine zar 6 18 (.pointer (some ⟨bn, on + kk * 7, none⟩)) rfl (by rfl) (by kernel_rfl) (by kernel_rfl) (by kernel_rfl) (fun _ _ _ h => h) (fun w' hw' => by obtain ⟨-, e1, e2, -⟩ := HF.out w' hw'; first | rfl | (go_simp; done)) hS0 ?_
 simp only [List.setIfInBounds_toArray, List.set_cons_succ, List.set_cons_zero]
 refine zql 7 19 49 (.tmp 18) rfl bn (on + kk * 7) m2.cells rfl (by kernel_rfl) (by kernel_rfl) (by kernel_rfl) (fun _ _ _ h => h) _ (fun w' hw' => (HF.out w' hw').2.2.2.1) Tryz.underlying49 rfl (by kernel_rfl) hS0 ?_
 simp only [List.setIfInBounds_toArray, List.set_cons_succ, List.set_cons_zero]
 refine zar 8 20 (.int .i64 i) rfl (by rfl) (by kernel_rfl) (by kernel_rfl) (by kernel_rfl) (fun _ _ _ h => h) (fun w' hw' => by obtain ⟨-, e1, e2, -⟩ := HF.out w' hw'; first | rfl | (go_simp; done)) hS0 ?_
 simp only [List.setIfInBounds_toArray, List.set_cons_succ, List.set_cons_zero]
 refine zgt 9 rfl (by rfl) (by kernel_rfl) ?_
 go_simp
 refine (zmf m m2 i W0.drew).mono ?_
 rintro e W1 ⟨rfl, b1⟩
 have hS1 : Below W0.heap.size W0 W1 := hS0.trans (b1.mono hS0.size)
 refine ⟨hS1, ?_⟩
 refine wpAnyH_done (by kernel_rfl) ?_ _
 have HB1 : Hid (Below w.heap.size w W1) := (HF.out _ hS1).2.2.2.2
 have HW1 : Hid (Pw w0 g nv d W1 v out) := HW.out.low HB1.out
 have HX : Hid (nedQ m.k m.x (m2.k, m2.x) i = nedQ k x (hdP t) i) := by show _ = _; rw [HH.out, HM.out.e.1, HM.out.e.2.1]
 clear hS0 hS1 b1 HF
 cases hn : nedQ m.k m.x (m2.k, m2.x) i
 ·have HOP : Hid (pOpe k x (ts.map hdP) (ts.map (prP d)) i = prP d t) := by show _ = _; rw [HOPE.out, <- HX.out, hn]; rfl
  have HD := HNC.out d kk W1 v out HEM.out HW1.out HDT.out (by have := HL.out; rw [HOP.out] at this; exact this)
  go_wp2_with fail
  refine HD.mono ?_
  rintro e W2 ⟨rfl, hp⟩
  have HN2 : Hid (Pp w0 g nv d w v (out ++ rn (pOpe k x (ts.map hdP) (ts.map (prP d)) i)) W2) := by
   show Pp _ _ _ _ _ _ _ _
   rw [HOP.out]
   exact Pp.pre HB1.out hp
  clear hp HD
  go_wp2
  go_end0
  exact ⟨rfl, HN2.out⟩
 ·have HOP : Hid (pOpe k x (ts.map hdP) (ts.map (prP d)) i = pBrk [prP d t]) := by show _ = _; rw [HOPE.out, <- HX.out, hn]; rfl
  have hbA : Below W1.heap.size W1 (W1.alloc (.cells #[.int .i64 kk] 3)) := (Below.refl _ _).alloc (Nat.le_refl _) _
  have HD := zth W1.heap.size kk t HNC.out HEM.out (heap_alloc_new W1 (.cells #[.int .i64 kk] 3)) (by have := HW1.out.lt; omega) (HW1.out.low hbA) HDT.out (by have := HL.out; rw [HOP.out] at this; exact this)
  have HBA : Hid _ := hbA
  clear hbA
  go_wp2_with fail
  refine HD.mono ?_
  rintro e W2 ⟨rfl, hp⟩
  have HN2 : Hid (Pp w0 g nv d w v (out ++ rn (pOpe k x (ts.map hdP) (ts.map (prP d)) i)) W2) := by
   show Pp _ _ _ _ _ _ _ _
   rw [HOP.out]
   exact Pp.pre HB1.out (Pp.pre HBA.out hp)
  clear hp HD
  go_wp2
  go_end0
  exact ⟨rfl, HN2.out⟩
end
theorem NdP.pre {w0 w : World} {g d : Nat} {nv v : Value} {out : List UInt8} {L : List Nd} {m : NdM} {k : Int} {x : ByteArray} {n : Int} {ts : List Pt} (hm : NdP w0 g nv L m k x n ts) (h : Pw w0 g nv d w v out) : ∃ ks, m.kn = ks.length ∧ KsP w0 g nv L m.ks ks ts ∧ Hid (KsP w0 g nv L m.ks ks ts) ∧ ks.length <= 100000 ∧ ks.length <= m.kc ∧ Hid (m.kc <= maxLen ∧ (m.ks = none -> m.kc = 0)) ∧ Hid (m.cells = #[.int .i64 k, .string x, .int .i64 n, .slice m.ks ks.length m.kc, .int .i64 m.a, .int .i64 m.f, .int .i64 m.t]) ∧ Hid (w.heap.size ≠ g) ∧ Hid ((w.alloc (.cells #[.int .i64 k, .string x, .int .i64 n, .slice m.ks ks.length m.kc, .int .i64 m.a, .int .i64 m.f, .int .i64 m.t] 49)).heap[w.heap.size]? = some (.cells #[.int .i64 k, .string x, .int .i64 n, .slice m.ks ks.length m.kc, .int .i64 m.a, .int .i64 m.f, .int .i64 m.t] 49 (0, 0))) ∧ ∃ v1, Hid (Pw w0 g nv d (w.alloc (.cells #[.int .i64 k, .string x, .int .i64 n, .slice m.ks ks.length m.kc, .int .i64 m.a, .int .i64 m.f, .int .i64 m.t] 49)) v1 out) ∧ Hid (∀ W2 (d2 : Nat) out2, Pp w0 g nv d2 (w.alloc (.cells #[.int .i64 k, .string x, .int .i64 n, .slice m.ks ks.length m.kc, .int .i64 m.a, .int .i64 m.f, .int .i64 m.t] 49)) v1 out2 W2 -> Pp w0 g nv d2 w v out2 W2 ∧ ∀ (j : Nat) (cs : Array Value) (ty : TypeId) (fr : Nat × Nat), (w.alloc (.cells #[.int .i64 k, .string x, .int .i64 n, .slice m.ks ks.length m.kc, .int .i64 m.a, .int .i64 m.f, .int .i64 m.t] 49)).heap[j]? = some (.cells cs ty fr) -> j ≠ g -> 5 ≠ ty -> W2.heap[j]? = some (.cells cs ty fr)) := by
 obtain ⟨ks, hkn, hK⟩ := hm.k
 have e : m.cells = #[.int .i64 k, .string x, .int .i64 n, .slice m.ks ks.length m.kc, .int .i64 m.a, .int .i64 m.f, .int .i64 m.t] := by
  show m.cells = _
  rw [<- hkn, <- hm.e.1, <- hm.e.2.1, <- hm.e.2.2]
  rfl
 have hB0 : Below w.heap.size w (w.alloc (.cells #[.int .i64 k, .string x, .int .i64 n, .slice m.ks ks.length m.kc, .int .i64 m.a, .int .i64 m.f, .int .i64 m.t] 49)) := (Below.refl _ _).alloc (Nat.le_refl _) _
 obtain ⟨v1, w1, s1⟩ := Pp.step (Pp.pre hB0 (Pp.start (h.low hB0)))
 exact ⟨ks, hkn, hK, hK, hK.s, by have := hm.c.1; omega, hm.c.2, e, by have := h.lt; show _ ≠ _; omega, heap_alloc_new w _, v1, w1, s1⟩
end Go.Proofs.YtbadafkfjfbnlaaGreatDoor
