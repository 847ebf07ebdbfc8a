import Derived.Test.YtbadafkfjfbnlaaGreatDoorTbU
import Derived.Test.YtbadafkfjfbnlaaGreatDoorTbR
import Derived.Test.YtbadafkfjfbnlaaGreatDoorTbQ
namespace Go.Proofs.YtbadafkfjfbnlaaGreatDoor
set_option maxRecDepth 100000
open Go.RowKit
theorem zyo {acc d : Nat} (h : acc ≠ 0) (hd : d < 10) : Lib.decDigits (acc * 10 + d) = Lib.decDigits acc ++ [UInt8.ofNat (48 + d)] := by
 rw [Lib.decDigits, dif_neg (by omega), show (acc * 10 + d) / 10 = acc by omega, show (acc * 10 + d) % 10 = d by omega]
theorem znu {c : UInt8} (h : clsI c.toNat = 4) : c.toNat - 48 < 10 ∧ UInt8.ofNat (48 + (c.toNat - 48)) = c ∧ 48 <= c.toNat := by
 have h1 := cls4.1 h
 refine ⟨by omega, ?_, h1.1⟩
 rw [show 48 + (c.toNat - 48) = c.toNat by omega, UInt8.ofNat_toNat]
theorem zhr : ∀ (L : List UInt8) (acc m : Nat), acc ≠ 0 -> decF acc L = some m -> Lib.decDigits m = Lib.decDigits acc ++ L
 | [], acc, m, _, h => by
  rw [decF] at h
  injection h with h
  rw [h, List.append_nil]
 | c :: r, acc, m, ha, h => by
  rw [decF] at h
  split at h
  ·rename_i hc
   obtain ⟨h1, h2, h3⟩ := znu hc.1
   rw [zhr r _ m (by omega) h, zyo ha h1, h2, List.append_assoc]
   rfl
  ·cases h
theorem zl9 {L : List UInt8} {m : Nat} (h : decO L = some m) : Lib.decDigits m = L := by
 unfold decO at h
 split at h
 ·cases h
 rename_i hn
 cases L with
 | nil => exact absurd (.inl rfl) hn
 | cons c r =>
  rw [decF] at h
  split at h
  ·rename_i hc
   obtain ⟨h1, h2, h3⟩ := znu hc.1
   rw [show 0 * 10 + (c.toNat - 48) = c.toNat - 48 by omega] at h
   have hs : Lib.decDigits (c.toNat - 48) = [c] := by rw [Lib.decDigits, dif_pos h1, h2]
   cases r with
   | nil =>
    rw [decF] at h
    injection h with h
    rw [<- h, hs]
   | cons d r =>
    have h48 : c.toNat ≠ 48 := fun e => hn (.inr ⟨by simp, by rw [List.head?_cons, show c = 48 from UInt8.toNat_inj.1 e]⟩)
    rw [zhr _ _ m (by omega) h, hs]
    rfl
  ·cases h
theorem zyp {L : List UInt8} {m : Nat} (h : decO L = some m) : m <= 9223372036854775807 := by
 unfold decO at h
 split at h
 ·cases h
 ·exact zxf (by omega) h
theorem zvi : ∀ (k : Nat) (L acc : List UInt8) (i : Nat) (v : List UInt8), L.length <= k -> unqA acc i L = some (v, i + L.length) -> ∃ v', v = acc ++ v' ∧ v'.length <= L.length ∧ ∀ a, quoG a v' = some (a ++ L) := by
 intro k
 induction k with
 | zero =>
  intro L acc i v hk h
  cases L with
  | nil => simp [unqA] at h
  | cons c r => simp at hk
 | succ k ih =>
  intro L acc i v hk h
  cases L with
  | nil => simp [unqA] at h
  | cons c r =>
   rw [zbk] at h
   split at h
   ·rename_i hc
    simp only [Option.some.injEq, Prod.mk.injEq, List.length_cons] at h
    obtain ⟨rfl, h2⟩ := h
    have hr : r = [] := List.eq_nil_of_length_eq_zero (by omega)
    have hc' : c = 34 := UInt8.toNat_inj.1 hc
    subst hr hc'
    exact ⟨[], by simp, by simp, fun a => by rw [quoG]⟩
   rename_i hc
   split at h
   ·rename_i h92
    have hc' : c = 92 := UInt8.toNat_inj.1 h92
    subst hc'
    cases r with
    | nil => simp at h
    | cons d r' =>
     simp only at h
     cases hp : pairU d with
     | none => rw [hp] at h; cases h
     | some x =>
      rw [hp] at h
      simp only [List.length_cons] at h hk
      obtain ⟨v', e1, e2, e3⟩ := ih r' (acc ++ [x]) (i + 2) v (by omega) (by rw [h]; congr 2; omega)
      have hq : quoB x = some [92, d] := by
       unfold pairU at hp
       split at hp
       ·rename_i hd
        injection hp with hp
        subst hp
        unfold quoB
        rw [if_pos hd]
       ·split at hp
        ·rename_i h110
         injection hp with hp
         subst hp
         rw [show d = 110 from UInt8.toNat_inj.1 h110]
         rfl
        ·cases hp
      refine ⟨x :: v', by rw [e1]; simp, by simp; omega, fun a => ?_⟩
      rw [quoG, hq]
      simp only
      rw [e3]
      simp
   rename_i h92
   split at h
   ·rename_i hpl
    simp only [List.length_cons] at h hk
    obtain ⟨v', e1, e2, e3⟩ := ih r (acc ++ [c]) (i + 1) v (by omega) (by rw [h]; congr 2; omega)
    have hq : quoB c = some [c] := by
     unfold quoB
     rw [if_neg (by omega)]
     have h10 : ¬ c.toNat = 10 := fun e => by rw [e] at hpl; revert hpl; decide
     rw [if_neg h10, if_pos hpl]
    refine ⟨c :: v', by rw [e1]; simp, by simp; omega, fun a => ?_⟩
    rw [quoG, hq]
    simp only
    rw [e3]
    simp
   ·cases h
theorem zvj {L v : List UInt8} (h : unqO L = some (v, L.length)) : quoO v = some L ∧ v.length <= L.length := by
 cases L with
 | nil => simp [unqO] at h
 | cons c r =>
  rw [unqO] at h
  split at h
  ·rename_i hc
   have hc' : c = 34 := UInt8.toNat_inj.1 hc
   subst hc'
   obtain ⟨v', e1, e2, e3⟩ := zvi r.length r [] 1 v (Nat.le_refl _) (by rw [h]; simp only [List.length_cons]; congr 2; omega)
   rw [List.nil_append] at e1
   subst e1
   exact ⟨e3 [34], by simp; omega⟩
  ·cases h
theorem zju {t u : Tok} (h : alnB t = true) (hk : u.kind = t.kind) (hx : u.text = t.text) : alnB u = true := by
 unfold alnB at h ⊢
 rw [hx]
 cases hl : (lexO t.text.data.toList).1 with
 | nil => rw [hl] at h; cases h
 | cons x r =>
  rw [hl] at h
  simp only [tkEq] at h ⊢
  rw [hk, hx]
  exact h
theorem zma {t : Tok} (h : t.kind ≠ 5) : bareB t = false := by
 unfold bareB
 rw [show (t.kind == 5) = false by simpa using h]
 rfl
theorem zyq {c : UInt8} (h : clsI c.toNat = 3) : plB c = true := by
 unfold clsI at h
 unfold plB
 simp only [Bool.or_eq_true, Bool.and_eq_true, decide_eq_true_eq, UInt8.le_iff_toNat_le, beq_iff_eq, <- UInt8.toNat_inj]
 have e1 : (65 : UInt8).toNat = 65 := rfl
 have e2 : (90 : UInt8).toNat = 90 := rfl
 have e3 : (95 : UInt8).toNat = 95 := rfl
 have e4 : (97 : UInt8).toNat = 97 := rfl
 have e5 : (122 : UInt8).toNat = 122 := rfl
 have e6 : (48 : UInt8).toNat = 48 := rfl
 have e7 : (57 : UInt8).toNat = 57 := rfl
 have e8 : (34 : UInt8).toNat = 34 := rfl
 rw [e1, e2, e3, e4, e5, e6, e7, e8]
 repeat' split at h
 all_goals first | omega | (exfalso; revert h; decide)
theorem zss {t : Tok} (h : alnB t = true) : (t.kind = 1 -> plF t.text) ∧ (t.kind = 2 -> ∃ m, decO t.text.data.toList = some m) ∧ (t.kind = 3 -> ∃ v, unqO t.text.data.toList = some (v, t.text.data.toList.length)) := by
 obtain ⟨h1, h2, h3⟩ := znh h
 generalize hL : t.text.data.toList = L at h1 h3 ⊢
 cases L with
 | nil => exact absurd rfl h3
 | cons c r =>
  unfold lookR at h1
  simp only at h1
  split at h1
  ·simp at h1; refine ⟨fun hk => ?_, fun hk => ?_, fun hk => ?_⟩ <;> (rw [hk] at h1; simp at h1)
  split at h1
  ·simp at h1; refine ⟨fun hk => ?_, fun hk => ?_, fun hk => ?_⟩ <;> (rw [hk] at h1; simp at h1)
  split at h1
  ·simp at h1; refine ⟨fun hk => ?_, fun hk => ?_, fun hk => ?_⟩ <;> (rw [hk] at h1; simp at h1)
  split at h1
  ·rename_i hc
   simp only [Prod.mk.injEq] at h1
   exact ⟨fun _ => ⟨c, r, hL, zyq hc⟩, fun hk => by rw [hk] at h1; exact absurd h1.1 (by decide), fun hk => by rw [hk] at h1; exact absurd h1.1 (by decide)⟩
  split at h1
  ·simp only [Prod.mk.injEq] at h1
   refine ⟨fun hk => by rw [hk] at h1; exact absurd h1.1 (by decide), fun _ => ?_, fun hk => by rw [hk] at h1; exact absurd h1.1 (by decide)⟩
   have h4 := h1.2
   unfold numR at h4
   split at h4
   ·simp at h4
   ·rename_i hn
    simp only [Prod.mk.injEq] at h4
    have hd : (decO ((c :: r).take (runN (inC [4]) (c :: r)))).isSome = true := by
     cases hs : (decO ((c :: r).take (runN (inC [4]) (c :: r)))).isSome with
     | true => rfl
     | false => exact absurd (.inl hs) hn
    rw [h4.1, List.take_length] at hd
    exact Option.isSome_iff_exists.1 hd
  split at h1
  ·simp only [Prod.mk.injEq] at h1
   refine ⟨fun hk => by rw [hk] at h1; exact absurd h1.1 (by decide), fun hk => by rw [hk] at h1; exact absurd h1.1 (by decide), fun _ => ?_⟩
   have h4 := h1.2
   unfold quoR at h4
   cases hu : unqO (c :: r) with
   | none => rw [hu] at h4; simp at h4
   | some p =>
    obtain ⟨v, n⟩ := p
    rw [hu] at h4
    simp only [Prod.mk.injEq] at h4
    exact ⟨v, by rw [h4.1]⟩
  split at h1
  ·simp at h1; refine ⟨fun hk => ?_, fun hk => ?_, fun hk => ?_⟩ <;> (rw [hk] at h1; simp at h1)
  ·simp only [Prod.mk.injEq] at h1
   refine ⟨fun hk => ?_, fun hk => ?_, fun hk => ?_⟩ <;> (rw [hk] at h1; exact absurd h1.1 (by decide))
theorem znv {t : Tok} (h : alnB t = true) : tgood t := by
 obtain ⟨g1, g2, g3⟩ := zss h
 have hs : t.text.size <= 4096 := zky h
 have hsl : t.text.data.toList.length <= 4096 := by
  have : t.text.size = t.text.data.toList.length := by simp
  omega
 refine ⟨fun hk => ⟨g1 hk, zsi (zma (by show (1 : Int) ≠ 5; decide)) (zju h hk.symm rfl), hs⟩, fun hk => ?_, fun hk => ?_⟩
 ·obtain ⟨m, hm⟩ := g2 hk
  have hn : numT t = m := by unfold numT numO; rw [if_pos hk, hm]
  have hd := zl9 hm
  have hi : Lib.itoa (numT t) = t.text.data.toList := by rw [hn]; unfold Lib.itoa; rw [if_neg (by omega), Int.toNat_natCast, hd]
  have hx : (⟨(Lib.itoa (numT t)).toArray⟩ : ByteArray) = t.text := by rw [hi]
  have hle := zyp hm
  refine ⟨fun u hu hut => ?_, ?_, ?_, by rw [hi]; exact hsl, by omega, by omega⟩
  ·rw [hx] at hut
   show (match numO u with | some n => (n : Int) | none => 0) = numT t
   have : numO u = some m := by unfold numO; rw [if_pos hu, hut, hm]
   rw [this, hn]
  ·rw [hx]
   obtain ⟨c, r, e, hc⟩ := z0m m
   rw [hd] at e
   refine ⟨c, r, e, ?_⟩
   unfold plB
   simp [hc.1, hc.2]
  ·refine zsi (zma (by show (2 : Int) ≠ 5; decide)) (zju h hk.symm ?_)
   exact hx
 ·obtain ⟨v, hv⟩ := g3 hk
  obtain ⟨hq, hl⟩ := zvj hv
  have hz : t.text.size = t.text.data.toList.length := by simp
  have hval : ∀ u : Tok, u.kind = 3 -> u.text = t.text -> valT u = strU v := fun u hu hut => by
   unfold valT valO
   rw [if_pos hu, hut, hv]
   simp only [hz, if_true]
  have hqt : quoT (strU v) = t.text := by
   unfold quoT
   rw [show (strU v).data.toList = v by simp [strU], hq]
   rfl
  rw [hval t hk rfl]
  refine ⟨fun u hu hut => hval u hu (by rw [hut, hqt]), ?_, ?_, by rw [hqt]; exact hs, ?_⟩
  ·rw [hqt]
   cases hL : t.text.data.toList with
   | nil => rw [hL] at hv; simp [unqO] at hv
   | cons c r =>
    rw [hL, unqO] at hv
    split at hv
    ·rename_i hc
     exact ⟨c, r, hL, by rw [show c = 34 from UInt8.toNat_inj.1 hc]; decide⟩
    ·cases hv
  ·rw [hqt]
   exact zsi (zma (by show (3 : Int) ≠ 5; decide)) (zju h hk.symm rfl)
  ·have : (strU v).size = v.length := by simp [strU, ByteArray.size]
   omega
theorem zhs : ∀ (ts : List Tok) (last : Tok), chkF last ts = true -> ∀ t ∈ ts, tgood t
 | [], _, _ => fun t ht => by simp at ht
 | x :: r, last, h => fun t ht => by
  rw [chkF] at h
  split at h
  ·rename_i hb
   split at h
   ·rcases List.mem_cons.1 ht with rfl | ht
    ·have hk : t.kind = 5 := (zni hb).2.1
     exact ⟨fun e => by rw [hk] at e; exact absurd e (by decide), fun e => by rw [hk] at e; exact absurd e (by decide), fun e => by rw [hk] at e; exact absurd e (by decide)⟩
    ·exact zhs r x h t ht
   ·cases h
  ·split at h
   ·rename_i ha
    rcases List.mem_cons.1 ht with rfl | ht
    ·exact znv ha
    ·exact zhs r x h t ht
   ·cases h
theorem zvk {ts : List Tok} (h : chkO ts = 0) : ∀ p, tgood (nxT ts p) := by
 intro p
 unfold chkO at h
 split at h
 ·cases h
 split at h
 ·rename_i hc
  by_cases hp : p < ts.length
  ·exact zhs ts _ hc _ (by unfold nxT; rw [List.getD_eq_getElem?_getD, List.getElem?_eq_getElem hp]; simp)
  ·have : nxT ts p = tokZ := by unfold nxT; rw [List.getD_eq_getElem?_getD, List.getElem?_eq_none (by omega)]; rfl
   rw [this]
   exact ⟨fun e => absurd e (by decide), fun e => absurd e (by decide), fun e => absurd e (by decide)⟩
 ·cases h
def tOk (u : Tok) : Prop := wrA u = false ∧ u.text.size <= 4096 ∧ u.pos = 0
def aT (ws : List Tok) : Prop := ∀ u ∈ ws, tOk u
theorem zk9 : aT [] := fun u hu => by simp at hu
theorem zbq {a b : List Tok} (h : aT a) (h' : aT b) : aT (a ++ b) := fun u hu => (List.mem_append.1 hu).elim (h u) (h' u)
theorem zbv {u : Tok} (h : tOk u) : aT [u] := fun v hv => by obtain rfl := List.mem_singleton.1 hv; exact h
theorem zgg {u : Tok} {a : List Tok} (h : tOk u) (h' : aT a) : aT (u :: a) := fun v hv => (List.mem_cons.1 hv).elim (fun e => by rw [e]; exact h) (h' v)
theorem zds {os : List (List Tok)} (h : ∀ o ∈ os, aT o) : aT os.flatten := fun u hu => by
 obtain ⟨o, ho, hu⟩ := List.mem_flatten.1 hu
 exact h o ho u hu
theorem z02 : tOk enT := ⟨by kernel_rfl, by decide, rfl⟩
theorem z2y : tOk (sgT [40]) := ⟨by kernel_rfl, by decide, rfl⟩
theorem z2z : tOk (sgT [41]) := ⟨by kernel_rfl, by decide, rfl⟩
theorem z21 : tOk (sgT [44]) := ⟨by kernel_rfl, by decide, rfl⟩
theorem z03 : tOk (sgT [46]) := ⟨by kernel_rfl, by decide, rfl⟩
theorem zyr : tOk (sgT [61]) := ⟨by kernel_rfl, by decide, rfl⟩
theorem z04 : tOk (sgT [123]) := ⟨by kernel_rfl, by decide, rfl⟩
theorem z05 : tOk (sgT [125]) := ⟨by kernel_rfl, by decide, rfl⟩
theorem z06 : tOk (sgT [58, 61]) := ⟨by kernel_rfl, by decide, rfl⟩
theorem zwl {os : List (List Tok)} (h : ∀ o ∈ os, aT o) : aT (wEnd os) := zds fun o ho => by
 obtain ⟨a, ha, rfl⟩ := List.mem_map.1 ho
 exact zbq (h a ha) (zbv z02)
theorem zst {s : List UInt8} (hs : tOk (sgT s)) {os : List (List Tok)} (h : ∀ o ∈ os, aT o) : aT (wPar s os) := by
 cases os with
 | nil => exact zk9
 | cons o r =>
  refine zbq (h o (by simp)) (zds fun o ho => ?_)
  obtain ⟨a, ha, rfl⟩ := List.mem_map.1 ho
  exact zgg hs (h a (by simp [ha]))
theorem znw {os : List (List Tok)} (h : ∀ o ∈ os, aT o) : aT (wBrk os) := zbq (zbq (zbv z2y) (zst z21 h)) (zbv z2z)
theorem zwm {os : List (List Tok)} (h : ∀ o ∈ os, aT o) : aT (wBra os) := zbq (zbq (zbv z04) (zwl h)) (zbv z05)
theorem zmb {os : List (List Tok)} (n : Nat) (h : ∀ o ∈ os, aT o) : ∀ o ∈ os.take n, aT o := fun o ho => h o (List.mem_of_mem_take ho)
theorem zht {os : List (List Tok)} (n : Nat) (h : ∀ o ∈ os, aT o) : ∀ o ∈ os.drop n, aT o := fun o ho => h o (List.mem_of_mem_drop ho)
theorem z22 {os : List (List Tok)} (h : ∀ o ∈ os, aT o) : aT (wIf os) := by
 unfold wIf
 refine zbq (zbq (zds (zmb 2 h)) ?_) (zds (zht 2 h))
 split
 ·exact zbv ⟨by kernel_rfl, by decide, rfl⟩
 ·exact zk9
theorem zla {k : Int} {x : ByteArray} {hs : List (Int × ByteArray)} {os : List (List Tok)} (i : Nat) (h : ∀ o ∈ os, aT o) : aT (wOpe k x hs os i) := by
 unfold wOpe
 split
 ·rename_i a o _ ho
  have hm : aT o := h o (List.mem_of_getElem? ho)
  split
  ·exact znw fun o' ho' => by obtain rfl := List.mem_singleton.1 ho'; exact hm
  ·exact hm
 ·exact zk9
theorem zd2 {x : ByteArray} (h : gW x) : tOk (tkW 1 x) := ⟨h.2.1, h.2.2, rfl⟩
theorem zwn {x : ByteArray} (h : gQ x) : tOk (tkW 3 (quoT x)) := ⟨h.2.2.1, h.2.2.2.1, rfl⟩
theorem z07 {n : Int} (h : gI n) : tOk (nuT n) := ⟨h.2.2.1, by have := h.2.2.2.1; show (Lib.itoa n).toArray.size <= 4096; simpa using this, rfl⟩
theorem zwo {x : ByteArray} (h : gS x) : tOk (tkW 4 x) := ⟨h.1, h.2, rfl⟩
theorem z08 {x : ByteArray} {hs : List (Int × ByteArray)} {os : List (List Tok)} (hx : gW x) (h : ∀ o ∈ os, aT o) : aT (wFun x hs os) := by
 unfold wFun
 refine zbq (zbq (zbq (zbq (zbv ⟨by kernel_rfl, by decide, rfl⟩) ?_) (zbv (zd2 hx))) (znw (zmb _ (zht _ h)))) (zds (zht _ (zht _ h)))
 split
 ·exact znw (zmb _ h)
 ·exact zk9
theorem aT_X {k n : Int} {x : ByteArray} {hs : List (Int × ByteArray)} {os : List (List Tok)} (hn : NdOk k x n) (h : ∀ o ∈ os, aT o) : aT (wrX k x n hs os) := by
 unfold wrX
 split
 ·rename_i e; exact zbv (z07 (hn.i e))
 split
 ·rename_i e; exact zbv (zwn (hn.q (by omega)))
 split
 ·rename_i e; exact zbv (zd2 (hn.w (by omega)))
 split
 ·rename_i e; exact zbq (zbq (zla 0 h) (zbv z03)) (zbv (zd2 (hn.w (by omega))))
 split
 ·exact zbq (zla 0 h) (znw (zht 1 h))
 split
 ·rename_i e; exact zbq (zbv (zwo (hn.g (by omega)))) (zla 0 h)
 split
 ·rename_i e; exact zbq (zbq (zla 0 h) (zbv (zwo (hn.g (by omega))))) (zla 1 h)
 ·exact zk9
theorem aT_S {k n : Int} {x : ByteArray} {hs : List (Int × ByteArray)} {os : List (List Tok)} (hn : NdOk k x n) (h : ∀ o ∈ os, aT o) : aT (wrS k x n hs os) := by
 unfold wrS
 split
 ·exact zwm h
 split
 ·exact zbq (zbv ⟨by kernel_rfl, by decide, rfl⟩) (z22 h)
 split
 ·exact zbq (zbv ⟨by kernel_rfl, by decide, rfl⟩) (zds h)
 split
 ·exact zbq (zbv ⟨by kernel_rfl, by decide, rfl⟩) (zds h)
 split
 ·rename_i e; exact zbq (zbq (zbv (zd2 (hn.w (by omega)))) (zbv z06)) (zds h)
 split
 ·exact zst zyr h
 split
 ·exact zds h
 ·exact aT_X hn h
theorem aT_K {k n : Int} {x : ByteArray} {hs : List (Int × ByteArray)} {os : List (List Tok)} (hn : NdOk k x n) (h : ∀ o ∈ os, aT o) : aT (wrK k x n hs os) := by
 unfold wrK
 split
 ·rename_i e; exact zbq (zbq (zgg ⟨by kernel_rfl, by decide, rfl⟩ (zbv (zd2 (hn.w (by omega))))) (zbv z02)) (zwl h)
 split
 ·rename_i e; exact zbq (zbv ⟨by kernel_rfl, by decide, rfl⟩) (zbv (zwn (hn.q (by omega))))
 split
 ·rename_i e; exact zbq (zbq (zgg ⟨by kernel_rfl, by decide, rfl⟩ (zbv (zd2 (hn.w (by omega))))) (zbv zyr)) (zds h)
 split
 ·rename_i e; exact zbq (zgg ⟨by kernel_rfl, by decide, rfl⟩ (zbv (zd2 (hn.w (by omega))))) (zst zyr h)
 split
 ·rename_i e; exact zbq (zgg ⟨by kernel_rfl, by decide, rfl⟩ (zgg (zd2 (hn.w (by omega))) (zbv ⟨by kernel_rfl, by decide, rfl⟩))) (zwm h)
 split
 ·rename_i e; exact z08 (hn.w (by omega)) h
 split
 ·rename_i e; exact zbq (zbv (zd2 (hn.w (by omega)))) (zds h)
 split
 ·rename_i e; exact zbv (zd2 (hn.w (by omega)))
 split
 ·rename_i e; exact zbq (zbq (zds h) (zbv z03)) (zbv (zd2 (hn.w (by omega))))
 ·exact aT_S hn h
mutual
theorem zys : ∀ t : Pt, okP t -> aT (wrP t)
 | .mk k x n a f e l, h => by
  rw [okP] at h
  rw [wrP]
  exact aT_K h.1 (zwp l h.2)
theorem zwp : ∀ l : List Pt, okL l -> ∀ o ∈ wrM l, aT o
 | [], _ => fun o ho => by simp [wrM] at ho
 | t :: r, h => fun o ho => by
  rw [okL] at h
  rw [wrM] at ho
  rcases List.mem_cons.1 ho with rfl | ho
  ·exact zys t h.1
  ·exact zwp r h.2 o ho
end
mutual
theorem zyt : ∀ t : Pt, okP t -> GdP t
 | .mk k x n a f e l, h => by
  rw [okP] at h
  rw [GdP]
  have h1 := h.1.s
  have h2 := h.1.r
  exact ⟨by omega, ⟨by omega, h2.2⟩, zwq l h.2⟩
theorem zwq : ∀ l : List Pt, okL l -> GdL l
 | [], _ => by rw [GdL]; trivial
 | t :: r, h => by
  rw [okL] at h
  rw [GdL]
  exact ⟨zyt t h.1, zwq r h.2⟩
end
def stL (k : Int) (L : List UInt8) (n : Option UInt8) : Bool := match n with
 | none => true
 | some c => if k = 1 ∨ k = 2 then !(inC [3, 4] c) else if k = 4 then (match L with | [a] => !(sig2 [a, c]) && !((a == 47) && (c == 47)) | _ => true) else true
theorem z09 {c : UInt8} (h : inC [3, 4] c = false) : inC [3, 4] c = false ∧ inC [4] c = false ∧ inC [3] c = false := by
 refine ⟨h, ?_, ?_⟩
 all_goals
  unfold inC at h ⊢
  simp only [List.contains_cons, List.contains_nil, Bool.or_false, Bool.or_eq_false_iff] at h ⊢
 ·exact h.2
 ·exact h.1
theorem st_w {k : Int} {L : List UInt8} {n : Option UInt8} (hk : k = 1 ∨ k = 2) (h : stL k L n = true) (c : UInt8) (hc : n = some c) : inC [3, 4] c = false ∧ inC [4] c = false ∧ inC [3] c = false := by
 subst hc
 unfold stL at h
 simp only [if_pos hk, Bool.not_eq_true'] at h
 exact z09 h
theorem znx {p : UInt8 -> Bool} {R : List UInt8} (hR : ∀ c, R.head? = some c -> p c = false) : ∀ L : List UInt8, runN p L = L.length -> runN p (L ++ R) = L.length
 | [], _ => by
  cases R with
  | nil => rfl
  | cons c r =>
   rw [List.nil_append, zcc, hR c rfl]
   rfl
 | a :: L, h => by
  rw [zcc, List.length_cons] at h
  rw [List.cons_append, zcc, List.length_cons]
  cases ha : p a with
  | false => rw [ha] at h; simp at h
  | true =>
   rw [ha] at h
   simp only [if_true] at h ⊢
   rw [znx hR L (by omega)]
theorem zyu {L R : List UInt8} {k : Int} (h : lookR L false = (k, L.length, 0)) (hk : k ≠ 0) (hL : L ≠ []) (hR : stL k L R.head? = true) (en : Bool) : lookR (L ++ R) en = (k, L.length, 0) := by
 cases L with
 | nil => exact absurd rfl hL
 | cons c r =>
  rw [List.cons_append]
  unfold lookR at h ⊢
  simp only at h ⊢
  by_cases c2 : clsI c.toNat = 2
  ·rw [if_pos c2] at h
   simp at h
   exact absurd h.1.symm hk
  rw [if_neg c2] at h ⊢
  by_cases c1 : clsI c.toNat = 1
  ·rw [if_pos c1] at h
   simp at h
   exact absurd h.1.symm hk
  rw [if_neg c1] at h ⊢
  by_cases c6 : clsI c.toNat = 6
  ·rw [if_pos c6] at h ⊢
   exact h
  rw [if_neg c6] at h ⊢
  by_cases c3 : clsI c.toNat = 3
  ·rw [if_pos c3] at h ⊢
   injection h with h1 h
   rw [<- h1]
   congr 1
   unfold wordR at h ⊢
   by_cases hw : runN (inC [3, 4]) (c :: r) > 24
   ·rw [if_pos hw] at h; injection h with _ h; cases h
   ·rw [if_neg hw] at h
    injection h with h _
    have := znx (fun d hd => by subst h1; exact (st_w (.inl rfl) hR d hd).1) (c :: r) h
    rw [List.cons_append] at this
    rw [this, if_neg (by omega)]
  rw [if_neg c3] at h ⊢
  by_cases c4 : clsI c.toNat = 4
  ·rw [if_pos c4] at h ⊢
   injection h with h1 h
   rw [<- h1]
   congr 1
   unfold numR at h ⊢
   split at h
   ·injection h with _ h; cases h
   ·rename_i hn
    injection h with h _
    have e1 := znx (p := inC [4]) (fun d hd => by subst h1; exact (st_w (.inr rfl) hR d hd).2.1) (c :: r) h
    rw [List.cons_append] at e1
    rw [h] at hn
    rw [e1]
    have e2 : (c :: (r ++ R)).take (c :: r).length = c :: r := by rw [<- List.cons_append]; exact List.take_left
    have e3 : (c :: (r ++ R)).drop (c :: r).length = R := by rw [<- List.cons_append]; exact List.drop_left
    rw [e2, e3, show runN (inC [3]) R = 0 from znx (p := inC [3]) (fun d hd => by subst h1; exact (st_w (.inr rfl) hR d hd).2.2) [] rfl]
    rw [List.take_length] at hn
    rw [if_neg (fun hh => hn (hh.elim .inl (fun hh => absurd hh (by omega))))]
  rw [if_neg c4] at h ⊢
  by_cases c5 : clsI c.toNat = 5
  ·rw [if_pos c5] at h ⊢
   injection h with h1 h
   rw [<- h1]
   congr 1
   unfold quoR unqO at h ⊢
   by_cases h34 : c.toNat = 34
   ·simp only [h34, if_true] at h ⊢
    cases hu : unqA [] 1 r with
    | none => rw [hu] at h; injection h with _ h; cases h
    | some v =>
     rw [hu] at h
     rw [zu6 R _ r [] 1 v (Nat.le_refl _) hu]
     exact h
   ·simp only [h34, if_false] at h
    injection h with _ h
    cases h
  rw [if_neg c5] at h ⊢
  by_cases cp : Lib.hasPrefix (c :: r) [47, 47] = true
  ·rw [if_pos cp] at h
   simp at h
   exact absurd h.1.symm hk
  rw [if_neg cp] at h
  have cp' : ¬ Lib.hasPrefix (c :: (r ++ R)) [47, 47] = true := by
   intro hh
   apply cp
   unfold Lib.hasPrefix at hh ⊢
   cases r with
   | cons d r' => simpa [List.isPrefixOf] using hh
   | nil =>
    cases R with
    | nil => exact hh
    | cons d R' =>
     exfalso
     simp [List.isPrefixOf] at hh
     obtain ⟨rfl, rfl⟩ := hh
     have h4 : k = 4 := by injection h with h _; exact h.symm
     subst h4
     have hR' : stL 4 [47] (some 47) = true := hR
     exact absurd hR' (by decide)
  rw [if_neg cp']
  injection h with h1 h
  rw [<- h1]
  congr 1
  unfold sigR at h ⊢
  by_cases s2 : sig2 ((c :: r).take 2) = true
  ·rw [if_pos s2] at h
   injection h with h _
   cases r with
   | nil => simp at h
   | cons d r' =>
    cases r' with
    | cons => simp at h
    | nil =>
     have e : (c :: ([d] ++ R)).take 2 = (c :: [d]).take 2 := rfl
     rw [e, if_pos s2]
     rfl
  ·rw [if_neg s2] at h
   simp only at h ⊢
   split at h
   ·rename_i s1
    injection h with h _
    have hr : r = [] := by
     cases r with
     | nil => rfl
     | cons => simp at h
    subst hr
    have s2' : ¬ sig2 ((c :: ([] ++ R)).take 2) = true := by
     cases R with
     | nil => exact s2
     | cons d R' =>
      have h4 : k = 4 := h1.symm
      subst h4
      have := hR
      simp only [stL, List.head?_cons] at this
      rw [List.nil_append]
      intro hh
      have e : (c :: d :: R').take 2 = [c, d] := rfl
      rw [e] at hh
      rw [hh] at this
      simp at this
    rw [if_neg s2', if_pos s1]
    rfl
   ·injection h with _ h; cases h
theorem zvl {u : Tok} (h : wrA u = false) : bareB u = false ∧ alnB u = true := by
 unfold wrA at h
 have h0 : chkO [u, enT] = 0 := by simpa using h
 unfold chkO at h0
 rw [if_neg (by simp)] at h0
 have h1 : chkF ⟨0, ⟨#[]⟩, 0⟩ [u, enT] = true := by
  cases hc : chkF ⟨0, ⟨#[]⟩, 0⟩ [u, enT] with
  | true => rfl
  | false => rw [hc] at h0; simp at h0
 rw [chkF] at h1
 cases hb : bareB u with
 | true => rw [hb] at h1; simp [clo] at h1
 | false =>
  rw [hb] at h1
  cases ha : alnB u with
  | true => exact ⟨rfl, rfl⟩
  | false => rw [ha] at h1; simp at h1
def okI : Tok -> List Pe -> Prop
 | last, [] => clo last = false
 | _, .t x :: r => stL x.kind x.text.data.toList (rn r).head? = true ∧ okI x r
 | last, .w c :: r => (c = 32 ∨ c = 9 ∨ (c = 10 ∧ clo last = false)) ∧ okI last r
 | last, .e :: r => clo last = true ∧ okI enT r
def tkE (a b : Tok) : Bool := (a.kind == b.kind) && ((a.text.toList == b.text.toList) || ((a.kind == 5) && b.text.toList.isEmpty))
theorem z1a (L : List UInt8) : ∀ (l : List Pe) (ds : List Tok) (last : Tok) (p f : Nat), L.drop p = rn l -> p <= L.length -> okI last l -> (∀ x ∈ tks l, wrA x = false) -> clo (lastT ds) = clo last -> ds.length + (tks l).length <= 1024 -> lexMu L p ds < f ->
  ∃ ms, lexG L f p ds = (ds ++ ms, 0, 0) ∧ eqAll tkE (tks l) ms = true := by
 intro l
 induction l with
 | nil =>
  intro ds last p f hd hp hc _ hcl hn hf
  obtain ⟨f, rfl⟩ : ∃ f', f = f' + 1 := ⟨f - 1, by omega⟩
  have hd' : L.drop p = [] := hd
  have hcl' : clo (lastT ds) = false := by rw [hcl]; exact hc
  refine ⟨[], ?_, rfl⟩
  rw [List.append_nil]
  exact ze6 (by have := congrArg List.length hd'; rw [List.length_drop] at this; simp at this; omega) hcl'
 | cons a r ih =>
  intro ds last p f hd hp hc hw hcl hn hf
  rw [zd0] at hd
  rw [zc9] at hn hw
  cases a with
  | w c =>
   rw [okI] at hc
   have hd' : L.drop p = c :: rn r := hd
   obtain ⟨hd1, hlt⟩ := znj hd'
   obtain ⟨f, rfl⟩ : ∃ f', f = f' + 1 := ⟨f - 1, by omega⟩
   have hlk : lookR (L.drop p) (clo (lastT ds)) = (0, 1, 0) := by
    rw [hd']
    rcases hc.1 with rfl | rfl | ⟨rfl, h⟩
    ·rfl
    ·rfl
    ·rw [hcl, h]; rfl
   obtain ⟨-, hm⟩ := zh5 (.inl hlt) hp hlk
   rw [zdg (.inl hlt) hlk, zc9]
   exact ih ds last (p + 1) f hd1 (by omega) hc.2 (fun x hx => hw x (by simp [hx])) hcl (by simpa [Pe.tk] using hn) (by omega)
  | e =>
   rw [okI] at hc
   have hd' : L.drop p = 10 :: rn r := hd
   obtain ⟨hd1, hlt⟩ := znj hd'
   obtain ⟨f, rfl⟩ : ∃ f', f = f' + 1 := ⟨f - 1, by omega⟩
   have hlk : lookR (L.drop p) (clo (lastT ds)) = (5, 0, 0) := by rw [hd', hcl, hc.1]; rfl
   have hn' : ds.length + (1 + (tks r).length) <= 1024 := by simpa [Pe.tk, Nat.add_comm] using hn
   obtain ⟨-, hm1⟩ := zh6 (.inl hlt) hp hlk (t := ⟨5, strU ((L.drop p).take 0), p⟩) rfl
   rw [zcv (.inl hlt) hlk (by decide) (by omega)]
   rw [Nat.add_zero] at hm1 ⊢
   have hl1 : lastT (ds ++ [⟨5, strU ((L.drop p).take 0), (p : Int)⟩]) = ⟨5, strU [], p⟩ := by rw [zb2, List.take_zero]
   rw [List.take_zero] at hl1 hm1 ⊢
   have hlk2 : lookR (L.drop p) (clo (lastT (ds ++ [⟨5, strU [], (p : Int)⟩]))) = (0, 1, 0) := by rw [hl1, hd']; rfl
   obtain ⟨f, rfl⟩ : ∃ f', f = f' + 1 := ⟨f - 1, by omega⟩
   obtain ⟨-, hm2⟩ := zh5 (.inl hlt) hp hlk2
   rw [zdg (.inl hlt) hlk2]
   obtain ⟨ms, g1, g2⟩ := ih (ds ++ [⟨5, strU [], (p : Int)⟩]) enT (p + 1) f hd1 (by omega) hc.2 (fun x hx => hw x (by simp [hx])) (by rw [hl1]; rfl) (by simp; omega) (by omega)
   refine ⟨⟨5, strU [], p⟩ :: ms, by rw [g1]; simp, ?_⟩
   rw [zc9]
   show (tkE enT ⟨5, strU [], (p : Int)⟩ && eqAll tkE (tks r) ms) = true
   rw [g2]
   simp [tkE, enT, tkW, zby]
  | t x =>
   rw [okI] at hc
   obtain ⟨-, ha⟩ := zvl (hw x (by simp [Pe.tk]))
   obtain ⟨q1, q2, q3⟩ := znh ha
   have hd' : L.drop p = x.text.data.toList ++ rn r := hd
   have hn' : ds.length + (1 + (tks r).length) <= 1024 := by simpa [Pe.tk, Nat.add_comm] using hn
   obtain ⟨f, rfl⟩ : ∃ f', f = f' + 1 := ⟨f - 1, by omega⟩
   have hlt : p < L.length := by
    by_cases h : p < L.length
    ·exact h
    ·rw [List.drop_eq_nil_of_le (by omega)] at hd'
     exact absurd (List.append_eq_nil_iff.1 hd'.symm).1 q3
   have hlk : lookR (L.drop p) (clo (lastT ds)) = (x.kind, x.text.data.toList.length, 0) := by rw [hd']; exact zyu q1 q2 q3 hc.1 _
   have htk : (L.drop p).take x.text.data.toList.length = x.text.data.toList := by rw [hd']; exact List.take_left
   obtain ⟨hm0, hm1⟩ := zh6 (.inl hlt) hp hlk (t := ⟨x.kind, strU ((L.drop p).take x.text.data.toList.length), p⟩) rfl
   rw [zcv (.inl hlt) hlk q2 (by omega)]
   rw [htk] at hm1 ⊢
   have hte : tkEq x ⟨x.kind, strU x.text.data.toList, p⟩ = true := by simp [tkEq, zix]
   have hd1 : L.drop (p + x.text.data.toList.length) = rn r := by rw [<- List.drop_drop, hd']; exact List.drop_left
   obtain ⟨ms, g1, g2⟩ := ih (ds ++ [⟨x.kind, strU x.text.data.toList, (p : Int)⟩]) x _ f hd1 hm0 hc.2 (fun y hy => hw y (by simp [hy])) (by rw [zb2]; exact (zz9 hte).symm) (by simp; omega) (by omega)
   refine ⟨⟨x.kind, strU x.text.data.toList, p⟩ :: ms, by rw [g1]; simp, ?_⟩
   rw [zc9]
   show (tkE x ⟨x.kind, strU x.text.data.toList, (p : Int)⟩ && eqAll tkE (tks r) ms) = true
   rw [g2]
   simp [tkE, zix]
theorem z1b {l : List Pe} (hc : okI ⟨0, ⟨#[]⟩, 0⟩ l) (hw : ∀ x ∈ tks l, wrA x = false) (hn : (tks l).length <= 1024) (hl : ¬ 4096 < (rn l).length) : ∃ ms, lexO (rn l) = (ms, 0, 0) ∧ eqAll tkE (tks l) ms = true := by
 unfold lexO
 rw [if_neg hl]
 obtain ⟨ms, g1, g2⟩ := z1a (rn l) l [] ⟨0, ⟨#[]⟩, 0⟩ 0 (2 * (rn l).length + 1) rfl (Nat.zero_le _) hc hw rfl (by simpa using hn) (by unfold lexMu; rw [zfq]; simp [clo])
 exact ⟨ms, by rw [g1]; rfl, g2⟩
theorem zwr : clo (sgT [41]) = true := by simp [clo, sgT, tkW, zby]
theorem zyv : clo (sgT [125]) = true := by simp [clo, sgT, tkW, zby]
theorem zsu : clo (sgT [123]) = false := by simp [clo, sgT, tkW, zby]
def Kc (R : List Pe) : Prop := (∀ x, clo x = true -> okI x R) ∧ ∀ c, (rn R).head? = some c -> inC [3, 4] c = false
theorem z1c (k : Int) (L : List UInt8) : stL k L (some 32) = true := by
 unfold stL
 simp only
 split
 ·rfl
 ·split
  ·split
   ·rename_i a
    simp [sig2]
   ·rfl
  ·rfl
theorem zsv {a : UInt8} (ha : a = 40 ∨ a = 41 ∨ a = 44 ∨ a = 46 ∨ a = 45 ∨ a = 123 ∨ a = 125) (n : Option UInt8) : stL 4 [a] n = true := by
 cases n with
 | none => rfl
 | some c =>
  unfold stL
  simp only
  rw [if_neg (by decide), if_pos trivial]
  rcases ha with rfl | rfl | rfl | rfl | rfl | rfl | rfl <;> simp [sig2]
theorem zsw {R : List Pe} (h : ∀ x, okI x R) : Kc (sp :: R) := ⟨fun x _ => ⟨.inl rfl, h x⟩, fun c hc => by
 obtain rfl : (32 : UInt8) = c := by simpa [zd0, sp, Pe.bs] using hc
 rfl⟩
theorem kc_e {R : List Pe} (h : okI enT R) : Kc (.e :: R) := ⟨fun x hx => ⟨hx, h⟩, fun c hc => by
 obtain rfl : (10 : UInt8) = c := by simpa [zd0, Pe.bs] using hc
 rfl⟩
theorem zvm {a : UInt8} (ha : a = 40 ∨ a = 41 ∨ a = 44 ∨ a = 46 ∨ a = 45 ∨ a = 123 ∨ a = 125) {R : List Pe} (h : okI (sgT [a]) R) : Kc (sg [a] :: R) := ⟨fun x _ => ⟨zsv ha _, h⟩, fun c hc => by
 have e : a = c := by simpa [zd0, sg, Pe.bs, sgT, tkW, strU] using hc
 subst e
 rcases ha with rfl | rfl | rfl | rfl | rfl | rfl | rfl <;> rfl⟩
theorem zsx {a : UInt8} (ha : a = 40 ∨ a = 41 ∨ a = 44 ∨ a = 46 ∨ a = 45 ∨ a = 123 ∨ a = 125) {R : List Pe} (h : okI (sgT [a]) R) (x : Tok) : okI x (sg [a] :: R) := ⟨zsv ha _, h⟩
theorem z23 {R : List Pe} {x : Tok} (h : okI x R) : okI x (sp :: R) := ⟨.inl rfl, h⟩
theorem zyw {R : List Pe} (y x : Tok) (h : okI y R) : okI x (.t y :: sp :: R) := ⟨z1c _ _, .inl rfl, h⟩
theorem z1d {k : Int} (hk : k = 1 ∨ k = 2 ∨ k = 3) (L : List UInt8) {R : List Pe} (h : Kc R) : stL k L (rn R).head? = true := by
 have h2 := h.2
 unfold stL
 cases hc : (rn R).head? with
 | none => rfl
 | some c =>
  have := h2 c hc
  simp only
  rcases hk with rfl | rfl | rfl
  ·rw [if_pos (.inl rfl), this]; rfl
  ·rw [if_pos (.inr rfl), this]; rfl
  ·rfl
theorem ok_t {y : Tok} (hk : y.kind = 1 ∨ y.kind = 2 ∨ y.kind = 3) {R : List Pe} (h : Kc R) (x : Tok) : okI x (.t y :: R) := by
 refine ⟨z1d hk _ h, h.1 y ?_⟩
 unfold clo
 rcases hk with e | e | e <;> rw [e] <;> rfl
structure PI (A : List Pe) (W : List Tok) : Prop where
 tk : tks A = W
 ok : ∀ last R, Kc R -> okI last (A ++ R)
theorem pi_t {y : Tok} (hk : y.kind = 1 ∨ y.kind = 2 ∨ y.kind = 3) : PI [.t y] [y] := ⟨by simp [tks, Pe.tk], fun x _ h => ok_t hk h x⟩
theorem zhu (R : List Pe) : tks (sp :: R) = tks R := by rw [zc9]; rfl
theorem zvn (y : Tok) (R : List Pe) : tks (.t y :: R) = y :: tks R := by rw [zc9]; rfl
theorem zws (s : List UInt8) (R : List Pe) : tks (wd s :: R) = wdT s :: tks R := by rw [zc9]; rfl
theorem z1e (s : List UInt8) (R : List Pe) : tks (sg s :: R) = sgT s :: tks R := by rw [zc9]; rfl
theorem zyx (R : List Pe) : tks (.e :: R) = enT :: tks R := by rw [zc9]; rfl
theorem zsy (d : Nat) (R : List Pe) : tks (tb d ++ R) = tks R := by
 induction d with
 | zero => rfl
 | succ d ih =>
  show tks (.w 9 :: (tb d ++ R)) = _
  rw [zc9, ih]
  rfl
theorem zyy (d : Nat) {R : List Pe} {x : Tok} (h : okI x R) : okI x (tb d ++ R) := by
 induction d with
 | zero => exact h
 | succ d ih => exact ⟨.inr (.inl rfl), ih⟩
inductive PIs : List (List Pe) -> List (List Tok) -> Prop
 | nil : PIs [] []
 | cons {o : List Pe} {w : List Tok} {os : List (List Pe)} {ws : List (List Tok)} : PI o w -> PIs os ws -> PIs (o :: os) (w :: ws)
theorem zyz {os : List (List Pe)} {ws : List (List Tok)} (h : PIs os ws) : os.map tks = ws := by
 induction h with
 | nil => rfl
 | cons a _ ih => rw [List.map_cons, a.tk, ih]
theorem zvo {os : List (List Pe)} {ws : List (List Tok)} (h : PIs os ws) {R : List Pe} (hR : Kc R) : Kc ((os.map ([sg [44], sp] ++ ·)).flatten ++ sg [41] :: R) := by
 induction h with
 | nil => exact zvm (.inr (.inl rfl)) (hR.1 _ zwr)
 | @cons o _ os _ a _ ih =>
  have e : (((o :: os).map ([sg [44], sp] ++ ·)).flatten ++ sg [41] :: R) = sg [44] :: sp :: (o ++ ((os.map ([sg [44], sp] ++ ·)).flatten ++ sg [41] :: R)) := by simp
  rw [e]
  exact zvm (.inr (.inr (.inl rfl))) (z23 (a.ok _ _ ih))
theorem zsz {os : List (List Pe)} {ws : List (List Tok)} (h : PIs os ws) : PI (pBrk os) (wBrk ws) := by
 refine ⟨?_, fun last R hR => ?_⟩
 ·have hf := zyz h
  cases h with
  | nil => rfl
  | @cons o w os ws a h =>
   rw [List.map_cons] at hf
   injection hf with h1 h2
   have e : tks ((os.map ([sg [44], sp] ++ ·)).flatten) = (ws.map (sgT [44] :: ·)).flatten := by
    rw [zu7, <- h2, List.map_map, List.map_map]
    congr 1
   simp only [pBrk, wBrk, pPar, wPar, zdq, e, h1]
   rfl
 ·cases h with
  | nil => exact zsx (.inl rfl) (zsx (.inr (.inl rfl)) (hR.1 _ zwr) _) _
  | @cons o w os ws a h =>
   have e : pBrk (o :: os) ++ R = sg [40] :: (o ++ ((os.map ([sg [44], sp] ++ ·)).flatten ++ sg [41] :: R)) := by simp [pBrk, pPar]
   rw [e]
   exact zsx (.inl rfl) (a.ok _ _ (zvo h hR)) _
theorem zwt {A : List Pe} {W : List Tok} (h : PI A W) : PI (pBrk [A]) (wBrk [W]) := zsz (.cons h .nil)
theorem PI.two {A B : List Pe} {V W : List Tok} (h : PI A V) (h' : PI B W) : PI (A ++ sp :: B) (V ++ W) := ⟨by rw [zdq, zhu, h.tk, h'.tk], fun last R hR => by
 rw [List.append_assoc, List.cons_append]
 exact h.ok _ _ (zsw fun x => h'.ok x R hR)⟩
theorem PI.pre {A : List Pe} {W : List Tok} (y : Tok) (h : PI A W) : PI (.t y :: sp :: A) (y :: W) := ⟨by rw [zvn, zhu, h.tk], fun last R hR => zyw y last (h.ok y R hR)⟩
theorem PI.mid {A B : List Pe} {V W : List Tok} (y : Tok) (h : PI A V) (h' : PI B W) : PI (A ++ sp :: .t y :: sp :: B) (V ++ y :: W) := by
 have := h.two (h'.pre y)
 exact this
theorem z1f {d d2 : Nat} {os : List (List Pe)} {ws : List (List Tok)} (h : PIs os ws) {R : List Pe} (hR : Kc R) : ∀ last, clo last = false -> okI last (pLin d os ++ (tb d2 ++ sg [125] :: R)) := by
 induction h with
 | nil => exact fun last _ => zyy d2 (zsx (.inr (.inr (.inr (.inr (.inr (.inr rfl)))))) (hR.1 _ zyv) _)
 | @cons o _ os _ a _ ih =>
  intro last _
  have e : pLin d (o :: os) ++ (tb d2 ++ sg [125] :: R) = tb d ++ (o ++ (.e :: (pLin d os ++ (tb d2 ++ sg [125] :: R)))) := by simp [pLin]
  rw [e]
  exact zyy d (a.ok _ _ (kc_e (ih enT rfl)))
theorem z1g {d : Nat} {os : List (List Pe)} {ws : List (List Tok)} (h : PIs os ws) (R : List Pe) : tks (pLin d os ++ R) = wEnd ws ++ tks R := by
 induction h with
 | nil => rfl
 | @cons o w os ws a _ ih =>
  have e : pLin d (o :: os) ++ R = tb d ++ (o ++ (.e :: (pLin d os ++ R))) := by simp [pLin]
  rw [e, zsy, zdq, zyx, ih, a.tk]
  simp [wEnd]
theorem zhv (d : Nat) {os : List (List Pe)} {ws : List (List Tok)} (h : PIs os ws) : PI (pBra d os) (wBra ws) := by
 refine ⟨?_, fun last R hR => ?_⟩
 ·have e : pBra d os = sg [123] :: fe :: (pLin (d + 1) os ++ (tb d ++ [sg [125]])) := by simp [pBra]
  rw [e, z1e, zc9, z1g h, zsy]
  simp [wBra, tks, fe, Pe.tk, sg]
 ·have e : pBra d os ++ R = sg [123] :: fe :: (pLin (d + 1) os ++ (tb d ++ sg [125] :: R)) := by simp [pBra]
  rw [e]
  exact zsx (.inr (.inr (.inr (.inr (.inr (.inl rfl)))))) (show okI (sgT [123]) (fe :: _) from ⟨.inr (.inr ⟨rfl, zsu⟩), z1f h hR _ zsu⟩) _
def opeI (k : Int) (x : ByteArray) (d : Nat) (u : Pt) (i : Nat) : List Pe := if nedQ k x (hdP u) i then pBrk [prP d u] else prP d u
theorem zwu (d : Nat) (n a f t : Int) (x : ByteArray) : prP d (.mk 20 x n a f t []) = [.t (nuT n)] := by simp [prP, prK, prS, prX]
theorem zs0 (d : Nat) (n a f t : Int) (x : ByteArray) : prP d (.mk 21 x n a f t []) = [.t (tkW 3 (quoT x))] := by simp [prP, prK, prS, prX]
theorem zs1 (d : Nat) (n a f t : Int) (x : ByteArray) : prP d (.mk 22 x n a f t []) = [.t (tkW 1 x)] := by simp [prP, prK, prS, prX]
theorem zmc (d : Nat) (n a f t : Int) (x : ByteArray) : prP d (.mk 23 x n a f t []) = [.t (tkW 1 x)] := by simp [prP, prK, prS, prX]
theorem zwv (d : Nat) (n a f t : Int) (x : ByteArray) (e : Pt) : prP d (.mk 24 x n a f t [e]) = opeI 24 x d e 0 ++ [sg [46], .t (tkW 1 x)] := by simp [prP, prK, prS, prX, prM, pOpe, opeI, kdD]
theorem zs2 (d : Nat) (n a f t : Int) (x : ByteArray) (e : Pt) (l : List Pt) : prP d (.mk 25 x n a f t (e :: l)) = opeI 25 x d e 0 ++ pBrk (l.map (prP d)) := by simp [prP, prK, prS, prX, prM, pOpe, opeI, zb8, kdD]
theorem zww (d : Nat) (n a f t : Int) (x : ByteArray) (e : Pt) : prP d (.mk 26 x n a f t [e]) = .t (tkW 4 x) :: opeI 26 x d e 0 := by simp [prP, prK, prS, prX, prM, pOpe, opeI, kdD]
theorem zwx (d : Nat) (n a f t : Int) (x : ByteArray) (u v : Pt) : prP d (.mk 27 x n a f t [u, v]) = opeI 27 x d u 0 ++ sp :: .t (tkW 4 x) :: sp :: opeI 27 x d v 1 := by simp [prP, prK, prS, prX, prM, pOpe, opeI, kdD]
theorem z1h {x : ByteArray} (h : 0 <= rowI x) : rowQ x = rowI x + 1 := by
 unfold rowI at h ⊢
 unfold rowQ
 repeat' split
 all_goals first | rfl | skip
 all_goals (rename_i h1 h2 h3 h4 h5; rw [if_neg h1, if_neg h2, if_neg h3, if_neg h4, if_neg h5] at h; omega)
theorem z1i {k : Int} {x : ByteArray} {u : Pt} {i : Nat} (hk : k = 27 -> 0 <= rowI x) (hu : Ex u) : nedQ k x (hdP u) i = nedB k x (hdP u) i := by
 unfold nedQ nedB
 by_cases h26 : k = 26
 ·rw [if_pos h26, if_pos h26]
 rw [if_neg h26, if_neg h26]
 by_cases h27 : k = 27
 ·rw [if_pos h27, if_neg (by simpa using h27)]
  cases hb : ((hdP u).1 == 27) with
  | false => rfl
  | true =>
   have hr : 0 <= rowI (hdP u).2 := by
    cases hu
    case bin h _ _ => exact h
    all_goals (simp [hdP] at hb)
   rw [z1h (hk h27), z1h hr]
   simp only [Bool.true_and]
   have e1 : decide (rowI (hdP u).2 + 1 < rowI x + 1) = decide (rowI (hdP u).2 < rowI x) := by rw [Bool.eq_iff_iff]; simp
   have e2 : ((rowI (hdP u).2 + 1) == (rowI x + 1)) = (rowI (hdP u).2 == rowI x) := by rw [Bool.eq_iff_iff]; simp
   have e3 : ((rowI (hdP u).2 + 1) == 3) = (rowI (hdP u).2 == 2) := by rw [Bool.eq_iff_iff]; simp; omega
   rw [e1, e2, e3]
 ·rw [if_neg h27, if_pos h27]
theorem zlb {k : Int} {x : ByteArray} {d : Nat} {u : Pt} {i : Nat} (hk : k = 27 -> 0 <= rowI x) (hu : Ex u) (h : PI (prP d u) (wrP u)) : PI (opeI k x d u i) (opeT k x u i) := by
 unfold opeI opeT
 rw [z1i hk hu]
 split
 ·exact zwt h
 ·exact h
def HdE (A : List Pe) : Prop := ∃ a r, A = .t a :: r ∧ fstE a
theorem zny {k : Int} {x : ByteArray} {d : Nat} {u : Pt} {i : Nat} (h : HdE (prP d u)) : HdE (opeI k x d u i) := by
 unfold opeI
 split
 ·exact ⟨sgT [40], _, rfl, .inl ⟨rfl, .inl rfl⟩⟩
 ·exact h
theorem z24 {e : Pt} (h : Ex e) (d : Nat) : HdE (prP d e) := by
 induction h with
 | int _ hp => exact ⟨_, _, zwu _ _ _ _ _ _, .inr (.inl ⟨.inl rfl, hp⟩)⟩
 | text _ hp => exact ⟨_, _, zs0 _ _ _ _ _ _, .inr (.inl ⟨.inr rfl, hp⟩)⟩
 | bool hx =>
  refine ⟨_, _, zs1 _ _ _ _ _ _, .inr (.inr ⟨rfl, ?_, .inr hx⟩)⟩
  rcases hx with rfl | rfl
  ·exact ⟨116, [114, 117, 101], rfl, by decide⟩
  ·exact ⟨102, [97, 108, 115, 101], rfl, by decide⟩
 | name hk hp => exact ⟨_, _, zmc _ _ _ _ _ _, .inr (.inr ⟨rfl, hp, .inl hk⟩)⟩
 | dot _ _ _ ih =>
  obtain ⟨a, r, e1, e2⟩ := zny ih
  exact ⟨a, r ++ _, by rw [zwv, e1]; rfl, e2⟩
 | call _ _ ih _ =>
  obtain ⟨a, r, e1, e2⟩ := zny ih
  exact ⟨a, r ++ _, by rw [zs2, e1]; rfl, e2⟩
 | una hx _ _ => exact ⟨_, _, zww _ _ _ _ _ _ _, .inl ⟨rfl, .inr hx⟩⟩
 | bin _ _ _ ih _ =>
  obtain ⟨a, r, e1, e2⟩ := zny ih
  exact ⟨a, r ++ _, by rw [zwx, e1]; rfl, e2⟩
theorem z1j {A R : List Pe} (h : HdE A) : stL 4 [33] (rn (A ++ R)).head? = true := by
 obtain ⟨a, r, rfl, hf⟩ := h
 rw [List.cons_append, zd0]
 show stL 4 [33] (a.text.data.toList ++ rn (r ++ R)).head? = true
 have key : ∀ c : UInt8, c ≠ 61 -> stL 4 [33] (some c) = true := fun c hc => by
  unfold stL
  simp only
  rw [if_neg (by decide), if_pos trivial]
  simp [sig2, hc]
 rcases hf with ⟨-, h | h | h⟩ | ⟨-, c, q, h, hc⟩ | ⟨-, ⟨c, q, h, hc⟩, -⟩
 ·rw [h]; exact key 40 (by decide)
 ·rw [h]; exact key 45 (by decide)
 ·rw [h]; exact key 33 (by decide)
 all_goals
  rw [h]
  exact key c fun e => by rw [e] at hc; exact absurd hc (by decide)
theorem zdb {l : List Pt} {d : Nat} (h : ∀ u ∈ l, PI (prP d u) (wrP u)) : PIs (l.map (prP d)) (l.map wrP) := by
 induction l with
 | nil => exact .nil
 | cons a r ih => exact .cons (h a (by simp)) (ih fun u hu => h u (by simp [hu]))
theorem zf4 {e : Pt} (h : Ex e) (d : Nat) : PI (prP d e) (wrP e) := by
 induction h with
 | int _ _ => rw [zwu, zgm]; exact pi_t (.inr (.inl rfl))
 | text _ _ => rw [zs0, zge]; exact pi_t (.inr (.inr rfl))
 | bool _ => rw [zs1, zgf]; exact pi_t (.inl rfl)
 | name _ _ => rw [zmc, zhm]; exact pi_t (.inl rfl)
 | @dot x a f t e _ _ he ih =>
  rw [zwv, zk0]
  have ho := zlb (k := 24) (x := x) (i := 0) (fun h => absurd h (by decide)) he ih
  refine ⟨by rw [zdq, ho.tk]; rfl, fun last R hR => ?_⟩
  rw [List.append_assoc]
  exact ho.ok _ _ (zvm (.inr (.inr (.inr (.inl rfl)))) (ok_t (.inl rfl) hR _))
 | @call a f t e l he hl ih ihl =>
  rw [zs2, zhn]
  have ho := zlb (k := 25) (x := ⟨#[]⟩) (i := 0) (fun h => absurd h (by decide)) he ih
  have hb := zsz (zdb ihl)
  refine ⟨by rw [zdq, ho.tk, hb.tk], fun last R hR => ?_⟩
  rw [List.append_assoc]
  refine ho.ok _ _ ⟨fun x _ => hb.ok x R hR, fun c hc => ?_⟩
  have e : pBrk (l.map (prP d)) ++ R = sg [40] :: (pPar [sg [44], sp] (l.map (prP d)) ++ sg [41] :: R) := by simp [pBrk]
  rw [e] at hc
  obtain rfl : (40 : UInt8) = c := by simpa [zd0, sg, Pe.bs, sgT, tkW, strU] using hc
  rfl
 | @una x a f t e hx he ih =>
  rw [zww, zk1]
  have ho := zlb (k := 26) (x := x) (i := 0) (fun h => absurd h (by decide)) he ih
  refine ⟨by rw [zvn, ho.tk], fun last R hR => ⟨?_, ho.ok _ R hR⟩⟩
  rcases hx with rfl | rfl
  ·exact zsv (.inr (.inr (.inr (.inr (.inl rfl))))) _
  ·exact z1j (zny (z24 he d))
 | @bin x a f t u v hx hu hv ihu ihv =>
  rw [zwx, zk2]
  exact (zlb (k := 27) (x := x) (i := 0) (fun _ => hx) hu ihu).mid _ (zlb (k := 27) (x := x) (i := 1) (fun _ => hx) hv ihv)
theorem z1k (d : Nat) (x : ByteArray) (a f t : Int) : prP d (.mk 10 x 0 a f t []) = [.t (tkW 1 x)] := by simp [prP, prK]
theorem zlc (d : Nat) (x : ByteArray) (a f t : Int) : prP d (.mk 11 x 0 a f t []) = [.t (tkW 1 x)] := by simp [prP, prK]
theorem zs3 (d : Nat) (x y : ByteArray) (a f t a' f' t' : Int) : prP d (.mk 12 x 0 a f t [.mk 23 y 0 a' f' t' []]) = [.t (tkW 1 y), sg [46], .t (tkW 1 x)] := by
 rw [prP, zb8]
 simp [prK, zmc, kdD, pOne]
theorem zvp {v : Pt} (h : Ty v) (d : Nat) : PI (prP d v) (wrP v) := by
 cases h with
 | basic _ => rw [z1k, zrt]; exact pi_t (.inl rfl)
 | named _ _ => rw [zlc, zf2]; exact pi_t (.inl rfl)
 | far _ _ _ =>
  rw [zs3, zho]
  exact ⟨rfl, fun last R hR => ok_t (.inl rfl) (zvm (.inr (.inr (.inr (.inl rfl)))) (ok_t (.inl rfl) hR _)) _⟩
theorem z25 {v : Pt} (h : Va v) (d : Nat) : PI (prP d v) (wrP v) := by
 cases h with
 | int h1 h2 => exact zf4 (.int h1 h2) d
 | text h1 h2 => exact zf4 (.text h1 h2) d
 | bool h1 => exact zf4 (.bool h1) d
theorem z26 {v : Pt} (h : Vc v) (d : Nat) : PI (prP d v) (wrP v) := by
 cases h with
 | va h => exact z25 h d
 | neg h1 h2 => exact zf4 (.una (.inl rfl) (.int h1 h2)) d
theorem z1l {k a f t : Int} {x : ByteArray} {v : Pt} (hk : k = 6 ∨ k = 8 ∨ k = 9) (d : Nat) : prP d (.mk k x 0 a f t [v]) = .t (tkW 1 x) :: sp :: prP d v := by
 rcases hk with rfl | rfl | rfl <;> simp [prP, prK, zb8, kdD, pOne]
theorem z1m {k : Int} {u : Pt} (hk : k = 6 ∨ k = 9) (h : Pm k u) (d : Nat) : PI (prP d u) (wrP u) := by
 obtain ⟨x, v, a, f, t, rfl, -, -, hv⟩ := h
 rw [z1l (hk.imp id .inr), zx6 hk]
 exact (zvp hv d).pre _
theorem zip (d : Nat) (a f t : Int) (l : List Pt) : prP d (.mk 13 ⟨#[]⟩ 0 a f t l) = pBra d (l.map (prP (d + 1))) := by simp [prP, prK, prS, zb8, kdD]
theorem zy0 (d : Nat) (a f t : Int) (c b : Pt) : prP d (.mk 15 ⟨#[]⟩ 0 a f t [c, b]) = wd [102, 111, 114] :: sp :: (prP d c ++ sp :: prP d b) := by simp [prP, prK, prS, zb8, kdD, pPar]
theorem z1n (d : Nat) (a f t : Int) (c b : Pt) : prP d (.mk 14 ⟨#[]⟩ 0 a f t [c, b]) = wd [105, 102] :: sp :: (prP d c ++ sp :: prP d b) := by simp [prP, prK, prS, zb8, kdD, pPar, pBeh]
theorem zwy (d : Nat) (a f t : Int) (c b e : Pt) : prP d (.mk 14 ⟨#[]⟩ 0 a f t [c, b, e]) = wd [105, 102] :: sp :: (prP d c ++ sp :: (prP d b ++ sp :: wd [101, 108, 115, 101] :: sp :: prP d e)) := by simp [prP, prK, prS, zb8, kdD, pPar, pBeh]
theorem zy1 (d : Nat) (a f t : Int) (x : ByteArray) (v : Pt) : prP d (.mk 4 x 0 a f t [v]) = wd [118, 97, 114] :: sp :: .t (tkW 1 x) :: sp :: prP d v := by simp [prP, prK, zb8, pPar, kdD]
theorem zy2 (d : Nat) (a f t : Int) (x : ByteArray) (v e : Pt) : prP d (.mk 4 x 0 a f t [v, e]) = wd [118, 97, 114] :: sp :: .t (tkW 1 x) :: sp :: (prP d v ++ sp :: sg [61] :: sp :: prP d e) := by simp [prP, prK, zb8, pPar, kdD]
theorem zy3 (d : Nat) (a f t : Int) : prP d (.mk 16 ⟨#[]⟩ 0 a f t []) = [wd [114, 101, 116, 117, 114, 110]] := by simp [prP, prK, prS, zb8, pBeh]
theorem zy4 (d : Nat) (a f t : Int) (e : Pt) : prP d (.mk 16 ⟨#[]⟩ 0 a f t [e]) = wd [114, 101, 116, 117, 114, 110] :: sp :: prP d e := by simp [prP, prK, prS, zb8, pBeh, kdD]
theorem zvq (d : Nat) (a f t : Int) (x : ByteArray) (e : Pt) : prP d (.mk 17 x 0 a f t [e]) = .t (tkW 1 x) :: sp :: sg [58, 61] :: sp :: prP d e := by simp [prP, prK, prS, zb8, pOne, kdD]
theorem zs4 (d : Nat) (a f t : Int) (e u : Pt) : prP d (.mk 18 ⟨#[]⟩ 0 a f t [e, u]) = prP d e ++ sp :: sg [61] :: sp :: prP d u := by simp [prP, prK, prS, zb8, pPar, kdD]
theorem zy5 (d : Nat) (a f t : Int) (e : Pt) : prP d (.mk 19 ⟨#[]⟩ 0 a f t [e]) = prP d e := by simp [prP, prK, prS, zb8, pOne, kdD]
theorem zy6 {u : Pt} (h : St u) (d : Nat) : PI (prP d u) (wrP u) := by
 induction h generalizing d with
 | block _ ih => rw [zip, zeh]; exact zhv d (zdb fun u hu => ih u hu (d + 1))
 | loop hc _ ih => rw [zy0, zr0, zip, zeh]; exact ((zf4 hc d).two (zhv d (zdb fun u hu => ih u hu (d + 1)))).pre _
 | if1 hc _ ih => rw [z1n, zr1, zip, zeh]; exact ((zf4 hc d).two (zhv d (zdb fun u hu => ih u hu (d + 1)))).pre _
 | if2 hc _ _ ih ih' =>
  rw [zwy, zio, zip, zeh, zip, zeh]
  exact ((zf4 hc d).two ((zhv d (zdb fun u hu => ih u hu (d + 1))).mid _ (zhv d (zdb fun u hu => ih' u hu (d + 1))))).pre _
 | if3 hc _ _ _ ih ih' =>
  rw [zwy, zio, zip, zeh]
  exact ((zf4 hc d).two ((zhv d (zdb fun u hu => ih u hu (d + 1))).mid _ (ih' d))).pre _
 | var1 _ hv => rw [zy1, zl6]; exact ((zvp hv d).pre _).pre _
 | var2 _ hv he => rw [zy2, zl7]; exact (((zvp hv d).mid _ (zf4 he d)).pre _).pre _
 | res0 => rw [zy3, zr5]; exact pi_t (.inl rfl)
 | res1 he => rw [zy4, zr6]; exact (zf4 he d).pre _
 | short _ _ he => rw [zvq, zno]; exact ((zf4 he d).pre _).pre _
 | assign he hu => rw [zs4, zk6]; exact (zf4 he d).mid _ (zf4 hu d)
 | expr he => rw [zy5, zr7]; exact zf4 he d
theorem z27 {b : Pt} (h : Bl b) (d : Nat) : PI (prP d b) (wrP b) := by
 obtain ⟨a, f, t, l, rfl, hl⟩ := h
 exact zy6 (.block hl) d
theorem z1o (d : Nat) (a f t : Int) (x : ByteArray) (v : Pt) : prP d (.mk 3 x 0 a f t [v]) = wd [99, 111, 110, 115, 116] :: sp :: .t (tkW 1 x) :: sp :: sg [61] :: sp :: prP d v := by simp [prP, prK, zb8, pOne, kdD]
theorem z1p (d : Nat) (a f t : Int) (x : ByteArray) (l : List Pt) : prP d (.mk 5 x 0 a f t l) = wd [116, 121, 112, 101] :: sp :: .t (tkW 1 x) :: sp :: wd [115, 116, 114, 117, 99, 116] :: sp :: pBra d (l.map (prP (d + 1))) := by simp [prP, prK, zb8, kdD]
theorem zy7 (a f t : Int) (x : ByteArray) (l : List Pt) : wrP (.mk 5 x 0 a f t l) = wdT [116, 121, 112, 101] :: tkW 1 x :: wdT [115, 116, 114, 117, 99, 116] :: wBra (l.map wrP) := by simp [wrP, wrK, zcd]
def pRec (d : Nat) (rs : List Pt) : List Pe := match rs with | [] => [] | _ => pBrk (rs.map (prP d)) ++ [sp]
theorem z1q {a f t : Int} {x : ByteArray} {rs ps ys : List Pt} {b : Pt} (d : Nat) (h1 : ReL rs) (h2 : ∀ u ∈ ps, Pm 9 u) (h3 : TyL ys) (h4 : Bl b) :
  prP d (.mk 7 x 0 a f t (rs ++ ps ++ ys ++ [b])) = wd [102, 117, 110, 99] :: sp :: (pRec d rs ++ .t (tkW 1 x) :: (pBrk (ps.map (prP d)) ++ pBeh [sp] ((ys ++ [b]).map (prP d)))) := by
 have hr : ∀ h ∈ rs.map hdP, h.1 = 8 := by
  rcases h1 with rfl | ⟨y, z, a, f, t, a', f', t', rfl, -⟩
  ·simp
  ·simp [hdP]
 have hy : ∀ h ∈ (ys ++ [b]).map hdP, h.1 ≠ 8 ∧ h.1 ≠ 9 := by
  intro h hh
  obtain ⟨u, hu, rfl⟩ := List.mem_map.1 hh
  rcases List.mem_append.1 hu with hu | hu
  ·rcases h3 with rfl | ⟨v, rfl, hv⟩
   ·simp at hu
   ·obtain rfl : u = v := by simpa using hu
    exact zsa hv
  ·obtain rfl : u = b := by simpa using hu
   exact zsb h4
 have hp : ∀ h ∈ ps.map hdP, h.1 = 9 := by
  intro h hh
  obtain ⟨u, hu, rfl⟩ := List.mem_map.1 hh
  exact zsc (h2 u hu)
 have c8 : cutN 8 ((rs ++ ps ++ ys ++ [b]).map hdP) = rs.length := by
  rw [show (rs ++ ps ++ ys ++ [b]).map hdP = rs.map hdP ++ (ps ++ (ys ++ [b])).map hdP by simp]
  rw [zhq _ _ hr, List.length_map]
  intro h hh
  rw [List.map_append] at hh
  rcases List.mem_append.1 hh with hh | hh
  ·rw [hp h hh]; decide
  ·exact (hy h hh).1
 have d8 : ((rs ++ ps ++ ys ++ [b]).map hdP).drop rs.length = ps.map hdP ++ (ys ++ [b]).map hdP := by
  rw [show (rs ++ ps ++ ys ++ [b]).map hdP = rs.map hdP ++ (ps ++ (ys ++ [b])).map hdP by simp]
  rw [List.drop_left' (by simp), List.map_append]
 have c9 : cutN 9 (((rs ++ ps ++ ys ++ [b]).map hdP).drop rs.length) = ps.length := by
  rw [d8, zhq _ _ hp fun h hh => (hy h hh).2, List.length_map]
 have d9 : ((rs ++ ps ++ ys ++ [b]).map (prP d)).drop rs.length = ps.map (prP d) ++ (ys ++ [b]).map (prP d) := by
  rw [show (rs ++ ps ++ ys ++ [b]).map (prP d) = rs.map (prP d) ++ (ps ++ (ys ++ [b])).map (prP d) by simp]
  rw [List.drop_left' (by simp), List.map_append]
 have t8 : ((rs ++ ps ++ ys ++ [b]).map (prP d)).take rs.length = rs.map (prP d) := by
  rw [show (rs ++ ps ++ ys ++ [b]).map (prP d) = rs.map (prP d) ++ (ps ++ (ys ++ [b])).map (prP d) by simp]
  rw [List.take_left' (by simp)]
 have e : prP d (.mk 7 x 0 a f t (rs ++ ps ++ ys ++ [b])) = pFun x ((rs ++ ps ++ ys ++ [b]).map hdP) ((rs ++ ps ++ ys ++ [b]).map (prP d)) := by
  rw [prP, zb8]
  simp [prK, kdD]
 rw [e]
 unfold pFun
 rw [c8, c9, d9, t8, List.take_left' (by simp), List.drop_left' (by simp)]
 have hif : (if 0 < rs.length then pBrk (rs.map (prP d)) ++ [sp] else []) = pRec d rs := by
  cases rs with
  | nil => rfl
  | cons => rfl
 rw [hif]
 simp
theorem z1r {rs : List Pt} (h : ReL rs) (d : Nat) : tks (pRec d rs) = wRec rs ∧ ∀ (y : Tok) (last : Tok) (R : List Pe), okI y R -> stL y.kind y.text.data.toList (rn R).head? = true -> okI last (pRec d rs ++ .t y :: R) := by
 rcases h with rfl | ⟨y, z, a, f, t, a', f', t', rfl, -, -⟩
 ·exact ⟨rfl, fun y last R h1 h2 => ⟨h2, h1⟩⟩
 ·have hp : PI (prP d (.mk 8 y 0 a f t [.mk 11 z 0 a' f' t' []])) (wrP (.mk 8 y 0 a f t [.mk 11 z 0 a' f' t' []])) := by
   rw [z1l (.inr (.inl rfl)), zwg, zlc]
   exact (pi_t (.inl rfl)).pre _
  have hb := zwt hp
  refine ⟨?_, fun y last R h1 h2 => ?_⟩
  ·show tks (pBrk [_] ++ [sp]) = wBrk [_]
   rw [zdq, hb.tk]
   simp [tks, sp, Pe.tk]
  ·show okI last (pBrk [_] ++ [sp] ++ .t y :: R)
   rw [List.append_assoc]
   exact hb.ok _ _ (zsw fun x => ⟨h2, h1⟩)
theorem z1s {ys : List Pt} {b : Pt} (h : TyL ys) (hb : Bl b) (d : Nat) : tks (pBeh [sp] ((ys ++ [b]).map (prP d))) = (ys.map wrP).flatten ++ wrP b ∧ ∀ R, Kc R -> Kc (pBeh [sp] ((ys ++ [b]).map (prP d)) ++ R) := by
 have hB := z27 hb d
 rcases h with rfl | ⟨v, rfl, hv⟩
 ·refine ⟨?_, fun R hR => ?_⟩
  ·show tks (pBeh [sp] [prP d b]) = wrP b
   simp only [pBeh, List.map_cons, List.map_nil, List.flatten_cons, List.flatten_nil, List.append_nil]
   rw [List.cons_append, zhu, List.nil_append, hB.tk]
  ·show Kc (pBeh [sp] [prP d b] ++ R)
   have e : pBeh [sp] [prP d b] ++ R = sp :: (prP d b ++ R) := by simp [pBeh]
   rw [e]
   exact zsw fun x => hB.ok x R hR
 ·have hV := zvp hv d
  refine ⟨?_, fun R hR => ?_⟩
  ·show tks (pBeh [sp] [prP d v, prP d b]) = [wrP v].flatten ++ wrP b
   have e : pBeh [sp] [prP d v, prP d b] = sp :: (prP d v ++ sp :: prP d b) := by simp [pBeh]
   rw [e, zhu, zdq, zhu, hV.tk, hB.tk]
   simp
  ·show Kc (pBeh [sp] [prP d v, prP d b] ++ R)
   have e : pBeh [sp] [prP d v, prP d b] ++ R = sp :: (prP d v ++ sp :: (prP d b ++ R)) := by simp [pBeh]
   rw [e]
   exact zsw fun x => hV.ok x _ (zsw fun y => hB.ok y R hR)
theorem z29 {u : Pt} (h : Dc u) (d : Nat) : PI (prP d u) (wrP u) := by
 cases h with
 | con _ hv => rw [z1o, zwi]; exact (((z26 hv d).pre _).pre _).pre _
 | var1 h1 h2 => exact zy6 (.var1 h1 h2) d
 | var2 h1 h2 h3 => exact zy6 (.var2 h1 h2 h3) d
 | str _ hl => rw [z1p, zy7]; exact (((zhv d (zdb fun u hu => z1m (.inl rfl) (hl u hu) (d + 1))).pre _).pre _).pre _
 | @fn a f t x rs ps ys b _ _ h1 h2 h3 h4 =>
  rw [z1q d h1 h2 h3 h4, zwh h1 h2 h3 h4]
  obtain ⟨r1, r2⟩ := z1r h1 d
  obtain ⟨b1, b2⟩ := z1s h3 h4 d
  have hp := zsz (zdb fun u hu => z1m (.inr rfl) (h2 u hu) d)
  refine ⟨?_, fun last R hR => ?_⟩
  ·rw [zws, zhu, zdq, zvn, zdq, r1, b1, hp.tk]
  ·have e : wd [102, 117, 110, 99] :: sp :: (pRec d rs ++ .t (tkW 1 x) :: (pBrk (ps.map (prP d)) ++ pBeh [sp] ((ys ++ [b]).map (prP d)))) ++ R = wd [102, 117, 110, 99] :: sp :: (pRec d rs ++ .t (tkW 1 x) :: (pBrk (ps.map (prP d)) ++ (pBeh [sp] ((ys ++ [b]).map (prP d)) ++ R))) := by simp
   rw [e]
   have hk := b2 R hR
   have h40 : Kc (pBrk (ps.map (prP d)) ++ (pBeh [sp] ((ys ++ [b]).map (prP d)) ++ R)) := by
    refine ⟨fun x _ => hp.ok x _ hk, fun c hc => ?_⟩
    have e : pBrk (ps.map (prP d)) ++ (pBeh [sp] ((ys ++ [b]).map (prP d)) ++ R) = sg [40] :: (pPar [sg [44], sp] (ps.map (prP d)) ++ sg [41] :: (pBeh [sp] ((ys ++ [b]).map (prP d)) ++ R)) := by simp [pBrk]
    rw [e] at hc
    obtain rfl : (40 : UInt8) = c := by simpa [zd0, sg, Pe.bs, sgT, tkW, strU] using hc
    rfl
   have h1 := ok_t (y := tkW 1 x) (.inl rfl) h40 ⟨0, ⟨#[]⟩, 0⟩
   exact zyw _ _ (r2 (tkW 1 x) _ _ h1.2 h1.1)
theorem z1t {d : Nat} {l : List Pt} (h : ∀ u ∈ l, PI (prP d u) (wrP u)) : ∀ b, tks (pFiK d b (l.map hdP) (l.map (prP d))) = wEnd (l.map wrP) ∧ ∀ last, clo last = false -> okI last (pFiK d b (l.map hdP) (l.map (prP d))) := by
 induction l with
 | nil => exact fun b => ⟨rfl, fun last hl => hl⟩
 | cons u r ih =>
  intro b
  have hu := h u (by simp)
  obtain ⟨i1, i2⟩ := ih (fun v hv => h v (by simp [hv])) false
  have e : pFiK d b ((u :: r).map hdP) ((u :: r).map (prP d)) = (if b || (hdP u).1 != 2 then [fe] else []) ++ (tb d ++ (prP d u ++ .e :: pFiK d false (r.map hdP) (r.map (prP d)))) := by
   rw [List.map_cons, List.map_cons, pFiK]
   simp
  rw [e]
  refine ⟨?_, fun last hl => ?_⟩
  ·rw [zdq, zsy, zdq, zyx, i1, hu.tk, zei]
   have : tks (if b || (hdP u).1 != 2 then [fe] else []) = [] := by split <;> rfl
   rw [this]
   rfl
  ·have hk : okI last (tb d ++ (prP d u ++ .e :: pFiK d false (r.map hdP) (r.map (prP d)))) := zyy d (hu.ok _ _ (kc_e (i2 enT rfl)))
   split
   ·exact ⟨.inr (.inr ⟨rfl, hl⟩), hk⟩
   ·exact hk
theorem zy8 {t : Pt} (h : FiT t) (d : Nat) : tks (prP d t) = wrP t ∧ okI ⟨0, ⟨#[]⟩, 0⟩ (prP d t) := by
 obtain ⟨x, a, f, e, is, ds, rfl, -, hi, hd⟩ := h
 have hall : ∀ u ∈ is ++ ds, PI (prP d u) (wrP u) := fun u hu => by
  rcases List.mem_append.1 hu with hu | hu
  ·obtain ⟨y, a, f, t, rfl, -⟩ := hi u hu
   have e : prP d (.mk 2 y 0 a f t []) = .t (wdT [105, 109, 112, 111, 114, 116]) :: sp :: [.t (tkW 3 (quoT y))] := by simp [prP, prK, wd]
   rw [e, zse]
   exact (pi_t (.inr (.inr rfl))).pre _
  ·exact z29 (hd u hu) d
 obtain ⟨h1, h2⟩ := z1t hall true
 have e1 : prP d (.mk 1 x 0 a f e (is ++ ds)) = wd [112, 97, 99, 107, 97, 103, 101] :: sp :: .t (tkW 1 x) :: .e :: pFiK d true ((is ++ ds).map hdP) ((is ++ ds).map (prP d)) := by
  rw [prP, zb8]
  simp [prK, kdD]
 rw [e1, zsh]
 refine ⟨?_, ?_⟩
 ·rw [zws, zhu, zvn, zyx, h1, List.map_append, znq]
  rfl
 ·exact zyw _ _ (ok_t (.inl rfl) (kc_e (h2 enT rfl)) _)
end Go.Proofs.YtbadafkfjfbnlaaGreatDoor
