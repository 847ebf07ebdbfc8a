/- What was quoted says what it was, and is one token; the law LexQuotes answers true. -/
/- The contract of lex's Print. -/
/- Tokens that were printed are lexed as they were. Lists alone: no function of the program is walked here. -/
/- Tokens that were printed are lexed as they were: the whole text. Lists alone: no function of the program is walked here. -/
/- Tokens stand where they say, and between them there is nothing. Lists alone: no function of the program is walked here. -/
import Derived.Test.YtbadafkfjfbnlaaGreatDoorMrgD
namespace Go.Proofs.YtbadafkfjfbnlaaGreatDoor
open Go.RowKit

theorem extract_strX (s : ByteArray) (k : Nat) : s.extract 0 k = strU (s.data.toList.take k) := by
  have h : (s.extract 0 k).data.toList = s.data.toList.take k := by
    rw [ByteArray.data_extract, Array.toList_extract]
    simp
  rw [← h, strU_of]
theorem cut_strX (s : ByteArray) (m : Nat) : s.extract 0 (min (s.size : Int) m).toNat = strU (s.data.toList.take m) := by
  rw [extract_strX]
  congr 1
  by_cases h : s.size ≤ m
  · rw [show (min (s.size : Int) m).toNat = s.size by omega, List.take_of_length_le (by simp), List.take_of_length_le (by simpa using h)]
  · rw [show (min (s.size : Int) m).toNat = m by omega]
theorem strV_some (x : List UInt8) (e : Int) : strV (some x) e = .tuple #[.string (strU x), .int .i64 0] := rfl
theorem pair_quo {c : UInt8} (h : c.toNat = 34 ∨ c.toNat = 92) : pairU c = some c := by unfold pairU; rw [if_pos h]
/-- What quoting makes is unquoted to what it was. -/
theorem quo_back : ∀ (L acc Q : List UInt8), quoG acc L = some Q → ∃ E : List UInt8, Q = acc ++ E ++ [34] ∧ E.length ≤ 2 * L.length ∧ ∀ (a : List UInt8) (i : Nat), unqA a i (E ++ [34]) = some (a ++ L, i + E.length + 1) := by
  intro L
  induction L with
  | nil =>
    intro acc Q h
    simp only [quoG, Option.some.injEq] at h
    refine ⟨[], by rw [List.append_nil]; exact h.symm, by simp, fun a i => ?_⟩
    rw [List.nil_append, unqA_cons, if_pos (by decide), List.append_nil]
    rfl
  | cons c r ih =>
    intro acc Q h
    rw [quoG] at h
    cases hq : quoB c with
    | none => rw [hq] at h; cases h
    | some x =>
      rw [hq] at h
      obtain ⟨E, hE, hl, hu⟩ := ih (acc ++ x) Q h
      refine ⟨x ++ E, by rw [hE]; simp, ?_, fun a i => ?_⟩
      · have : x.length ≤ 2 := by
          unfold quoB at hq
          repeat' split at hq
          all_goals first | (injection hq with hq; subst hq; simp) | cases hq
        rw [List.length_append, List.length_cons]
        omega
      · unfold quoB at hq
        by_cases h1 : c.toNat = 34 ∨ c.toNat = 92
        · rw [if_pos h1] at hq
          injection hq with hq
          subst hq
          show unqA a i (92 :: c :: (E ++ [34])) = _
          rw [unqA_cons, if_neg (by decide), if_pos (by decide)]
          simp only [pair_quo h1]
          rw [hu]
          simp
          omega
        · rw [if_neg h1] at hq
          by_cases h2 : c.toNat = 10
          · rw [if_pos h2] at hq
            injection hq with hq
            subst hq
            have hc : c = 10 := UInt8.toNat.inj h2
            show unqA a i (92 :: 110 :: (E ++ [34])) = _
            rw [unqA_cons, if_neg (by decide), if_pos (by decide)]
            have hp : pairU 110 = some 10 := by decide
            simp only [hp]
            rw [hu, hc]
            simp
            omega
          · rw [if_neg h2] at hq
            by_cases h3 : plnB c.toNat = true
            · rw [if_pos h3] at hq
              injection hq with hq
              subst hq
              show unqA a i (c :: (E ++ [34])) = _
              rw [unqA_cons, if_neg (by omega), if_neg (by omega), if_pos h3, hu]
              simp
              omega
            · rw [if_neg h3] at hq
              cases hq
theorem quo_unq {L Q : List UInt8} (h : quoO L = some Q) : unqO Q = some (L, Q.length) ∧ Q.length ≤ 2 * L.length + 2 ∧ Q.head? = some 34 := by
  obtain ⟨E, hE, hl, hu⟩ := quo_back L [34] Q h
  have e : Q = 34 :: (E ++ [34]) := by rw [hE]; simp
  refine ⟨?_, by rw [e]; simp; omega, by rw [e]; rfl⟩
  rw [e]
  show (if (34 : UInt8).toNat = 34 then unqA [] 1 (E ++ [34]) else none) = _
  rw [if_pos (by decide), hu]
  simp
  omega
theorem quo_lex {L Q : List UInt8} (h : quoO L = some Q) (hn : Q.length ≤ 4096) : lexO Q = ([⟨3, strU Q, 0⟩, ⟨5, strU [], Q.length⟩], 0, 0) := by
  obtain ⟨h1, h2, h3⟩ := quo_unq h
  have hsz := unqO_size h1
  cases Q with
  | nil => cases h3
  | cons c r =>
    have hc : c = 34 := by simpa using h3
    subst hc
    have hk : clsI ((34 : UInt8).toNat : Int) = 5 := by decide
    have hl1 : lookR ((34 :: r).drop 0) (clo (lastT [])) = (3, (34 :: r).length, 0) := by
      rw [List.drop_zero]
      unfold lookR
      simp only [hk]
      show (3, quoR (34 :: r)) = _
      unfold quoR
      rw [h1]
    unfold lexO
    rw [if_neg (by omega)]
    have hf : 2 * (34 :: r).length + 1 = ((2 * (34 :: r).length - 2) + 1) + 1 + 1 := by omega
    rw [hf, lexG_tok (.inl (by omega)) hl1 (by decide) (by decide)]
    have e1 : ((34 :: r).drop 0).take (34 :: r).length = 34 :: r := by rw [List.drop_zero, List.take_length]
    rw [e1, Nat.zero_add, List.nil_append]
    have hc3 : clo (lastT [⟨3, strU (34 :: r), ((0 : Nat) : Int)⟩]) = true := rfl
    have hl2 : lookR ((34 :: r).drop (34 :: r).length) (clo (lastT [⟨3, strU (34 :: r), ((0 : Nat) : Int)⟩])) = (5, 0, 0) := by
      rw [List.drop_length]
      rfl
    rw [lexG_tok (.inr hc3) hl2 (by decide) (by simp)]
    rw [Nat.add_zero, lexG_end (by omega) rfl]
    simp
end Go.Proofs.YtbadafkfjfbnlaaGreatDoor

namespace Go.Proofs.YtbadafkfjfbnlaaGreatDoor
open Go.RowKit

section
variable {α : Type} {t e : TypeId} {m : Nat} {f : α → Array Value}
/-- What an append leaves. -/
theorem own_big (E : El t e m f) {B : Nat} {w : World} {v : Value} {xs ys : List α} {sp : Option Addr} {cap : Nat} (ty : TypeId) (hown : OwnG e m f B w v xs) (hn : sp = none → ys.length = 0 ∧ cap = 0) (hr : RowsAt w m f sp ys) (hlen : xs.length + ys.length ≤ 100000000) (hB : B ≤ w.heap.size) :
    ∃ v' w', (Builtin.append_ #[t, t] ty #[v, .slice sp ys.length cap]).run Tryz.prog w = .ok v' w' ∧ OwnG e m f B w' v' (xs ++ ys) ∧ w.grownBy w' v.ownBlock ∧ (v'.ownBlock = v.ownBlock ∨ v'.ownBlock = some w.heap.size) := by
  obtain ⟨i, z, hi, hz0, hz1, hz2, hz3⟩ := E.hi
  cases sp with
  | none =>
    obtain ⟨h1, h2⟩ := hn rfl
    have hy : ys = [] := List.eq_nil_of_length_eq_zero h1
    subst hy h2
    refine ⟨v, w, run_append_owned_none (P := Tryz.prog) (w := w) B t ty e i m E.ht hi v xs.length _ hown, by rw [List.append_nil]; exact hown, ⟨rfl, rfl, rfl, Nat.le_refl _, fun _ _ _ => rfl⟩, .inl rfl⟩
  | some a =>
    have hone : ∀ u ∈ flatG f ys, u.oneCell' = true := fun u hu => by
      obtain ⟨y, -, hy⟩ := List.mem_flatMap.1 hu
      have := E.h1 y
      rw [Array.all_eq_true_iff_forall_mem] at this
      exact this u (by simpa using hy)
    have hnews : ∀ j u, (flatG f ys)[j]? = some u → w.cell? (a.add j) = some u := by
      by_cases h0 : 0 < ys.length
      · obtain ⟨b, off, hs, -⟩ := hr h0
        injection hs with hs
        subst hs
        exact rowsG_news E hr
      · have hy : ys = [] := List.eq_nil_of_length_eq_zero (by omega)
        subst hy
        intro j u hu
        simp [flatG] at hu
    obtain ⟨v', w', q1, q2, q3, -, q5⟩ := run_append_own_at (P := Tryz.prog) (w := w) B t ty e i z m i.bytes E.ht hi hz0 hz1 rfl hz3 E.hm v xs.length _ hown a ys.length cap (flatG f ys) (flatG_length E ys) hnews hone (by unfold maxLen; omega) (by
      have := Nat.mul_le_mul hlen hz2
      omega) hB
    refine ⟨v', w', q1, ?_, q3, q5⟩
    unfold OwnG
    rw [List.length_append, flatG, List.flatMap_append]
    exact q2
end
set_option maxRecDepth 100000 in
set_option maxHeartbeats 1000000 in
theorem writeByte_big (B b : Nat) (l : List UInt8) (c : UInt8) (w : World) (h : Bld B b l w) (hl : l.length ≤ 90000000) (hw : B ≤ w.heap.size) :
    Calls Tryz.prog 26 #[.pointer (some ⟨b, 0, none⟩), .int .u8 c.toNat] w fun e w' => e = .returned .nilIface ∧ WrP B b (l ++ [c]) w w' := by
  go_enter Tryz.func26, Tryz.ntmps26
  go_wp2_with fail
  refine (copyCheck_any B b l w h).mono ?_
  rintro e W1 ⟨rfl, h1, b1, k1, s1⟩
  clear h
  obtain ⟨hB, p, v, hp, hr, ho⟩ := h1.row
  obtain ⟨sp, cap, rfl⟩ := OwnG.shape ho
  have hw1 : B ≤ W1.heap.size := by rw [s1]; exact hw
  have ba : Below W1.heap.size W1 (W1.alloc (.cells #[.int .u8 c.toNat] 5)) := (Below.refl _ _).alloc (Nat.le_refl _) _
  obtain ⟨v', W2, hra, q1, q2, -⟩ := own_big elB (ys := [c]) (sp := some ⟨W1.heap.size, 0, none⟩) (cap := 1) 56 (OwnG.below ho ba) (fun h => by cases h) (oneG_rows (x := c) (heap_alloc_new W1 _)) (by simp; omega) (by simp; omega)
  obtain ⟨sp', cap', rfl⟩ := OwnG.shape q1
  have hrA : (W1.alloc (.cells #[.int .u8 c.toNat] 5)).heap[b]? = some (.cells #[p, .slice sp l.length cap] 58 (0, 0)) := (ba.block b (lt_of_row hr)).trans hr
  have PUT : Hid (WrP B b (l ++ [c]) w (W2.setCell ⟨b, 1, none⟩ (.slice sp' (l ++ [c]).length cap'))) := wr_put hB hp hrA (OwnG.below ho ba) (b1.alloc hw1 _) (k1.alloc _) (by simp; omega) q2 q1
  have hr2 : W2.heap[b]? = some (.cells #[p, .slice sp l.length cap] 58 (0, 0)) := (q2.block b (lt_of_row hrA) (fun e => OwnG.nb (OwnG.below ho ba) hrA (by decide) e.symm)).trans hrA
  have c1 : W1.cell? ⟨b, 1, none⟩ = some (.slice sp l.length cap) := (cell_of_row _ _ 1 _ _ _ hr).trans rfl
  have d1 : W2.cell? ⟨b, 1, none⟩ = some (.slice sp l.length cap) := (cell_of_row _ _ 1 _ _ _ hr2).trans rfl
  have z1 : W2.frozen? ⟨b, 1, none⟩ = false := frozen_of_row _ _ _ _ _ hr2
  have hlen : (l ++ [c]).length = l.length + 1 := by simp
  rw [hlen] at hra PUT
  clear q1 q2 hr2 hrA ba ho hr h1 b1 k1 s1
  go_wp2_with (at_builtin; refine list_appendg (.tmp 11) (.tmp 13) 56 (by rfl) (by rfl) (by rfl) (by rfl) hra ?_)
  go_ret
  exact ⟨rfl, PUT.out⟩
/-- The text of tokens, from here on. -/
def prtF (acc : List UInt8) (fresh : Bool) : List Tok → List UInt8
  | [] => acc
  | t :: r => if bareB t then prtF (acc ++ [10] ++ t.text.data.toList) true r else prtF (acc ++ (if fresh then [] else [32]) ++ t.text.data.toList) false r
def prtO (ts : List Tok) : Value := if chkO ts ≠ 0 then .tuple #[.string ⟨#[]⟩, .int .i64 (chkO ts)] else if 4096 < (prtF [] true ts).length then .tuple #[.string ⟨#[]⟩, .int .i64 3] else .tuple #[.string (strU (prtF [] true ts)), .int .i64 0]
theorem aln_small {t : Tok} (h : alnB t = true) : t.text.size ≤ 4096 := by
  unfold alnB lexO at h
  have e : t.text.size = t.text.data.toList.length := by simp
  by_cases h4 : 4096 < t.text.data.toList.length
  · rw [if_pos h4] at h
    cases h
  · omega
theorem bare_small {t : Tok} (h : bareB t = true) : t.text.size = 0 := by
  unfold bareB at h
  rw [Bool.and_eq_true] at h
  have h2 := h.2
  rw [List.isEmpty_iff] at h2
  rw [ByteArray.toList_eq] at h2
  have e : t.text.size = t.text.data.toList.length := by simp
  rw [e, h2]
  rfl
theorem chk_small : ∀ (ts : List Tok) (last : Tok), chkF last ts = true → ∀ t ∈ ts, t.text.size ≤ 4096
  | [], _, _ => fun t ht => by simp at ht
  | x :: r, last, h => fun t ht => by
    rw [chkF] at h
    cases hb : bareB x with
    | true =>
      rw [hb] at h
      rcases List.mem_cons.1 ht with rfl | ht
      · have := bare_small hb; omega
      · cases hc : clo last with
        | true => rw [hc] at h; exact chk_small r x h t ht
        | false => rw [hc] at h; cases h
    | false =>
      rw [hb] at h
      cases ha : alnB x with
      | true =>
        rw [ha] at h
        rcases List.mem_cons.1 ht with rfl | ht
        · exact aln_small ha
        · exact chk_small r x h t ht
      | false => rw [ha] at h; cases h
theorem chkO_zero {ts : List Tok} (h : chkO ts = 0) : ts.length ≤ 1024 ∧ ∀ t ∈ ts, t.text.size ≤ 4096 := by
  unfold chkO at h
  by_cases h4 : 1024 < ts.length
  · rw [if_pos h4] at h; cases h
  · rw [if_neg h4] at h
    cases hc : chkF ⟨0, ⟨#[]⟩, 0⟩ ts with
    | true => exact ⟨by omega, chk_small ts _ hc⟩
    | false => rw [hc] at h; cases h
/-- Does a token here stand at the beginning, or behind an end without Text? -/
def frB (ts : List Tok) : Nat → Bool
  | 0 => true
  | k + 1 => match ts[k]? with | some y => bareB y | none => true
/-- The facts that last for a round. -/
structure PrFx (w : World) (K M : Nat) (x : Tok) (acc : List UInt8) (W : World) : Prop where
  b : Below w.heap.size w W
  d : Bld w.heap.size K acc W
  x : W.heap[M]? = some (.cells x.cells 60 (0, 0))
theorem PrFx.below {w : World} {K M : Nat} {x : Tok} {acc : List UInt8} {W W' : World} (h : PrFx w K M x acc W) (hb : Below W.heap.size W W') : PrFx w K M x acc W' :=
  ⟨h.b.trans (hb.mono h.b.size), h.d.below hb, (hb.block _ (lt_of_row h.x)).trans h.x⟩
theorem PrFx.wr {w : World} {K M : Nat} {x : Tok} {acc acc' : List UInt8} {W W' : World} (h : PrFx w K M x acc W) (hk : M ≠ K) (hb : WrP w.heap.size K acc' W W') : PrFx w K M x acc' W' :=
  ⟨h.b.trans hb.2.1, hb.1, hb.2.2 _ _ h.x (fun e => hk (by injection e)) (fun c fz e => by injection e with _ e _; exact absurd e (by decide))⟩
theorem PrFx.c {w : World} {K M : Nat} {x : Tok} {acc : List UInt8} {W : World} (h : PrFx w K M x acc W) : W.cell? ⟨M, 0, none⟩ = some (.int .i64 x.kind) ∧ W.cell? ⟨M, 1, none⟩ = some (.string x.text) ∧ W.cell? ⟨M, 2, none⟩ = some (.int .i64 x.pos) :=
  ⟨(cell_of_row _ _ 0 _ _ _ h.x).trans rfl, (cell_of_row _ _ 1 _ _ _ h.x).trans rfl, (cell_of_row _ _ 2 _ _ _ h.x).trans rfl⟩
set_option maxRecDepth 100000 in
set_option maxHeartbeats 2000000 in
theorem print_any (sp : Option Addr) (cap : Nat) (ts : List Tok) (w : World) (hr : RowsT w sp ts) (hm : ts.length ≤ 100000) :
    Calls Tryz.prog 11 #[.slice sp ts.length cap] w fun e w' => e = .returned (prtO ts) ∧ Below w.heap.size w w' := by
  have HR : Hid (RowsT w sp ts) := hr
  clear hr
  go_enter Tryz.func11, Tryz.ntmps11
  go_wp2_with fail
  refine (check_any sp cap ts w HR.out hm).mono ?_
  rintro e W1 ⟨rfl, b1⟩
  by_cases hc : chkO ts = 0
  · obtain ⟨hl, hsm⟩ := chkO_zero hc
    have HSM : Hid (∀ t ∈ ts, t.text.size ≤ 4096) := hsm
    have HP : Hid (prtO ts = if 4096 < (prtF [] true ts).length then .tuple #[.string ⟨#[]⟩, .int .i64 3] else .tuple #[.string (strU (prtF [] true ts)), .int .i64 0]) := by unfold prtO; rw [if_neg (by rw [hc]; simp)]; exact rfl
    rw [hc]
    clear hsm hc
    go_wp2
    obtain ⟨K, HK⟩ : ∃ K, Hid (W1.heap.size = K) := ⟨_, rfl⟩
    have hB0 : Hid (Bld w.heap.size K [] (W1.alloc (.cells #[.pointer none, .slice none 0 0] 58))) := by rw [← HK.out]; exact Bld.of b1.size (.inl rfl) (heap_alloc_new _ _) (ownG_nil _ _)
    have bw1 : Hid (Below w.heap.size w (W1.alloc (.cells #[.pointer none, .slice none 0 0] 58))) := b1.alloc b1.size _
    rw [HK.out]
    clear HK b1
    go_loopw [15] (fun i wr => ∃ (t : Nat) (acc : List UInt8), t ≤ ts.length ∧ i = .int .i64 t ∧ Bld w.heap.size K acc wr ∧ Below w.heap.size w wr ∧ acc.length ≤ 4097 * t ∧ prtF acc (frB ts t) (ts.drop t) = prtF [] true ts) (fun i _ => ts.length - (intOf i).toNat)
    case atStart => exact ⟨0, [], Nat.zero_le _, rfl, hB0.out, bw1.out, Nat.zero_le _, rfl⟩
    case round =>
      clear hB0 bw1
      obtain ⟨t, acc, ht, rfl, hbl, hB, hac, hpr⟩ := hrel
      have HBL : Hid (Bld w.heap.size K acc wr) := hbl
      have HB : Hid (Below w.heap.size w wr) := hB
      have HPR : Hid (prtF acc (frB ts t) (ts.drop t) = prtF [] true ts) := hpr
      clear hbl hB hpr
      by_cases hlt : t < ts.length
      · have hd : decide ((t : Int) < ts.length) = true := by simp; omega
        obtain ⟨b, o, rfl, -⟩ := HR.out (by omega)
        obtain ⟨x, hx⟩ : ∃ x, ts[t]? = some x := ⟨_, List.getElem?_eq_getElem (by omega)⟩
        obtain ⟨k0, k1, k2⟩ := tok_cell (RowsAt.below HR.out HB.out) hx
        have hxs : x.text.size ≤ 4096 := HSM.out x (List.mem_of_getElem? hx)
        have HX : Hid (ts[t]? = some x) := hx
        have HD : Hid (ts.drop t = x :: ts.drop (t + 1)) := by
          have hg := List.getElem?_eq_some_iff.1 hx
          show ts.drop t = x :: ts.drop (t + 1)
          rw [← List.getElem_cons_drop (h := hlt), hg.2]
        clear hx
        have GO : Hid (∀ (acc' : List UInt8) (W : World), Bld w.heap.size K acc' W → Below w.heap.size w W → acc'.length ≤ acc.length + 1 + x.text.size → prtF acc (frB ts t) (ts.drop t) = prtF acc' (bareB x) (ts.drop (t + 1)) → (∃ (t' : Nat) (acc : List UInt8), t' ≤ ts.length ∧ Value.int .i64 ((t : Int) + 1) = .int .i64 t' ∧ Bld w.heap.size K acc W ∧ Below w.heap.size w W ∧ acc.length ≤ 4097 * t' ∧ prtF acc (frB ts t') (ts.drop t') = prtF [] true ts) ∧ ts.length - (intOf (.int .i64 ((t : Int) + 1))).toNat < ts.length - (intOf (.int .i64 (t : Int))).toNat) := fun acc' W h1 h2 h3 h4 => by
          refine ⟨⟨t + 1, acc', by omega, by congr 1, h1, h2, by omega, ?_⟩, ?_⟩
          · rw [← HPR.out, h4, frB, HX.out]
          · show ts.length - ((t : Int) + 1).toNat < ts.length - (t : Int).toNat
            omega
        go_wp2_with fail
        obtain ⟨M, HM⟩ : ∃ M, Hid (wr.heap.size = M) := ⟨_, rfl⟩
        have hMK : M ≠ K := fun e => by
          obtain ⟨-, p, v, -, hr, -⟩ := HBL.out.row
          have := lt_of_row hr
          have := HM.out
          omega
        refine calls_gen (fun W => PrFx w K M x acc W) ⟨HB.out.alloc HB.out.size _, HBL.out.below ((Below.refl _ _).alloc (Nat.le_refl _) _), by rw [← HM.out]; exact heap_alloc_new _ _⟩ ?_
        intro W2 f2
        rw [HM.out]
        clear k0 k1 k2 HB HBL HM
        refine (bare_any x W2).mono ?_
        rintro e W3 ⟨rfl, b3⟩
        have F3 : Hid (PrFx w K M x acc W3) := f2.below b3
        clear f2 b3
        cases hbx : bareB x
        · by_cases h0 : t = 0
          · subst h0
            obtain ⟨k0, k1, k2⟩ := F3.out.c
            go_wp2_with fail
            refine (writeString_any w.heap.size K acc x.text W3 F3.out.d (by omega) F3.out.b.size).mono ?_
            rintro e W5 ⟨rfl, h5⟩
            have F5 : Hid (PrFx w K M x (acc ++ x.text.data.toList) W5) := F3.out.wr hMK h5
            have G5 : Hid _ := GO.out _ W5 F5.out.d F5.out.b (by simp) (by rw [HD.out, prtF, hbx, frB]; simp)
            clear F3 F5 GO h5 k0 k1 k2
            go_wp2
            exact G5.out
          · obtain ⟨y, hy⟩ : ∃ y, ts[t - 1]? = some y := ⟨_, List.getElem?_eq_getElem (by omega)⟩
            have hd0 : decide ((0 : Int) < (t : Int)) = true := by simp; omega
            obtain ⟨k0, k1, k2⟩ := tok_cell (RowsAt.below HR.out F3.out.b) hy
            have HFR : Hid (frB ts t = bareB y) := by
              obtain ⟨k, rfl⟩ : ∃ k, t = k + 1 := ⟨t - 1, by omega⟩
              rw [Nat.add_sub_cancel] at hy
              show frB ts (k + 1) = bareB y
              rw [frB, hy]
            go_wp2_with fail
            refine (bare_any y W3).mono ?_
            rintro e W4 ⟨rfl, b4⟩
            have F4 : Hid (PrFx w K M x acc W4) := F3.out.below b4
            clear F3 b4 k0 k1 k2 hy
            obtain ⟨k0, k1, k2⟩ := F4.out.c
            cases hby : bareB y
            · have hwb := (writeByte_big w.heap.size K acc 32 W4 F4.out.d (by omega) F4.out.b.size)
              go_wp2_with fail
              refine hwb.mono ?_
              rintro e W5 ⟨rfl, h5⟩
              have F5 : Hid (PrFx w K M x (acc ++ [32]) W5) := F4.out.wr hMK h5
              clear k0 k1 k2 F4 h5 hwb
              obtain ⟨k0, k1, k2⟩ := F5.out.c
              go_wp2_with fail
              refine (writeString_any w.heap.size K (acc ++ [32]) x.text W5 F5.out.d (by simp; omega) F5.out.b.size).mono ?_
              rintro e W6 ⟨rfl, h6⟩
              have F6 : Hid (PrFx w K M x (acc ++ [32] ++ x.text.data.toList) W6) := F5.out.wr hMK h6
              have G6 : Hid _ := GO.out _ W6 F6.out.d F6.out.b (by simp; omega) (by rw [HD.out, prtF, hbx, HFR.out, hby]; rfl)
              clear F5 F6 GO h6 k0 k1 k2
              go_wp2
              exact G6.out
            · go_wp2_with fail
              refine (writeString_any w.heap.size K acc x.text W4 F4.out.d (by omega) F4.out.b.size).mono ?_
              rintro e W5 ⟨rfl, h5⟩
              have F5 : Hid (PrFx w K M x (acc ++ x.text.data.toList) W5) := F4.out.wr hMK h5
              have G5 : Hid _ := GO.out _ W5 F5.out.d F5.out.b (by simp) (by rw [HD.out, prtF, hbx, HFR.out, hby]; simp)
              clear F4 F5 GO h5 k0 k1 k2
              go_wp2
              exact G5.out
        · have hwb := (writeByte_big w.heap.size K acc 10 W3 F3.out.d (by omega) F3.out.b.size)
          go_wp2_with fail
          refine hwb.mono ?_
          rintro e W4 ⟨rfl, h4⟩
          have F4 : Hid (PrFx w K M x (acc ++ [10]) W4) := F3.out.wr hMK h4
          obtain ⟨k0, k1, k2⟩ := F4.out.c
          clear F3 h4 hwb
          go_wp2_with fail
          refine (writeString_any w.heap.size K (acc ++ [10]) x.text W4 F4.out.d (by simp; omega) F4.out.b.size).mono ?_
          rintro e W5 ⟨rfl, h5⟩
          have F5 : Hid (PrFx w K M x (acc ++ [10] ++ x.text.data.toList) W5) := F4.out.wr hMK h5
          have G5 : Hid _ := GO.out _ W5 F5.out.d F5.out.b (by simp; omega) (by rw [HD.out, prtF, hbx]; exact rfl)
          clear F4 F5 GO h5 k0 k1 k2
          go_wp2
          exact G5.out
      · have hd : decide ((t : Int) < ts.length) = false := by simp; omega
        have hdn : ts.drop t = [] := List.drop_eq_nil_iff.2 (by omega)
        have HE : Hid (prtF [] true ts = acc) := by rw [← HPR.out, hdn]; exact rfl
        have hBb : Lib.IsBuilder 58 5 w.heap.size K (Lib.byteCells acc) wr := HBL.out
        rw [HE.out] at HP
        clear hdn HPR HE
        go_wp2_with fail
        refine (Tryz.Builder_Len w.heap.size K (Lib.byteCells acc) wr hBb).mono ?_
        rintro e W3 ⟨rfl, rfl⟩
        rw [Lib.byteCells_length]
        by_cases h4 : 4096 < acc.length
        · have h4' : (acc.length : Int) > 4096 := by omega
          go_wp2
          go_ret2
          refine ⟨?_, HB.out⟩
          rw [HP.out, if_pos h4]
          exact rfl
        · have h4' : ¬ (acc.length : Int) > 4096 := by omega
          go_wp2_with fail
          refine (Tryz.Builder_String_any w.heap.size K acc W3 hBb HB.out.size).mono ?_
          rintro e W6 ⟨rfl, b6⟩
          go_wp2
          go_ret2
          refine ⟨?_, HB.out.trans b6⟩
          rw [HP.out, if_neg h4]
          exact rfl
  · have HP : Hid (prtO ts = .tuple #[.string ⟨#[]⟩, .int .i64 (chkO ts)]) := by unfold prtO; rw [if_pos hc]; exact rfl
    have hc' : (chkO ts != 0) = true := by simpa using hc
    generalize chkO ts = c at hc' HP ⊢
    clear hc
    go_wp2
    go_ret2
    refine ⟨?_, b1⟩
    rw [HP.out]
    exact rfl
end Go.Proofs.YtbadafkfjfbnlaaGreatDoor

namespace Go.Proofs.YtbadafkfjfbnlaaGreatDoor
open Go.RowKit

/-- What may come behind a token that was printed. -/
def SepB (R : List UInt8) : Prop := R = [] ∨ ∃ c r, R = c :: r ∧ (c.toNat = 32 ∨ c.toNat = 10)
theorem run_sep {p : UInt8 → Bool} {R : List UInt8} (hp : ∀ c : UInt8, c.toNat = 32 ∨ c.toNat = 10 → p c = false) (hR : SepB R) : ∀ L : List UInt8, runN p L = L.length → runN p (L ++ R) = L.length
  | [], _ => by
    rcases hR with rfl | ⟨c, r, rfl, hc⟩
    · rfl
    · rw [List.nil_append, runN_cons, hp c hc]
      rfl
  | a :: L, h => by
    rw [runN_cons, List.length_cons] at h
    rw [List.cons_append, runN_cons, List.length_cons]
    cases ha : p a with
    | false => rw [ha] at h; simp at h
    | true =>
      rw [ha] at h
      simp only [if_true] at h ⊢
      rw [run_sep hp hR L (by omega)]
theorem run_sep0 {p : UInt8 → Bool} {R : List UInt8} (hp : ∀ c : UInt8, c.toNat = 32 ∨ c.toNat = 10 → p c = false) (hR : SepB R) : runN p R = 0 := run_sep hp hR [] rfl
theorem unqA_app (R : List UInt8) : ∀ (m : Nat) (L acc : List UInt8) (i : Nat) (v : List UInt8 × Nat), L.length ≤ m → unqA acc i L = some v → unqA acc i (L ++ R) = some v := by
  intro m
  induction m with
  | zero =>
    intro L acc i v hm h
    have : L = [] := List.eq_nil_of_length_eq_zero (by omega)
    subst this
    rw [unqA] at h
    cases h
  | succ m ih =>
    intro L acc i v hm h
    cases L with
    | nil => rw [unqA] at h; cases h
    | cons c r =>
      rw [List.length_cons] at hm
      rw [unqA_cons] at h
      rw [List.cons_append, unqA_cons]
      by_cases h1 : c.toNat = 34
      · rw [if_pos h1] at h ⊢
        exact h
      · rw [if_neg h1] at h ⊢
        by_cases h2 : c.toNat = 92
        · rw [if_pos h2] at h ⊢
          cases r with
          | nil => cases h
          | cons d r' =>
            rw [List.length_cons] at hm
            simp only [List.cons_append]
            cases hp : pairU d with
            | none => simp only [hp] at h; cases h
            | some x =>
              simp only [hp] at h ⊢
              exact ih r' _ _ _ (by omega) h
        · rw [if_neg h2] at h ⊢
          cases hp : plnB c.toNat with
          | false => rw [hp] at h; simp at h
          | true =>
            rw [hp] at h
            simp only [if_true] at h ⊢
            exact ih r _ _ _ (by omega) h
theorem sepC (c : UInt8) (h : c.toNat = 32 ∨ c.toNat = 10) : clsI c.toNat = 1 ∨ clsI c.toNat = 2 := by
  rcases h with h | h
  · rw [h]; exact .inl rfl
  · rw [h]; exact .inr rfl
theorem sep34 (c : UInt8) (h : c.toNat = 32 ∨ c.toNat = 10) : inC [3, 4] c = false ∧ inC [4] c = false ∧ inC [3] c = false := by
  unfold inC
  rcases sepC c h with h | h <;> rw [h] <;> exact ⟨rfl, rfl, rfl⟩
/-- A token that fills a text stands so ahead of what may come behind it. -/
theorem look_app {L R : List UInt8} {k : Int} (h : lookR L false = (k, L.length, 0)) (hk : k ≠ 0) (hL : L ≠ []) (hR : SepB R) (en : Bool) : lookR (L ++ R) en = (k, L.length, 0) := by
  cases L with
  | nil => exact absurd rfl hL
  | cons c r =>
    rw [List.cons_append]
    unfold lookR at h ⊢
    simp only at h ⊢
    by_cases c2 : clsI c.toNat = 2
    · rw [if_pos c2] at h
      simp at h
      exact absurd h.1.symm hk
    rw [if_neg c2] at h ⊢
    by_cases c1 : clsI c.toNat = 1
    · rw [if_pos c1] at h
      simp at h
      exact absurd h.1.symm hk
    rw [if_neg c1] at h ⊢
    by_cases c6 : clsI c.toNat = 6
    · rw [if_pos c6] at h ⊢
      exact h
    rw [if_neg c6] at h ⊢
    by_cases c3 : clsI c.toNat = 3
    · rw [if_pos c3] at h ⊢
      injection h with h1 h
      rw [← h1]
      congr 1
      unfold wordR at h ⊢
      by_cases hw : runN (inC [3, 4]) (c :: r) > 24
      · rw [if_pos hw] at h; injection h with _ h; cases h
      · rw [if_neg hw] at h
        injection h with h _
        have := run_sep (fun c hc => (sep34 c hc).1) hR (c :: r) h
        rw [List.cons_append] at this
        rw [this, if_neg (by omega)]
    rw [if_neg c3] at h ⊢
    by_cases c4 : clsI c.toNat = 4
    · rw [if_pos c4] at h ⊢
      injection h with h1 h
      rw [← h1]
      congr 1
      unfold numR at h ⊢
      split at h
      · injection h with _ h; cases h
      · rename_i hn
        injection h with h _
        have e1 := run_sep (fun c hc => (sep34 c hc).2.1) hR (c :: r) h
        rw [List.cons_append] at e1
        rw [h] at hn
        rw [e1]
        have e2 : (c :: (r ++ R)).take (c :: r).length = c :: r := by rw [← List.cons_append]; exact List.take_left
        have e3 : (c :: (r ++ R)).drop (c :: r).length = R := by rw [← List.cons_append]; exact List.drop_left
        rw [e2, e3, run_sep0 (fun c hc => (sep34 c hc).2.2) hR]
        rw [List.take_length] at hn
        rw [if_neg (fun hh => hn (hh.elim .inl (fun hh => absurd hh (by omega))))]
    rw [if_neg c4] at h ⊢
    by_cases c5 : clsI c.toNat = 5
    · rw [if_pos c5] at h ⊢
      injection h with h1 h
      rw [← h1]
      congr 1
      unfold quoR unqO at h ⊢
      by_cases h34 : c.toNat = 34
      · simp only [h34, if_true] at h ⊢
        cases hu : unqA [] 1 r with
        | none => rw [hu] at h; injection h with _ h; cases h
        | some v =>
          rw [hu] at h
          rw [unqA_app R _ r [] 1 v (Nat.le_refl _) hu]
          exact h
      · simp only [h34, if_false] at h
        injection h with _ h
        cases h
    rw [if_neg c5] at h ⊢
    by_cases cp : Lib.hasPrefix (c :: r) [47, 47] = true
    · rw [if_pos cp] at h
      simp at h
      exact absurd h.1.symm hk
    rw [if_neg cp] at h
    have cp' : ¬ Lib.hasPrefix (c :: (r ++ R)) [47, 47] = true := by
      intro hh
      apply cp
      unfold Lib.hasPrefix at hh ⊢
      cases r with
      | cons d r' => simpa [List.isPrefixOf] using hh
      | nil =>
        rcases hR with rfl | ⟨d, R', rfl, hd⟩
        · exact hh
        · exfalso
          simp [List.isPrefixOf] at hh
          obtain ⟨-, rfl⟩ := hh
          exact absurd hd (by decide)
    rw [if_neg cp']
    injection h with h1 h
    rw [← h1]
    congr 1
    unfold sigR at h ⊢
    by_cases s2 : sig2 ((c :: r).take 2) = true
    · rw [if_pos s2] at h
      injection h with h _
      cases r with
      | nil => simp at h
      | cons d r' =>
        cases r' with
        | cons => simp at h
        | nil =>
          have e : (c :: ([d] ++ R)).take 2 = (c :: [d]).take 2 := rfl
          rw [e, if_pos s2]
          rfl
    · rw [if_neg s2] at h
      simp only at h ⊢
      split at h
      · rename_i s1
        injection h with h _
        have hr : r = [] := by
          cases r with
          | nil => rfl
          | cons => simp at h
        subst hr
        have s2' : ¬ sig2 ((c :: ([] ++ R)).take 2) = true := by
          rcases hR with rfl | ⟨d, R', rfl, hd⟩
          · exact s2
          · intro hh
            rw [List.nil_append] at hh
            simp only [List.take, sig2, Bool.or_eq_true, beq_iff_eq, List.cons.injEq, and_true] at hh
            have hd' : d = 61 ∨ d = 38 ∨ d = 124 := by
              rcases hh with (((((⟨-, h⟩ | ⟨-, h⟩) | ⟨-, h⟩) | ⟨-, h⟩) | ⟨-, h⟩) | ⟨-, h⟩) | ⟨-, h⟩
              all_goals simp [h]
            rcases hd' with rfl | rfl | rfl <;> exact absurd hd (by decide)
        rw [if_neg s2', if_pos s1]
        rfl
      · injection h with _ h; cases h
end Go.Proofs.YtbadafkfjfbnlaaGreatDoor

namespace Go.Proofs.YtbadafkfjfbnlaaGreatDoor
open Go.RowKit

/-- A token told from place p on is no longer than what is left. -/
theorem lex_len {L : List UInt8} : ∀ (f p : Nat) (ts : List Tok), ∀ x ∈ (lexG L f p ts).1, x ∈ ts ∨ x.text.data.toList.length ≤ L.length - p := by
  intro f
  induction f with
  | zero => exact fun p ts x hx => .inl hx
  | succ f ih =>
    intro p ts x hx
    obtain ⟨k, n, e, hl⟩ : ∃ k n e, lookR (L.drop p) (clo (lastT ts)) = (k, n, e) := ⟨_, _, _, rfl⟩
    by_cases h1 : p < L.length ∨ clo (lastT ts) = true
    · by_cases he : e = 0
      · subst he
        by_cases hk : k = 0
        · subst hk
          rw [lexG_gap h1 hl] at hx
          rcases ih _ _ x hx with h | h
          · exact .inl h
          · exact .inr (by omega)
        · by_cases ht : ts.length = 1024
          · rw [lexG_full h1 hl hk ht] at hx
            simp at hx
          · rw [lexG_tok h1 hl hk ht] at hx
            rcases ih _ _ x hx with h | h
            · rcases List.mem_append.1 h with h | h
              · exact .inl h
              · rw [List.mem_singleton] at h
                subst h
                refine .inr ?_
                show ((L.drop p).take n).length ≤ _
                rw [List.length_take, List.length_drop]
                omega
            · exact .inr (by omega)
      · rw [lexG_err h1 hl he] at hx
        simp at hx
    · rw [lexG, if_neg h1] at hx
      exact .inl hx
/-- Tokens that were told stay ahead. -/
theorem lex_pre {L : List UInt8} : ∀ (f p : Nat) (ts : List Tok), (lexG L f p ts).1 = [] ∨ ∃ z, (lexG L f p ts).1 = ts ++ z := by
  intro f
  induction f with
  | zero => exact fun p ts => .inr ⟨[], by rw [List.append_nil]; rfl⟩
  | succ f ih =>
    intro p ts
    obtain ⟨k, n, e, hl⟩ : ∃ k n e, lookR (L.drop p) (clo (lastT ts)) = (k, n, e) := ⟨_, _, _, rfl⟩
    by_cases h1 : p < L.length ∨ clo (lastT ts) = true
    · by_cases he : e = 0
      · subst he
        by_cases hk : k = 0
        · subst hk
          rw [lexG_gap h1 hl]
          exact ih _ _
        · by_cases ht : ts.length = 1024
          · rw [lexG_full h1 hl hk ht]
            exact .inl rfl
          · rw [lexG_tok h1 hl hk ht]
            rcases ih (p + n) (ts ++ [⟨k, strU ((L.drop p).take n), p⟩]) with h | ⟨z, h⟩
            · exact .inl h
            · exact .inr ⟨_, by rw [h, List.append_assoc]⟩
      · rw [lexG_err h1 hl he]
        exact .inl rfl
    · rw [lexG, if_neg h1]
      exact .inr ⟨[], by rw [List.append_nil]⟩
/-- A token that is one by itself fills its text. -/
theorem aln_look {t : Tok} (h : alnB t = true) : lookR t.text.data.toList false = (t.kind, t.text.data.toList.length, 0) ∧ t.kind ≠ 0 ∧ t.text.data.toList ≠ [] := by
  have h4 := aln_small h
  have e4 : t.text.size = t.text.data.toList.length := by simp
  unfold alnB lexO at h
  generalize hLe : t.text.data.toList = L at h e4 ⊢
  rw [if_neg (by omega)] at h
  by_cases h0 : 0 < L.length
  · obtain ⟨k, n, e, hl⟩ : ∃ k n e, lookR (L.drop 0) (clo (lastT [])) = (k, n, e) := ⟨_, _, _, rfl⟩
    have hl' : lookR L false = (k, n, e) := hl
    by_cases he : e = 0
    · subst he
      have hs := look_size hl' (fun e => by rw [e] at h0; simp at h0)
      by_cases hk : k = 0
      · subst hk
        rw [lexG_gap (.inl h0) hl] at h
        exfalso
        have hx := lex_len (L := L) (2 * L.length) (0 + n) []
        cases hr : (lexG L (2 * L.length) (0 + n) []).1 with
        | nil => rw [hr] at h; cases h
        | cons x xs =>
          rw [hr] at h hx
          have h5 := hx x (by simp)
          simp only [tkEq, Bool.and_eq_true, beq_iff_eq] at h
          rw [ByteArray.toList_eq, ByteArray.toList_eq, hLe] at h
          rw [h.2] at h5
          rcases h5 with h5 | h5
          · simp at h5
          · rcases hs.2 with h6 | h6
            · omega
            · exact absurd h6.1 (by decide)
      · rw [lexG_tok (.inl h0) hl hk (by simp)] at h
        rcases lex_pre (L := L) (2 * L.length) (0 + n) ([] ++ [⟨k, strU ((L.drop 0).take n), ((0 : Nat) : Int)⟩]) with h5 | ⟨z, h5⟩
        · rw [h5] at h; cases h
        · rw [h5] at h
          simp only [List.nil_append, List.cons_append, tkEq, Bool.and_eq_true, beq_iff_eq] at h
          rw [strU_list, ByteArray.toList_eq, hLe, List.drop_zero] at h
          have h6 := congrArg List.length h.2
          rw [List.length_take] at h6
          have hn : n = L.length := by omega
          rw [hl', hn, h.1]
          refine ⟨rfl, ?_, fun e => by rw [e] at h0; simp at h0⟩
          rw [← h.1]
          exact hk
    · rw [lexG_err (.inl h0) hl he] at h
      cases h
  · rw [lexG_end h0 rfl] at h
    cases h
theorem prtF_acc : ∀ (rs : List Tok) (acc : List UInt8) (fr : Bool), prtF acc fr rs = acc ++ prtF [] fr rs
  | [], acc, fr => by rw [prtF, prtF, List.append_nil]
  | t :: r, acc, fr => by
    rw [prtF, prtF]
    cases bareB t
    · simp only [Bool.false_eq_true, if_false]
      rw [prtF_acc r, prtF_acc r ([] ++ _ ++ _)]
      simp
    · simp only [if_true]
      rw [prtF_acc r, prtF_acc r ([] ++ _ ++ _)]
      simp
theorem sep_prt (rs : List Tok) : SepB (prtF [] false rs) := by
  cases rs with
  | nil => exact .inl rfl
  | cons t r =>
    rw [prtF]
    cases bareB t
    · simp only [Bool.false_eq_true, if_false]
      rw [prtF_acc]
      exact .inr ⟨32, _, by simp; rfl, .inl rfl⟩
    · simp only [if_true]
      rw [prtF_acc]
      exact .inr ⟨10, _, by simp; rfl, .inr rfl⟩
theorem bare_clo {t : Tok} (h : bareB t = true) : clo t = false ∧ t.kind = 5 ∧ t.text.toList = [] := by
  unfold bareB at h
  rw [Bool.and_eq_true, beq_iff_eq, List.isEmpty_iff] at h
  refine ⟨?_, h.1, h.2⟩
  unfold clo
  rw [h.1]
  rfl
theorem clo_tk {a b : Tok} (h : tkEq a b = true) : clo a = clo b := by
  unfold tkEq at h
  rw [Bool.and_eq_true, beq_iff_eq, beq_iff_eq] at h
  unfold clo
  rw [h.1, h.2]
theorem look_blank (r : List UInt8) (en : Bool) : lookR (32 :: r) en = (0, 1, 0) := rfl
theorem look_feed0 (r : List UInt8) : lookR (10 :: r) false = (0, 1, 0) := rfl
theorem look_feed1 (r : List UInt8) : lookR (10 :: r) true = (5, 0, 0) := rfl
theorem drop_one {L S : List UInt8} {p : Nat} {c : UInt8} (h : L.drop p = c :: S) : L.drop (p + 1) = S ∧ p < L.length := by
  refine ⟨by rw [← List.drop_drop, h]; rfl, ?_⟩
  by_cases hp : p < L.length
  · exact hp
  · rw [List.drop_eq_nil_of_le (by omega)] at h; cases h
theorem back_go (L : List UInt8) : ∀ (rs ds : List Tok) (last : Tok) (fr : Bool) (p f : Nat), L.drop p = prtF [] fr rs → p ≤ L.length → chkF last rs = true → clo (lastT ds) = clo last → ds.length + rs.length ≤ 1024 → lexMu L p ds < f →
    ∃ ms, lexG L f p ds = (ds ++ ms, 0, 0) ∧ eqAll tkEq rs ms = true := by
  intro rs
  induction rs with
  | nil =>
    intro ds last fr p f hd hp hc hcl hn hf
    obtain ⟨f, rfl⟩ : ∃ f', f = f' + 1 := ⟨f - 1, by omega⟩
    have hd' : L.drop p = [] := hd
    have hcl' : clo (lastT ds) = false := by rw [hcl]; simpa [chkF] using hc
    refine ⟨[], ?_, rfl⟩
    rw [List.append_nil]
    exact lexG_end (by have := congrArg List.length hd'; rw [List.length_drop] at this; simp at this; omega) hcl'
  | cons t r ih =>
    intro ds last fr p f hd hp hc hcl hn hf
    rw [List.length_cons] at hn
    rw [chkF] at hc
    rw [prtF] at hd
    cases hb : bareB t with
    | true =>
      rw [hb] at hc hd
      simp only [if_true] at hc hd
      cases hl : clo last with
      | false => rw [hl] at hc; simp at hc
      | true =>
        rw [hl] at hc hcl
        simp only [if_true] at hc
        obtain ⟨q1, q2, q3⟩ := bare_clo hb
        rw [ByteArray.toList_eq] at q3
        rw [q3, prtF_acc] at hd
        have hd' : L.drop p = 10 :: prtF [] true r := by rw [hd]; rfl
        obtain ⟨hd1, hlt⟩ := drop_one hd'
        obtain ⟨f, rfl⟩ : ∃ f', f = f' + 1 := ⟨f - 1, by omega⟩
        have hlk : lookR (L.drop p) (clo (lastT ds)) = (5, 0, 0) := by rw [hd', hcl]; rfl
        obtain ⟨-, hm1⟩ := mu_tok (.inl hlt) hp hlk (t := ⟨5, strU ((L.drop p).take 0), p⟩) rfl
        rw [lexG_tok (.inl hlt) hlk (by decide) (by omega)]
        rw [Nat.add_zero] at hm1 ⊢
        have hl1 : lastT (ds ++ [⟨5, strU ((L.drop p).take 0), (p : Int)⟩]) = ⟨5, strU [], p⟩ := by rw [lastT_push, List.take_zero]
        rw [List.take_zero] at hl1 hm1 ⊢
        have hlk2 : lookR (L.drop p) (clo (lastT (ds ++ [⟨5, strU [], (p : Int)⟩]))) = (0, 1, 0) := by rw [hl1, hd']; rfl
        obtain ⟨f, rfl⟩ : ∃ f', f = f' + 1 := ⟨f - 1, by omega⟩
        obtain ⟨-, hm2⟩ := mu_gap (.inl hlt) hp hlk2
        rw [lexG_gap (.inl hlt) hlk2]
        obtain ⟨ms, g1, g2⟩ := ih (ds ++ [⟨5, strU [], (p : Int)⟩]) t true (p + 1) f hd1 (by omega) hc (by rw [hl1, q1]; rfl) (by simp; omega) (by omega)
        refine ⟨⟨5, strU [], p⟩ :: ms, by rw [g1]; simp, ?_⟩
        rw [eqAll, g2]
        simp only [tkEq, q2, Bool.and_true, Bool.and_eq_true, beq_iff_eq]
        refine ⟨trivial, ?_⟩
        rw [strU_list, ByteArray.toList_eq, q3]
    | false =>
      rw [hb] at hc hd
      simp only [Bool.false_eq_true, if_false] at hc hd
      cases ha : alnB t with
      | false => rw [ha] at hc; simp at hc
      | true =>
        rw [ha] at hc
        simp only [if_true] at hc
        obtain ⟨q1, q2, q3⟩ := aln_look ha
        have key : ∀ (p f : Nat), L.drop p = t.text.data.toList ++ prtF [] false r → p ≤ L.length → lexMu L p ds < f → ∃ ms, lexG L f p ds = (ds ++ ms, 0, 0) ∧ eqAll tkEq (t :: r) ms = true := by
          intro p f hd hp hf
          obtain ⟨f, rfl⟩ : ∃ f', f = f' + 1 := ⟨f - 1, by omega⟩
          have hlt : p < L.length := by
            by_cases h : p < L.length
            · exact h
            · rw [List.drop_eq_nil_of_le (by omega)] at hd
              exact absurd (List.append_eq_nil_iff.1 hd.symm).1 q3
          have hlk : lookR (L.drop p) (clo (lastT ds)) = (t.kind, t.text.data.toList.length, 0) := by rw [hd]; exact look_app q1 q2 q3 (sep_prt r) _
          have htk : (L.drop p).take t.text.data.toList.length = t.text.data.toList := by rw [hd]; exact List.take_left
          obtain ⟨hm0, hm1⟩ := mu_tok (.inl hlt) hp hlk (t := ⟨t.kind, strU ((L.drop p).take t.text.data.toList.length), p⟩) rfl
          rw [lexG_tok (.inl hlt) hlk q2 (by omega)]
          rw [htk] at hm1 ⊢
          have hte : tkEq t ⟨t.kind, strU t.text.data.toList, p⟩ = true := by simp [tkEq, strU_of]
          have hd1 : L.drop (p + t.text.data.toList.length) = prtF [] false r := by rw [← List.drop_drop, hd]; exact List.drop_left
          obtain ⟨ms, g1, g2⟩ := ih (ds ++ [⟨t.kind, strU t.text.data.toList, (p : Int)⟩]) t false _ f hd1 hm0 hc (by rw [lastT_push]; exact (clo_tk hte).symm) (by simp; omega) (by omega)
          refine ⟨⟨t.kind, strU t.text.data.toList, p⟩ :: ms, by rw [g1]; simp, ?_⟩
          rw [eqAll, g2, hte]
          rfl
        cases fr with
        | true =>
          refine key p f ?_ hp hf
          rw [hd, prtF_acc]
          simp
        | false =>
          have hd' : L.drop p = 32 :: (t.text.data.toList ++ prtF [] false r) := by rw [hd, prtF_acc]; simp
          obtain ⟨hd1, hlt⟩ := drop_one hd'
          obtain ⟨f, rfl⟩ : ∃ f', f = f' + 1 := ⟨f - 1, by omega⟩
          have hlk : lookR (L.drop p) (clo (lastT ds)) = (0, 1, 0) := by rw [hd']; rfl
          obtain ⟨-, hm⟩ := mu_gap (.inl hlt) hp hlk
          rw [lexG_gap (.inl hlt) hlk]
          exact key (p + 1) f hd1 (by omega) (by omega)
/-- What was printed is lexed as it was. -/
theorem print_back {ts : List Tok} (h : chkO ts = 0) (hl : ¬ 4096 < (prtF [] true ts).length) : ∃ ms, lexO (prtF [] true ts) = (ms, 0, 0) ∧ eqAll tkEq ts ms = true := by
  unfold chkO at h
  by_cases h4 : 1024 < ts.length
  · rw [if_pos h4] at h; cases h
  rw [if_neg h4] at h
  cases hc : chkF ⟨0, ⟨#[]⟩, 0⟩ ts with
  | false => rw [hc] at h; cases h
  | true =>
    unfold lexO
    rw [if_neg hl]
    obtain ⟨ms, g1, g2⟩ := back_go (prtF [] true ts) ts [] ⟨0, ⟨#[]⟩, 0⟩ true 0 (2 * (prtF [] true ts).length + 1) rfl (Nat.zero_le _) hc rfl (by simp; omega) (by unfold lexMu; rw [lastT_nil]; simp [clo])
    exact ⟨ms, by rw [g1]; rfl, g2⟩
end Go.Proofs.YtbadafkfjfbnlaaGreatDoor

namespace Go.Proofs.YtbadafkfjfbnlaaGreatDoor
open Go.RowKit

theorem run_take {p : UInt8 → Bool} : ∀ (L : List UInt8) (m : Nat), runN p L ≤ m → runN p (L.take m) = runN p L
  | [], m, _ => by rw [List.take_nil]
  | a :: L, 0, h => by rw [List.take_zero, runN_nil]; omega
  | a :: L, m + 1, h => by
    rw [runN_cons] at h
    rw [List.take_succ_cons, runN_cons, runN_cons]
    cases ha : p a with
    | false => rfl
    | true =>
      rw [ha] at h
      simp only [if_true] at h ⊢
      rw [run_take L m (by omega)]
theorem unqA_take : ∀ (m : Nat) (L acc : List UInt8) (i : Nat) (v : List UInt8) (n : Nat), L.length ≤ m → unqA acc i L = some (v, n) → i < n ∧ n - i ≤ L.length ∧ unqA acc i (L.take (n - i)) = some (v, n) := by
  intro m
  induction m with
  | zero =>
    intro L acc i v n hm h
    have : L = [] := List.eq_nil_of_length_eq_zero (by omega)
    subst this
    rw [unqA] at h
    cases h
  | succ m ih =>
    intro L acc i v n hm h
    cases L with
    | nil => rw [unqA] at h; cases h
    | cons c r =>
      rw [List.length_cons] at hm ⊢
      rw [unqA_cons] at h
      by_cases h1 : c.toNat = 34
      · rw [if_pos h1] at h
        injection h with h
        injection h with h2 h3
        subst h2 h3
        refine ⟨by omega, by omega, ?_⟩
        rw [show i + 1 - i = 0 + 1 by omega, List.take_succ_cons, unqA_cons, if_pos h1]
      · rw [if_neg h1] at h
        by_cases h2 : c.toNat = 92
        · rw [if_pos h2] at h
          cases r with
          | nil => cases h
          | cons d r' =>
            rw [List.length_cons] at hm ⊢
            cases hp : pairU d with
            | none => simp only [hp] at h; cases h
            | some x =>
              simp only [hp] at h
              obtain ⟨q1, q2, q3⟩ := ih r' _ _ _ _ (by omega) h
              refine ⟨by omega, by omega, ?_⟩
              rw [show n - i = (n - (i + 2)) + 1 + 1 by omega, List.take_succ_cons, List.take_succ_cons, unqA_cons, if_neg h1, if_pos h2]
              simp only [hp]
              exact q3
        · rw [if_neg h2] at h
          cases hp : plnB c.toNat with
          | false => rw [hp] at h; simp at h
          | true =>
            rw [hp] at h
            simp only [if_true] at h
            obtain ⟨q1, q2, q3⟩ := ih r _ _ _ _ (by omega) h
            refine ⟨by omega, by omega, ?_⟩
            rw [show n - i = (n - (i + 1)) + 1 by omega, List.take_succ_cons, unqA_cons, if_neg h1, if_neg h2, hp]
            simp only [if_true]
            exact q3
/-- A token's own bytes are that token. -/
theorem look_cut {S : List UInt8} {en : Bool} {k : Int} {n : Nat} (h : lookR S en = (k, n, 0)) (hk : k ≠ 0) (hn : 0 < n) : lookR (S.take n) false = (k, n, 0) := by
  cases S with
  | nil =>
    simp only [lookR, Prod.mk.injEq] at h
    omega
  | cons c r =>
    obtain ⟨m, rfl⟩ : ∃ m, n = m + 1 := ⟨n - 1, by omega⟩
    rw [List.take_succ_cons]
    unfold lookR at h ⊢
    simp only at h ⊢
    by_cases c2 : clsI c.toNat = 2
    · rw [if_pos c2] at h
      split at h
      · simp at h
      · simp only [Prod.mk.injEq] at h
        exact absurd h.1.symm hk
    rw [if_neg c2] at h ⊢
    by_cases c1 : clsI c.toNat = 1
    · rw [if_pos c1] at h
      simp only [Prod.mk.injEq] at h
      exact absurd h.1.symm hk
    rw [if_neg c1] at h ⊢
    by_cases c6 : clsI c.toNat = 6
    · rw [if_pos c6] at h ⊢
      exact h
    rw [if_neg c6] at h ⊢
    by_cases c3 : clsI c.toNat = 3
    · rw [if_pos c3] at h ⊢
      injection h with h1 h
      rw [← h1]
      congr 1
      unfold wordR at h ⊢
      by_cases hw : runN (inC [3, 4]) (c :: r) > 24
      · rw [if_pos hw] at h; injection h with _ h; cases h
      · rw [if_neg hw] at h
        injection h with h _
        have e := run_take (p := inC [3, 4]) (c :: r) (m + 1) (by omega)
        rw [List.take_succ_cons] at e
        rw [e, if_neg hw, h]
    rw [if_neg c3] at h ⊢
    by_cases c4 : clsI c.toNat = 4
    · rw [if_pos c4] at h ⊢
      injection h with h1 h
      rw [← h1]
      congr 1
      unfold numR at h ⊢
      split at h
      · injection h with _ h; cases h
      · rename_i hq
        injection h with h _
        have e := run_take (p := inC [4]) (c :: r) (m + 1) (by omega)
        rw [List.take_succ_cons] at e
        rw [e]
        rw [h] at hq ⊢
        have e2 : (c :: r.take m).take (m + 1) = (c :: r).take (m + 1) := by rw [List.take_succ_cons, List.take_succ_cons, List.take_take, Nat.min_self]
        have e3 : (c :: r.take m).drop (m + 1) = [] := by rw [List.drop_succ_cons, List.drop_eq_nil_of_le (by rw [List.length_take]; omega)]
        rw [e2, e3, runN_nil]
        rw [if_neg (fun hh => hq (hh.elim .inl (fun hh => absurd hh (by omega))))]
    rw [if_neg c4] at h ⊢
    by_cases c5 : clsI c.toNat = 5
    · rw [if_pos c5] at h ⊢
      injection h with h1 h
      rw [← h1]
      congr 1
      unfold quoR unqO at h ⊢
      by_cases h34 : c.toNat = 34
      · simp only [h34, if_true] at h ⊢
        cases hu : unqA [] 1 r with
        | none => rw [hu] at h; injection h with _ h; cases h
        | some v =>
          obtain ⟨v, nn⟩ := v
          rw [hu] at h
          injection h with h _
          subst h
          have := (unqA_take _ r [] 1 v (m + 1) (Nat.le_refl _) hu).2.2
          rw [show m + 1 - 1 = m by omega] at this
          rw [this]
      · simp only [h34, if_false] at h
        injection h with _ h
        cases h
    rw [if_neg c5] at h ⊢
    by_cases cp : Lib.hasPrefix (c :: r) [47, 47] = true
    · rw [if_pos cp] at h
      simp only [Prod.mk.injEq] at h
      exact absurd h.1.symm hk
    rw [if_neg cp] at h
    injection h with h1 h
    rw [← h1]
    unfold sigR at h
    by_cases s2 : sig2 ((c :: r).take 2) = true
    · rw [if_pos s2] at h
      injection h with h _
      obtain rfl : m = 1 := by omega
      cases r with
      | nil => simp [sig2] at s2
      | cons d r' =>
        have cp' : ¬ Lib.hasPrefix (c :: (d :: r').take 1) [47, 47] = true := by
          intro hh
          apply cp
          unfold Lib.hasPrefix at hh ⊢
          simpa [List.isPrefixOf] using hh
        rw [if_neg cp']
        congr 1
        unfold sigR
        have e : (c :: (d :: r').take 1).take 2 = (c :: d :: r').take 2 := rfl
        rw [e, if_pos s2]
    · rw [if_neg s2] at h
      simp only at h
      split at h
      · rename_i s1
        injection h with h _
        obtain rfl : m = 0 := by omega
        rw [List.take_zero, if_neg (by simp [Lib.hasPrefix, List.isPrefixOf])]
        congr 1
        unfold sigR
        rw [if_neg (by simp [sig2])]
        simp only
        rw [if_pos s1]
      · injection h with _ h; cases h
/-- A gap is one too where less follows. -/
theorem look_gap {S : List UInt8} {en : Bool} {n m : Nat} (h : lookR S en = (0, n, 0)) (hm : n ≤ m) : lookR (S.take m) false = (0, n, 0) := by
  cases S with
  | nil => simp [lookR] at h
  | cons c r =>
    have hn := (look_size h (fun e => by cases e)).2
    have hn' : 0 < n := by
      rcases hn with hn | ⟨hn, -⟩
      · exact hn
      · exact absurd hn (by decide)
    obtain ⟨m, rfl⟩ : ∃ m', m = m' + 1 := ⟨m - 1, by omega⟩
    rw [List.take_succ_cons]
    unfold lookR at h ⊢
    simp only at h ⊢
    by_cases c2 : clsI c.toNat = 2
    · rw [if_pos c2] at h ⊢
      split at h
      · simp at h
      · exact h
    rw [if_neg c2] at h ⊢
    by_cases c1 : clsI c.toNat = 1
    · rw [if_pos c1] at h ⊢
      exact h
    rw [if_neg c1] at h ⊢
    by_cases c6 : clsI c.toNat = 6
    · rw [if_pos c6] at h; simp at h
    rw [if_neg c6] at h ⊢
    by_cases c3 : clsI c.toNat = 3
    · rw [if_pos c3] at h; simp at h
    rw [if_neg c3] at h ⊢
    by_cases c4 : clsI c.toNat = 4
    · rw [if_pos c4] at h; simp at h
    rw [if_neg c4] at h ⊢
    by_cases c5 : clsI c.toNat = 5
    · rw [if_pos c5] at h; simp at h
    rw [if_neg c5] at h ⊢
    by_cases cp : Lib.hasPrefix (c :: r) [47, 47] = true
    · rw [if_pos cp] at h
      simp only [Prod.mk.injEq] at h
      have hc := h.2.1
      unfold comN at hc
      have hn2 : 2 ≤ n := by
        cases r with
        | nil => simp [Lib.hasPrefix, List.isPrefixOf] at cp
        | cons d r' =>
          simp [Lib.hasPrefix, List.isPrefixOf] at cp
          obtain ⟨rfl, rfl⟩ := cp
          rw [runN_cons, runN_cons] at hc
          simp at hc
          omega
      have cp' : Lib.hasPrefix (c :: r.take m) [47, 47] = true := by
        cases r with
        | nil => rw [List.take_nil]; exact cp
        | cons d r' =>
          obtain ⟨m, rfl⟩ : ∃ m', m = m' + 1 := ⟨m - 1, by omega⟩
          rw [List.take_succ_cons]
          unfold Lib.hasPrefix at cp ⊢
          simpa [List.isPrefixOf] using cp
      have e := run_take (p := fun c => c != 10) (c :: r) (m + 1) (by omega)
      rw [List.take_succ_cons] at e
      rw [if_pos cp', comN, e, hc]
    · rw [if_neg cp] at h; simp at h
/-- Bytes in which no token begins. -/
inductive GapL : List UInt8 → Prop
  | nil : GapL []
  | step {S : List UInt8} {n : Nat} : S ≠ [] → lookR S false = (0, n, 0) → GapL (S.drop n) → GapL S
theorem GapL.go {S : List UInt8} (h : GapL S) : ∀ (G : List UInt8) (p f : Nat), G.drop p = S → p ≤ G.length → lexMu G p [] < f → lexG G f p [] = ([], 0, 0) := by
  induction h with
  | nil =>
    intro G p f hd hp hf
    obtain ⟨f, rfl⟩ : ∃ f', f = f' + 1 := ⟨f - 1, by omega⟩
    exact lexG_end (by have := congrArg List.length hd; rw [List.length_drop] at this; simp at this; omega) rfl
  | @step S n hS hl _ ih =>
    intro G p f hd hp hf
    obtain ⟨f, rfl⟩ : ∃ f', f = f' + 1 := ⟨f - 1, by omega⟩
    have hlt : p < G.length := by
      by_cases h : p < G.length
      · exact h
      · rw [List.drop_eq_nil_of_le (by omega)] at hd
        exact absurd hd.symm hS
    have hlk : lookR (G.drop p) (clo (lastT [])) = (0, n, 0) := by rw [hd]; exact hl
    obtain ⟨h1, h2⟩ := mu_gap (.inl hlt) hp hlk
    rw [lexG_gap (.inl hlt) hlk]
    exact ih G (p + n) f (by rw [← List.drop_drop, hd]) h1 (by omega)
theorem GapL.lexO {S : List UInt8} (h : GapL S) (hl : S.length ≤ 4096) : lexO S = ([], 0, 0) := by
  unfold Go.Proofs.YtbadafkfjfbnlaaGreatDoor.lexO
  rw [if_neg (by omega)]
  exact h.go S 0 _ rfl (Nat.zero_le _) (by unfold lexMu; rw [lastT_nil]; simp [clo])
/-- Tokens stand where they say from place e on, and between them there is nothing. -/
def StL (L : List UInt8) : Nat → List Tok → Prop
  | e, [] => GapL (L.drop e)
  | e, t :: r => ∃ a : Nat, t.pos = a ∧ e ≤ a ∧ a + t.text.data.toList.length ≤ L.length ∧ (L.drop a).take t.text.data.toList.length = t.text.data.toList ∧ GapL ((L.drop e).take (a - e)) ∧ StL L (a + t.text.data.toList.length) r
theorem stl_gap {L : List UInt8} {p n : Nat} {en : Bool} (h : lookR (L.drop p) en = (0, n, 0)) (hp : p < L.length) : ∀ ts : List Tok, StL L (p + n) ts → StL L p ts := by
  have hne : L.drop p ≠ [] := fun e => by have := congrArg List.length e; rw [List.length_drop] at this; simp at this; omega
  intro ts hs
  have hn0 : 0 < n := by
    rcases (look_size h (fun e => absurd e hne)).2 with h | ⟨h, -⟩
    · exact h
    · exact absurd h (by decide)
  have hnl := (look_size h (fun e => absurd e hne)).1
  cases ts with
  | nil =>
    have e := look_gap (m := (L.drop p).length) h hnl
    rw [List.take_length] at e
    exact .step hne e (by rw [List.drop_drop]; exact hs)
  | cons t r =>
    obtain ⟨a, h1, h2, h3, h4, h5, h6⟩ := hs
    refine ⟨a, h1, by omega, h3, h4, ?_, h6⟩
    have e := look_gap (m := a - p) h (by omega)
    refine .step (fun e => ?_) e ?_
    · have := congrArg List.length e
      rw [List.length_take] at this
      rw [List.length_drop] at this
      simp at this
      omega
    · rw [List.drop_take, List.drop_drop, show a - p - n = a - (p + n) by omega]
      exact h5
theorem aln_of_look {S : List UInt8} {k : Int} (h : lookR S false = (k, S.length, 0)) (hk : k ≠ 0) (hS : 0 < S.length) (hl : S.length ≤ 4096) (p : Int) : alnB ⟨k, strU S, p⟩ = true := by
  unfold alnB lexO
  show (match (if 4096 < S.length then (([], 3, 0) : List Tok × Int × Nat) else lexG S (2 * S.length + 1) 0 []).1 with
    | [] => false
    | x :: _ => tkEq x ⟨k, strU S, p⟩) = true
  rw [if_neg (by omega)]
  have hl0 : lookR (S.drop 0) (clo (lastT [])) = (k, S.length, 0) := h
  rw [lexG_tok (.inl hS) hl0 hk (by simp)]
  obtain ⟨f, hf⟩ : ∃ f, 2 * S.length = f + 1 + 1 := ⟨2 * S.length - 2, by omega⟩
  rw [hf, Nat.zero_add, List.nil_append, List.drop_zero, List.take_length]
  have hte : tkEq ⟨k, strU S, ((0 : Nat) : Int)⟩ ⟨k, strU S, p⟩ = true := by simp [tkEq]
  have hlt : lastT [⟨k, strU S, ((0 : Nat) : Int)⟩] = ⟨k, strU S, ((0 : Nat) : Int)⟩ := rfl
  cases hc : clo ⟨k, strU S, ((0 : Nat) : Int)⟩ with
  | false =>
    rw [lexG_end (by omega) (by rw [hlt]; exact hc)]
    exact hte
  | true =>
    have hle : lookR (S.drop S.length) (clo (lastT [⟨k, strU S, ((0 : Nat) : Int)⟩])) = (5, 0, 0) := by rw [hlt, hc, List.drop_length]; rfl
    rw [lexG_tok (.inr (by rw [hlt]; exact hc)) hle (by decide) (by simp)]
    rw [lexG_end (by omega) (by rw [lastT_push]; rfl)]
    exact hte
/-- What Lex tells: an error and its place, or tokens that stand. -/
theorem lex_stands {L : List UInt8} (hL : L.length ≤ 4096) : ∀ (f p : Nat) (ds : List Tok), p ≤ L.length → ds.length ≤ 1024 → lexMu L p ds < f →
    (∃ e q, lexG L f p ds = ([], e, q) ∧ e ≠ 0 ∧ q ≤ L.length) ∨ ∃ ms, lexG L f p ds = (ds ++ ms, 0, 0) ∧ StL L p ms ∧ chkF (lastT ds) ms = true ∧ (ds ++ ms).length ≤ 1024 := by
  intro f
  induction f with
  | zero => intro p ds _ _ h; omega
  | succ f ih =>
    intro p ds hp hn hf
    obtain ⟨k, n, e, hl⟩ : ∃ k n e, lookR (L.drop p) (clo (lastT ds)) = (k, n, e) := ⟨_, _, _, rfl⟩
    by_cases h1 : p < L.length ∨ clo (lastT ds) = true
    · by_cases he : e = 0
      · subst he
        by_cases hk : k = 0
        · subst hk
          obtain ⟨hm0, hm1⟩ := mu_gap h1 hp hl
          have hlt : p < L.length := by
            by_cases h : p < L.length
            · exact h
            · rw [List.drop_eq_nil_of_le (by omega)] at hl
              simp [lookR] at hl
          rw [lexG_gap h1 hl]
          rcases ih (p + n) ds hm0 hn (by omega) with h | ⟨ms, g1, g2, g3, g4⟩
          · exact .inl h
          · exact .inr ⟨ms, g1, stl_gap hl hlt ms g2, g3, g4⟩
        · by_cases ht : ds.length = 1024
          · exact .inl ⟨3, p, lexG_full h1 hl hk ht, by decide, hp⟩
          · obtain ⟨hm0, hm1⟩ := mu_tok h1 hp hl (t := ⟨k, strU ((L.drop p).take n), p⟩) rfl
            rw [lexG_tok h1 hl hk ht]
            have hsz := look_size hl (fun e => by
              rcases h1 with h1 | h1
              · have := congrArg List.length e; rw [List.length_drop] at this; simp at this; omega
              · exact h1)
            have hlen : ((L.drop p).take n).length = n := by rw [List.length_take, List.length_drop]; omega
            rcases ih (p + n) (ds ++ [⟨k, strU ((L.drop p).take n), p⟩]) hm0 (by simp; omega) (by omega) with h | ⟨ms, g1, g2, g3, g4⟩
            · exact .inl h
            · rw [lastT_push] at g3
              refine .inr ⟨⟨k, strU ((L.drop p).take n), p⟩ :: ms, by rw [g1]; simp, ⟨p, rfl, Nat.le_refl _, ?_, ?_, ?_, ?_⟩, ?_, by simpa using g4⟩
              · rw [strU_data, hlen]; exact hm0
              · rw [strU_data, hlen]
              · rw [Nat.sub_self, List.take_zero]; exact .nil
              · rw [strU_data, hlen]; exact g2
              · rw [chkF]
                rcases hsz.2 with h0 | ⟨hk5, h0, hen⟩
                · have hb : bareB ⟨k, strU ((L.drop p).take n), p⟩ = false := by
                    cases hb : bareB ⟨k, strU ((L.drop p).take n), p⟩ with
                    | false => rfl
                    | true =>
                      have := (bare_clo hb).2.2
                      rw [strU_list] at this
                      rw [this] at hlen
                      simp at hlen
                      omega
                  have hlc := look_cut hl hk h0
                  have ha : alnB ⟨k, strU ((L.drop p).take n), p⟩ = true := aln_of_look (by rw [hlen]; exact hlc) hk (by omega) (by omega) _
                  rw [hb, ha]
                  exact g3
                · subst hk5 h0
                  rw [hen]
                  rw [List.take_zero] at g3 ⊢
                  have hb : bareB ⟨5, strU [], p⟩ = true := by unfold bareB; rw [strU_list]; rfl
                  rw [hb]
                  exact g3
      · exact .inl ⟨e, p, lexG_err h1 hl he, he, hp⟩
    · have hc : clo (lastT ds) = false := by
        cases hc : clo (lastT ds) with
        | false => rfl
        | true => exact absurd (.inr hc) h1
      refine .inr ⟨[], ?_, ?_, by rw [chkF, hc]; rfl, by simpa using hn⟩
      · rw [lexG_end (fun h => h1 (.inl h)) hc, List.append_nil]
      · show GapL (L.drop p)
        rw [List.drop_eq_nil_of_le (by
          by_cases h : p < L.length
          · exact absurd (.inl h) h1
          · omega)]
        exact .nil
theorem lexO_stands {L : List UInt8} (hL : L.length ≤ 4096) : (∃ e q, lexO L = ([], e, q) ∧ e ≠ 0 ∧ q ≤ L.length) ∨ ∃ ms, lexO L = (ms, 0, 0) ∧ StL L 0 ms ∧ chkO ms = 0 ∧ ms.length ≤ 1024 := by
  have h := lex_stands hL (2 * L.length + 1) 0 [] (Nat.zero_le _) (by simp) (by unfold lexMu; rw [lastT_nil]; simp [clo])
  unfold lexO
  rw [if_neg (by omega)]
  rcases h with h | ⟨ms, g1, g2, g3, g4⟩
  · exact .inl h
  · rw [List.nil_append] at g1 g4
    refine .inr ⟨ms, g1, g2, ?_, g4⟩
    unfold chkO
    rw [if_neg (by omega)]
    rw [lastT_nil] at g3
    rw [g3]
    rfl
end Go.Proofs.YtbadafkfjfbnlaaGreatDoor
