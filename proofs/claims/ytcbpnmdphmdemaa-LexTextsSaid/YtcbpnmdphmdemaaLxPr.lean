/- The contract of lex's Print. -/
import Derived.Test.YtcbpnmdphmdemaaLxCh
namespace Go.Proofs.Ytcbpnmdphmdemaa
open Go.RowKit

section
variable {α : Type} {t e : TypeId} {m : Nat} {f : α → Array Value}
/-- What an append leaves. -/
theorem own_big (E : El t e m f) {B : Nat} {w : World} {v : Value} {xs ys : List α} {sp : Option Addr} {cap : Nat} (ty : TypeId) (hown : OwnG e m f B w v xs) (hn : sp = none → ys.length = 0 ∧ cap = 0) (hr : RowsAt w m f sp ys) (hlen : xs.length + ys.length ≤ 100000000) (hB : B ≤ w.heap.size) :
    ∃ v' w', (Builtin.append_ #[t, t] ty #[v, .slice sp ys.length cap]).run Try.prog w = .ok v' w' ∧ OwnG e m f B w' v' (xs ++ ys) ∧ w.grownBy w' v.ownBlock ∧ (v'.ownBlock = v.ownBlock ∨ v'.ownBlock = some w.heap.size) := by
  obtain ⟨i, z, hi, hz0, hz1, hz2, hz3⟩ := E.hi
  cases sp with
  | none =>
    obtain ⟨h1, h2⟩ := hn rfl
    have hy : ys = [] := List.eq_nil_of_length_eq_zero h1
    subst hy h2
    refine ⟨v, w, run_append_owned_none (P := Try.prog) (w := w) B t ty e i m E.ht hi v xs.length _ hown, by rw [List.append_nil]; exact hown, ⟨rfl, rfl, rfl, Nat.le_refl _, fun _ _ _ => rfl⟩, .inl rfl⟩
  | some a =>
    have hone : ∀ u ∈ flatG f ys, u.oneCell' = true := fun u hu => by
      obtain ⟨y, -, hy⟩ := List.mem_flatMap.1 hu
      have := E.h1 y
      rw [Array.all_eq_true_iff_forall_mem] at this
      exact this u (by simpa using hy)
    have hnews : ∀ j u, (flatG f ys)[j]? = some u → w.cell? (a.add j) = some u := by
      by_cases h0 : 0 < ys.length
      · obtain ⟨b, off, hs, -⟩ := hr h0
        injection hs with hs
        subst hs
        exact rowsG_news E hr
      · have hy : ys = [] := List.eq_nil_of_length_eq_zero (by omega)
        subst hy
        intro j u hu
        simp [flatG] at hu
    obtain ⟨v', w', q1, q2, q3, -, q5⟩ := run_append_own_at (P := Try.prog) (w := w) B t ty e i z m i.bytes E.ht hi hz0 hz1 rfl hz3 E.hm v xs.length _ hown a ys.length cap (flatG f ys) (flatG_length E ys) hnews hone (by unfold maxLen; omega) (by
      have := Nat.mul_le_mul hlen hz2
      omega) hB
    refine ⟨v', w', q1, ?_, q3, q5⟩
    unfold OwnG
    rw [List.length_append, flatG, List.flatMap_append]
    exact q2
end
set_option maxRecDepth 100000 in
set_option maxHeartbeats 1000000 in
theorem writeByte_big (B b : Nat) (l : List UInt8) (c : UInt8) (w : World) (h : Bld B b l w) (hl : l.length ≤ 90000000) (hw : B ≤ w.heap.size) :
    Calls Try.prog 35 #[.pointer (some ⟨b, 0, none⟩), .int .u8 c.toNat] w fun e w' => e = .returned .nilIface ∧ WrP B b (l ++ [c]) w w' := by
  go_enter Try.func35, Try.ntmps35
  go_wp2_with fail
  refine (copyCheck_any B b l w h).mono ?_
  rintro e W1 ⟨rfl, h1, b1, k1, s1⟩
  clear h
  obtain ⟨hB, p, v, hp, hr, ho⟩ := h1.row
  obtain ⟨sp, cap, rfl⟩ := OwnG.shape ho
  have hw1 : B ≤ W1.heap.size := by rw [s1]; exact hw
  have ba : Below W1.heap.size W1 (W1.alloc (.cells #[.int .u8 c.toNat] 5)) := (Below.refl _ _).alloc (Nat.le_refl _) _
  obtain ⟨v', W2, hra, q1, q2, -⟩ := own_big elB (ys := [c]) (sp := some ⟨W1.heap.size, 0, none⟩) (cap := 1) 58 (OwnG.below ho ba) (fun h => by cases h) (oneG_rows (x := c) (heap_alloc_new W1 _)) (by simp; omega) (by simp; omega)
  obtain ⟨sp', cap', rfl⟩ := OwnG.shape q1
  have hrA : (W1.alloc (.cells #[.int .u8 c.toNat] 5)).heap[b]? = some (.cells #[p, .slice sp l.length cap] 66 (0, 0)) := (ba.block b (lt_of_row hr)).trans hr
  have PUT : Hid (WrP B b (l ++ [c]) w (W2.setCell ⟨b, 1, none⟩ (.slice sp' (l ++ [c]).length cap'))) := wr_put hB hp hrA (OwnG.below ho ba) (b1.alloc hw1 _) (k1.alloc _) (by simp; omega) q2 q1
  have hr2 : W2.heap[b]? = some (.cells #[p, .slice sp l.length cap] 66 (0, 0)) := (q2.block b (lt_of_row hrA) (fun e => OwnG.nb (OwnG.below ho ba) hrA (by decide) e.symm)).trans hrA
  have c1 : W1.cell? ⟨b, 1, none⟩ = some (.slice sp l.length cap) := (cell_of_row _ _ 1 _ _ _ hr).trans rfl
  have d1 : W2.cell? ⟨b, 1, none⟩ = some (.slice sp l.length cap) := (cell_of_row _ _ 1 _ _ _ hr2).trans rfl
  have z1 : W2.frozen? ⟨b, 1, none⟩ = false := frozen_of_row _ _ _ _ _ hr2
  have hlen : (l ++ [c]).length = l.length + 1 := by simp
  rw [hlen] at hra PUT
  clear q1 q2 hr2 hrA ba ho hr h1 b1 k1 s1
  go_wp2_with (at_builtin; refine list_appendg (.tmp 11) (.tmp 13) 58 (by rfl) (by rfl) (by rfl) (by rfl) hra ?_)
  go_ret
  exact ⟨rfl, PUT.out⟩
/-- The text of tokens, from here on. -/
def prtF (acc : List UInt8) (fresh : Bool) : List Tok → List UInt8
  | [] => acc
  | t :: r => if bareB t then prtF (acc ++ [10] ++ t.text.data.toList) true r else prtF (acc ++ (if fresh then [] else [32]) ++ t.text.data.toList) false r
def prtO (ts : List Tok) : Value := if chkO ts ≠ 0 then .tuple #[.string ⟨#[]⟩, .int .i64 (chkO ts)] else if 4096 < (prtF [] true ts).length then .tuple #[.string ⟨#[]⟩, .int .i64 3] else .tuple #[.string (strU (prtF [] true ts)), .int .i64 0]
theorem aln_small {t : Tok} (h : alnB t = true) : t.text.size ≤ 4096 := by
  unfold alnB lexO at h
  have e : t.text.size = t.text.data.toList.length := by simp
  by_cases h4 : 4096 < t.text.data.toList.length
  · rw [if_pos h4] at h
    cases h
  · omega
theorem bare_small {t : Tok} (h : bareB t = true) : t.text.size = 0 := by
  unfold bareB at h
  rw [Bool.and_eq_true] at h
  have h2 := h.2
  rw [List.isEmpty_iff] at h2
  rw [ByteArray.toList_eq] at h2
  have e : t.text.size = t.text.data.toList.length := by simp
  rw [e, h2]
  rfl
theorem chk_small : ∀ (ts : List Tok) (last : Tok), chkF last ts = true → ∀ t ∈ ts, t.text.size ≤ 4096
  | [], _, _ => fun t ht => by simp at ht
  | x :: r, last, h => fun t ht => by
    rw [chkF] at h
    cases hb : bareB x with
    | true =>
      rw [hb] at h
      rcases List.mem_cons.1 ht with rfl | ht
      · have := bare_small hb; omega
      · cases hc : clo last with
        | true => rw [hc] at h; exact chk_small r x h t ht
        | false => rw [hc] at h; cases h
    | false =>
      rw [hb] at h
      cases ha : alnB x with
      | true =>
        rw [ha] at h
        rcases List.mem_cons.1 ht with rfl | ht
        · exact aln_small ha
        · exact chk_small r x h t ht
      | false => rw [ha] at h; cases h
theorem chkO_zero {ts : List Tok} (h : chkO ts = 0) : ts.length ≤ 1024 ∧ ∀ t ∈ ts, t.text.size ≤ 4096 := by
  unfold chkO at h
  by_cases h4 : 1024 < ts.length
  · rw [if_pos h4] at h; cases h
  · rw [if_neg h4] at h
    cases hc : chkF ⟨0, ⟨#[]⟩, 0⟩ ts with
    | true => exact ⟨by omega, chk_small ts _ hc⟩
    | false => rw [hc] at h; cases h
/-- Does a token here stand at the beginning, or behind an end without Text? -/
def frB (ts : List Tok) : Nat → Bool
  | 0 => true
  | k + 1 => match ts[k]? with | some y => bareB y | none => true
/-- The facts that last for a round. -/
structure PrF (w : World) (K M : Nat) (x : Tok) (acc : List UInt8) (W : World) : Prop where
  b : Below w.heap.size w W
  d : Bld w.heap.size K acc W
  x : W.heap[M]? = some (.cells x.cells 32 (0, 0))
theorem PrF.below {w : World} {K M : Nat} {x : Tok} {acc : List UInt8} {W W' : World} (h : PrF w K M x acc W) (hb : Below W.heap.size W W') : PrF w K M x acc W' :=
  ⟨h.b.trans (hb.mono h.b.size), h.d.below hb, (hb.block _ (lt_of_row h.x)).trans h.x⟩
theorem PrF.wr {w : World} {K M : Nat} {x : Tok} {acc acc' : List UInt8} {W W' : World} (h : PrF w K M x acc W) (hk : M ≠ K) (hb : WrP w.heap.size K acc' W W') : PrF w K M x acc' W' :=
  ⟨h.b.trans hb.2.1, hb.1, hb.2.2 _ _ h.x (fun e => hk (by injection e)) (fun c fz e => by injection e with _ e _; exact absurd e (by decide))⟩
theorem PrF.c {w : World} {K M : Nat} {x : Tok} {acc : List UInt8} {W : World} (h : PrF w K M x acc W) : W.cell? ⟨M, 0, none⟩ = some (.int .i64 x.kind) ∧ W.cell? ⟨M, 1, none⟩ = some (.string x.text) ∧ W.cell? ⟨M, 2, none⟩ = some (.int .i64 x.pos) :=
  ⟨(cell_of_row _ _ 0 _ _ _ h.x).trans rfl, (cell_of_row _ _ 1 _ _ _ h.x).trans rfl, (cell_of_row _ _ 2 _ _ _ h.x).trans rfl⟩
set_option maxRecDepth 100000 in
set_option maxHeartbeats 2000000 in
theorem print_any (sp : Option Addr) (cap : Nat) (ts : List Tok) (w : World) (hr : RowsT w sp ts) (hm : ts.length ≤ 100000) :
    Calls Try.prog 14 #[.slice sp ts.length cap] w fun e w' => e = .returned (prtO ts) ∧ Below w.heap.size w w' := by
  have HR : Hid (RowsT w sp ts) := hr
  clear hr
  go_enter Try.func14, Try.ntmps14
  go_wp2_with fail
  refine (check_any sp cap ts w HR.out hm).mono ?_
  rintro e W1 ⟨rfl, b1⟩
  by_cases hc : chkO ts = 0
  · obtain ⟨hl, hsm⟩ := chkO_zero hc
    have HSM : Hid (∀ t ∈ ts, t.text.size ≤ 4096) := hsm
    have HP : Hid (prtO ts = if 4096 < (prtF [] true ts).length then .tuple #[.string ⟨#[]⟩, .int .i64 3] else .tuple #[.string (strU (prtF [] true ts)), .int .i64 0]) := by unfold prtO; rw [if_neg (by rw [hc]; simp)]; exact rfl
    rw [hc]
    clear hsm hc
    go_wp2
    obtain ⟨K, HK⟩ : ∃ K, Hid (W1.heap.size = K) := ⟨_, rfl⟩
    have hB0 : Hid (Bld w.heap.size K [] (W1.alloc (.cells #[.pointer none, .slice none 0 0] 66))) := by rw [← HK.out]; exact Bld.of b1.size (.inl rfl) (heap_alloc_new _ _) (ownG_nil _ _)
    have bw1 : Hid (Below w.heap.size w (W1.alloc (.cells #[.pointer none, .slice none 0 0] 66))) := b1.alloc b1.size _
    rw [HK.out]
    clear HK b1
    go_loopw [15] (fun i wr => ∃ (t : Nat) (acc : List UInt8), t ≤ ts.length ∧ i = .int .i64 t ∧ Bld w.heap.size K acc wr ∧ Below w.heap.size w wr ∧ acc.length ≤ 4097 * t ∧ prtF acc (frB ts t) (ts.drop t) = prtF [] true ts) (fun i _ => ts.length - (intOf i).toNat)
    case atStart => exact ⟨0, [], Nat.zero_le _, rfl, hB0.out, bw1.out, Nat.zero_le _, rfl⟩
    case round =>
      clear hB0 bw1
      obtain ⟨t, acc, ht, rfl, hbl, hB, hac, hpr⟩ := hrel
      have HBL : Hid (Bld w.heap.size K acc wr) := hbl
      have HB : Hid (Below w.heap.size w wr) := hB
      have HPR : Hid (prtF acc (frB ts t) (ts.drop t) = prtF [] true ts) := hpr
      clear hbl hB hpr
      by_cases hlt : t < ts.length
      · have hd : decide ((t : Int) < ts.length) = true := by simp; omega
        obtain ⟨b, o, rfl, -⟩ := HR.out (by omega)
        obtain ⟨x, hx⟩ : ∃ x, ts[t]? = some x := ⟨_, List.getElem?_eq_getElem (by omega)⟩
        obtain ⟨k0, k1, k2⟩ := tok_cell (RowsAt.below HR.out HB.out) hx
        have hxs : x.text.size ≤ 4096 := HSM.out x (List.mem_of_getElem? hx)
        have HX : Hid (ts[t]? = some x) := hx
        have HD : Hid (ts.drop t = x :: ts.drop (t + 1)) := by
          have hg := List.getElem?_eq_some_iff.1 hx
          show ts.drop t = x :: ts.drop (t + 1)
          rw [← List.getElem_cons_drop (h := hlt), hg.2]
        clear hx
        have GO : Hid (∀ (acc' : List UInt8) (W : World), Bld w.heap.size K acc' W → Below w.heap.size w W → acc'.length ≤ acc.length + 1 + x.text.size → prtF acc (frB ts t) (ts.drop t) = prtF acc' (bareB x) (ts.drop (t + 1)) → (∃ (t' : Nat) (acc : List UInt8), t' ≤ ts.length ∧ Value.int .i64 ((t : Int) + 1) = .int .i64 t' ∧ Bld w.heap.size K acc W ∧ Below w.heap.size w W ∧ acc.length ≤ 4097 * t' ∧ prtF acc (frB ts t') (ts.drop t') = prtF [] true ts) ∧ ts.length - (intOf (.int .i64 ((t : Int) + 1))).toNat < ts.length - (intOf (.int .i64 (t : Int))).toNat) := fun acc' W h1 h2 h3 h4 => by
          refine ⟨⟨t + 1, acc', by omega, by congr 1, h1, h2, by omega, ?_⟩, ?_⟩
          · rw [← HPR.out, h4, frB, HX.out]
          · show ts.length - ((t : Int) + 1).toNat < ts.length - (t : Int).toNat
            omega
        go_wp2_with fail
        obtain ⟨M, HM⟩ : ∃ M, Hid (wr.heap.size = M) := ⟨_, rfl⟩
        have hMK : M ≠ K := fun e => by
          obtain ⟨-, p, v, -, hr, -⟩ := HBL.out.row
          have := lt_of_row hr
          have := HM.out
          omega
        refine calls_gen (fun W => PrF w K M x acc W) ⟨HB.out.alloc HB.out.size _, HBL.out.below ((Below.refl _ _).alloc (Nat.le_refl _) _), by rw [← HM.out]; exact heap_alloc_new _ _⟩ ?_
        intro W2 f2
        rw [HM.out]
        clear k0 k1 k2 HB HBL HM
        refine (bare_any x W2).mono ?_
        rintro e W3 ⟨rfl, b3⟩
        have F3 : Hid (PrF w K M x acc W3) := f2.below b3
        clear f2 b3
        cases hbx : bareB x
        · by_cases h0 : t = 0
          · subst h0
            obtain ⟨k0, k1, k2⟩ := F3.out.c
            go_wp2_with fail
            refine (writeString_any w.heap.size K acc x.text W3 F3.out.d (by omega) F3.out.b.size).mono ?_
            rintro e W5 ⟨rfl, h5⟩
            have F5 : Hid (PrF w K M x (acc ++ x.text.data.toList) W5) := F3.out.wr hMK h5
            have G5 : Hid _ := GO.out _ W5 F5.out.d F5.out.b (by simp) (by rw [HD.out, prtF, hbx, frB]; simp)
            clear F3 F5 GO h5 k0 k1 k2
            go_wp2
            exact G5.out
          · obtain ⟨y, hy⟩ : ∃ y, ts[t - 1]? = some y := ⟨_, List.getElem?_eq_getElem (by omega)⟩
            have hd0 : decide ((0 : Int) < (t : Int)) = true := by simp; omega
            obtain ⟨k0, k1, k2⟩ := tok_cell (RowsAt.below HR.out F3.out.b) hy
            have HFR : Hid (frB ts t = bareB y) := by
              obtain ⟨k, rfl⟩ : ∃ k, t = k + 1 := ⟨t - 1, by omega⟩
              rw [Nat.add_sub_cancel] at hy
              show frB ts (k + 1) = bareB y
              rw [frB, hy]
            go_wp2_with fail
            refine (bare_any y W3).mono ?_
            rintro e W4 ⟨rfl, b4⟩
            have F4 : Hid (PrF w K M x acc W4) := F3.out.below b4
            clear F3 b4 k0 k1 k2 hy
            obtain ⟨k0, k1, k2⟩ := F4.out.c
            cases hby : bareB y
            · have hwb := (writeByte_big w.heap.size K acc 32 W4 F4.out.d (by omega) F4.out.b.size)
              go_wp2_with fail
              refine hwb.mono ?_
              rintro e W5 ⟨rfl, h5⟩
              have F5 : Hid (PrF w K M x (acc ++ [32]) W5) := F4.out.wr hMK h5
              clear k0 k1 k2 F4 h5 hwb
              obtain ⟨k0, k1, k2⟩ := F5.out.c
              go_wp2_with fail
              refine (writeString_any w.heap.size K (acc ++ [32]) x.text W5 F5.out.d (by simp; omega) F5.out.b.size).mono ?_
              rintro e W6 ⟨rfl, h6⟩
              have F6 : Hid (PrF w K M x (acc ++ [32] ++ x.text.data.toList) W6) := F5.out.wr hMK h6
              have G6 : Hid _ := GO.out _ W6 F6.out.d F6.out.b (by simp; omega) (by rw [HD.out, prtF, hbx, HFR.out, hby]; rfl)
              clear F5 F6 GO h6 k0 k1 k2
              go_wp2
              exact G6.out
            · go_wp2_with fail
              refine (writeString_any w.heap.size K acc x.text W4 F4.out.d (by omega) F4.out.b.size).mono ?_
              rintro e W5 ⟨rfl, h5⟩
              have F5 : Hid (PrF w K M x (acc ++ x.text.data.toList) W5) := F4.out.wr hMK h5
              have G5 : Hid _ := GO.out _ W5 F5.out.d F5.out.b (by simp) (by rw [HD.out, prtF, hbx, HFR.out, hby]; simp)
              clear F4 F5 GO h5 k0 k1 k2
              go_wp2
              exact G5.out
        · have hwb := (writeByte_big w.heap.size K acc 10 W3 F3.out.d (by omega) F3.out.b.size)
          go_wp2_with fail
          refine hwb.mono ?_
          rintro e W4 ⟨rfl, h4⟩
          have F4 : Hid (PrF w K M x (acc ++ [10]) W4) := F3.out.wr hMK h4
          obtain ⟨k0, k1, k2⟩ := F4.out.c
          clear F3 h4 hwb
          go_wp2_with fail
          refine (writeString_any w.heap.size K (acc ++ [10]) x.text W4 F4.out.d (by simp; omega) F4.out.b.size).mono ?_
          rintro e W5 ⟨rfl, h5⟩
          have F5 : Hid (PrF w K M x (acc ++ [10] ++ x.text.data.toList) W5) := F4.out.wr hMK h5
          have G5 : Hid _ := GO.out _ W5 F5.out.d F5.out.b (by simp; omega) (by rw [HD.out, prtF, hbx]; exact rfl)
          clear F4 F5 GO h5 k0 k1 k2
          go_wp2
          exact G5.out
      · have hd : decide ((t : Int) < ts.length) = false := by simp; omega
        have hdn : ts.drop t = [] := List.drop_eq_nil_iff.2 (by omega)
        have HE : Hid (prtF [] true ts = acc) := by rw [← HPR.out, hdn]; exact rfl
        have hBb : Lib.IsBuilder 66 5 w.heap.size K (Lib.byteCells acc) wr := HBL.out
        rw [HE.out] at HP
        clear hdn HPR HE
        go_wp2_with fail
        refine (Try.Builder_Len w.heap.size K (Lib.byteCells acc) wr hBb).mono ?_
        rintro e W3 ⟨rfl, rfl⟩
        rw [Lib.byteCells_length]
        by_cases h4 : 4096 < acc.length
        · have h4' : (acc.length : Int) > 4096 := by omega
          go_wp2
          go_ret2
          refine ⟨?_, HB.out⟩
          rw [HP.out, if_pos h4]
          exact rfl
        · have h4' : ¬ (acc.length : Int) > 4096 := by omega
          go_wp2_with fail
          refine (Try.Builder_String_any w.heap.size K acc W3 hBb HB.out.size).mono ?_
          rintro e W6 ⟨rfl, b6⟩
          go_wp2
          go_ret2
          refine ⟨?_, HB.out.trans b6⟩
          rw [HP.out, if_neg h4]
          exact rfl
  · have HP : Hid (prtO ts = .tuple #[.string ⟨#[]⟩, .int .i64 (chkO ts)]) := by unfold prtO; rw [if_pos hc]; exact rfl
    have hc' : (chkO ts != 0) = true := by simpa using hc
    generalize chkO ts = c at hc' HP ⊢
    clear hc
    go_wp2
    go_ret2
    refine ⟨?_, b1⟩
    rw [HP.out]
    exact rfl
end Go.Proofs.Ytcbpnmdphmdemaa
