/- The contract of object.Decode at a commit. -/
import Derived.Test.YtnaoaeapffgojaaDecL
namespace Go.Proofs.Ytnaoaeapffgojaa
open Go.RowKit

/-- A commit's parts, as they are read from bytes: its tree, its parents, its number, its note. -/
def cT (L : List Int) : (Nat × Int) × (Nat → Int) := tkId L (tk L (0, 0) 1).1
def cP (L : List Int) : (Nat × Int) × List (Nat → Int) := tkIds L (numOf (tk L (cT L).1 1).2).toNat (tk L (cT L).1 1).1
def cN (L : List Int) : (Nat × Int) × List Int := tk L (cP L).1 4
def cS (L : List Int) : (Nat × Int) × ByteArray := tkText L (cN L).1
def commitOb (L : List Int) (sq : Option Addr) (cq : Nat) : Ob := ⟨3, .slice none 0 0, .slice none 0 0, (cT L).2, .slice sq (cP L).2.length cq, numOf (cN L).2, (cS L).2⟩
def commitCo (L : List Int) : Co := ⟨0, fun _ => 0, [], (cP L).2⟩

set_option maxRecDepth 100000 in
set_option maxHeartbeats 2000000 in
theorem decode_commit (sp : Option Addr) (n cap : Nat) (src : Nat → Int) (w : World) (hsrc : SrcAt w .u8 sp n src) (hcap : sp = none → cap = 0 ∧ n = 0) (hn : n ≤ 100000) (hok : ∀ i, i < n → 0 ≤ src i ∧ src i ≤ 255)
    (hk : numOf (tk ((List.range n).map src) (0, 0) 1).2 = 3) :
    Calls Try.prog 7 #[.slice sp n cap] w fun e w' => ∃ sq cq, DecPost ((List.range n).map src) (commitOb ((List.range n).map src) sq cq) (commitCo ((List.range n).map src)) (cS ((List.range n).map src)).1 w e w' := by
  go_enter Try.func7, Try.ntmps7
  go_wp2_with fail
  refine calls_gen (fun W1 => Below w.heap.size w W1 ∧ W1.heap[w.heap.size]? = some (.cells zeroOb.cells 30 (0, 0))) ⟨(Below.refl _ _).alloc (Nat.le_refl _) _, (heap_alloc_new _ _).trans rfl⟩ ?_
  intro W1 ⟨hB1, hr0⟩
  refine (read_any sp n cap src W1 (hsrc.below hB1) hcap hn hok).mono ?_
  rintro e w2 ⟨g, rfl, hg, hR2, hB2⟩
  have hz0 := lt_of_row hr0
  have hg0 : w.heap.size < g := by omega
  have hr0' : w2.heap[w.heap.size]? = some (.cells zeroOb.cells 30 (0, 0)) := (hB2.block _ hz0).trans hr0
  have hBw : Below w.heap.size w w2 := hB1.trans (hB2.mono hB1.size)
  have H0 : Hid _ := hr0'
  have HR2 : Hid _ := hR2
  have HBW : Hid _ := hBw
  have HSRC : Hid _ := hsrc
  have HOK : Hid _ := hok
  clear hr0 hr0' hB1 hB2 hR2 hBw hsrc hok hcap
  have hLL : (List.range n).map src = (List.range n).map src := rfl
  generalize hL : (List.range n).map src = L at HR2 hk hLL
  have HLL : Hid _ := hL
  clear hL hLL
  obtain ⟨io, zo, hio, hzo⟩ : ∃ i z, Try.prog.info? 49 = some i ∧ i.zero = some z := by
    have h := zero_ord
    cases hi : Try.prog.info? 49 with
    | none => simp [hi] at h
    | some i => exact ⟨i, _, rfl, by simpa [hi] using h⟩
  have hzc : zo = .agg (#[.pointer none] ++ zeroOb.cells) := by
    have h := zero_ord
    rw [hio] at h
    simp only [Option.bind_some] at h
    rw [hzo] at h
    exact Option.some.inj h
  have HIO : Hid _ := hio
  have HZO : Hid _ := hzo
  have hone := ord_one g zeroOb rfl rfl rfl
  have hzs : zo.cells.size = 39 := by rw [hzc]; rfl
  have HONE : Hid _ := hone
  have HZS : Hid _ := hzs
  clear hio hzo hzc hone hzs
  have HBO : Hid _ := build_ord g
  go_wp2_with (first
    | (refine wpList_build (by rfl) 49 _ (by rfl) [(0, .pointer (some ⟨g, 0, none⟩))] (by rfl) (.agg (ordCells g zeroOb)) (HBO.out _) ?_)
    | (refine wpList_alloc_any (by rfl) 49 (by rfl) io zo HIO.out HZO.out ?_)
    | (refine wpList_store_row (by rfl) 49 (.tmp 4) (.tmp 10) (by rfl) w2.heap.size (ordCells g zeroOb) (by rfl) (by rfl) 49 _ (heap_alloc_new _ _) (by rw [ord_size]; kernel_rfl) (by rw [ord_size]; exact HZS.out) HONE.out ?_; refine wpList_gen (fun W => Below w2.heap.size w2 W ∧ W.heap[w2.heap.size]? = some (.cells (ordCells g zeroOb) 49 (0, 0)) ∧ W.cell? ⟨w2.heap.size, 0, none⟩ = some (.pointer (some ⟨g, 0, none⟩))) ⟨below_setRow' ((Below.refl _ _).alloc (Nat.le_refl _) _) (Nat.le_refl _) _, heap_setRow_same (heap_alloc_new _ _), (cell_of_row _ _ _ _ _ _ (heap_setRow_same (heap_alloc_new _ _))).trans (ord_cell0 _ _)⟩ ?_; intro W3 hW3; have hh3 := hW3.2.2; have HW3 : Hid _ := hW3; clear hW3))
  refine (u8_any g L (0, 0) W3 (HR2.out.keep HW3.out.1)).mono ?_
  rintro e w4 ⟨rfl, hR4, hG4⟩
  have hgo := HR2.out.own
  have hz3 := lt_of_row HW3.out.2.1
  have hgne : g ≠ w2.heap.size := by omega
  have hw0 := lt_of_row H0.out
  have hr4 : w4.heap[w2.heap.size]? = some (.cells (ordCells g zeroOb) 49 (0, 0)) := (hG4.block _ hz3 (fun e => by injection e with e; omega)).trans HW3.out.2.1
  have c4 : w4.cell? ⟨w2.heap.size, 1, none⟩ = some (.int .i64 0) := (ord_ob hr4).c0
  have hz4 : ∀ j, w4.frozen? ⟨w2.heap.size, j, none⟩ = false := fun j => frozen_of_row _ _ j _ _ hr4
  have hb := numOf_len (tk_ok HR2.out.ok (0, 0) 1) (tk_len L (0, 0) 1)
  have hx0 := hb.1
  have hx1 : numOf (tk L (0, 0) 1).2 < 256 := hb.2
  have hc4 : w4.cell? ⟨w2.heap.size, 0, none⟩ = some (.pointer (some ⟨g, 0, none⟩)) := (cell_of_row _ _ _ _ _ _ hr4).trans (ord_cell0 _ _)
  have hr0 : w4.heap[w.heap.size]? = some (.cells zeroOb.cells 30 (0, 0)) := (hG4.block _ (Nat.lt_of_lt_of_le hw0 HW3.out.1.size) (fun e => by injection e with e; omega)).trans ((HW3.out.1.block _ hw0).trans H0.out)
  have hws : w.heap.size ≤ w2.heap.size := HBW.out.size
  have hBw4 : Below w.heap.size w w4 := HBW.out.trans ⟨hG4.os.trans HW3.out.1.os, hG4.tape.trans HW3.out.1.tape, hG4.output.trans HW3.out.1.output, Nat.le_trans HW3.out.1.size hG4.size, fun k hk => (hG4.block k (by have := HW3.out.1.size; omega) (fun e => by injection e with e; omega)).trans (HW3.out.1.block k (by omega))⟩
  have HWL : Hid (w.heap.size < w2.heap.size) := show w.heap.size < w2.heap.size by omega
  have HG0 : Hid (w.heap.size < g) := hg0
  rw [hk]
  have HM4 : Hid (Mid w w2.heap.size g L zeroOb (tk L (0, 0) 1).1 w4) := ⟨hBw4, hr4, hr0, hR4⟩
  have hLok := hR4.ok
  clear hR4 hG4 hr4 hr0 hBw4 hb hk hx0 hx1 H0 HR2 HBW HW3 HIO HZO HONE HZS HBO hh3 hgo hz3 hw0 hws hg0
  go_wp2_with fail
  refine calls_gen (fun W5 => Mid w w2.heap.size g L { zeroOb with kind := 3 } (tk L (0, 0) 1).1 W5) (HM4.out.set HWL.out (ord_kind _ _ _)) ?_
  intro W5 hM5
  refine (id_any w2.heap.size g L (tk L (0, 0) 1).1 W5 hM5.rd hM5.ptr (fun e => hgne e.symm)).mono ?_
  rintro e w6 ⟨rfl, hR6, hG6⟩
  have HM6 : Hid (Mid w w2.heap.size g L { zeroOb with kind := 3 } (cT L).1 w6) := hM5.grown HG0.out hR6 hG6
  rw [show tkId L (tk L (0, 0) 1).1 = cT L from rfl]
  have hTok : ∀ i, 0 ≤ (cT L).2 i ∧ (cT L).2 i ≤ 255 := fun i => tkId_ok hLok _ i
  have d6 := HM6.out.ptr
  have z6 := HM6.out.cold
  clear hM5 hR6 hG6 HM4 c4 hz4 hc4
  generalize hT : cT L = T at HM6 hTok
  have HT : Hid _ := hT
  clear hT
  go_wp2_with (refine wpList_store_mid (by rfl) 26 (.tmp 41) (.tmp 39) (by rfl) w2.heap.size 4 (arr .u8 32 T.2) (by rfl) (by rfl) (there_row HM6.out.row (by rw [ord_size, arr_size]; omega)) (by rw [arr_size]; kernel_rfl) (arr_one _ _ _) ?_; refine wpList_gen (Mid w w2.heap.size g L { zeroOb with kind := 3, tree := T.2 } T.1) (HM6.out.tree T.2 HWL.out) ?_; intro W7 hM7; have HM7 : Hid _ := hM7; clear hM7 HM6 d6 z6)
  refine (severalI_any w2.heap.size g L T.1 W7 HM7.out.rd HM7.out.ptr (fun e => hgne e.symm)).mono ?_
  rintro e w8 ⟨sq, cq, rfl, hRo8, hR8, hG8, hs8⟩
  have hap : ∀ a, sq = some a → a.block ≠ w.heap.size := fun a ha => by have := hs8 a ha; have := lt_of_row HM7.out.res; omega
  have hap2 : ∀ a, sq = some a → a.block ≠ w2.heap.size := fun a ha => by have := hs8 a ha; have := lt_of_row HM7.out.row; omega
  have hapg : ∀ a, sq = some a → a.block ≠ g := fun a ha => by have := hs8 a ha; have := HM7.out.rd.big; have := HM7.out.rd.own; omega
  have HM8 := HM7.out.grown HG0.out hR8 hG8
  have hlen8 := tkIds_len L (tk L T.1 1).1 (numOf (tk L T.1 1).2).toNat
  have hPok := tkIds_ok hLok (tk L T.1 1).1 (numOf (tk L T.1 1).2).toNat
  have hle : (numOf (tk L T.1 1).2).toNat ≤ 255 := by
    have := numOf_len (tk_ok hLok T.1 1) (tk_len L T.1 1)
    have h2 : numOf (tk L T.1 1).2 < 256 := this.2
    omega
  generalize hP : tkIds L (numOf (tk L T.1 1).2).toNat (tk L T.1 1).1 = P at hRo8 HM8 hPok hlen8
  have HP : Hid (cP L = P) := show cP L = P by unfold cP; rw [HT.out]; exact hP
  rw [← hlen8] at hle ⊢
  have HM8 : Hid _ := HM8
  have HRO8 : Hid _ := hRo8
  have c8 : w8.cell? ⟨w2.heap.size, 36, none⟩ = some (.slice none 0 0) := (ord_ob HM8.out.row).c35
  have d8 := HM8.out.ptr
  have z8 := HM8.out.cold
  clear HM7 hRo8 hR8 hG8 hs8 hP hlen8
  go_wp2_with fail
  refine calls_gen (fun W9 => Mid w w2.heap.size g L { zeroOb with kind := 3, tree := T.2, ps := .slice sq P.2.length cq } P.1 W9 ∧ RowsAt W9 32 (arr .u8 32) sq P.2) ⟨HM8.out.set HWL.out (ord_ps _ _ _), RowsAt.but HRO8.out hap2 (setCell_but _ _ _ _)⟩ ?_
  intro W9 ⟨hM9, hRo9⟩
  refine (u32_any g L P.1 W9 hM9.rd).mono ?_
  rintro e w10 ⟨rfl, hR10, hG10⟩
  have HM10 := hM9.grown HG0.out hR10 hG10
  have hRo10 := RowsAt.grown hRo9 hapg hG10
  have hnb := numOf_len (tk_ok hLok P.1 4) (tk_len L P.1 4)
  generalize hN : tk L P.1 4 = N at HM10 hnb
  have HN : Hid (cN L = N) := show cN L = N by unfold cN; rw [HP.out]; exact hN
  have HM10 : Hid _ := HM10
  have HRO10 : Hid _ := hRo10
  have HNB : Hid _ := hnb
  have c10 : w10.cell? ⟨w2.heap.size, 37, none⟩ = some (.int .u32 0) := (ord_ob HM10.out.row).c36
  have d10 := HM10.out.ptr
  have z10 := HM10.out.cold
  clear HM8 HRO8 c8 d8 z8 hM9 hRo9 hR10 hG10 hRo10 hN hnb
  go_wp2_with fail
  refine calls_gen (fun W11 => Mid w w2.heap.size g L { zeroOb with kind := 3, tree := T.2, ps := .slice sq P.2.length cq, num := numOf N.2 } N.1 W11 ∧ RowsAt W11 32 (arr .u8 32) sq P.2) ⟨HM10.out.set HWL.out (ord_num _ _ _), RowsAt.but HRO10.out hap2 (setCell_but _ _ _ _)⟩ ?_
  intro W11 ⟨hM11, hRo11⟩
  refine (text_any w2.heap.size g L N.1 W11 hM11.rd hM11.ptr (fun e => hgne e.symm)).mono ?_
  rintro e w12 ⟨rfl, hR12, hG12⟩
  have HM12 := hM11.grown HG0.out hR12 hG12
  have hRo12 := RowsAt.grown hRo11 hapg hG12
  generalize hS : tkText L N.1 = S at HM12
  have HS : Hid (cS L = S) := show cS L = S by unfold cS; rw [HN.out]; exact hS
  have HM12 : Hid _ := HM12
  have HRO12 : Hid _ := hRo12
  have c12 : w12.cell? ⟨w2.heap.size, 38, none⟩ = some (.string ⟨#[]⟩) := (ord_ob HM12.out.row).c37
  have d12 := HM12.out.ptr
  have z12 := HM12.out.cold
  clear HM10 HRO10 c10 d10 z10 hM11 hRo11 hR12 hG12 hRo12 hS
  go_wp2_with fail
  refine calls_gen (fun W13 => Mid w w2.heap.size g L ⟨3, .slice none 0 0, .slice none 0 0, T.2, .slice sq P.2.length cq, numOf N.2, S.2⟩ S.1 W13 ∧ RowsAt W13 32 (arr .u8 32) sq P.2) ⟨HM12.out.set HWL.out (ord_note _ _ _), RowsAt.but HRO12.out hap2 (setCell_but _ _ _ _)⟩ ?_
  intro W5 ⟨⟨f1, f2, f3, f4⟩, f5⟩
  have hHas : Has W5 ⟨3, .slice none 0 0, .slice none 0 0, T.2, .slice sq P.2.length cq, numOf N.2, S.2⟩ ⟨0, fun _ => 0, [], P.2⟩ := ⟨⟨none, 0, rfl, fun h => absurd h (Nat.lt_irrefl 0)⟩, ⟨none, 0, rfl, RowsAt.none⟩, ⟨sq, cq, rfl, f5⟩, fun i hi => by simp at hi, fun n cap h => by injection h with _ _ h; exact h.symm, by simp, by simp, by show P.2.length ≤ 100000000; omega⟩
  have hF : Fit ⟨3, .slice none 0 0, .slice none 0 0, T.2, .slice sq P.2.length cq, numOf N.2, S.2⟩ ⟨0, fun _ => 0, [], P.2⟩ := ⟨fun e he => by simp at he, hTok, hPok, ⟨HNB.out.1, by have h := HNB.out.2; simpa using h⟩⟩
  have hA : Apart ⟨3, .slice none 0 0, .slice none 0 0, T.2, .slice sq P.2.length cq, numOf N.2, S.2⟩ w.heap.size := by
    rintro a n cap (h | h | h)
    · injection h with h; cases h
    · injection h with h; cases h
    · injection h with h; exact hap a h
  have hPost : ∀ e w', DecPost L ⟨3, .slice none 0 0, .slice none 0 0, T.2, .slice sq P.2.length cq, numOf N.2, S.2⟩ ⟨0, fun _ => 0, [], P.2⟩ S.1 w e w' → ∃ sq cq, DecPost ((List.range n).map src) (commitOb ((List.range n).map src) sq cq) (commitCo ((List.range n).map src)) (cS ((List.range n).map src)).1 w e w' := fun e w' hh => ⟨sq, cq, by rw [HLL.out]; unfold commitOb commitCo; rw [HT.out, HP.out, HN.out, HS.out]; exact hh⟩
  have HPOST : Hid _ := hPost
  have hone : (⟨3, .slice none 0 0, .slice none 0 0, T.2, .slice sq P.2.length cq, numOf N.2, S.2⟩ : Ob).cells.all (·.oneCell') = true := ob_one _ rfl rfl rfl
  clear HM12 HRO12 c12 d12 z12 hPost hle f5 hPok hTok hap hap2 hapg HNB
  generalize hp0 : S.1 = p at *
  generalize (⟨3, .slice none 0 0, .slice none 0 0, T.2, .slice sq P.2.length cq, numOf N.2, S.2⟩ : Ob) = o at *
  generalize (⟨0, fun _ => 0, [], P.2⟩ : Co) = c at *
  obtain ⟨sr, cr, hrr, -⟩ := f4.row
  have he5 : W5.cell? ⟨g, 2, none⟩ = some (.int .i64 p.2) := (cell_of_row _ _ _ _ _ _ hrr).trans rfl
  refine (err_any g p.2 W5 he5).mono ?_
  rintro e w6 ⟨rfl, rfl⟩
  clear he5 hrr
  have HF2 : Hid _ := f2
  have HF3 : Hid _ := f3
  have HZB : Hid _ := buildz
  have hzone := ob_one zeroOb rfl rfl rfl
  have HZ1 : Hid _ := hzone
  have HO1 : Hid _ := hone
  have HH : Hid _ := hHas
  clear f2 f3 hzone hone hHas
  by_cases hp : p.2 = 0
  · rw [hp]
    have c5 : w6.cell? ⟨w2.heap.size, 0, none⟩ = some (.pointer (some ⟨g, 0, none⟩)) := (cell_of_row _ _ _ _ _ _ HF2.out).trans (ord_cell0 _ _)
    have HOC : Hid (∀ j u, o.cells[j]? = some u → w6.cell? ⟨w2.heap.size, 1 + j, none⟩ = some u) := fun j u hu => (cell_of_row _ _ _ _ _ _ HF2.out).trans ((ord_cell g o j).trans hu)
    go_wp2_with (refine load_mid (by rfl) 30 (.tmp 62) (by rfl) w2.heap.size 1 (by rfl) o.cells _ HOC.out Try.underlying30 rfl (by rw [o.size]; kernel_rfl) ?_)
    refine (encode_any o c w6 HH.out hF.n).mono ?_
    rintro e w7 ⟨hB7, hcase⟩
    have HF7 : Hid _ := (hB7.block _ (lt_of_row HF3.out)).trans HF3.out
    have HR7 : Hid _ := (hB7.block _ (lt_of_row HF2.out)).trans HF2.out
    have f7 : Below w.heap.size w w7 := f1.trans (hB7.mono f1.size)
    have HH7 : Hid _ := HH.out.below hB7
    have hO7' : Hid (∀ j u, o.cells[j]? = some u → w7.cell? ⟨w2.heap.size, 1 + j, none⟩ = some u) := fun j u hu => (cell_of_row _ _ _ _ _ _ HR7.out).trans ((ord_cell g o j).trans hu)
    have c7 : w7.cell? ⟨w2.heap.size, 0, none⟩ = some (.pointer (some ⟨g, 0, none⟩)) := (cell_of_row _ _ _ _ _ _ HR7.out).trans (ord_cell0 _ _)
    clear hB7 c5 HOC HF2 HF3 f1 f4 HH
    rcases hcase with ⟨hr, v, rfl, hO, -⟩ | ⟨hnr, rfl⟩
    · obtain ⟨sq, cq, rfl, hS⟩ := Own.src hO
      have HS : Hid _ := hS
      have hsrc7 : SrcAt w7 .u8 sp n src := SrcAt.below HSRC.out f7
      have HS7 : Hid _ := hsrc7
      clear hO hS hsrc7
      go_wp2_with fail
      refine (equal_any sq sp _ n cq cap _ src w7 HS.out HS7.out (fun i _ => getD_ok (enc_ok hr hF HH7.out.bok) i) HOK.out (by have := enc_len hr; omega)).mono ?_
      rintro e w8 ⟨rfl, rfl⟩
      by_cases hE : encB o c = L
      · rw [(equal_lists HLL.out).2 hE]
        go_wp2_with (first
          | (refine load_mid (by rfl) 30 (.tmp 76) (by rfl) w2.heap.size 1 (by rfl) o.cells _ hO7'.out Try.underlying30 rfl (by rw [o.size]; kernel_rfl) ?_)
          | (refine wpList_store_row (by rfl) 30 (.tmp 2) (.tmp 77) (by rfl) w.heap.size o.cells (by rfl) (by rfl) 30 _ HF7.out (by rw [Ob.size]; kernel_rfl) (by rw [Ob.size, Ob.size]) HO1.out ?_))
        refine bodyPost_ret (v := .tuple #[.agg o.cells, .int .i64 0]) ?_ rfl (HPOST.out _ _ ⟨?_, .inr (.inr ⟨hp, hr, hE, rfl, ?_⟩)⟩)
        · exact results_cell_tmp Try.results7 _ _ w.heap.size 30 _ (0, 0) _ _ rfl rfl (heap_setRow_same HF7.out) Try.underlying30 rfl (by rw [Ob.size]; kernel_rfl)
        · exact below_setRow' f7 (Nat.le_refl _) _
        · exact HH7.out.but hA (setRow_but _ _ _)
      · rw [show ((encB o c).length == n && eqTo (fun i => (encB o c).getD i 0) src (encB o c).length) = false from Bool.eq_false_iff.2 fun h => hE ((equal_lists HLL.out).1 h)]
        go_wp2_with (first
          | (refine wpList_build (by rfl) 30 _ (by rfl) [] (by rfl) (.agg zeroOb.cells) (HZB.out _) ?_)
          | (refine wpList_store_row (by rfl) 30 (.tmp 2) (.tmp 75) (by rfl) w.heap.size zeroOb.cells (by rfl) (by rfl) 30 _ HF7.out (by rw [Ob.size]; kernel_rfl) rfl HZ1.out ?_))
        refine bodyPost_ret (v := .tuple #[.agg zeroOb.cells, .int .i64 150]) ?_ rfl (HPOST.out _ _ ⟨?_, .inr (.inl ⟨hp, .inr hE, rfl⟩)⟩)
        · exact results_cell_tmp Try.results7 _ _ w.heap.size 30 _ (0, 0) _ _ rfl rfl (heap_setRow_same HF7.out) Try.underlying30 rfl (by rw [Ob.size]; kernel_rfl)
        · exact below_setRow' f7 (Nat.le_refl _) _
    · go_wp2_with (first
        | (refine wpList_build (by rfl) 30 _ (by rfl) [] (by rfl) (.agg zeroOb.cells) (HZB.out _) ?_)
        | (refine wpList_store_row (by rfl) 30 (.tmp 2) (.tmp 75) (by rfl) w.heap.size zeroOb.cells (by rfl) (by rfl) 30 _ HF7.out (by rw [Ob.size]; kernel_rfl) rfl HZ1.out ?_))
      refine bodyPost_ret (v := .tuple #[.agg zeroOb.cells, .int .i64 150]) ?_ rfl (HPOST.out _ _ ⟨?_, .inr (.inl ⟨hp, .inl hnr, rfl⟩)⟩)
      · exact results_cell_tmp Try.results7 _ _ w.heap.size 30 _ (0, 0) _ _ rfl rfl (heap_setRow_same HF7.out) Try.underlying30 rfl (by rw [Ob.size]; kernel_rfl)
      · exact below_setRow' f7 (Nat.le_refl _) _
  · have hp' : (p.2 != 0) = true := by simpa using hp
    go_wp2_with (first
      | (refine wpList_build (by rfl) 30 _ (by rfl) [] (by rfl) (.agg zeroOb.cells) (HZB.out _) ?_)
      | (refine wpList_store_row (by rfl) 30 (.tmp 2) (.tmp 59) (by rfl) w.heap.size zeroOb.cells (by rfl) (by rfl) 30 _ HF3.out (by rw [Ob.size]; kernel_rfl) rfl HZ1.out ?_))
    refine bodyPost_ret (v := .tuple #[.agg zeroOb.cells, .int .i64 p.2]) ?_ rfl (HPOST.out _ _ ⟨?_, .inl ⟨hp, rfl⟩⟩)
    · exact results_cell_tmp Try.results7 _ _ w.heap.size 30 _ (0, 0) _ _ rfl rfl (heap_setRow_same HF3.out) Try.underlying30 rfl (by rw [Ob.size]; kernel_rfl)
    · exact below_setRow' f1 (Nat.le_refl _) _
end Go.Proofs.Ytnaoaeapffgojaa
