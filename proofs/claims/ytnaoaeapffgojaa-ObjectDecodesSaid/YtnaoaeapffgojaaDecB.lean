/- The contract of object.Decode at a blob. -/
import Derived.Test.YtnaoaeapffgojaaDecL
namespace Go.Proofs.Ytnaoaeapffgojaa
open Go.RowKit

/-- A blob's bytes, as they are read: how many, and these. -/
def bN (L : List Int) : (Nat × Int) × List Int := tk L (tk L (0, 0) 1).1 2
def bB (L : List Int) : (Nat × Int) × List Int := tk L (bN L).1 (numOf (bN L).2).toNat
def blobOb (L : List Int) (sq : Option Addr) (cq : Nat) : Ob := { zeroOb with kind := 1, bs := .slice sq (bB L).2.length cq }
def blobCo (L : List Int) : Co := ⟨(bB L).2.length, fun i => (bB L).2.getD i 0, [], []⟩
theorem Own.nil {w : World} {v : Value} {L : List Int} (h : Own w v L) : ∀ n cap, v = .slice none n cap → cap = 0 := by
  intro n cap hv
  rcases h.2 with ⟨h1, -⟩ | ⟨k, c, cur, h1, -⟩
  · rw [h1] at hv; injection hv with _ _ hv; exact hv.symm
  · rw [h1] at hv; injection hv with hv; cases hv

set_option maxRecDepth 100000 in
set_option maxHeartbeats 2000000 in
theorem decode_blob (sp : Option Addr) (n cap : Nat) (src : Nat → Int) (w : World) (hsrc : SrcAt w .u8 sp n src) (hcap : sp = none → cap = 0 ∧ n = 0) (hn : n ≤ 100000) (hok : ∀ i, i < n → 0 ≤ src i ∧ src i ≤ 255)
    (hk : numOf (tk ((List.range n).map src) (0, 0) 1).2 = 1) :
    Calls Try.prog 7 #[.slice sp n cap] w fun e w' => ∃ sq cq, DecPost ((List.range n).map src) (blobOb ((List.range n).map src) sq cq) (blobCo ((List.range n).map src)) (bB ((List.range n).map src)).1 w e w' := by
  go_enter Try.func7, Try.ntmps7
  go_wp2_with fail
  refine calls_gen (fun W1 => Below w.heap.size w W1 ∧ W1.heap[w.heap.size]? = some (.cells zeroOb.cells 30 (0, 0))) ⟨(Below.refl _ _).alloc (Nat.le_refl _) _, (heap_alloc_new _ _).trans rfl⟩ ?_
  intro W1 ⟨hB1, hr0⟩
  refine (read_any sp n cap src W1 (hsrc.below hB1) hcap hn hok).mono ?_
  rintro e w2 ⟨g, rfl, hg, hR2, hB2⟩
  have hz0 := lt_of_row hr0
  have hg0 : w.heap.size < g := by omega
  have hr0' : w2.heap[w.heap.size]? = some (.cells zeroOb.cells 30 (0, 0)) := (hB2.block _ hz0).trans hr0
  have hBw : Below w.heap.size w w2 := hB1.trans (hB2.mono hB1.size)
  have H0 : Hid _ := hr0'
  have HR2 : Hid _ := hR2
  have HBW : Hid _ := hBw
  have HSRC : Hid _ := hsrc
  have HOK : Hid _ := hok
  clear hr0 hr0' hB1 hB2 hR2 hBw hsrc hok hcap
  have hLL : (List.range n).map src = (List.range n).map src := rfl
  generalize hL : (List.range n).map src = L at HR2 hk hLL
  have HLL : Hid _ := hL
  clear hL hLL
  obtain ⟨io, zo, hio, hzo⟩ : ∃ i z, Try.prog.info? 49 = some i ∧ i.zero = some z := by
    have h := zero_ord
    cases hi : Try.prog.info? 49 with
    | none => simp [hi] at h
    | some i => exact ⟨i, _, rfl, by simpa [hi] using h⟩
  have hzc : zo = .agg (#[.pointer none] ++ zeroOb.cells) := by
    have h := zero_ord
    rw [hio] at h
    simp only [Option.bind_some] at h
    rw [hzo] at h
    exact Option.some.inj h
  have HIO : Hid _ := hio
  have HZO : Hid _ := hzo
  have hone := ord_one g zeroOb rfl rfl rfl
  have hzs : zo.cells.size = 39 := by rw [hzc]; rfl
  have HONE : Hid _ := hone
  have HZS : Hid _ := hzs
  clear hio hzo hzc hone hzs
  have HBO : Hid _ := build_ord g
  go_wp2_with (first
    | (refine wpList_build (by rfl) 49 _ (by rfl) [(0, .pointer (some ⟨g, 0, none⟩))] (by rfl) (.agg (ordCells g zeroOb)) (HBO.out _) ?_)
    | (refine wpList_alloc_any (by rfl) 49 (by rfl) io zo HIO.out HZO.out ?_)
    | (refine wpList_store_row (by rfl) 49 (.tmp 4) (.tmp 10) (by rfl) w2.heap.size (ordCells g zeroOb) (by rfl) (by rfl) 49 _ (heap_alloc_new _ _) (by rw [ord_size]; kernel_rfl) (by rw [ord_size]; exact HZS.out) HONE.out ?_; refine wpList_gen (fun W => Below w2.heap.size w2 W ∧ W.heap[w2.heap.size]? = some (.cells (ordCells g zeroOb) 49 (0, 0)) ∧ W.cell? ⟨w2.heap.size, 0, none⟩ = some (.pointer (some ⟨g, 0, none⟩))) ⟨below_setRow' ((Below.refl _ _).alloc (Nat.le_refl _) _) (Nat.le_refl _) _, heap_setRow_same (heap_alloc_new _ _), (cell_of_row _ _ _ _ _ _ (heap_setRow_same (heap_alloc_new _ _))).trans (ord_cell0 _ _)⟩ ?_; intro W3 hW3; have hh3 := hW3.2.2; have HW3 : Hid _ := hW3; clear hW3))
  refine (u8_any g L (0, 0) W3 (HR2.out.keep HW3.out.1)).mono ?_
  rintro e w4 ⟨rfl, hR4, hG4⟩
  have hgo := HR2.out.own
  have hz3 := lt_of_row HW3.out.2.1
  have hgne : g ≠ w2.heap.size := by omega
  have hw0 := lt_of_row H0.out
  have hr4 : w4.heap[w2.heap.size]? = some (.cells (ordCells g zeroOb) 49 (0, 0)) := (hG4.block _ hz3 (fun e => by injection e with e; omega)).trans HW3.out.2.1
  have c4 : w4.cell? ⟨w2.heap.size, 1, none⟩ = some (.int .i64 0) := (ord_ob hr4).c0
  have hz4 : ∀ j, w4.frozen? ⟨w2.heap.size, j, none⟩ = false := fun j => frozen_of_row _ _ j _ _ hr4
  have hb := numOf_len (tk_ok HR2.out.ok (0, 0) 1) (tk_len L (0, 0) 1)
  have hx0 := hb.1
  have hx1 : numOf (tk L (0, 0) 1).2 < 256 := hb.2
  have hc4 : w4.cell? ⟨w2.heap.size, 0, none⟩ = some (.pointer (some ⟨g, 0, none⟩)) := (cell_of_row _ _ _ _ _ _ hr4).trans (ord_cell0 _ _)
  have hr0 : w4.heap[w.heap.size]? = some (.cells zeroOb.cells 30 (0, 0)) := (hG4.block _ (Nat.lt_of_lt_of_le hw0 HW3.out.1.size) (fun e => by injection e with e; omega)).trans ((HW3.out.1.block _ hw0).trans H0.out)
  have hws : w.heap.size ≤ w2.heap.size := HBW.out.size
  have hBw4 : Below w.heap.size w w4 := HBW.out.trans ⟨hG4.os.trans HW3.out.1.os, hG4.tape.trans HW3.out.1.tape, hG4.output.trans HW3.out.1.output, Nat.le_trans HW3.out.1.size hG4.size, fun k hk => (hG4.block k (by have := HW3.out.1.size; omega) (fun e => by injection e with e; omega)).trans (HW3.out.1.block k (by omega))⟩
  have HWL : Hid (w.heap.size < w2.heap.size) := show w.heap.size < w2.heap.size by omega
  have HG0 : Hid (w.heap.size < g) := hg0
  rw [hk]
  have HM4 : Hid (Mid w w2.heap.size g L zeroOb (tk L (0, 0) 1).1 w4) := ⟨hBw4, hr4, hr0, hR4⟩
  have hLok := hR4.ok
  clear hR4 hG4 hr4 hr0 hBw4 hb hk hx0 hx1 H0 HR2 HBW HW3 HIO HZO HONE HZS HBO hh3 hgo hz3 hw0 hws hg0
  go_wp2_with fail
  refine wp_gen (fun W5 => Mid w w2.heap.size g L { zeroOb with kind := 1 } (tk L (0, 0) 1).1 W5) (HM4.out.set HWL.out (ord_kind _ _ _)) ?_
  intro W5 hM5
  have d5 := hM5.ptr
  clear HM4 c4 hz4 hc4
  refine wp_region_held (S := fun w' => w'.cell? ⟨w2.heap.size, 0, none⟩ = some (.pointer (some ⟨g, 0, none⟩))) (by kernel_rfl) ?_
  have hS0 : W5.drew.cell? ⟨w2.heap.size, 0, none⟩ = some (.pointer (some ⟨g, 0, none⟩)) := d5
  refine take_run (i := 0) (.pointer (some ⟨w2.heap.size, 0, none⟩)) rfl (by kernel_rfl) (by kernel_rfl) (by kernel_rfl) (fun _ _ _ h => h) rfl (fun w' q1 => by go_simp) hS0 ?_
  refine take_run (i := 1) (.pointer (some ⟨g, 0, none⟩)) rfl (by kernel_rfl) (by kernel_rfl) (by kernel_rfl) (fun _ _ _ h => h) rfl (fun w' q1 => by go_simp) hS0 ?_
  refine take_run (i := 2) (.pointer (some ⟨w2.heap.size, 0, none⟩)) rfl (by kernel_rfl) (by kernel_rfl) (by kernel_rfl) (fun _ _ _ h => h) rfl (fun w' q1 => by go_simp) hS0 ?_
  refine take_run (i := 3) (.pointer (some ⟨g, 0, none⟩)) rfl (by kernel_rfl) (by kernel_rfl) (by kernel_rfl) (fun _ _ _ h => h) rfl (fun w' q1 => by go_simp) hS0 ?_
  refine next_one (i := 4) rfl (by kernel_rfl) rfl rfl ?_
  go_simp
  refine (u16_any g L (tk L (0, 0) 1).1 _ (hM5.rd.keep (Below.refl _ _).drew)).mono ?_
  rintro e w6 ⟨rfl, hR6, hG6⟩
  have hM6 := hM5.grown HG0.out hR6 (grown_like hG6 rfl rfl rfl rfl)
  refine ⟨hM6.ptr, ?_⟩
  have hnb := numOf_len (tk_ok hLok (tk L (0, 0) 1).1 2) (tk_len L (tk L (0, 0) 1).1 2)
  rw [show tk L (tk L (0, 0) 1).1 2 = bN L from rfl] at hM6 hnb ⊢
  have hnb2 : numOf (bN L).2 < 65536 := by simpa using hnb.2
  obtain ⟨x, hx, hx2⟩ : ∃ x : Nat, numOf (bN L).2 = (x : Int) ∧ x ≤ 65535 := ⟨(numOf (bN L).2).toNat, by omega, by omega⟩
  rw [hx]
  have hwx : IntKind.i64.wrap (x : Int) = x := by rw [IntKind.wrap_i64]; omega
  refine take_run (i := 5) (.int .i64 x) rfl (by kernel_rfl) (by kernel_rfl) (by kernel_rfl) (fun _ _ _ h => h) rfl (fun w' q1 => by go_simp) hM6.ptr ?_
  refine next_one (i := 6) rfl (by kernel_rfl) rfl rfl ?_
  go_simp
  refine (raw_any g L (bN L).1 x w6 hM6.rd (by omega)).mono ?_
  rintro e w7 ⟨v, rfl, hO7, hk7, hR7, hG7⟩
  have hM7 := hM6.grown HG0.out hR7 hG7
  refine ⟨hM7.ptr, ?_⟩
  have c7 : w7.cell? ⟨w2.heap.size, 2, none⟩ = some (.slice none 0 0) := (ord_ob hM7.row).c1
  have z7 := hM7.cold
  refine take_run (i := 7) (.pointer (some ⟨w2.heap.size, 1, none⟩)) rfl (by kernel_rfl) (by kernel_rfl) (by kernel_rfl) (fun _ _ _ h => h) rfl (fun w' q1 => by go_simp) hM7.ptr ?_
  refine take_run (i := 8) (.pointer (some ⟨w2.heap.size, 2, none⟩)) rfl (by kernel_rfl) (by kernel_rfl) (by kernel_rfl) (fun _ _ _ h => h) rfl (fun w' q1 => by go_simp) hM7.ptr ?_
  refine next_one (i := 9) rfl (by kernel_rfl) rfl rfl ?_
  have hnil := Own.nil hO7
  obtain ⟨sq, cq, rfl, hS7⟩ := Own.src hO7
  have hlt6 := lt_of_row hM6.row
  have hlt6' := lt_of_row hM6.res
  clear hM5 d5 hS0 hR6 hG6 hM6 hnb hR7 hG7
  go_simp
  refine ⟨hM7.ptr, ?_⟩
  refine wpAnyH_done (by kernel_rfl) ?_ _
  have hap : ∀ a, sq = some a → a.block ≠ w.heap.size := fun a ha => by subst ha; have := hk7 _ rfl; omega
  have hap2 : ∀ a, sq = some a → a.block ≠ w2.heap.size := fun a ha => by subst ha; have := hk7 _ rfl; omega
  have hMok := tk_ok hLok (bN L).1 x
  have hMlen := tk_len L (bN L).1 x
  have hBx : bB L = tk L (bN L).1 x := by unfold bB; rw [hx]; rfl
  have HBX : Hid _ := hBx
  rw [← hBx] at hM7 hS7 hMok hMlen hnil ⊢
  generalize hZ : bB L = Z at hM7 hS7 hMok hMlen hnil
  have HZ : Hid _ := hZ
  clear hZ HBX hBx hx hwx c7 z7 hk7 hlt6 hlt6' hnb2
  have hM5 : Mid w w2.heap.size g L { zeroOb with kind := 1, bs := .slice sq Z.2.length cq } Z.1 (w7.setCell ⟨w2.heap.size, 2, none⟩ (.slice sq Z.2.length cq)) := hM7.set HWL.out (ord_bs _ _ _)
  have f5 : SrcAt (w7.setCell ⟨w2.heap.size, 2, none⟩ (.slice sq Z.2.length cq)) .u8 sq Z.2.length fun i => Z.2.getD i 0 := hS7.but hap2 (setCell_but _ _ _ _)
  generalize w7.setCell ⟨w2.heap.size, 2, none⟩ (.slice sq Z.2.length cq) = W5 at hM5 f5
  have d5 := hM5.ptr
  clear hM7 hS7
  have HM5 : Hid _ := hM5
  have HF5 : Hid _ := f5
  have HNIL : Hid _ := hnil
  clear hM5 f5 hnil
  go_wp2_with fail
  obtain ⟨f1, f2, f3, f4⟩ := HM5.out
  have hHas : Has W5 { zeroOb with kind := 1, bs := .slice sq Z.2.length cq } ⟨Z.2.length, fun i => Z.2.getD i 0, [], []⟩ := ⟨⟨sq, cq, rfl, HF5.out⟩, ⟨none, 0, rfl, RowsAt.none⟩, ⟨none, 0, rfl, RowsAt.none⟩, fun i _ => getD_ok hMok i, HNIL.out, by show Z.2.length ≤ 100000000; omega, by simp, by simp⟩
  have hF : Fit { zeroOb with kind := 1, bs := .slice sq Z.2.length cq } ⟨Z.2.length, fun i => Z.2.getD i 0, [], []⟩ := ⟨fun e he => by simp at he, fun i => ⟨Int.le_refl 0, by show (0 : Int) ≤ 255; omega⟩, fun f hf => by simp at hf, ⟨Int.le_refl 0, by show (0 : Int) < 4294967296; omega⟩⟩
  have hA : Apart { zeroOb with kind := 1, bs := .slice sq Z.2.length cq } w.heap.size := by
    rintro a n cap (h | h | h)
    · injection h with h; exact hap a h
    · injection h with h; cases h
    · injection h with h; cases h
  have hPost : ∀ e w', DecPost L { zeroOb with kind := 1, bs := .slice sq Z.2.length cq } ⟨Z.2.length, fun i => Z.2.getD i 0, [], []⟩ Z.1 w e w' → ∃ sq cq, DecPost ((List.range n).map src) (blobOb ((List.range n).map src) sq cq) (blobCo ((List.range n).map src)) (bB ((List.range n).map src)).1 w e w' := fun e w' hh => ⟨sq, cq, by rw [HLL.out]; unfold blobOb blobCo; rw [HZ.out]; exact hh⟩
  have HPOST : Hid _ := hPost
  have hone : ({ zeroOb with kind := 1, bs := .slice sq Z.2.length cq } : Ob).cells.all (·.oneCell') = true := ob_one _ rfl rfl rfl
  clear HM5 HF5 HNIL d5 hPost hMok hMlen hap hap2
  generalize hp0 : Z.1 = p at *
  generalize ({ zeroOb with kind := 1, bs := .slice sq Z.2.length cq } : Ob) = o at *
  generalize (⟨Z.2.length, fun i => Z.2.getD i 0, [], []⟩ : Co) = c at *
  obtain ⟨sr, cr, hrr, -⟩ := f4.row
  have he5 : W5.cell? ⟨g, 2, none⟩ = some (.int .i64 p.2) := (cell_of_row _ _ _ _ _ _ hrr).trans rfl
  refine (err_any g p.2 W5 he5).mono ?_
  rintro e w6 ⟨rfl, rfl⟩
  clear he5 hrr
  have HF2 : Hid _ := f2
  have HF3 : Hid _ := f3
  have HZB : Hid _ := buildz
  have hzone := ob_one zeroOb rfl rfl rfl
  have HZ1 : Hid _ := hzone
  have HO1 : Hid _ := hone
  have HH : Hid _ := hHas
  clear f2 f3 hzone hone hHas
  by_cases hp : p.2 = 0
  · rw [hp]
    have c5 : w6.cell? ⟨w2.heap.size, 0, none⟩ = some (.pointer (some ⟨g, 0, none⟩)) := (cell_of_row _ _ _ _ _ _ HF2.out).trans (ord_cell0 _ _)
    have HOC : Hid (∀ j u, o.cells[j]? = some u → w6.cell? ⟨w2.heap.size, 1 + j, none⟩ = some u) := fun j u hu => (cell_of_row _ _ _ _ _ _ HF2.out).trans ((ord_cell g o j).trans hu)
    go_wp2_with (refine load_mid (by rfl) 30 (.tmp 62) (by rfl) w2.heap.size 1 (by rfl) o.cells _ HOC.out Try.underlying30 rfl (by rw [o.size]; kernel_rfl) ?_)
    refine (encode_any o c w6 HH.out hF.n).mono ?_
    rintro e w7 ⟨hB7, hcase⟩
    have HF7 : Hid _ := (hB7.block _ (lt_of_row HF3.out)).trans HF3.out
    have HR7 : Hid _ := (hB7.block _ (lt_of_row HF2.out)).trans HF2.out
    have f7 : Below w.heap.size w w7 := f1.trans (hB7.mono f1.size)
    have HH7 : Hid _ := HH.out.below hB7
    have hO7' : Hid (∀ j u, o.cells[j]? = some u → w7.cell? ⟨w2.heap.size, 1 + j, none⟩ = some u) := fun j u hu => (cell_of_row _ _ _ _ _ _ HR7.out).trans ((ord_cell g o j).trans hu)
    have c7 : w7.cell? ⟨w2.heap.size, 0, none⟩ = some (.pointer (some ⟨g, 0, none⟩)) := (cell_of_row _ _ _ _ _ _ HR7.out).trans (ord_cell0 _ _)
    clear hB7 c5 HOC HF2 HF3 f1 f4 HH
    rcases hcase with ⟨hr, v, rfl, hO, -⟩ | ⟨hnr, rfl⟩
    · obtain ⟨sq, cq, rfl, hS⟩ := Own.src hO
      have HS : Hid _ := hS
      have hsrc7 : SrcAt w7 .u8 sp n src := SrcAt.below HSRC.out f7
      have HS7 : Hid _ := hsrc7
      clear hO hS hsrc7
      go_wp2_with fail
      refine (equal_any sq sp _ n cq cap _ src w7 HS.out HS7.out (fun i _ => getD_ok (enc_ok hr hF HH7.out.bok) i) HOK.out (by have := enc_len hr; omega)).mono ?_
      rintro e w8 ⟨rfl, rfl⟩
      by_cases hE : encB o c = L
      · rw [(equal_lists HLL.out).2 hE]
        go_wp2_with (first
          | (refine load_mid (by rfl) 30 (.tmp 76) (by rfl) w2.heap.size 1 (by rfl) o.cells _ hO7'.out Try.underlying30 rfl (by rw [o.size]; kernel_rfl) ?_)
          | (refine wpList_store_row (by rfl) 30 (.tmp 2) (.tmp 77) (by rfl) w.heap.size o.cells (by rfl) (by rfl) 30 _ HF7.out (by rw [Ob.size]; kernel_rfl) (by rw [Ob.size, Ob.size]) HO1.out ?_))
        refine bodyPost_ret (v := .tuple #[.agg o.cells, .int .i64 0]) ?_ rfl (HPOST.out _ _ ⟨?_, .inr (.inr ⟨hp, hr, hE, rfl, ?_⟩)⟩)
        · exact results_cell_tmp Try.results7 _ _ w.heap.size 30 _ (0, 0) _ _ rfl rfl (heap_setRow_same HF7.out) Try.underlying30 rfl (by rw [Ob.size]; kernel_rfl)
        · exact below_setRow' f7 (Nat.le_refl _) _
        · exact HH7.out.but hA (setRow_but _ _ _)
      · rw [show ((encB o c).length == n && eqTo (fun i => (encB o c).getD i 0) src (encB o c).length) = false from Bool.eq_false_iff.2 fun h => hE ((equal_lists HLL.out).1 h)]
        go_wp2_with (first
          | (refine wpList_build (by rfl) 30 _ (by rfl) [] (by rfl) (.agg zeroOb.cells) (HZB.out _) ?_)
          | (refine wpList_store_row (by rfl) 30 (.tmp 2) (.tmp 75) (by rfl) w.heap.size zeroOb.cells (by rfl) (by rfl) 30 _ HF7.out (by rw [Ob.size]; kernel_rfl) rfl HZ1.out ?_))
        refine bodyPost_ret (v := .tuple #[.agg zeroOb.cells, .int .i64 150]) ?_ rfl (HPOST.out _ _ ⟨?_, .inr (.inl ⟨hp, .inr hE, rfl⟩)⟩)
        · exact results_cell_tmp Try.results7 _ _ w.heap.size 30 _ (0, 0) _ _ rfl rfl (heap_setRow_same HF7.out) Try.underlying30 rfl (by rw [Ob.size]; kernel_rfl)
        · exact below_setRow' f7 (Nat.le_refl _) _
    · go_wp2_with (first
        | (refine wpList_build (by rfl) 30 _ (by rfl) [] (by rfl) (.agg zeroOb.cells) (HZB.out _) ?_)
        | (refine wpList_store_row (by rfl) 30 (.tmp 2) (.tmp 75) (by rfl) w.heap.size zeroOb.cells (by rfl) (by rfl) 30 _ HF7.out (by rw [Ob.size]; kernel_rfl) rfl HZ1.out ?_))
      refine bodyPost_ret (v := .tuple #[.agg zeroOb.cells, .int .i64 150]) ?_ rfl (HPOST.out _ _ ⟨?_, .inr (.inl ⟨hp, .inl hnr, rfl⟩)⟩)
      · exact results_cell_tmp Try.results7 _ _ w.heap.size 30 _ (0, 0) _ _ rfl rfl (heap_setRow_same HF7.out) Try.underlying30 rfl (by rw [Ob.size]; kernel_rfl)
      · exact below_setRow' f7 (Nat.le_refl _) _
  · have hp' : (p.2 != 0) = true := by simpa using hp
    go_wp2_with (first
      | (refine wpList_build (by rfl) 30 _ (by rfl) [] (by rfl) (.agg zeroOb.cells) (HZB.out _) ?_)
      | (refine wpList_store_row (by rfl) 30 (.tmp 2) (.tmp 59) (by rfl) w.heap.size zeroOb.cells (by rfl) (by rfl) 30 _ HF3.out (by rw [Ob.size]; kernel_rfl) rfl HZ1.out ?_))
    refine bodyPost_ret (v := .tuple #[.agg zeroOb.cells, .int .i64 p.2]) ?_ rfl (HPOST.out _ _ ⟨?_, .inl ⟨hp, rfl⟩⟩)
    · exact results_cell_tmp Try.results7 _ _ w.heap.size 30 _ (0, 0) _ _ rfl rfl (heap_setRow_same HF3.out) Try.underlying30 rfl (by rw [Ob.size]; kernel_rfl)
    · exact below_setRow' f1 (Nat.le_refl _) _
end Go.Proofs.Ytnaoaeapffgojaa
