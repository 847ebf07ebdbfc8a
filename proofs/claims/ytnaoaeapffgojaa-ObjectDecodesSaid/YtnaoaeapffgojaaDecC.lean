/- The contract of object.Decode: its tail, from where all is read. -/
import Derived.Test.YtnaoaeapffgojaaDecR
namespace Go.Proofs.Ytnaoaeapffgojaa
open Go.RowKit

theorem results_cell_tmp {P : Program} {fn : Func} {p q : Tmp} {ty : TypeId} (h : fn.results = #[.cell p ty, .tmp q]) (tmps : Array Value) (w : World) (g : Nat) (t : TypeId) (cs : Array Value) (fr : Nat × Nat) (d : TypeDesc) (v : Value)
    (hp : tmps.getD p undef = .pointer (some ⟨g, 0, none⟩)) (hq : tmps.getD q undef = v) (hg : w.heap[g]? = some (.cells cs t fr))
    (hu : P.underlying ty = some d) (hd : (match d with | .struct _ | .array _ _ => true | _ => false) = true) (hi : (P.info? ty).map (·.size) = some cs.size) :
    (results fn tmps).run P w = .ok (.tuple #[.agg cs, v]) w := by
  have hp' : tmps[p]?.getD undef = .pointer (some ⟨g, 0, none⟩) := by simpa using hp
  have hq' : tmps[q]?.getD undef = v := by simpa using hq
  simp [results, h, hp', hq', asAddr, run_loadVar_row w g t ty cs fr d hg hu hd hi]

/-- What Decode leaves. -/
def DecPost (L : List Int) (o : Ob) (c : Co) (p : Nat × Int) (w : World) (e : Ending) (w' : World) : Prop :=
  Below w.heap.size w w' ∧ ((p.2 ≠ 0 ∧ e = .returned (.tuple #[.agg zeroOb.cells, .int .i64 p.2])) ∨ (p.2 = 0 ∧ (rightB o c = false ∨ encB o c ≠ L) ∧ e = .returned (.tuple #[.agg zeroOb.cells, .int .i64 150])) ∨
    (p.2 = 0 ∧ rightB o c = true ∧ encB o c = L ∧ e = .returned (.tuple #[.agg o.cells, .int .i64 0]) ∧ Has w' o c))

set_option maxRecDepth 100000 in
set_option maxHeartbeats 2000000 in
theorem decode_other (sp : Option Addr) (n cap : Nat) (src : Nat → Int) (w : World) (hsrc : SrcAt w .u8 sp n src) (hcap : sp = none → cap = 0 ∧ n = 0) (hn : n ≤ 100000) (hok : ∀ i, i < n → 0 ≤ src i ∧ src i ≤ 255)
    (hk : numOf (tk ((List.range n).map src) (0, 0) 1).2 ≠ 1 ∧ numOf (tk ((List.range n).map src) (0, 0) 1).2 ≠ 2 ∧ numOf (tk ((List.range n).map src) (0, 0) 1).2 ≠ 3) :
    Calls Try.prog 7 #[.slice sp n cap] w (DecPost ((List.range n).map src) { zeroOb with kind := numOf (tk ((List.range n).map src) (0, 0) 1).2 } ⟨0, fun _ => 0, [], []⟩ (tk ((List.range n).map src) (0, 0) 1).1 w) := by
  go_enter Try.func7, Try.ntmps7
  go_wp2_with fail
  refine calls_gen (fun W1 => Below w.heap.size w W1 ∧ W1.heap[w.heap.size]? = some (.cells zeroOb.cells 30 (0, 0))) ⟨(Below.refl _ _).alloc (Nat.le_refl _) _, (heap_alloc_new _ _).trans rfl⟩ ?_
  intro W1 ⟨hB1, hr0⟩
  refine (read_any sp n cap src W1 (hsrc.below hB1) hcap hn hok).mono ?_
  rintro e w2 ⟨g, rfl, hg, hR2, hB2⟩
  have hz0 := lt_of_row hr0
  have hg0 : w.heap.size < g := by omega
  have hr0' : w2.heap[w.heap.size]? = some (.cells zeroOb.cells 30 (0, 0)) := (hB2.block _ hz0).trans hr0
  have hBw : Below w.heap.size w w2 := hB1.trans (hB2.mono hB1.size)
  have H0 : Hid _ := hr0'
  have HR2 : Hid _ := hR2
  have HBW : Hid _ := hBw
  have HSRC : Hid _ := hsrc
  have HOK : Hid _ := hok
  clear hr0 hr0' hB1 hB2 hR2 hBw hsrc hok hcap
  have hLL : (List.range n).map src = (List.range n).map src := rfl
  generalize hL : (List.range n).map src = L at HR2 hk hLL
  have HLL : Hid _ := hL
  clear hL hLL
  obtain ⟨io, zo, hio, hzo⟩ : ∃ i z, Try.prog.info? 49 = some i ∧ i.zero = some z := by
    have h := zero_ord
    cases hi : Try.prog.info? 49 with
    | none => simp [hi] at h
    | some i => exact ⟨i, _, rfl, by simpa [hi] using h⟩
  have hzc : zo = .agg (#[.pointer none] ++ zeroOb.cells) := by
    have h := zero_ord
    rw [hio] at h
    simp only [Option.bind_some] at h
    rw [hzo] at h
    exact Option.some.inj h
  have HIO : Hid _ := hio
  have HZO : Hid _ := hzo
  have hone := ord_one g zeroOb rfl rfl rfl
  have hzs : zo.cells.size = 39 := by rw [hzc]; rfl
  have HONE : Hid _ := hone
  have HZS : Hid _ := hzs
  clear hio hzo hzc hone hzs
  have HBO : Hid _ := build_ord g
  go_wp2_with (first
    | (refine wpList_build (by rfl) 49 _ (by rfl) [(0, .pointer (some ⟨g, 0, none⟩))] (by rfl) (.agg (ordCells g zeroOb)) (HBO.out _) ?_)
    | (refine wpList_alloc_any (by rfl) 49 (by rfl) io zo HIO.out HZO.out ?_)
    | (refine wpList_store_row (by rfl) 49 (.tmp 4) (.tmp 10) (by rfl) w2.heap.size (ordCells g zeroOb) (by rfl) (by rfl) 49 _ (heap_alloc_new _ _) (by rw [ord_size]; kernel_rfl) (by rw [ord_size]; exact HZS.out) HONE.out ?_; refine wpList_gen (fun W => Below w2.heap.size w2 W ∧ W.heap[w2.heap.size]? = some (.cells (ordCells g zeroOb) 49 (0, 0)) ∧ W.cell? ⟨w2.heap.size, 0, none⟩ = some (.pointer (some ⟨g, 0, none⟩))) ⟨below_setRow' ((Below.refl _ _).alloc (Nat.le_refl _) _) (Nat.le_refl _) _, heap_setRow_same (heap_alloc_new _ _), (cell_of_row _ _ _ _ _ _ (heap_setRow_same (heap_alloc_new _ _))).trans (ord_cell0 _ _)⟩ ?_; intro W3 hW3; have hh3 := hW3.2.2; have HW3 : Hid _ := hW3; clear hW3))
  refine (u8_any g L (0, 0) W3 (HR2.out.keep HW3.out.1)).mono ?_
  rintro e w4 ⟨rfl, hR4, hG4⟩
  have hgo := HR2.out.own
  have hz3 := lt_of_row HW3.out.2.1
  have hgne : g ≠ w2.heap.size := by omega
  have hw0 := lt_of_row H0.out
  have hr4 : w4.heap[w2.heap.size]? = some (.cells (ordCells g zeroOb) 49 (0, 0)) := (hG4.block _ hz3 (fun e => by injection e with e; omega)).trans HW3.out.2.1
  have c4 : w4.cell? ⟨w2.heap.size, 1, none⟩ = some (.int .i64 0) := (ord_ob hr4).c0
  have hz4 : ∀ j, w4.frozen? ⟨w2.heap.size, j, none⟩ = false := fun j => frozen_of_row _ _ j _ _ hr4
  have hb := numOf_len (tk_ok HR2.out.ok (0, 0) 1) (tk_len L (0, 0) 1)
  have hx0 := hb.1
  have hx1 : numOf (tk L (0, 0) 1).2 < 256 := hb.2
  have hc4 : w4.cell? ⟨w2.heap.size, 0, none⟩ = some (.pointer (some ⟨g, 0, none⟩)) := (cell_of_row _ _ _ _ _ _ hr4).trans (ord_cell0 _ _)
  have hr0 : w4.heap[w.heap.size]? = some (.cells zeroOb.cells 30 (0, 0)) := (hG4.block _ (Nat.lt_of_lt_of_le hw0 HW3.out.1.size) (fun e => by injection e with e; omega)).trans ((HW3.out.1.block _ hw0).trans H0.out)
  have hws : w.heap.size ≤ w2.heap.size := HBW.out.size
  have hBw4 : Below w.heap.size w w4 := HBW.out.trans ⟨hG4.os.trans HW3.out.1.os, hG4.tape.trans HW3.out.1.tape, hG4.output.trans HW3.out.1.output, Nat.le_trans HW3.out.1.size hG4.size, fun k hk => (hG4.block k (by have := HW3.out.1.size; omega) (fun e => by injection e with e; omega)).trans (HW3.out.1.block k (by omega))⟩
  have HP : Hid (numOf (tk L (0, 0) 1).2 = numOf (tk L (0, 0) 1).2) := rfl
  obtain ⟨hk1, hk2, hk3⟩ := hk
  generalize hX : numOf (tk L (0, 0) 1).2 = x at hx0 hx1 hk1 hk2 hk3
  generalize hPp : (tk L (0, 0) 1).1 = p at hR4
  have HX : Hid _ := hX
  have HPp : Hid _ := hPp
  have e1 : (x == 1) = false := by simpa using hk1
  have e2 : (x == 2) = false := by simpa using hk2
  have e3 : (x == 3) = false := by simpa using hk3
  have HR4 : Hid _ := hR4
  have HRW : Hid _ := hr4
  have HR0 : Hid _ := hr0
  have HB4 : Hid _ := hBw4
  clear hX hPp hR4 hG4 hr4 hr0 hBw4 hb HP hk1 hk2 hk3 H0 HR2 HBW HW3 HIO HZO HONE HZS HBO hh3
  go_wp2_with fail
  refine calls_gen (fun W5 => Below w.heap.size w W5 ∧ W5.heap[w2.heap.size]? = some (.cells (ordCells g { zeroOb with kind := x }) 49 (0, 0)) ∧ W5.heap[w.heap.size]? = some (.cells zeroOb.cells 30 (0, 0)) ∧ Rd W5 w2.heap.size g L p) ⟨?_, ?_, ?_, ?_⟩ ?_
  · exact HB4.out.setCell (by show w.heap.size ≤ w2.heap.size; omega) _
  · rw [heap_setCell_same _ _ _ _ _ _ HRW.out, ord_kind]
  · exact (heap_setCell_other _ _ _ _ (by show w.heap.size ≠ w2.heap.size; omega)).trans HR0.out
  · exact Rd.keepB HR4.out ⟨rfl, rfl, rfl, by simp [World.setCell], fun k hk => heap_setCell_other _ _ _ _ (by show k ≠ w2.heap.size; omega)⟩
  intro W5 ⟨f1, f2, f3, f4⟩
  have hHas : Has W5 { zeroOb with kind := x } ⟨0, fun _ => 0, [], []⟩ := ⟨⟨none, 0, rfl, fun h => absurd h (Nat.lt_irrefl 0)⟩, ⟨none, 0, rfl, RowsAt.none⟩, ⟨none, 0, rfl, RowsAt.none⟩, fun i hi => by simp at hi, fun n cap h => by injection h with _ _ h; exact h.symm, by simp, by simp, by simp⟩
  have hnum : 0 ≤ ({ zeroOb with kind := x } : Ob).num ∧ ({ zeroOb with kind := x } : Ob).num < 4294967296 := ⟨Int.le_refl 0, by show (0 : Int) < 4294967296; omega⟩
  have hPost : ∀ e w', DecPost L { zeroOb with kind := x } ⟨0, fun _ => 0, [], []⟩ p w e w' → DecPost ((List.range n).map src) { zeroOb with kind := numOf (tk ((List.range n).map src) (0, 0) 1).2 } ⟨0, fun _ => 0, [], []⟩ (tk ((List.range n).map src) (0, 0) 1).1 w e w' := fun e w' hh => by
    rw [HLL.out, HX.out, HPp.out]; exact hh
  have HPOST : Hid _ := hPost
  clear HB4 HRW HR0 HR4 c4 hz4 hc4 hPost hx0 hx1 HX HPp hgo hz3 hw0
  obtain ⟨sr, cr, hrr, -⟩ := f4.row
  have he5 : W5.cell? ⟨g, 2, none⟩ = some (.int .i64 p.2) := (cell_of_row _ _ _ _ _ _ hrr).trans rfl
  have hnr : rightB ({ zeroOb with kind := x } : Ob) ⟨0, fun _ => 0, [], []⟩ = false := by
    have q1 : x ≠ 1 := by simpa using e1
    have q2 : x ≠ 2 := by simpa using e2
    have q3 : x ≠ 3 := by simpa using e3
    simp [rightB, mayB, q1, q2, q3]
  clear e1 e2 e3
  generalize ({ zeroOb with kind := x } : Ob) = o at *
  refine (err_any g p.2 W5 he5).mono ?_
  rintro e w6 ⟨rfl, rfl⟩
  clear he5 hrr
  have HF2 : Hid _ := f2
  have HF3 : Hid _ := f3
  have HZB : Hid _ := buildz
  have hzone := ob_one zeroOb rfl rfl rfl
  have HZ1 : Hid _ := hzone
  clear f2 f3 hzone
  by_cases hp : p.2 = 0
  · rw [hp]
    have c5 : w6.cell? ⟨w2.heap.size, 0, none⟩ = some (.pointer (some ⟨g, 0, none⟩)) := (cell_of_row _ _ _ _ _ _ HF2.out).trans (ord_cell0 _ _)
    have HOC : Hid (∀ j u, o.cells[j]? = some u → w6.cell? ⟨w2.heap.size, 1 + j, none⟩ = some u) := fun j u hu => (cell_of_row _ _ _ _ _ _ HF2.out).trans ((ord_cell g o j).trans hu)
    go_wp2_with (refine load_mid (by rfl) 30 (.tmp 62) (by rfl) w2.heap.size 1 (by rfl) o.cells _ HOC.out Try.underlying30 rfl (by rw [o.size]; kernel_rfl) ?_)
    refine (encode_any o ⟨0, fun _ => 0, [], []⟩ w6 hHas hnum).mono ?_
    rintro e w7 ⟨hB7, hcase⟩
    rcases hcase with ⟨hr, -⟩ | ⟨-, rfl⟩
    · rw [hnr] at hr; cases hr
    have HF7 : Hid _ := (hB7.block _ (lt_of_row HF3.out)).trans HF3.out
    have f7 : Below w.heap.size w w7 := f1.trans (hB7.mono f1.size)
    clear hB7 c5 HOC HF2 HF3 f1 f4
    go_wp2_with (first
      | (refine wpList_build (by rfl) 30 _ (by rfl) [] (by rfl) (.agg zeroOb.cells) (HZB.out _) ?_)
      | (refine wpList_store_row (by rfl) 30 (.tmp 2) (.tmp 75) (by rfl) w.heap.size zeroOb.cells (by rfl) (by rfl) 30 _ HF7.out (by rw [Ob.size]; kernel_rfl) rfl HZ1.out ?_))
    refine bodyPost_ret (v := .tuple #[.agg zeroOb.cells, .int .i64 150]) ?_ rfl (HPOST.out _ _ ⟨?_, .inr (.inl ⟨hp, .inl hnr, rfl⟩)⟩)
    · exact results_cell_tmp Try.results7 _ _ w.heap.size 30 _ (0, 0) _ _ rfl rfl (heap_setRow_same HF7.out) Try.underlying30 rfl (by rw [Ob.size]; kernel_rfl)
    · exact below_setRow' f7 (Nat.le_refl _) _
  · have hp' : (p.2 != 0) = true := by simpa using hp
    go_wp2_with (first
      | (refine wpList_build (by rfl) 30 _ (by rfl) [] (by rfl) (.agg zeroOb.cells) (HZB.out _) ?_)
      | (refine wpList_store_row (by rfl) 30 (.tmp 2) (.tmp 59) (by rfl) w.heap.size zeroOb.cells (by rfl) (by rfl) 30 _ HF3.out (by rw [Ob.size]; kernel_rfl) rfl HZ1.out ?_))
    refine bodyPost_ret (v := .tuple #[.agg zeroOb.cells, .int .i64 p.2]) ?_ rfl (HPOST.out _ _ ⟨?_, .inl ⟨hp, rfl⟩⟩)
    · exact results_cell_tmp Try.results7 _ _ w.heap.size 30 _ (0, 0) _ _ rfl rfl (heap_setRow_same HF3.out) Try.underlying30 rfl (by rw [Ob.size]; kernel_rfl)
    · exact below_setRow' f1 (Nat.le_refl _) _
end Go.Proofs.Ytnaoaeapffgojaa
