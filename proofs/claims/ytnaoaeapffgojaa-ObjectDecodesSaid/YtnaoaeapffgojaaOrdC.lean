/- The contracts of octet.Read, and of the readers text, id and entry of package object. -/
import Derived.Test.YtnaoaeapffgojaaReadC
import Derived.Deep.RegionWith
import Derived.Laws.BytesString
namespace Go.Proofs.Ytnaoaeapffgojaa
open Go.RowKit

set_option maxRecDepth 100000 in
set_option maxHeartbeats 1000000 in
theorem read_any (sp : Option Addr) (n cap : Nat) (src : Nat → Int) (w : World) (hsrc : SrcAt w .u8 sp n src) (hcap : sp = none → cap = 0 ∧ n = 0) (hn : n ≤ 100000) (hok : ∀ i, i < n → 0 ≤ src i ∧ src i ≤ 255) :
    Calls Try.prog 19 #[.slice sp n cap] w fun e w' => ∃ g, e = .returned (.pointer (some ⟨g, 0, none⟩)) ∧ w.heap.size ≤ g ∧ Rd w' w'.heap.size g ((List.range n).map src) (0, 0) ∧ Below w.heap.size w w' := by
  have HS : Hid _ := hsrc
  have HC : Hid _ := hcap
  have HK : Hid _ := hok
  clear hsrc hcap hok
  go_enter Try.func19, Try.ntmps19
  go_wp2_with (at_builtin; refine own_append (by rfl) (.const (.slice none 0 0)) (.tmp 3) (by rfl) (.slice none 0 0) [] (by rfl) (own_nil _) sp n cap src (by rfl) HC.out HS.out (by simp; omega) ?_; intro v2 w2 hO2 hS2; obtain ⟨s2, c2, hv2, hsr2⟩ := Own.src hO2; rw [List.nil_append] at hO2; subst hv2; have HO2 : Hid _ := hO2; have HS2 : Hid _ := hS2; have HSR : Hid _ := hsr2; clear hO2 hS2 hsr2)
  go_ret
  have hB2 : Below w.heap.size w w2 := HS2.out.below (B := w.heap.size) (fun k hk => by cases hk) (Nat.le_refl _)
  have hz := lt_of_row (heap_alloc_new w2 (Obj.cells #[Value.slice s2 n c2, Value.int IntKind.i64 0, Value.int IntKind.i64 0] 76))
  refine ⟨w2.heap.size, rfl, hB2.size, ?_, hB2.alloc hB2.size _⟩
  have hOb := Own.below HO2.out ((Below.refl _ _).alloc (Nat.le_refl _) (Obj.cells #[Value.slice s2 n c2, Value.int IntKind.i64 0, Value.int IntKind.i64 0] 76))
  have hlm : ((List.range n).map src).length = n := by simp
  refine ⟨⟨s2, c2, by rw [hlm]; exact heap_alloc_new _ _, ?_⟩, Nat.le_refl _, by simp, Nat.zero_le _, by rw [hlm]; exact hn, fun x hx => ?_⟩
  · rcases hOb.2 with ⟨q, h0⟩ | ⟨k, cap', cur, q, h1, h2, h3, h4, h5, h6⟩
    · injection q with q1 q2 q3
      subst q1 q3
      rw [hlm] at h0 ⊢
      exact ⟨by omega, fun _ => rfl, fun hp => by omega, fun q hq => by cases hq⟩
    · injection q with q1 q2 q3
      subst q1 q3
      have hlt := Own.lt HO2.out (k := k) rfl
      refine ⟨h3, (fun h => by cases h), fun _ => ⟨k, rfl⟩, fun q hq => ?_⟩
      injection hq with hq
      subst hq
      refine ⟨k, rfl, by omega, by simp; omega, fun j hj => ?_⟩
      obtain ⟨sp', cap'', e1, e2⟩ := Own.src hOb
      injection e1 with e1
      subst e1
      obtain ⟨b, off, e3, e4⟩ := e2 (by omega)
      injection e3 with e3
      injection e3 with e3 e5
      subst e3 e5
      have := e4 j hj
      rw [Nat.zero_add] at this
      exact this
  · obtain ⟨i, hi, rfl⟩ := List.mem_map.1 hx
    exact HK.out i (List.mem_range.1 hi)

/-- Bytes as a text. -/
def strL (M : List Int) : ByteArray := ⟨(M.map fun x => UInt8.ofNat x.toNat).toArray⟩
theorem foldl_push (ns : List Int) : ∀ s : ByteArray, ns.foldl (fun r n => r.push (UInt8.ofNat n.toNat)) s = ⟨s.data ++ (ns.map fun n => UInt8.ofNat n.toNat).toArray⟩ := by
  induction ns with
  | nil => intro s; simp
  | cons n ns ih =>
    intro s
    rw [List.foldl_cons, ih]
    simp [ByteArray.push]
theorem conv_own {w : World} {v : Value} {M : List Int} (h : Own w v M) : (convert 22 9 v).run Try.prog w = .ok (.string (strL M)) w := by
  rcases h.2 with ⟨rfl, h0⟩ | ⟨g, cap, cur, rfl, h1, h2, h3, h4, h5, h6⟩
  · rw [run_convert_bytes_string w 22 9 5 _ _ _ Try.underlying22 Try.underlying5 Try.underlying9]
    have : M = [] := List.eq_nil_of_length_eq_zero h0
    subst this
    rfl
  · rw [run_convert_bytes_string w 22 9 5 _ _ _ Try.underlying22 Try.underlying5 Try.underlying9]
    have holds : ∀ j u, (cellsU M)[j]? = some u → w.cell? ((⟨g, 0, none⟩ : Addr).add j) = some u := World.ownsRow.cells (g := g) h rfl
    have hl := run_loadCells_list (P := Try.prog) w ⟨g, 0, none⟩ (cellsU M) holds
    rw [cellsU_len] at hl
    rw [run_bytesToString w _ M.length cap M hl, foldl_push]
    have e : (ByteArray.empty).data = #[] := rfl
    rw [e]
    simp [strL]
theorem grown_cell {w w' : World} {g h o : Nat} {v : Value} (hg : w.grownBy w' (some g)) (hc : w.cell? ⟨h, o, none⟩ = some v) (hne : h ≠ g) : w'.cell? ⟨h, o, none⟩ = some v :=
  hg.cell hc (fun e => hne (by injection e))
theorem below_drawn {w : World} {k : Nat} : Below w.heap.size w { w with drawn := k } := ⟨rfl, rfl, rfl, Nat.le_refl _, fun _ _ => rfl⟩
theorem grown_like {w w0 w1 : World} {g : Option Nat} (h : w0.grownBy w1 g) (h1 : w0.os = w.os) (h2 : w0.tape = w.tape) (h3 : w0.output = w.output) (h4 : w0.heap = w.heap) : w.grownBy w1 g :=
  ⟨h.os.trans h1, h.tape.trans h2, h.output.trans h3, by rw [← h4]; exact h.size, fun k hk hne => by rw [← h4] at hk ⊢; exact h.block k hk hne⟩
/-- A text that a Reader steps over. -/
def tkText (L : List Int) (p : Nat × Int) : (Nat × Int) × ByteArray := ((tk L (tk L p 1).1 (numOf (tk L p 1).2).toNat).1, strL (tk L (tk L p 1).1 (numOf (tk L p 1).2).toNat).2)

set_option maxRecDepth 100000 in
set_option maxHeartbeats 2000000 in
theorem text_any {B : Nat} (h g : Nat) (L : List Int) (p : Nat × Int) (w : World) (hr : Rd w B g L p) (hh : w.cell? ⟨h, 0, none⟩ = some (.pointer (some ⟨g, 0, none⟩))) (hne : h ≠ g) :
    Calls Try.prog 28 #[.pointer (some ⟨h, 0, none⟩)] w fun e w' => e = .returned (.string (tkText L p).2) ∧ Rd w' B g L (tkText L p).1 ∧ w.grownBy w' (some g) := by
  have hb := numOf_len (tk_ok hr.ok p 1) (tk_len L p 1)
  have hb1 : numOf (tk L p 1).2 < 256 := hb.2
  have hb0 := hb.1
  clear hb
  go_enter Try.func28, Try.ntmps28
  go_wp2
  go_region_with (first
    | (go_at_call 20; refine (u8_any g L p _ (hr.keep (by first | exact (Below.refl _ _).drew | exact below_drewN (Below.refl _ _) _ | exact below_drawn))).mono ?_; rintro e w1 ⟨rfl, hR1, hG1⟩; have hh1 : w1.cell? ⟨h, 0, none⟩ = some (.pointer (some ⟨g, 0, none⟩)) := grown_cell hG1 hh hne; have hX : ∃ x : Nat, numOf (tk L p 1).2 = (x : Int) ∧ x ≤ 255 := ⟨(numOf (tk L p 1).2).toNat, by omega, by omega⟩; obtain ⟨x, hx, hx255⟩ := hX; have HX : Hid _ := hx; have hwx : IntKind.i64.wrap (x : Int) = x := (by rw [IntKind.wrap_i64]; omega); rw [hx]; clear hx)
    | (go_at_call 21; refine (raw_any g L (tk L p 1).1 x _ (hR1.keep (by first | exact Below.refl _ _ | exact (Below.refl _ _).drew | exact below_drewN (Below.refl _ _) _ | exact below_drawn)) (by omega)).mono ?_; rintro e w2 ⟨v, rfl, hO2, hk2, hR2, hG2⟩; have hcv := conv_own hO2))
  all_goals (
    have hxx : (numOf (tk L p 1).2).toNat = x := by rw [HX.out]; simp
    have hR2' : Rd w2 B g L (tkText L p).1 := by unfold tkText; rw [hxx]; exact hR2
    have hT : tkText L p = ((tkText L p).1, strL (tk L (tk L p 1).1 x).2) := by unfold tkText; rw [hxx]
    have HR2 : Hid _ := hR2'
    have HT : Hid _ := hT
    have HG : Hid (w.grownBy w2 (some g)) := grown_trans (grown_like hG1 rfl rfl rfl rfl) (grown_like hG2 rfl rfl rfl rfl)
    clear hR2 hR2' hT hxx hG1 hG2 hR1 hO2 hcv hk2 hh hh1 hr hb0 hb1
    go_wp2
    go_ret
    exact ⟨by rw [HT.out]; rfl, HR2.out, HG.out⟩)

/-- 'copy' of bytes into the head of a row, as one operation. -/
theorem copy_bytes_wp {w : World} {o : Oper} {a : Act} {K : Act → World → Prop} {Q : Exit → Act → World → Prop} (hgd : o.guard = none) (d s : Operand)
    (ho : o.op = .call { callee := .builtin .copy, args := #[d, s], argTypes := #[22, 22] }) (g n cap len sCap : Nat) (sp : Option Addr) (hd : a.eval d = .slice (some ⟨g, 0, none⟩) n cap) (hs : a.eval s = .slice sp len sCap)
    (f src : Nat → Int) {t : TypeId} (hg : w.heap[g]? = some (.cells (arr .u8 n f) t (0, 0))) (hsrc : SrcAt w .u8 sp len src) (hln : len ≤ n)
    (h : ∀ w', Hid (w'.heap[g]? = some (.cells (arr .u8 n fun i => if i < len then src i else f i) t (0, 0))) → Below g w w' → K (a.put o.dst (goInt len)) w') : o.wp Try.prog a w K Q := by
  have hcl : ((List.range len).map fun i => Value.int .u8 (src i)).length = len := by simp
  have key := step_copy_splice (P := Try.prog) (ops := #[]) (K := K) (Q := Q) (E := True) hgd d s 22 22 ho 5 Try.underlying22 (by kernel_rfl) (some ⟨g, 0, none⟩) sp n cap len sCap hd hs g 0 (arr .u8 n f).toList t (by simpa using hg)
    ((List.range len).map fun i => .int .u8 (src i)) (by rw [hcl]; exact (Nat.min_eq_left hln).symm) (fun hpos => by
      rw [hcl] at hpos
      obtain ⟨b, off, rfl, hc⟩ := hsrc hpos
      refine ⟨rfl, _, rfl, fun j v hv => ?_⟩
      have hj : j < len := by
        by_cases hj : j < len
        · exact hj
        · rw [List.getElem?_eq_none (by rw [hcl]; omega)] at hv; cases hv
      have hv' : v = .int .u8 (src j) := by simpa [hj] using hv.symm
      rw [hv']
      have hadd : (⟨b, off, none⟩ : Addr).add j = ⟨b, off + j, none⟩ := by unfold Addr.add; split <;> simp_all
      rw [hadd]; exact hc j hj) (by rw [hcl]; simp [arr_size]; exact hln) (fun v hv => by
      obtain ⟨i, _, rfl⟩ := List.mem_map.1 hv
      rfl) g w (Below.refl _ _) (Nat.le_refl _) (fun w' hw' hB' => by
      rw [hcl]
      refine h w' ?_ hB'
      have e : (splice (arr .u8 n f).toList 0 ((List.range len).map fun i => Value.int .u8 (src i))).toArray = arr .u8 n fun i => if i < len then src i else f i := by
        apply Array.ext
        · simp [splice, arr_size]; omega
        · intro i h1 h2
          have hi : i < n := by simpa [arr_size] using h2
          simp [splice, arr, List.getElem_append]
          split
          · rfl
          · rename_i hge; simp [show len + (i - len) = i by omega]
      have := hw'.out
      rw [e] at this
      exact this)
  rw [if_pos (wanted_plain hgd)] at key
  exact key

/-- An Id that a Reader steps over. -/
def idL (M : List Int) : Nat → Int := fun i => M.getD i 0
def tkId (L : List Int) (p : Nat × Int) : (Nat × Int) × (Nat → Int) := ((tk L p 32).1, idL (tk L p 32).2)

set_option maxRecDepth 100000 in
set_option maxHeartbeats 2000000 in
theorem id_any {B : Nat} (h g : Nat) (L : List Int) (p : Nat × Int) (w : World) (hr : Rd w B g L p) (hh : w.cell? ⟨h, 0, none⟩ = some (.pointer (some ⟨g, 0, none⟩))) (hne : h ≠ g) :
    Calls Try.prog 25 #[.pointer (some ⟨h, 0, none⟩)] w fun e w' => e = .returned (.agg (arr .u8 32 (tkId L p).2)) ∧ Rd w' B g L (tkId L p).1 ∧ w.grownBy w' (some g) := by
  have hlt : h < w.heap.size := block_lt_of_cell hh
  have hBw : B ≤ w.heap.size := hr.big
  go_enter Try.func25, Try.ntmps25
  go_wp2
  refine wp_gen (fun W1 => Below w.heap.size w W1 ∧ W1.heap[w.heap.size]? = some (.cells (arr .u8 32 fun _ => 0) 26 (0, 0)) ∧ W1.heap[w.heap.size + 1]? = some (.cells (arr .u8 32 fun _ => 0) 26 (0, 0))) ⟨?_, ?_, ?_⟩ ?_
  · exact ((Below.refl _ _).alloc (Nat.le_refl _) _).alloc (by simp) _
  · exact (heap_alloc2_old _ _ _).trans rfl
  · exact (heap_alloc2_new _ _ _).trans rfl
  intro W1 ⟨hB1, hr0, hr1⟩
  have hh1 : W1.cell? ⟨h, 0, none⟩ = some (.pointer (some ⟨g, 0, none⟩)) := (hB1.cell (p := ⟨h, 0, none⟩) hlt).trans hh
  have hc1 : W1.cell? ⟨w.heap.size + 1, 0, none⟩ = some (.int .u8 0) := row_cell hr1 (by omega)
  have hR1 : Rd W1 B g L p := hr.keep hB1
  have H0 : Hid _ := hr0
  have H1 : Hid _ := hr1
  clear hh hr hr0 hr1
  have hz1 := lt_of_row H1.out
  have hbg := hR1.big
  refine wp_region_held (S := fun w' => w'.cell? ⟨h, 0, none⟩ = some (.pointer (some ⟨g, 0, none⟩)) ∧ ∃ v, w'.cell? ⟨w.heap.size + 1, 0, none⟩ = some v) (by kernel_rfl) ?_
  have hS0 : W1.drew.cell? ⟨h, 0, none⟩ = some (.pointer (some ⟨g, 0, none⟩)) ∧ ∃ v, W1.drew.cell? ⟨w.heap.size + 1, 0, none⟩ = some v := ⟨hh1, _, hc1⟩
  refine take_run (i := 0) (.slice (some ⟨w.heap.size + 1, 0, none⟩) 32 32) rfl (by kernel_rfl) (by kernel_rfl) (by kernel_rfl) (fun _ _ _ h => h) rfl (fun w' hw' => by obtain ⟨q1, v, q2⟩ := hw'; go_simp) hS0 ?_
  refine take_run (i := 1) (.pointer (some ⟨h, 0, none⟩)) rfl (by kernel_rfl) (by kernel_rfl) (by kernel_rfl) (fun _ _ _ h => h) rfl (fun _ _ => rfl) hS0 ?_
  refine take_run (i := 2) (.pointer (some ⟨h, 0, none⟩)) rfl (by kernel_rfl) (by kernel_rfl) (by kernel_rfl) (fun _ _ _ h => h) rfl (fun _ _ => rfl) hS0 ?_
  refine take_run (i := 3) (.pointer (some ⟨h, 0, none⟩)) rfl (by kernel_rfl) (by kernel_rfl) (by kernel_rfl) (fun _ _ _ h => h) rfl (fun w' hw' => by obtain ⟨q1, v, q2⟩ := hw'; go_simp) hS0 ?_
  refine take_run (i := 4) (.pointer (some ⟨g, 0, none⟩)) rfl (by kernel_rfl) (by kernel_rfl) (by kernel_rfl) (fun _ _ _ h => h) rfl (fun w' hw' => by obtain ⟨q1, v, q2⟩ := hw'; go_simp) hS0 ?_
  refine next_one (i := 5) rfl (by kernel_rfl) rfl rfl ?_
  go_simp
  refine (raw_any g L p 32 _ (hR1.keep (Below.refl _ _).drew) (by omega)).mono ?_
  rintro e w2 ⟨v, rfl, hO2, hk2, hR2, hG2⟩
  have hG2' : W1.grownBy w2 (some g) := grown_like hG2 rfl rfl rfl rfl
  have hh2 := grown_cell hG2' hh1 hne
  have hgw : g ≠ w.heap.size + 1 := by have := hR1.own; omega
  have hgw0 : g ≠ w.heap.size := by have := hR1.own; omega
  have hr1' : w2.heap[w.heap.size + 1]? = some (.cells (arr .u8 32 fun _ => 0) 26 (0, 0)) := (hG2'.block _ hz1 (fun e => hgw (by injection e with e; omega))).trans H1.out
  have hr0' : w2.heap[w.heap.size]? = some (.cells (arr .u8 32 fun _ => 0) 26 (0, 0)) := (hG2'.block _ (lt_of_row H0.out) (fun e => hgw0 (by injection e with e; omega))).trans H0.out
  refine ⟨⟨hh2, _, row_cell hr1' (by omega)⟩, ?_⟩
  refine next_one (i := 6) rfl (by kernel_rfl) rfl rfl ?_
  obtain ⟨sp, cap, rfl, hsr⟩ := Own.src hO2
  have hln := tk_len L p 32
  refine copy_bytes_wp rfl (.tmp 4) (.tmp 9) rfl (w.heap.size + 1) 32 32 (tk L p 32).2.length cap sp rfl rfl (fun _ => 0) _ hr1' hsr hln ?_
  intro w3 hr3 hB3
  have hB3' : Below B w2 w3 := hB3.mono (by omega)
  have hr0'' : w3.heap[w.heap.size]? = some (.cells (arr .u8 32 fun _ => 0) 26 (0, 0)) := (hB3.block _ (by omega)).trans hr0'
  refine ⟨⟨(hB3.cell (p := ⟨h, 0, none⟩) (by simp only; omega)).trans hh2, _, row_cell hr3.out (by omega)⟩, ?_⟩
  refine wpAnyH_done (by kernel_rfl) ?_ _
  have hid : arr .u8 32 (fun i => if i < (tk L p 32).2.length then (tk L p 32).2.getD i 0 else 0) = arr .u8 32 (tkId L p).2 := arr_congr fun i _ => by
    unfold tkId idL
    split
    · rfl
    · rename_i hi
      simp; rw [List.getElem?_eq_none (by omega)]; rfl
  have HR3 : Hid (w3.heap[w.heap.size + 1]? = some (.cells (arr .u8 32 (tkId L p).2) 26 (0, 0))) := by
    have := hr3.out
    rw [hid] at this
    exact this
  have HR0 : Hid _ := hr0''
  have HRD : Hid _ := hR2.keepB hB3'
  have HG : Hid (w.grownBy w3 (some g)) := by
    refine ⟨(hB3.os.trans hG2'.os).trans hB1.os, (hB3.tape.trans hG2'.tape).trans hB1.tape, (hB3.output.trans hG2'.output).trans hB1.output, Nat.le_trans hB1.size (Nat.le_trans hG2'.size hB3.size), fun k hk hkg => ?_⟩
    rw [hB3.block k (by omega), hG2'.block k (Nat.lt_of_lt_of_le hk hB1.size) hkg, hB1.block k hk]
  clear hG2 hG2' hh2 hh1 hr1' hr0' hr0'' hsr hln hr3 hB3 hB3' hid hR2 hO2 hk2 hc1 hR1 hS0 H0 H1 hB1
  go_wp2_with (first
    | (refine wpList_load_row (by rfl) 26 (.tmp 3) (by rfl) (w.heap.size + 1) (by rfl) 26 (arr .u8 32 (tkId L p).2) (0, 0) _ HR3.out Try.underlying26 rfl (by rw [arr_size]; kernel_rfl) ?_)
    | (refine wpList_store_row (by rfl) 26 (.tmp 2) (.tmp 11) (by rfl) w.heap.size (arr .u8 32 (tkId L p).2) (by rfl) (by rfl) 26 _ HR0.out (by rw [arr_size]; kernel_rfl) (by rw [arr_size, arr_size]) (arr_one _ _ _) ?_))
  refine bodyPost_ret (v := .agg (arr .u8 32 (tkId L p).2)) ?_ rfl ⟨rfl, ?_, ?_⟩
  · exact results_cell_row Try.results25 _ _ w.heap.size 26 _ (0, 0) _ rfl (heap_setRow_same HR0.out) Try.underlying26 rfl (by rw [arr_size]; kernel_rfl)
  · exact Rd.keepB HRD.out ⟨rfl, rfl, rfl, by simp, fun k hk => setRow_other _ _ _ _ (by omega)⟩
  · exact ⟨HG.out.os, HG.out.tape, HG.out.output, by simpa using HG.out.size, fun k hk hne' => by rw [setRow_other _ _ _ _ (by omega)]; exact HG.out.block k hk hne'⟩
end Go.Proofs.Ytnaoaeapffgojaa
