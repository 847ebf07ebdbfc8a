/- The contract of the law's few. -/
import Derived.Test.YtcbpnmdphmdemaaLxW
import Derived.Laws.MakeOwn
namespace Go.Proofs.Ytcbpnmdphmdemaa
open Go.RowKit

/-- A token whose Text is cut. -/
def cutT (t : Tok) : Tok := ⟨t.kind, strU (t.text.data.toList.take 4099), t.pos⟩
def fewL (ts : List Tok) : List Tok := (ts.take 1025).map cutT
theorem fewL_len (ts : List Tok) : (fewL ts).length = min ts.length 1025 := by simp [fewL, Nat.min_comm]
def tok77 : Tok := ⟨77, ⟨#[]⟩, 0⟩
/-- The first tokens stand in a row. -/
def FewR (w : World) (g n t : Nat) (ts : List Tok) : Prop := ∃ row : Array Value, w.heap[g]? = some (.cells row 32 (0, 0)) ∧ row.size = (n + 2) * 3 ∧ ∀ (i : Nat) (x : Tok), i < t → (fewL ts)[i]? = some x → ∀ (j : Nat) (u : Value), x.cells[j]? = some u → row[i * 3 + j]? = some u
theorem FewR.own {w : World} {g n : Nat} {ts : List Tok} {B : Nat} (h : FewR w g n n ts) (hn : (fewL ts).length = n) (hB : B ≤ g) (hm : n ≤ 10000) : OwnT B w (.slice (some ⟨g, 0, none⟩) n (n + 2)) (fewL ts) := by
  obtain ⟨row, h1, h2, h3⟩ := h
  refine ⟨flatG_length elT _, .inr ⟨g, n + 2, row, by rw [hn], hB, h1, by omega, by unfold maxLen; omega, h2, ?_⟩⟩
  apply List.ext_getElem?
  intro q
  by_cases hq : q < n * 3
  · have hi : q / 3 < (fewL ts).length := by omega
    have hx := List.getElem?_eq_getElem hi
    have e1 := flatG_at elT (fewL ts) (q / 3) (q % 3) _ hx (by omega)
    rw [show q / 3 * 3 + q % 3 = q by omega] at e1
    have hs : ((fewL ts)[q / 3]'hi).cells[q % 3]? = some (((fewL ts)[q / 3]'hi).cells[q % 3]'(by rw [Tok.size]; omega)) := Array.getElem?_eq_getElem _
    have e2 := h3 (q / 3) _ (by omega) hx (q % 3) _ hs
    rw [show q / 3 * 3 + q % 3 = q by omega] at e2
    rw [List.getElem?_take, if_pos (by omega), Array.getElem?_toList, e2, e1, hs]
  · rw [List.getElem?_eq_none (by rw [List.length_take]; omega), List.getElem?_eq_none (by rw [flatG_length elT]; omega)]
theorem set3_at {row : Array Value} {a b c : Value} {t q : Nat} (hs : t * 3 + 2 < row.size) : (((row.setIfInBounds (t * 3) a).setIfInBounds (t * 3 + 1) b).setIfInBounds (t * 3 + 2) c)[q]? = if q = t * 3 then some a else if q = t * 3 + 1 then some b else if q = t * 3 + 2 then some c else row[q]? := by
  simp only [Array.getElem?_setIfInBounds, Array.size_setIfInBounds]
  by_cases h1 : q = t * 3
  · subst h1; simp; omega
  · by_cases h2 : q = t * 3 + 1
    · subst h2; simp; omega
    · by_cases h3 : q = t * 3 + 2
      · subst h3; simp; omega
      · rw [if_neg (by omega), if_neg (by omega), if_neg (by omega), if_neg h1, if_neg h2, if_neg h3]
theorem make_toks (n : Nat) (hn : n ≤ 10000) (w : World) : ∃ row : Array Value, (Instr.makeSlice 24 (.int .i64 n) (.int .i64 (n + 2))).run Try.prog w = .ok (.slice (some ⟨w.heap.size, 0, none⟩) n (n + 2)) (w.alloc (.cells row 32)) ∧ row.size = (n + 2) * 3 := by
  obtain ⟨i, z, hi, hz0, hz1, hz2, hz3⟩ := elT.hi
  have hb : (i.bytes : Int) * ((n : Int) + 2) ≤ 281474976710656 := by
    have h1 : (i.bytes : Int) * ((n : Int) + 2) ≤ 100 * 10002 := Int.mul_le_mul (by omega) (by omega) (by omega) (by omega)
    omega
  have h := run_makeSlice (P := Try.prog) w 24 32 i z elT.ht hi hz0 .i64 .i64 n (n + 2) (by omega) (by omega) (by rw [hz1]; omega) hb (by omega)
  rw [show ((n : Int)).toNat = n by omega, show ((n : Int) + 2).toNat = n + 2 by omega, hz1] at h
  exact ⟨_, h, by simp [madeCells, hz3]⟩
theorem extract_str (s : ByteArray) (k : Nat) : s.extract 0 k = strU (s.data.toList.take k) := by
  have h : (s.extract 0 k).data.toList = s.data.toList.take k := by
    rw [ByteArray.data_extract, Array.toList_extract]
    simp
  rw [← h, strU_of]
theorem cut_str (s : ByteArray) (m : Nat) : s.extract 0 (min (s.size : Int) m).toNat = strU (s.data.toList.take m) := by
  rw [extract_str]
  congr 1
  by_cases h : s.size ≤ m
  · rw [show (min (s.size : Int) m).toNat = s.size by omega, List.take_of_length_le (by simp), List.take_of_length_le (by simpa using h)]
  · rw [show (min (s.size : Int) m).toNat = m by omega]
set_option maxRecDepth 100000 in
set_option maxHeartbeats 4000000 in
theorem few_any (sp : Option Addr) (cap : Nat) (ts : List Tok) (w : World) (hr : RowsT w sp ts) :
    Calls Try.prog 13 #[.slice sp ts.length cap] w fun e w' => (∃ sp' cap', e = .returned (.slice sp' (fewL ts).length cap') ∧ OwnT w.heap.size w' (.slice sp' ((fewL ts).length + 1) cap') (fewL ts ++ [tok77])) ∧ Below w.heap.size w w' := by
  have HR : Hid (RowsT w sp ts) := hr
  clear hr
  obtain ⟨n, HN⟩ : ∃ n, Hid ((fewL ts).length = n) := ⟨_, rfl⟩
  have hn : n ≤ 1025 ∧ n ≤ ts.length := by have := HN.out; rw [fewL_len] at this; omega
  have hmin : min (ts.length : Int) 1025 = n := by have := HN.out; rw [fewL_len] at this; omega
  obtain ⟨row, hmk, hrs⟩ := make_toks n (by omega) w
  have HI : Hid (FewR (w.alloc (.cells row 32)) w.heap.size n 0 ts) := ⟨row, heap_alloc_new _ _, hrs, fun i x hi => by omega⟩
  have HB0 : Hid (Below w.heap.size w (w.alloc (.cells row 32))) := (Below.refl _ _).alloc (Nat.le_refl _) _
  clear hrs
  go_enter Try.func13, Try.ntmps13
  go_wp2
  clear hmk
  go_loopw [15] (fun i wr => ∃ t : Nat, t ≤ n ∧ i = .int .i64 t ∧ FewR wr w.heap.size n t ts ∧ Below w.heap.size w wr) (fun i _ => n - (intOf i).toNat)
  case atStart => exact ⟨0, Nat.zero_le _, rfl, HI.out, HB0.out⟩
  case round =>
    clear HI HB0
    obtain ⟨t, ht, rfl, hF, hB⟩ := hrel
    obtain ⟨row, hrow, hrs, hz⟩ := hF
    have HROW : Hid (wr.heap[w.heap.size]? = some (.cells row 32 (0, 0))) := hrow
    have HZ : Hid (∀ (i : Nat) (x : Tok), i < t → (fewL ts)[i]? = some x → ∀ (j : Nat) (u : Value), x.cells[j]? = some u → row[i * 3 + j]? = some u) := hz
    have HB : Hid (Below w.heap.size w wr) := hB
    clear hz hB
    by_cases hlt : t < n
    · have hd : decide ((t : Int) < n) = true := by simp; omega
      obtain ⟨b, o, rfl, -⟩ := HR.out (by omega)
      obtain ⟨x, hx⟩ : ∃ x, ts[t]? = some x := ⟨_, List.getElem?_eq_getElem (by omega)⟩
      obtain ⟨k0, k1, k2⟩ := tok_cell (RowsAt.below HR.out HB.out) hx
      have HX : Hid ((fewL ts)[t]? = some (cutT x)) := by
        show (fewL ts)[t]? = some (cutT x)
        unfold fewL
        rw [List.getElem?_map, List.getElem?_take, if_pos (by omega), hx]
        rfl
      have q0 : wr.cell? ⟨w.heap.size, t * 3, none⟩ = some (row[t * 3]'(by omega)) := (cell_of_row _ _ _ _ _ _ hrow).trans (Array.getElem?_eq_getElem _)
      have q1 : wr.cell? ⟨w.heap.size, t * 3 + 1, none⟩ = some (row[t * 3 + 1]'(by omega)) := (cell_of_row _ _ _ _ _ _ hrow).trans (Array.getElem?_eq_getElem _)
      have q2 : wr.cell? ⟨w.heap.size, t * 3 + 2, none⟩ = some (row[t * 3 + 2]'(by omega)) := (cell_of_row _ _ _ _ _ _ hrow).trans (Array.getElem?_eq_getElem _)
      have z0 : ∀ j, wr.frozen? ⟨w.heap.size, j, none⟩ = false := fun j => frozen_of_row _ _ _ _ _ hrow
      clear hx hrow
      go_wp2
      clear k0 k1 k2 q0 q1 q2 z0
      have r1 : (wr.setCell ⟨w.heap.size, t * 3, none⟩ (.int .i64 x.kind)).heap[w.heap.size]? = _ := heap_setCell_same _ _ _ _ _ _ HROW.out
      have r2 : ((wr.setCell ⟨w.heap.size, t * 3, none⟩ (.int .i64 x.kind)).setCell ⟨w.heap.size, t * 3 + 1, none⟩ (.string x.text)).heap[w.heap.size]? = _ := heap_setCell_same _ _ _ _ _ _ r1
      have r3 : (((wr.setCell ⟨w.heap.size, t * 3, none⟩ (.int .i64 x.kind)).setCell ⟨w.heap.size, t * 3 + 1, none⟩ (.string x.text)).setCell ⟨w.heap.size, t * 3 + 2, none⟩ (.int .i64 x.pos)).heap[w.heap.size]? = _ := heap_setCell_same _ _ _ _ _ _ r2
      refine wp_gen (fun W => (∃ row2 : Array Value, W.heap[w.heap.size]? = some (.cells row2 32 (0, 0)) ∧ row2.size = (n + 2) * 3 ∧ ∀ q, row2[q]? = if q = t * 3 then some (.int .i64 x.kind) else if q = t * 3 + 1 then some (.string x.text) else if q = t * 3 + 2 then some (.int .i64 x.pos) else row[q]?) ∧ Below w.heap.size w W) ⟨⟨_, r3, by simp [hrs], fun q => set3_at (by omega)⟩, ((HB.out.setCell (p := ⟨w.heap.size, t * 3, none⟩) (Nat.le_refl _) _).setCell (p := ⟨w.heap.size, t * 3 + 1, none⟩) (Nat.le_refl _) _).setCell (p := ⟨w.heap.size, t * 3 + 2, none⟩) (Nat.le_refl _) _⟩ ?_
      clear r1 r2 r3 HB HROW
      rintro W2 ⟨⟨row2, hrow2, hrs2, hat⟩, hB2⟩
      have HROW : Hid (W2.heap[w.heap.size]? = some (.cells row2 32 (0, 0))) := hrow2
      have HAT : Hid (∀ q, row2[q]? = if q = t * 3 then some (.int .i64 x.kind) else if q = t * 3 + 1 then some (.string x.text) else if q = t * 3 + 2 then some (.int .i64 x.pos) else row[q]?) := hat
      have HB : Hid (Below w.heap.size w W2) := hB2
      have q1 : W2.cell? ⟨w.heap.size, t * 3 + 1, none⟩ = some (.string x.text) := (cell_of_row _ _ _ _ _ _ hrow2).trans (by rw [hat, if_neg (by omega), if_pos rfl])
      have z0 : ∀ j, W2.frozen? ⟨w.heap.size, j, none⟩ = false := fun j => frozen_of_row _ _ _ _ _ hrow2
      have hmn : 0 ≤ min (x.text.size : Int) 4099 ∧ min (x.text.size : Int) 4099 ≤ x.text.size := by omega
      obtain ⟨hmn0, hmn1⟩ := hmn
      clear hrow2 hat hB2
      go_region
      have hcs : x.text.extract 0 (min (x.text.size : Int) 4099).toNat = strU (x.text.data.toList.take 4099) := cut_str x.text 4099
      rw [hcs]
      have r4 : (W2.setCell ⟨w.heap.size, t * 3 + 1, none⟩ (.string (strU (x.text.data.toList.take 4099)))).heap[w.heap.size]? = _ := heap_setCell_same _ _ _ _ _ _ HROW.out
      have REL : Hid (∃ t' : Nat, t' ≤ n ∧ Value.int .i64 ((t : Int) + 1) = .int .i64 t' ∧ FewR (W2.setCell ⟨w.heap.size, t * 3 + 1, none⟩ (.string (strU (x.text.data.toList.take 4099)))).drew w.heap.size n t' ts ∧ Below w.heap.size w (W2.setCell ⟨w.heap.size, t * 3 + 1, none⟩ (.string (strU (x.text.data.toList.take 4099)))).drew) := by
        refine ⟨t + 1, by omega, by congr 1, ⟨_, r4, by simp [hrs2], fun i y hi hy j u hu => ?_⟩, (HB.out.setCell (p := ⟨w.heap.size, t * 3 + 1, none⟩) (Nat.le_refl _) _).drew⟩
        have hj : j < 3 := by have := (Array.getElem?_eq_some_iff.1 hu).1; rwa [Tok.size] at this
        rw [Array.getElem?_setIfInBounds]
        by_cases hit : i < t
        · rw [if_neg (by omega), HAT.out, if_neg (by omega), if_neg (by omega), if_neg (by omega)]
          exact HZ.out i y hit hy j u hu
        · obtain rfl : i = t := by omega
          rw [HX.out] at hy
          injection hy with hy
          subst hy
          match j, hj with
          | 0, _ => rw [if_neg (by omega), HAT.out, if_pos (by omega)]; exact hu
          | 1, _ => rw [if_pos rfl, if_pos (by omega)]; exact hu
          | 2, _ => rw [if_neg (by omega), HAT.out, if_neg (by omega), if_neg (by omega), if_pos rfl]; exact hu
      clear r4 q1 z0
      generalize (W2.setCell ⟨w.heap.size, t * 3 + 1, none⟩ (.string (strU (x.text.data.toList.take 4099)))).drew = W3 at REL ⊢
      go_wp2
      exact ⟨REL.out, by simp [intOf]; omega⟩
    · have hd : decide ((t : Int) < n) = false := by simp; omega
      obtain rfl : t = n := by omega
      have hO : OwnT w.heap.size wr (.slice (some ⟨w.heap.size, 0, none⟩) t (t + 2)) (fewL ts) := FewR.own ⟨row, hrow, hrs, HZ.out⟩ HN.out (Nat.le_refl _) (by omega)
      have ba : Below wr.heap.size wr (wr.alloc (.cells #[.int .i64 77, .string ⟨#[]⟩, .int .i64 0] 32)) := (Below.refl _ _).alloc (Nat.le_refl _) _
      obtain ⟨v', w', hra, q1, q2, -⟩ := own_run elT (ys := [tok77]) (sp := some ⟨wr.heap.size, 0, none⟩) (cap := 1) 24 (OwnG.below hO ba) (fun h => by cases h) (oneG_rows (x := tok77) (heap_alloc_new wr _)) (by rw [HN.out]; simp; omega) (by simp; exact Nat.le_succ_of_le HB.out.size)
      obtain ⟨sp', cap', rfl, -, -, hc1, -⟩ := OwnG.rows elT q1
      have hlen : (fewL ts ++ [tok77]).length = t + 1 := by rw [List.length_append, HN.out]; rfl
      rw [hlen] at hra q1 hc1
      have HQ : Hid (OwnT w.heap.size w' (.slice sp' (t + 1) cap') (fewL ts ++ [tok77])) := q1
      have HBW : Hid (Below w.heap.size w w') := OwnG.grown (OwnG.below hO ba) (Nat.le_refl _) (by simp; exact Nat.le_succ_of_le HB.out.size) (HB.out.alloc HB.out.size _) q2
      clear hO ba q1 q2 hrow hrs HZ HB HROW
      go_wp2_with (at_builtin; refine list_appendg (.tmp 43) (.tmp 45) 24 (by rfl) (by rfl) (by rfl) (by rfl) hra ?_)
      go_ret
      exact ⟨⟨sp', cap', by rw [HN.out]; exact rfl, by rw [HN.out]; exact HQ.out⟩, HBW.out⟩
end Go.Proofs.Ytcbpnmdphmdemaa
