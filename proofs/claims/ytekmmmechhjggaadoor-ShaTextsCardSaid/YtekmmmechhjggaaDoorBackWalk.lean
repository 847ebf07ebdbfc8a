/- The walk of the law ShaBack: whatever digest and whatever text come in, it answers true and turns nothing that was there. -/
import Derived.Test.YtekmmmechhjggaaDoorWakes
import Derived.Test.YtekmmmechhjggaaDoorEq
namespace Go.Proofs.YtekmmmechhjggaaDoor
open Go.RowKit

theorem parse_byte (s : ByteArray) (hd : digitsTo s 64) (i : Nat) : 0 ≤ parseTo s 64 i ∧ parseTo s 64 i ≤ 255 := by
  by_cases h : i < 32
  · exact parse_bytes s hd i h
  · rw [parse_none s 64 i (by omega)]; omega
theorem toList_eq {a b : ByteArray} (h : a.data.toList = b.data.toList) : (a.toList == b.toList) = true := by
  rw [ByteArray.toList_eq, ByteArray.toList_eq, h]
  simp

theorem zero_eq (w : World) : (Op.equalIn 10000 25 (.agg (arr .u8 32 fun _ => 0)) (.agg #[.int .u8 0, .int .u8 0, .int .u8 0, .int .u8 0, .int .u8 0, .int .u8 0, .int .u8 0, .int .u8 0, .int .u8 0, .int .u8 0, .int .u8 0, .int .u8 0, .int .u8 0, .int .u8 0, .int .u8 0, .int .u8 0, .int .u8 0, .int .u8 0, .int .u8 0, .int .u8 0, .int .u8 0, .int .u8 0, .int .u8 0, .int .u8 0, .int .u8 0, .int .u8 0, .int .u8 0, .int .u8 0, .int .u8 0, .int .u8 0, .int .u8 0, .int .u8 0])).run Tryd.prog w = .ok true w := by
  rw [zero_id]
  exact (equal_arr 9998 25 5 32 .u8 .u8 _ _ Tryd.underlying25 Tryd.underlying5 (by kernel_rfl) w).trans (by rw [eqTo_true fun _ _ => rfl])
theorem parse_any (s : ByteArray) (w : World) :
    Calls Tryd.prog 22 #[.string s] w fun e w' => ((parseOk s ∧ e = .returned (.tuple #[.agg (arr .u8 32 (parseTo s 64)), .int .i64 0])) ∨ (¬ parseOk s ∧ e = .returned (.tuple #[.agg (arr .u8 32 fun _ => 0), .int .i64 130]))) ∧ Below w.heap.size w w' := by
  by_cases h : s.size = 64
  · refine (parse_64 s w h).mono ?_
    rintro e w' ⟨h' | h', hb⟩
    · exact ⟨.inl ⟨⟨h, h'.1⟩, h'.2⟩, hb⟩
    · exact ⟨.inr ⟨fun hp => h'.1 hp.2, h'.2⟩, hb⟩
  · refine (parse_long s w h).mono ?_
    rintro e w' ⟨h', hb⟩
    exact ⟨.inr ⟨fun hp => h hp.1, h'⟩, hb⟩

set_option maxRecDepth 100000 in
set_option maxHeartbeats 1000000 in
theorem back_walk (f : Nat → Int) (hf : ∀ i, 0 ≤ f i ∧ f i ≤ 255) (s : ByteArray) (w : World) (hl : Laid w) :
    Calls Tryd.prog 8 #[.agg (arr .u8 32 f), .string s] w fun e w' => e = .returned (.bool true) ∧ Below w.heap.size w w' := by
  go_enter Tryd.func8, Tryd.ntmps8
  go_wp2_with fail
  refine calls_gen (fun W1 => Below w.heap.size w W1 ∧ W1.heap[w.heap.size]? = some (.cells (arr .u8 32 f) 25 (0, 0))) ⟨?_, ?_⟩ ?_
  · exact (Below.refl _ _).alloc (Nat.le_refl _) _
  · exact (heap_alloc_new _ _).trans rfl
  intro W1 ⟨hB1, hrow⟩
  refine (wakes_any W1 (hl.below hB1)).mono ?_
  rintro e w2 ⟨rfl, hB2⟩
  have hz := lt_of_row hrow
  have H0 : Hid (w2.heap[w.heap.size]? = some (.cells (arr .u8 32 f) 25 (0, 0))) := (hB2.block _ hz).trans hrow
  have hB : Below w.heap.size w w2 := hB1.trans (hB2.mono hB1.size)
  have hz2 := lt_of_row H0.out
  clear hrow hz hB1 hB2
  go_wp2_with (refine wpList_load_row (by rfl) 25 (.tmp 2) (by rfl) w.heap.size (by rfl) 25 _ (0, 0) _ H0.out Tryd.underlying25 rfl (by rw [arr_size]; kernel_rfl) ?_)
  refine (text_any f _ hf).mono ?_
  rintro e w3 ⟨rfl, hB3⟩
  have H3 : Hid (w3.heap[w.heap.size]? = some (.cells (arr .u8 32 f) 25 (0, 0))) := (hB3.block _ hz2).trans H0.out
  have hBw3 : Below w.heap.size w w3 := hB.trans (hB3.mono hB.size)
  clear hB hB3 H0 hz2
  have HT := hf
  go_wp2_with fail
  refine (parse_64 (textF f) _ (str_size _ _)).mono ?_
  rintro e w4 ⟨h4 | h4, hB4⟩
  · obtain ⟨_, rfl⟩ := h4
    have hz3 := lt_of_row H3.out
    have H4 : Hid (w4.heap[w.heap.size]? = some (.cells (arr .u8 32 f) 25 (0, 0))) := (hB4.block _ hz3).trans H3.out
    have hBw4 : Below w.heap.size w w4 := hBw3.trans (hB4.mono hBw3.size)
    have hsz := lt_of_row H4.out
    have he4 : arr .u8 32 (parseTo (textF f) 64) = arr .u8 32 f := arr_congr fun i hi => parse_text f hf i hi
    rw [he4]
    clear he4 H3 hBw3 hB4 hz3
    have heq : ∀ w, (Op.equalIn 10000 25 (.agg (arr .u8 32 f)) (.agg (arr .u8 32 f))).run Tryd.prog w = .ok true w := fun w =>
      (equal_arr 9998 25 5 32 .u8 .u8 f f Tryd.underlying25 Tryd.underlying5 (by kernel_rfl) w).trans (by rw [eqTo_true fun _ _ => rfl])
    go_wp2_with (first
      | (refine wpList_store_row (by rfl) 25 (.tmp 5) (.tmp 14) (by rfl) w4.heap.size (arr .u8 32 f) (by rfl) (by rfl) 25 (arr .u8 32 fun _ => 0) ((heap_alloc_new _ _).trans rfl) (by rw [arr_size]; kernel_rfl) (by rw [arr_size, arr_size]) (arr_one _ _ _) ?_)
      | (refine load_rowg (by rfl) 25 (.tmp 5) (by rfl) w4.heap.size (by rfl) 25 (arr .u8 32 f) (0, 0) _ (heap_setRow_same (heap_alloc_new _ _)) Tryd.underlying25 rfl (by rw [arr_size]; kernel_rfl) ?_)
      | (refine load_rowg (by rfl) 25 (.tmp 2) (by rfl) w.heap.size (by rfl) 25 (arr .u8 32 f) (0, 0) _ ((setRow_other _ _ _ _ (by omega)).trans ((Below.heap_alloc _ _ _ hsz).trans H4.out)) Tryd.underlying25 rfl (by rw [arr_size]; kernel_rfl) ?_))
    refine calls_gen (fun W5 => Below w.heap.size w W5) ?_ ?_
    · exact below_setRow' (hBw4.alloc (by omega) _) (by omega) _
    intro W5 hB5
    clear heq H4 hBw4 hsz
    refine (parse_any s W5).mono ?_
    rintro e w6 ⟨h6 | h6, hB6⟩
    · obtain ⟨hok, rfl⟩ := h6
      have hb6 := parse_byte s hok.2
      have ht6 : ((textF (parseTo s 64)).toList == s.toList) = true := toList_eq (text_parse s hok.1 hok.2 _ fun _ _ => rfl)
      have hBw : Below w.heap.size w w6 := hB5.trans (hB6.mono hB5.size)
      generalize parseTo s 64 = p at hb6 ht6
      have HT6 : Hid _ := ht6
      clear hok hB5 hB6 ht6
      go_wp2_with (first
        | (refine wpList_store_row (by rfl) 25 (.tmp 7) (.tmp 26) (by rfl) w6.heap.size (arr .u8 32 p) (by rfl) (by rfl) 25 (arr .u8 32 fun _ => 0) ((heap_alloc_new _ _).trans rfl) (by rw [arr_size]; kernel_rfl) (by rw [arr_size, arr_size]) (arr_one _ _ _) ?_)
        | (refine load_rowg (by rfl) 25 (.tmp 7) (by rfl) w6.heap.size (by rfl) 25 (arr .u8 32 p) (0, 0) _ (heap_setRow_same (heap_alloc_new _ _)) Tryd.underlying25 rfl (by rw [arr_size]; kernel_rfl) ?_))
      refine calls_gen (fun W7 => Below w.heap.size w W7) ?_ ?_
      · exact below_setRow' (hBw.alloc hBw.size _) hBw.size _
      intro W7 hB7
      refine (text_any p _ hb6).mono ?_
      rintro e w8 ⟨rfl, hB8⟩
      have ht6 := HT6.out
      generalize textF p = T at ht6
      clear HT6
      go_wp2
      go_ret
      exact ⟨rfl, hB7.trans (hB8.mono hB7.size)⟩
    · obtain ⟨hok, rfl⟩ := h6
      have hBw : Below w.heap.size w w6 := hB5.trans (hB6.mono hB5.size)
      have heq := zero_eq
      clear hok hB5 hB6
      go_wp2_with (first
        | (refine wpList_store_row (by rfl) 25 (.tmp 7) (.tmp 26) (by rfl) w6.heap.size (arr .u8 32 fun _ => 0) (by rfl) (by rfl) 25 (arr .u8 32 fun _ => 0) ((heap_alloc_new _ _).trans rfl) (by rw [arr_size]; kernel_rfl) rfl (arr_one _ _ _) ?_)
        | (refine load_rowg (by rfl) 25 (.tmp 7) (by rfl) w6.heap.size (by rfl) 25 (arr .u8 32 fun _ => 0) (0, 0) _ (heap_setRow_same (heap_alloc_new _ _)) Tryd.underlying25 rfl (by rw [arr_size]; kernel_rfl) ?_))
      go_ret
      exact ⟨rfl, below_setRow' (hBw.alloc hBw.size _) hBw.size _⟩
  · exact absurd (text_digits f hf) h4.1
end Go.Proofs.YtekmmmechhjggaaDoor
