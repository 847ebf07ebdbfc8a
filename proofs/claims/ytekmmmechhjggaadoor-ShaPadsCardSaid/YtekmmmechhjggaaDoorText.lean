/- Digits; bytes as a string; the contract of sha.Text. -/
import Derived.Test.YtekmmmechhjggaaDoorPut
import Derived.Laws.BytesString
namespace Go.Proofs.YtekmmmechhjggaaDoor
open Go.RowKit

def strOf (n : Nat) (f : Nat → Int) : ByteArray := ⟨((List.range n).map fun i => UInt8.ofNat (f i).toNat).toArray⟩
theorem foldl_push (ns : List Int) : ∀ s : ByteArray, ns.foldl (fun r n => r.push (UInt8.ofNat n.toNat)) s = ⟨s.data ++ (ns.map fun n => UInt8.ofNat n.toNat).toArray⟩ := by
  induction ns with
  | nil => intro s; simp
  | cons n ns ih =>
    intro s
    rw [List.foldl_cons, ih]
    simp [ByteArray.push]
theorem arr_list (k : IntKind) (n : Nat) (f : Nat → Int) : arr k n f = (((List.range n).map f).map (Value.int k)).toArray := by
  apply Array.ext
  · simp [arr]
  · intro i h1 h2
    simp [arr]
theorem bytes_string {w : World} {g n cap : Nat} {f : Nat → Int} {t : TypeId} {fr : Nat × Nat} (h : w.heap[g]? = some (.cells (arr .u8 n f) t fr)) :
    (convert 22 9 (.slice (some ⟨g, 0, none⟩) n cap)).run Tryd.prog w = .ok (.string (strOf n f)) w := by
  rw [run_convert_bytes_string w 22 9 5 _ _ _ Tryd.underlying22 Tryd.underlying5 Tryd.underlying9]
  have hl : (loadCells ⟨g, 0, none⟩ n).run Tryd.prog w = .ok (((List.range n).map f).map (Value.int .u8)).toArray w := by
    have := run_loadCells_list (P := Tryd.prog) w ⟨g, 0, none⟩ (((List.range n).map f).map (Value.int .u8)) (fun j v hv => by
      rw [Addr.add_mid, Nat.zero_add, cell_of_row _ _ _ _ _ _ h, arr_list]
      simpa using hv)
    simpa using this
  rw [run_bytesToString w _ n cap _ hl, foldl_push]
  have e : (ByteArray.empty).data = #[] := rfl
  rw [e]
  simp [strOf, Function.comp_def]

def digS : ByteArray := { data := #[48, 49, 50, 51, 52, 53, 54, 55, 56, 57, 97, 98, 99, 100, 101, 102] }
/-- The digit of a number below 16. -/
def digI (q : Int) : Int := if q < 10 then 48 + q else 87 + q
theorem index_digit (q : Int) (h0 : 0 ≤ q) (h1 : q < 16) (w : World) : (Instr.index 9 (.string { data := #[48, 49, 50, 51, 52, 53, 54, 55, 56, 57, 97, 98, 99, 100, 101, 102] }) (.int .u8 q)).run Tryd.prog w = .ok (.int .u8 (digI q)) w := by
  obtain ⟨n, rfl⟩ := Int.eq_ofNat_of_zero_le h0
  have hn : n < 16 := by omega
  have hu := run_underlying Tryd.underlying9 w
  have hk : (Instr.index 9 (.string { data := #[48, 49, 50, 51, 52, 53, 54, 55, 56, 57, 97, 98, 99, 100, 101, 102] }) (.int .u8 (n : Int))).run Tryd.prog w = .ok (.int .u8 (({ data := #[48, 49, 50, 51, 52, 53, 54, 55, 56, 57, 97, 98, 99, 100, 101, 102] } : ByteArray)[n]'hn).toNat) w := by
    have hg : ({ data := #[48, 49, 50, 51, 52, 53, 54, 55, 56, 57, 97, 98, 99, 100, 101, 102] } : ByteArray)[n]? = some (({ data := #[48, 49, 50, 51, 52, 53, 54, 55, 56, 57, 97, 98, 99, 100, 101, 102] } : ByteArray)[n]'hn) := getElem?_pos (c := ({ data := #[48, 49, 50, 51, 52, 53, 54, 55, 56, 57, 97, 98, 99, 100, 101, 102] } : ByteArray)) n hn
    simp [Instr.index, asIntOf, hu, hg]
  rw [hk]
  have e : ∀ m : Fin 16, ((({ data := #[48, 49, 50, 51, 52, 53, 54, 55, 56, 57, 97, 98, 99, 100, 101, 102] } : ByteArray)[m.val]'m.isLt).toNat : Int) = digI m.val := by decide
  rw [e ⟨n, hn⟩]
theorem and15 (x : Int) (h0 : 0 ≤ x) (h1 : x ≤ 255) : bits .and .u8 x 15 = x % 16 := by
  rw [u8_and x 15 h0 (by omega) (by omega) (by omega)]
  have : (15 : Int).toNat = 2 ^ 4 - 1 := rfl
  rw [this, Nat.and_two_pow_sub_one_eq_mod]
  omega

/-- The digits behind t bytes. -/
def textTo (f : Nat → Int) (t : Nat) : Nat → Int := fun j => if j < 2 * t then (if j % 2 = 0 then digI (f (j / 2) / 16) else digI (f (j / 2) % 16)) else 0
theorem textTo_succ (f : Nat → Int) (t : Nat) : upd (upd (textTo f t) (2 * t) (digI (f t / 16))) (2 * t + 1) (digI (f t % 16)) = textTo f (t + 1) := by
  funext j
  unfold upd textTo
  by_cases h1 : j = 2 * t + 1
  · subst h1
    rw [if_pos rfl, if_pos (by omega), if_neg (by omega), show (2 * t + 1) / 2 = t by omega]
  · rw [if_neg h1]
    by_cases h2 : j = 2 * t
    · subst h2
      rw [if_pos rfl, if_pos (by omega), if_pos (by omega), show 2 * t / 2 = t by omega]
    · rw [if_neg h2]
      by_cases h3 : j < 2 * t
      · have h4 : j < 2 * (t + 1) := by omega
        simp only [h3, h4, if_true]
      · have h4 : ¬ j < 2 * (t + 1) := by omega
        simp only [h3, h4, if_false]
def textF (f : Nat → Int) : ByteArray := strOf 64 (textTo f 32)

set_option maxRecDepth 100000 in
set_option maxHeartbeats 1000000 in
theorem text_any (f : Nat → Int) (w : World) (hf : ∀ i, 0 ≤ f i ∧ f i ≤ 255) :
    Calls Tryd.prog 24 #[.agg (arr .u8 32 f)] w fun e w' => e = .returned (.string (textF f)) ∧ Below w.heap.size w w' := by
  have hix : ∀ i : Nat, i < 32 → ∀ w, (Instr.index 25 (.agg (arr .u8 32 f)) (.int .i64 i)).run Tryd.prog w = .ok (.int .u8 (f i)) w :=
    fun i hi w => index_arr Tryd.underlying25 Tryd.underlying5 (by kernel_rfl) hi (arr_get hi) w
  have HIX : Hid _ := hix
  clear hix
  go_enter Tryd.func24, Tryd.ntmps24
  go_wp2_with (refine wpList_load_row rfl 25 (.tmp 1) rfl w.heap.size rfl 25 (arr .u8 32 f) (0, 0) _ ((heap_alloc2_old _ _ _)) Tryd.underlying25 rfl (by rw [arr_size]; kernel_rfl) ?_)
  refine wp_gen (fun W1 => Below w.heap.size w W1 ∧ W1.heap[w.heap.size + 1]? = some (.cells (arr .u8 64 fun _ => 0) 30 (0, 0))) ⟨?_, ?_⟩ ?_
  · exact ((Below.refl _ _).alloc (Nat.le_refl _) _).alloc (by simp) _
  · exact (heap_alloc2_new _ _ _).trans rfl
  intro W1 ⟨hB, hrow⟩
  have HROW : Hid _ := hrow
  clear hrow
  go_loopw [7] (fun i wr => ∃ t : Nat, t ≤ 32 ∧ i = .int .i64 t ∧ Below w.heap.size w wr ∧ wr.heap[w.heap.size + 1]? = some (.cells (arr .u8 64 (textTo f t)) 30 (0, 0))) (fun i _ => 32 - (intOf i).toNat)
  case atStart => exact ⟨0, Nat.zero_le _, rfl, hB, HROW.out⟩
  case round =>
    obtain ⟨t, ht, rfl, hBr, hrow⟩ := hrel
    have HR : Hid _ := hrow
    by_cases hlt : t < 32
    · have hx1 := HIX.out t hlt
      have hft := hf t
      generalize hX : f t = x at hx1 hft
      have HXT : Hid _ := hX
      clear hX
      have hd1 := index_digit (x / 16) (by omega) (by omega)
      have hd2 := index_digit (x % 16) (by omega) (by omega)
      have ha := and15 x hft.1 hft.2
      have hc0 : wr.cell? ⟨w.heap.size + 1, 2 * t, none⟩ = some (.int .u8 0) := (row_cell hrow (by omega)).trans (by simp [textTo])
      have hc1 : wr.cell? ⟨w.heap.size + 1, 2 * t + 1, none⟩ = some (.int .u8 0) := (row_cell hrow (by omega)).trans (by simp only [textTo, show ¬ 2 * t + 1 < 2 * t by omega, if_false])
      have hz : ∀ j, wr.frozen? ⟨w.heap.size + 1, j, none⟩ = false := fun j => frozen_of_row _ _ j _ _ hrow
      clear hrow
      go_wp2
      go_region
      go_wp2
      go_roundw
      case rel =>
        refine ⟨t + 1, by omega, by go_num, ((hBr.setCell (by simp) _).setCell (by simp) _).drew, ?_⟩
        rw [heap_drew, ← textTo_succ, HXT.out]
        exact row_set (row_set HR.out _ _) _ _
      case measure => simp [intOf]; omega
    · have ht32 : t = 32 := by omega
      have HT : Hid _ := ht32
      have hcv : (convert 22 9 (.slice (some ⟨w.heap.size + 1, 0, none⟩) 64 64)).run Tryd.prog wr = .ok (.string (strOf 64 (textTo f t))) wr := bytes_string hrow
      clear ht32 hrow
      go_wp2
      go_ret
      refine ⟨?_, hBr⟩
      rw [textF, ← HT.out]
      rfl
end Go.Proofs.YtekmmmechhjggaaDoor
