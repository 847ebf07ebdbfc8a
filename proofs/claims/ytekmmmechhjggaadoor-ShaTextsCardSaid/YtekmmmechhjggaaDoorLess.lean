/- The contracts of bytes.Compare at two rows of 32 bytes, and of sha.Less. -/
import Derived.Test.YtekmmmechhjggaaDoorEq
import Derived.Lib.BytesEntry
namespace Go.Proofs.YtekmmmechhjggaaDoor
open Go.RowKit

/-- Does f stand ahead of g, byte by byte? -/
def lessF (f g : Nat → Int) : Bool := match (List.range 32).find? fun i => f i != g i with
  | some i => decide (f i < g i)
  | none => false

theorem str_get (n : Nat) (f : Nat → Int) (i : Nat) (h : i < n) : (strOf n f)[i]! = UInt8.ofNat (f i).toNat := by
  have hs : i < (strOf n f).size := by rw [str_size]; exact h
  rw [getElem!_pos (strOf n f) i hs]
  show (strOf n f).data[i] = _
  simp [strOf]
theorem u8_eq {a b : Int} (ha : 0 ≤ a ∧ a ≤ 255) (hb : 0 ≤ b ∧ b ≤ 255) : (UInt8.ofNat a.toNat != UInt8.ofNat b.toNat) = (a != b) := by
  have e : UInt8.ofNat a.toNat = UInt8.ofNat b.toNat ↔ a = b := by
    constructor
    · intro h
      have := congrArg UInt8.toNat h
      rw [UInt8.toNat_ofNat', UInt8.toNat_ofNat'] at this
      omega
    · intro h; rw [h]
  by_cases h : a = b
  · subst h; simp
  · have h1 : (a != b) = true := by simpa using h
    have h2 : (UInt8.ofNat a.toNat != UInt8.ofNat b.toNat) = true := by simpa using fun h' => h (e.1 h')
    rw [h1, h2]
theorem u8_lt {a b : Int} (ha : 0 ≤ a ∧ a ≤ 255) (hb : 0 ≤ b ∧ b ≤ 255) : (UInt8.ofNat a.toNat < UInt8.ofNat b.toNat) ↔ a < b := by
  rw [UInt8.lt_iff_toNat_lt, UInt8.toNat_ofNat', UInt8.toNat_ofNat']
  omega
theorem find_congr' {p q : Nat → Bool} : ∀ l : List Nat, (∀ i, i ∈ l → p i = q i) → l.find? p = l.find? q
  | [], _ => rfl
  | a :: l, h => by
    simp only [List.find?_cons, h a (by simp), find_congr' l fun i hi => h i (by simp [hi])]
theorem cmp_less (f g : Nat → Int) (hf : ∀ i, 0 ≤ f i ∧ f i ≤ 255) (hg : ∀ i, 0 ≤ g i ∧ g i ≤ 255) : decide (Extern.BytealgCompare.cmp (strOf 32 f) (strOf 32 g) < 0) = lessF f g := by
  unfold Extern.BytealgCompare.cmp lessF
  rw [str_size, str_size, show min 32 32 = 32 from rfl]
  rw [find_congr' (q := fun i => f i != g i) (List.range 32) (fun i hi => by
    have hi' : i < 32 := List.mem_range.1 hi
    rw [str_get 32 f i hi', str_get 32 g i hi', u8_eq (hf i) (hg i)])]
  cases hfd : (List.range 32).find? fun i => f i != g i with
  | none => simp
  | some i =>
    have hi : i < 32 := List.mem_range.1 (List.mem_of_find?_eq_some hfd)
    simp only [str_get 32 f i hi, str_get 32 g i hi, u8_lt (hf i) (hg i)]
    by_cases h : f i < g i
    · simp [h]
    · simp [h]
theorem less_at (f g : Nat → Int) (t : Nat) (ht : t < 32) (h : ∀ j, j < t → f j = g j) (hne : f t ≠ g t) : lessF f g = decide (f t < g t) := by
  have e : (List.range 32).find? (fun i => f i != g i) = some t := by
    rw [List.find?_range_eq_some]
    refine ⟨by simpa using hne, by simpa using ht, fun j hj => by simp [h j hj]⟩
  unfold lessF
  rw [e]
theorem less_none (f g : Nat → Int) (h : ∀ j, j < 32 → f j = g j) : lessF f g = false := by
  have e : (List.range 32).find? (fun i => f i != g i) = none := by
    rw [List.find?_eq_none]
    intro i hi
    simp [h i (List.mem_range.1 hi)]
  unfold lessF
  rw [e]

theorem bytes_of {w : World} {g n c : Nat} {f : Nat → Int} {t : TypeId} {fr : Nat × Nat} (h : w.heap[g]? = some (.cells (arr .u8 n f) t fr)) : (Extern.Bytes.bytesOf (.slice (some ⟨g, 0, none⟩) n c)).run Tryd.prog w = .ok (strOf n f) w := by
  have hl := Lib.run_loadBytesX (P := Tryd.prog) w ((List.range n).map f) ⟨g, 0, none⟩ .empty (fun j x hj => by
    have hjn : j < n := by
      have := (List.getElem?_eq_some_iff.1 hj).1
      simpa using this
    have hx : x = f j := by simpa [hjn] using hj.symm
    rw [Addr.add_mid, Nat.zero_add, row_cell h hjn, hx])
  rw [List.length_map, List.length_range] at hl
  unfold Extern.Bytes.bytesOf
  rw [hl]
  congr 1
  apply ByteArray.ext
  show (#[] : Array UInt8) ++ _ = _
  simp [strOf, Lib.bytesOf, Function.comp_def]

theorem run_cmp45 {w : World} {g1 g2 c1 c2 : Nat} {f g : Nat → Int} {t1 t2 : TypeId} {r1 r2 : Nat × Nat} (h1 : w.heap[g1]? = some (.cells (arr .u8 32 f) t1 r1)) (h2 : w.heap[g2]? = some (.cells (arr .u8 32 g) t2 r2)) :
    (callFunc 45 #[.slice (some ⟨g1, 0, none⟩) 32 c1, .slice (some ⟨g2, 0, none⟩) 32 c2]).run Tryd.prog w = .ok (.value (.int .i64 (Extern.BytealgCompare.cmp (strOf 32 f) (strOf 32 g)))) w := by
  rw [run_callFunc_extern (fn := Tryd.f45) Tryd.func45 (by kernel_rfl) (by kernel_rfl) (by kernel_rfl) (e := Extern.BytealgCompare.compare) (by kernel_rfl)]
  change Result.andThen (Sem.run Tryd.prog (do pure (goInt (Extern.BytealgCompare.cmp (← Extern.Bytes.bytesOf (.slice (some ⟨g1, 0, none⟩) 32 c1)) (← Extern.Bytes.bytesOf (.slice (some ⟨g2, 0, none⟩) 32 c2))))) w) _ = _
  simp only [Sem.run_bind, bytes_of h1, bytes_of h2, Result.andThen_ok, Sem.run_pure]
  rfl

set_option maxRecDepth 100000 in
theorem cmp40 (w : World) (g1 g2 c1 c2 : Nat) (f g : Nat → Int) (t1 t2 : TypeId) (r1 r2 : Nat × Nat) (h1 : w.heap[g1]? = some (.cells (arr .u8 32 f) t1 r1)) (h2 : w.heap[g2]? = some (.cells (arr .u8 32 g) t2 r2)) :
    Calls Tryd.prog 40 #[.slice (some ⟨g1, 0, none⟩) 32 c1, .slice (some ⟨g2, 0, none⟩) 32 c2] w fun e w' => e = .returned (.int .i64 (Extern.BytealgCompare.cmp (strOf 32 f) (strOf 32 g))) ∧ w' = w := by
  have hc := run_cmp45 (c1 := c1) (c2 := c2) h1 h2
  generalize Extern.BytealgCompare.cmp (strOf 32 f) (strOf 32 g) = q at hc
  clear h1 h2
  go_enter Tryd.func40, Tryd.ntmps40
  go_wp2
  go_ret
  exact ⟨rfl, rfl⟩

set_option maxRecDepth 100000 in
set_option maxHeartbeats 1000000 in
theorem less_any (f g : Nat → Int) (w : World) (hf : ∀ i, 0 ≤ f i ∧ f i ≤ 255) (hg : ∀ i, 0 ≤ g i ∧ g i ≤ 255) :
    Calls Tryd.prog 26 #[.agg (arr .u8 32 f), .agg (arr .u8 32 g)] w fun e w' => e = .returned (.bool (lessF f g)) ∧ Below w.heap.size w w' := by
  have HL : Hid (decide (Extern.BytealgCompare.cmp (strOf 32 f) (strOf 32 g) < 0) = lessF f g) := cmp_less f g hf hg
  go_enter Tryd.func26, Tryd.ntmps26
  go_wp2
  refine wp_gen (fun W1 => Below w.heap.size w W1 ∧ W1.heap[w.heap.size]? = some (.cells (arr .u8 32 f) 25 (0, 0)) ∧ W1.heap[w.heap.size + 1]? = some (.cells (arr .u8 32 g) 25 (0, 0))) ⟨?_, ?_, ?_⟩ ?_
  · exact ((Below.refl _ _).alloc (Nat.le_refl _) _).alloc (by simp) _
  · exact (heap_alloc2_old _ _ _).trans rfl
  · exact (heap_alloc2_new _ _ _).trans rfl
  intro W1 ⟨hB, hr0, hr1⟩
  have H0 : Hid _ := hr0
  have H1 : Hid _ := hr1
  clear hr0 hr1
  go_quiet ((go_at_call 40; exact Calls.quiet_of_same (cmp40 (W1.drewN _) _ _ _ _ f g 25 25 (0, 0) (0, 0) H0.out H1.out)))
  go_wp2
  go_ret
  exact ⟨by rw [← HL.out]; rfl, below_drewN hB _⟩
end Go.Proofs.YtekmmmechhjggaaDoor
