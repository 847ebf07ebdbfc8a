/- What the document's Decode leaves; the bytes that are none, or of no kind. -/
import Derived.Test.YtnaoaeapffgojaaRDcL
import Derived.Test.YtnaoaeapffgojaaRDcA
import Derived.Test.YtnaoaeapffgojaaRRgL
namespace Go.Proofs.Ytnaoaeapffgojaa
open Go.RowKit

/-- What the document's Decode leaves. -/
def RPost (L : List Int) (w : World) (e : Ending) (w' : World) : Prop :=
  Below w.heap.size w w' ∧ (((decP L).2 = 7 ∧ e = .returned (.tuple #[.agg zeroOb.cells, .int .i64 7])) ∨ ((decP L).2 = 0 ∧ fullB L = false ∧ e = .returned (.tuple #[.agg zeroOb.cells, .int .i64 150])) ∨
    ((decP L).2 = 0 ∧ fullB L = true ∧ ∃ sq cq, e = .returned (.tuple #[.agg (decO L sq cq).cells, .int .i64 0]) ∧ Has w' (decO L sq cq) (decC L)))
/-- .. from where all is read: k bytes, b: whether each byte of what an entry is was nought or one. -/
def TPost (o : Ob) (c : Co) (n k : Nat) (b : Bool) (w : World) (e : Ending) (w' : World) : Prop :=
  Below w.heap.size w w' ∧ (((k < n ∨ b = false ∨ rightB o c = false) ∧ e = .returned (.tuple #[.agg zeroOb.cells, .int .i64 150])) ∨
    (n ≤ k ∧ b = true ∧ rightB o c = true ∧ e = .returned (.tuple #[.agg o.cells, .int .i64 0]) ∧ Has w' o c))
theorem tpost {L : List Int} {k : Nat} {b : Bool} {sq : Option Addr} {cq : Nat} {w w' : World} {e : Ending} (hp : decP L = (k, 0)) (hb : allOk L = b) (h : TPost (decO L sq cq) (decC L) L.length k b w e w') : RPost L w e w' := by
  have hf : fullB L = (decide (L.length ≤ k) && (b && rightB (decO L sq cq) (decC L))) := by unfold fullB; rw [hp, hb, ← decO_right L sq cq]
  refine ⟨h.1, .inr ?_⟩
  rcases h.2 with ⟨h1, h2⟩ | ⟨h1, h2, h3, h4, h5⟩
  · refine .inl ⟨by rw [hp], ?_, h2⟩
    rw [hf]
    rcases h1 with h1 | h1 | h1
    · rw [show decide (L.length ≤ k) = false by simp; omega, Bool.false_and]
    · rw [h1, Bool.false_and, Bool.and_false]
    · rw [h1, Bool.and_false, Bool.and_false]
  · refine .inr ⟨by rw [hp], ?_, sq, cq, h4, h5⟩
    rw [hf, h2, h3]
    simp [h1]
theorem take_src {n : Nat} (src : Nat → Int) {k m : Nat} (h : k + m ≤ n) : (((List.range n).map src).drop k).take m = (List.range m).map fun j => src (k + j) := by
  apply List.ext_getElem?
  intro i
  by_cases hi : i < m
  · rw [List.getElem?_take, if_pos hi, List.getElem?_drop]
    simp [hi, show k + i < n by omega]
  · rw [List.getElem?_eq_none (by simp; omega), List.getElem?_eq_none (by simp; omega)]
theorem len_src (n : Nat) (src : Nat → Int) : ((List.range n).map src).length = n := by simp
theorem tk_src {n : Nat} (src : Nat → Int) {k m : Nat} (h : k + m ≤ n) : tk ((List.range n).map src) (k, 0) m = ((k + m, 0), (List.range m).map fun j => src (k + j)) := by
  rw [tk_good (by rw [len_src]; omega), take_src src h]
theorem tk_short {n : Nat} (src : Nat → Int) {k m : Nat} (h : n < k + m) (hk : k ≤ n) : tk ((List.range n).map src) (k, 0) m = ((k, 7), []) := tk_bad (by rw [len_src]; omega)
theorem tk_byte {n : Nat} (src : Nat → Int) {k : Nat} (h : k < n) : tk ((List.range n).map src) (k, 0) 1 = ((k + 1, 0), [src k]) := by
  rw [tk_src src (by omega)]
  simp [List.range_succ]
theorem ok_src {n : Nat} {src : Nat → Int} (hok : ∀ i, i < n → 0 ≤ src i ∧ src i ≤ 255) : ∀ x ∈ (List.range n).map src, 0 ≤ x ∧ x ≤ 255 := fun x hx => by
  obtain ⟨i, hi, rfl⟩ := List.mem_map.1 hx
  exact hok i (List.mem_range.1 hi)
theorem decX_src {n : Nat} {src : Nat → Int} (h : 0 < n) : decX ((List.range n).map src) = src 0 := by
  unfold decX
  rw [tk_byte src h, num_one]

set_option maxRecDepth 100000 in
set_option maxHeartbeats 1000000 in
theorem rdec_none (sp : Option Addr) (cap : Nat) (src : Nat → Int) (w : World) : Calls Try.prog 8 #[.slice sp 0 cap] w (RPost ((List.range 0).map src) w) := by
  have HZB : Hid _ := buildz
  have HZ1 : Hid _ := ob_one zeroOb rfl rfl rfl
  go_enter Try.func8, Try.ntmps8
  go_wp2_with (first
    | (refine wpList_build (by rfl) 30 _ (by rfl) [] (by rfl) (.agg zeroOb.cells) (HZB.out _) ?_)
    | (refine wpList_store_row (by rfl) 30 (.tmp 2) (.tmp 16) (by rfl) w.heap.size zeroOb.cells (by rfl) (by rfl) 30 _ (heap_alloc_new _ _) (by rw [Ob.size]; kernel_rfl) rfl HZ1.out ?_))
  refine bodyPost_ret (v := .tuple #[.agg zeroOb.cells, .int .i64 7]) ?_ rfl ⟨?_, .inl ⟨rfl, rfl⟩⟩
  · exact results_cell_tmp Try.results8 _ _ w.heap.size 30 _ (0, 0) _ _ rfl rfl (heap_setRow_same (heap_alloc_new _ _)) Try.underlying30 rfl (by rw [Ob.size]; kernel_rfl)
  · exact below_setRow' ((Below.refl _ _).alloc (Nat.le_refl _) _) (Nat.le_refl _) _

theorem other_post {w : World} {n : Nat} {src : Nat → Int} (hn : 0 < n) {x : Int} (hx : src 0 = x) (hk : x < 1 ∨ 3 < x) : ∀ w', Below w.heap.size w w' → RPost ((List.range n).map src) w (.returned (.tuple #[.agg zeroOb.cells, .int .i64 150])) w' := fun w' hB => by
  have hX := decX_src (src := src) hn
  rw [hx] at hX
  have h1 : ¬ decX ((List.range n).map src) = 1 := by rw [hX]; omega
  have h2 : ¬ decX ((List.range n).map src) = 2 := by rw [hX]; omega
  have h3 : ¬ decX ((List.range n).map src) = 3 := by rw [hX]; omega
  refine ⟨hB, .inr (.inl ⟨?_, ?_, rfl⟩)⟩
  · unfold decP
    rw [if_neg h1, if_neg h2, if_neg h3, tk_byte src hn]
  · unfold fullB
    have : rightB (decO ((List.range n).map src) none 0) (decC ((List.range n).map src)) = false := right_none (by
      have : (decO ((List.range n).map src) none 0).kind = x := by simp only [decO, h1, h2, h3, if_false]; exact hX
      rw [this]
      omega)
    rw [this, Bool.and_false, Bool.and_false]

set_option maxRecDepth 100000 in
set_option maxHeartbeats 1500000 in
theorem rdec_lo (b off n cap : Nat) (src : Nat → Int) (w : World) (hs : SrcAt w .u8 (some ⟨b, off, none⟩) n src) (hn : 0 < n) (hok : ∀ i, i < n → 0 ≤ src i ∧ src i ≤ 255) (x : Int) (hX : src 0 = x) (hlo : x < 1) :
    Calls Try.prog 8 #[.slice (some ⟨b, off, none⟩) n cap] w (RPost ((List.range n).map src) w) := by
  have HPOST : Hid _ := other_post (w := w) (src := src) hn (x := x) hX (by omega)
  have d1 : decide (x < 1) = true := by simpa using hlo
  have HZB : Hid _ := buildz
  have HZ1 : Hid _ := ob_one zeroOb rfl rfl rfl
  have HS : Hid (SrcAt w .u8 (some ⟨b, off, none⟩) n src) := hs
  have HOK : Hid _ := hok
  obtain ⟨b', off', hse, hc⟩ := hs hn
  injection hse with hse
  injection hse with hse1 hse2
  subst hse1 hse2
  have hbw : b < w.heap.size := block_lt_of_cell (hc 0 hn)
  have ea : ∀ X, (w.alloc X).cell? ⟨b, off, none⟩ = some (.int .u8 (src 0)) := fun X => (((Below.refl _ w).alloc (Nat.le_refl _) X).cell (p := ⟨b, off, none⟩) hbw).trans (hc 0 hn)
  have hxr := hok 0 hn
  rw [hX] at ea hxr
  have HX : Hid _ := hX
  have hwx : IntKind.i64.wrap x = x := by rw [IntKind.wrap_i64]; omega
  have dn : ((n : Int) == 0) = false := by simp; omega
  obtain ⟨q, hq⟩ : ∃ q : Ob, q = { zeroOb with kind := x } := ⟨_, rfl⟩
  have HQ : Hid _ := hq
  have HB0 : Hid (∀ w, (Instr.build 30 #[(0, .int .i64 x)]).run Try.prog w = .ok (.agg q.cells) w) := by rw [hq]; exact build0 x
  have HO1 : Hid (q.cells.all (·.oneCell') = true) := by rw [hq]; exact ob_one _ rfl rfl rfl
  have HQK : Hid (q.kind = x) := by rw [hq]; exact rfl
  clear hs hc hX hq hok
  go_enter Try.func8, Try.ntmps8
  go_wp2_with (first
    | (refine wpList_build (by rfl) 30 _ (by rfl) [(0, .int .i64 x)] (by rfl) (.agg q.cells) (HB0.out _) ?_)
    | (refine wpList_build (by rfl) 30 _ (by rfl) [] (by rfl) (.agg zeroOb.cells) (HZB.out _) ?_)
    | (refine wpList_store_row (by rfl) 30 (.tmp 4) (.tmp 21) (by rfl) (w.heap.size + 1) q.cells (by rfl) (by rfl) 30 _ (heap_alloc2_new _ _ _) (by rw [Ob.size]; kernel_rfl) (by rw [Ob.size]; rfl) HO1.out ?_; refine wpList_gen (fun W => Below w.heap.size w W ∧ W.heap[w.heap.size]? = some (.cells zeroOb.cells 30 (0, 0)) ∧ W.heap[w.heap.size + 1]? = some (.cells q.cells 30 (0, 0))) ⟨below_setRow' (((Below.refl _ _).alloc (Nat.le_refl _) _).alloc (by simp) _) (by omega) _, (setRow_other _ _ _ _ (by omega)).trans ((heap_alloc2_old _ _ _).trans rfl), heap_setRow_same (heap_alloc2_new _ _ _)⟩ ?_; intro W1 hW1; have k0 : W1.cell? ⟨w.heap.size + 1, 0, none⟩ = some (.int .i64 x) := (cell_of_row _ _ _ _ _ _ hW1.2.2).trans ((Ob.cell0 _).trans (by rw [HQK.out])); have f1 := hW1.1; have H0 : Hid _ := hW1.2.1; have H4 : Hid _ := hW1.2.2; clear hW1 ea hwx HB0)
    | (refine wpList_store_row (by rfl) 30 (.tmp 2) (.tmp 30) (by rfl) w.heap.size zeroOb.cells (by rfl) (by rfl) 30 _ H0.out (by rw [Ob.size]; kernel_rfl) rfl HZ1.out ?_))
  refine bodyPost_ret (v := .tuple #[.agg zeroOb.cells, .int .i64 150]) ?_ rfl (HPOST.out _ (below_setRow' f1 (Nat.le_refl _) _))
  exact results_cell_tmp Try.results8 _ _ w.heap.size 30 _ (0, 0) _ _ rfl rfl (heap_setRow_same H0.out) Try.underlying30 rfl (by rw [Ob.size]; kernel_rfl)

set_option maxRecDepth 100000 in
set_option maxHeartbeats 1500000 in
theorem rdec_hi (b off n cap : Nat) (src : Nat → Int) (w : World) (hs : SrcAt w .u8 (some ⟨b, off, none⟩) n src) (hn : 0 < n) (hok : ∀ i, i < n → 0 ≤ src i ∧ src i ≤ 255) (x : Int) (hX : src 0 = x) (hhi : 3 < x) :
    Calls Try.prog 8 #[.slice (some ⟨b, off, none⟩) n cap] w (RPost ((List.range n).map src) w) := by
  have HPOST : Hid _ := other_post (w := w) (src := src) hn (x := x) hX (by omega)
  have d1 : decide (x < 1) = false := by simp; omega
  have d2 : decide (3 < x) = true := by simpa using hhi
  have HZB : Hid _ := buildz
  have HZ1 : Hid _ := ob_one zeroOb rfl rfl rfl
  have HS : Hid (SrcAt w .u8 (some ⟨b, off, none⟩) n src) := hs
  have HOK : Hid _ := hok
  obtain ⟨b', off', hse, hc⟩ := hs hn
  injection hse with hse
  injection hse with hse1 hse2
  subst hse1 hse2
  have hbw : b < w.heap.size := block_lt_of_cell (hc 0 hn)
  have ea : ∀ X, (w.alloc X).cell? ⟨b, off, none⟩ = some (.int .u8 (src 0)) := fun X => (((Below.refl _ w).alloc (Nat.le_refl _) X).cell (p := ⟨b, off, none⟩) hbw).trans (hc 0 hn)
  have hxr := hok 0 hn
  rw [hX] at ea hxr
  have HX : Hid _ := hX
  have hwx : IntKind.i64.wrap x = x := by rw [IntKind.wrap_i64]; omega
  have dn : ((n : Int) == 0) = false := by simp; omega
  obtain ⟨q, hq⟩ : ∃ q : Ob, q = { zeroOb with kind := x } := ⟨_, rfl⟩
  have HQ : Hid _ := hq
  have HB0 : Hid (∀ w, (Instr.build 30 #[(0, .int .i64 x)]).run Try.prog w = .ok (.agg q.cells) w) := by rw [hq]; exact build0 x
  have HO1 : Hid (q.cells.all (·.oneCell') = true) := by rw [hq]; exact ob_one _ rfl rfl rfl
  have HQK : Hid (q.kind = x) := by rw [hq]; exact rfl
  clear hs hc hX hq hok
  go_enter Try.func8, Try.ntmps8
  go_wp2_with (first
    | (refine wpList_build (by rfl) 30 _ (by rfl) [(0, .int .i64 x)] (by rfl) (.agg q.cells) (HB0.out _) ?_)
    | (refine wpList_build (by rfl) 30 _ (by rfl) [] (by rfl) (.agg zeroOb.cells) (HZB.out _) ?_)
    | (refine wpList_store_row (by rfl) 30 (.tmp 4) (.tmp 21) (by rfl) (w.heap.size + 1) q.cells (by rfl) (by rfl) 30 _ (heap_alloc2_new _ _ _) (by rw [Ob.size]; kernel_rfl) (by rw [Ob.size]; rfl) HO1.out ?_; refine wpList_gen (fun W => Below w.heap.size w W ∧ W.heap[w.heap.size]? = some (.cells zeroOb.cells 30 (0, 0)) ∧ W.heap[w.heap.size + 1]? = some (.cells q.cells 30 (0, 0))) ⟨below_setRow' (((Below.refl _ _).alloc (Nat.le_refl _) _).alloc (by simp) _) (by omega) _, (setRow_other _ _ _ _ (by omega)).trans ((heap_alloc2_old _ _ _).trans rfl), heap_setRow_same (heap_alloc2_new _ _ _)⟩ ?_; intro W1 hW1; have k0 : W1.cell? ⟨w.heap.size + 1, 0, none⟩ = some (.int .i64 x) := (cell_of_row _ _ _ _ _ _ hW1.2.2).trans ((Ob.cell0 _).trans (by rw [HQK.out])); have f1 := hW1.1; have H0 : Hid _ := hW1.2.1; have H4 : Hid _ := hW1.2.2; clear hW1 ea hwx HB0)
    | (refine wpList_store_row (by rfl) 30 (.tmp 2) (.tmp 30) (by rfl) w.heap.size zeroOb.cells (by rfl) (by rfl) 30 _ H0.out (by rw [Ob.size]; kernel_rfl) rfl HZ1.out ?_))
  refine bodyPost_ret (v := .tuple #[.agg zeroOb.cells, .int .i64 150]) ?_ rfl (HPOST.out _ (below_setRow' f1 (Nat.le_refl _) _))
  exact results_cell_tmp Try.results8 _ _ w.heap.size 30 _ (0, 0) _ _ rfl rfl (heap_setRow_same H0.out) Try.underlying30 rfl (by rw [Ob.size]; kernel_rfl)
end Go.Proofs.Ytnaoaeapffgojaa
