/- The contracts of merge's least and take. -/
import Derived.Test.YtmbnbehlfbdpnabMMay
import Derived.Test.YtmbnbehlfbdpnabFiD
namespace Go.Proofs.Ytmbnbehlfbdpnab
open Go.RowKit

/-- Files as they are handed on. -/
structure Sl where
  sp : Option Addr
  cap : Nat
  fs : List Fi
/-- A repository of them, as a value's cell. -/
abbrev Sl.v (s : Sl) : Value := .slice s.sp s.fs.length s.cap
def leastS (m : May) : List Fi → May
  | [] => m
  | f :: _ => if !m.there || Op.bytesLess f.path.toList m.value.toList then ⟨f.path, true⟩ else m
def leastR (a b c : List Fi) : May := leastS (leastS (leastS no a) b) c

theorem idx3a (a b c : Value) (W : World) : (Instr.index 50 (.agg #[a, b, c]) (.int .i64 0)).run Try.prog W = .ok (.agg #[a]) W := by kernel_rfl
theorem idx3b (a b c : Value) (W : World) : (Instr.index 50 (.agg #[a, b, c]) (.int .i64 1)).run Try.prog W = .ok (.agg #[b]) W := by kernel_rfl
theorem idx3c (a b c : Value) (W : World) : (Instr.index 50 (.agg #[a, b, c]) (.int .i64 2)).run Try.prog W = .ok (.agg #[c]) W := by kernel_rfl

set_option maxRecDepth 100000 in
set_option maxHeartbeats 1000000 in
theorem least_any (x y z : Sl) (w : World) (hx : RowsAt w 2 Fi.cells x.sp x.fs) (hy : RowsAt w 2 Fi.cells y.sp y.fs) (hz : RowsAt w 2 Fi.cells z.sp z.fs) :
    Calls Try.prog 31 #[.agg #[.slice x.sp x.fs.length x.cap, .slice y.sp y.fs.length y.cap, .slice z.sp z.fs.length z.cap]] w fun e w' => e = .returned (.agg (leastR x.fs y.fs z.fs).cells) ∧ Below w.heap.size w w' := by
  have HR : Hid (∀ (i : Nat) (s : Sl), [x, y, z][i]? = some s → RowsAt w 2 Fi.cells s.sp s.fs) := by
    intro i s hs
    match i with
    | 0 => obtain rfl : x = s := by simpa using hs
           exact hx
    | 1 => obtain rfl : y = s := by simpa using hs
           exact hy
    | 2 => obtain rfl : z = s := by simpa using hs
           exact hz
    | i + 3 => simp at hs
  clear hx hy hz
  go_enter Try.func31, Try.ntmps31
  go_wp2
  refine wp_gen (fun W => Below w.heap.size w W ∧ W.heap[w.heap.size + 1 + 1]? = some (.cells no.cells 67 (0, 0)) ∧ W.heap[w.heap.size + 1]? = some (.cells no.cells 67 (0, 0))) ⟨(((Below.refl _ _).alloc (Nat.le_refl _) _).alloc (by simp) _).alloc (by simp; omega) _, ?_, ?_⟩ ?_
  · have := heap_alloc_new ((w.alloc (.cells #[.slice x.sp x.fs.length x.cap, .slice y.sp y.fs.length y.cap, .slice z.sp z.fs.length z.cap] 50)).alloc (.cells no.cells 67)) (.cells no.cells 67)
    simp only [World.size_alloc] at this
    exact this
  · exact heap3 w _ (.cells no.cells 67) _
  intro W ⟨hB, hc, hc1⟩
  go_loopw [7] (fun i wr => ∃ (t : Nat) (m : May), t ≤ 3 ∧ i = .int .i64 t ∧ Below w.heap.size w wr ∧ wr.heap[w.heap.size + 1 + 1]? = some (.cells m.cells 67 (0, 0)) ∧ wr.heap[w.heap.size + 1]? = some (.cells no.cells 67 (0, 0)) ∧ m = (([x, y, z].take t).map (·.fs)).foldl leastS no) (fun i _ => 3 - (intOf i).toNat)
  case atStart => exact ⟨0, no, Nat.zero_le _, rfl, hB, hc, hc1, rfl⟩
  case round =>
    obtain ⟨t, m, ht, rfl, hB, hc, hc1, hm⟩ := hrel
    have HM : Hid _ := hm
    clear hm
    by_cases hlt : t < 3
    · obtain ⟨s, hs⟩ : ∃ s, [x, y, z][t]? = some s := ⟨_, List.getElem?_eq_getElem (by simpa using hlt)⟩
      have hix : ∀ W0 : World, (Instr.index 50 (.agg #[.slice x.sp x.fs.length x.cap, .slice y.sp y.fs.length y.cap, .slice z.sp z.fs.length z.cap]) (.int .i64 t)).run Try.prog W0 = .ok (.agg #[.slice s.sp s.fs.length s.cap]) W0 := by
        intro W0
        have h3 : t = 0 ∨ t = 1 ∨ t = 2 := by omega
        rcases h3 with rfl | rfl | rfl
        · obtain rfl : x = s := by simpa using hs
          exact idx3a _ _ _ _
        · obtain rfl : y = s := by simpa using hs
          exact idx3b _ _ _ _
        · obtain rfl : z = s := by simpa using hs
          exact idx3c _ _ _ _
      have hd : decide ((t : Int) < 3) = true := by simp; omega
      have HRS : Hid (RowsAt w 2 Fi.cells s.sp s.fs) := HR.out t s hs
      have HS : Hid (m = (([x, y, z].take t).map (·.fs)).foldl leastS no ∧ (([x, y, z].take (t + 1)).map (·.fs)).foldl leastS no = leastS m s.fs) := ⟨HM.out, by
        have h3 : t = 0 ∨ t = 1 ∨ t = 2 := by omega
        rw [HM.out]
        rcases h3 with rfl | rfl | rfl
        · obtain rfl : x = s := by simpa using hs
          rfl
        · obtain rfl : y = s := by simpa using hs
          rfl
        · obtain rfl : z = s := by simpa using hs
          rfl⟩
      clear hs HM
      have hl2 := lt_of_row hc
      go_wp2
      refine wp_gen (fun W => Below w.heap.size w W ∧ W.cell? ⟨wr.heap.size, 0, none⟩ = some (.slice s.sp s.fs.length s.cap) ∧ W.heap[w.heap.size + 1 + 1]? = some (.cells m.cells 67 (0, 0)) ∧ W.heap[w.heap.size + 1]? = some (.cells no.cells 67 (0, 0))) ⟨hB.alloc hB.size _, (cell_of_row _ _ _ _ _ _ (heap_alloc_new _ _)).trans rfl, (Below.heap_alloc _ _ _ hl2).trans hc, (Below.heap_alloc _ _ _ (lt_of_row hc1)).trans hc1⟩ ?_
      intro W2 ⟨hB2, cs, hd2, hd1⟩
      have cv : W2.cell? ⟨w.heap.size + 1 + 1, 0, none⟩ = some (.string m.value) := (cell_of_row _ _ _ _ _ _ hd2).trans rfl
      have ct : W2.cell? ⟨w.heap.size + 1 + 1, 1, none⟩ = some (.bool m.there) := (cell_of_row _ _ _ _ _ _ hd2).trans rfl
      clear hc hc1 hB hl2
      obtain ⟨sp, cap, fs⟩ := s
      dsimp only at HRS HS
      have cs : W2.cell? ⟨wr.heap.size, 0, none⟩ = some (.slice sp fs.length cap) := cs
      cases fs with
      | nil =>
        have hd3 : decide ((0 : Int) < 0) = false := rfl
        have HS2 : Hid _ := HS.out.2
        have HM2 : Hid _ := HS.out.1
        clear HS HRS
        dsimp only [List.length_nil] at cs
        go_quiet (fail)
        have fx : Below w.heap.size w (W2.drewN nq) ∧ (W2.drewN nq).heap[w.heap.size + 1 + 1]? = some (.cells m.cells 67 (0, 0)) ∧ (W2.drewN nq).heap[w.heap.size + 1]? = some (.cells no.cells 67 (0, 0)) ∧ (W2.drewN nq).cell? ⟨wr.heap.size, 0, none⟩ = W2.cell? ⟨wr.heap.size, 0, none⟩ := ⟨hB2.trans ⟨rfl, rfl, rfl, Nat.le_refl _, fun _ _ => rfl⟩, hd2, hd1, rfl⟩
        rw [cs] at fx
        generalize W2.drewN nq = W3 at fx ⊢
        obtain ⟨hB3, he2, he1, cs3⟩ := fx
        go_wp2
        go_roundw
        case rel => exact ⟨t + 1, m, by omega, by go_num, hB3, he2, he1, by rw [HS2.out]; rfl⟩
        case measure => simp [intOf]; omega
      | cons f r =>
        have hd3 : decide ((0 : Int) < ((f :: r).length : Int)) = true := by simp
        obtain ⟨b, off, rfl, hfc⟩ := HRS.out (by simp)
        have cf : W2.cell? ⟨b, off, none⟩ = some (.string f.path) := (hB2.cell (p := ⟨b, off, none⟩) (block_lt_of_cell (hfc 0 f rfl 0 _ rfl))).trans (hfc 0 f rfl 0 _ rfl)
        clear hfc
        have hln : 0 < (f :: r).length := by simp
        generalize hLN : (f :: r).length = ln at cs hd3 hln
        have HS2 : Hid (_ = if !m.there || Op.bytesLess f.path.toList m.value.toList then (⟨f.path, true⟩ : May) else m) := HS.out.2
        have HM2 : Hid _ := HS.out.1
        clear HS HRS hLN hix
        have hone : (May.cells ⟨f.path, true⟩).all (·.oneCell') = true := by simp [May.cells, Value.oneCell']
        cases hth : m.there with
        | false =>
          rw [hth] at ct HS2
          go_quiet (fail)
          have fx : Below w.heap.size w (W2.drewN nq) ∧ (W2.drewN nq).heap[w.heap.size + 1 + 1]? = some (.cells m.cells 67 (0, 0)) ∧ (W2.drewN nq).heap[w.heap.size + 1]? = some (.cells no.cells 67 (0, 0)) ∧ (W2.drewN nq).cell? ⟨wr.heap.size, 0, none⟩ = W2.cell? ⟨wr.heap.size, 0, none⟩ ∧ (W2.drewN nq).cell? ⟨b, off, none⟩ = W2.cell? ⟨b, off, none⟩ := ⟨hB2.trans ⟨rfl, rfl, rfl, Nat.le_refl _, fun _ _ => rfl⟩, hd2, hd1, rfl, rfl⟩
          rw [cs, cf] at fx
          generalize W2.drewN nq = W3 at fx ⊢
          obtain ⟨hB3, he2, he1, cs3, cf3⟩ := fx
          clear cs cf cv ct hd2 hd1 hB2
          go_wp2_with (refine wpList_store_row (by rfl) 67 (.tmp 3) (.tmp 34) (by rfl) (w.heap.size + 1 + 1) (May.cells ⟨f.path, true⟩) (by rfl) (by rfl) 67 _ he2 (by kernel_rfl) rfl hone ?_)
          go_roundw
          case rel => exact ⟨t + 1, ⟨f.path, true⟩, by omega, by go_num, below_setRow' hB3 (by omega) _, heap_setRow_same he2, (setRow_other _ _ _ _ (by omega)).trans he1, by rw [HS2.out]; rfl⟩
          case measure => simp [intOf]; omega
        | true =>
          rw [hth] at ct HS2
          cases hbl : Op.bytesLess f.path.toList m.value.toList with
          | true =>
            rw [hbl] at HS2
            go_quiet (fail)
            have fx : Below w.heap.size w (W2.drewN nq) ∧ (W2.drewN nq).heap[w.heap.size + 1 + 1]? = some (.cells m.cells 67 (0, 0)) ∧ (W2.drewN nq).heap[w.heap.size + 1]? = some (.cells no.cells 67 (0, 0)) ∧ (W2.drewN nq).cell? ⟨wr.heap.size, 0, none⟩ = W2.cell? ⟨wr.heap.size, 0, none⟩ ∧ (W2.drewN nq).cell? ⟨b, off, none⟩ = W2.cell? ⟨b, off, none⟩ := ⟨hB2.trans ⟨rfl, rfl, rfl, Nat.le_refl _, fun _ _ => rfl⟩, hd2, hd1, rfl, rfl⟩
            rw [cs, cf] at fx
            generalize W2.drewN nq = W3 at fx ⊢
            obtain ⟨hB3, he2, he1, cs3, cf3⟩ := fx
            clear cs cf cv ct hd2 hd1 hB2
            go_wp2_with (refine wpList_store_row (by rfl) 67 (.tmp 3) (.tmp 34) (by rfl) (w.heap.size + 1 + 1) (May.cells ⟨f.path, true⟩) (by rfl) (by rfl) 67 _ he2 (by kernel_rfl) rfl hone ?_)
            go_roundw
            case rel => exact ⟨t + 1, ⟨f.path, true⟩, by omega, by go_num, below_setRow' hB3 (by omega) _, heap_setRow_same he2, (setRow_other _ _ _ _ (by omega)).trans he1, by rw [HS2.out]; rfl⟩
            case measure => simp [intOf]; omega
          | false =>
            rw [hbl] at HS2
            go_quiet (fail)
            have fx : Below w.heap.size w (W2.drewN nq) ∧ (W2.drewN nq).heap[w.heap.size + 1 + 1]? = some (.cells m.cells 67 (0, 0)) ∧ (W2.drewN nq).heap[w.heap.size + 1]? = some (.cells no.cells 67 (0, 0)) ∧ (W2.drewN nq).cell? ⟨wr.heap.size, 0, none⟩ = W2.cell? ⟨wr.heap.size, 0, none⟩ ∧ (W2.drewN nq).cell? ⟨b, off, none⟩ = W2.cell? ⟨b, off, none⟩ := ⟨hB2.trans ⟨rfl, rfl, rfl, Nat.le_refl _, fun _ _ => rfl⟩, hd2, hd1, rfl, rfl⟩
            rw [cs, cf] at fx
            generalize W2.drewN nq = W3 at fx ⊢
            obtain ⟨hB3, he2, he1, cs3, cf3⟩ := fx
            clear cs cf cv ct hd2 hd1 hB2
            go_wp2
            go_roundw
            case rel => exact ⟨t + 1, m, by omega, by go_num, hB3, he2, he1, by rw [HS2.out]; rfl⟩
            case measure => simp [intOf]; omega
    · have hd : decide ((t : Int) < 3) = false := by simp; omega
      obtain rfl : t = 3 := by omega
      have HM2 : Hid (m = leastR x.fs y.fs z.fs) := HM.out
      have hone : m.cells.all (·.oneCell') = true := by simp [May.cells, Value.oneCell']
      clear HM
      go_wp2_with (first
        | (refine wpList_load_row (by rfl) 67 (.tmp 3) (by rfl) (w.heap.size + 1 + 1) (by rfl) 67 m.cells (0, 0) _ hc Try.underlying67 rfl (by kernel_rfl) ?_)
        | (refine wpList_store_row (by rfl) 67 (.tmp 2) (.tmp 36) (by rfl) (w.heap.size + 1) m.cells (by rfl) (by rfl) 67 _ hc1 (by kernel_rfl) rfl hone ?_))
      refine bodyPost_ret (v := .agg m.cells) (results_cell Try.results31 _ _ (w.heap.size + 1) 67 _ (0, 0) _ rfl (heap_setRow_same hc1) Try.underlying67 rfl (by kernel_rfl)) rfl ⟨by rw [HM2.out], below_setRow' hB (by omega) _⟩
end Go.Proofs.Ytmbnbehlfbdpnab
