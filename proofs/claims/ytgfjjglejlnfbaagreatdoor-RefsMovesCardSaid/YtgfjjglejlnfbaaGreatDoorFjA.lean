/- The contracts of the document's Right and Get of branches. -/
import Derived.Test.YtgfjjglejlnfbaaGreatDoorRNam
import Derived.Test.YtgfjjglejlnfbaaGreatDoorFsN
import Derived.Test.YtgfjjglejlnfbaaGreatDoorFsE
import Derived.BigQuiet
namespace Go.Proofs.YtgfjjglejlnfbaaGreatDoor
open Go.RowKit

theorem below_drawn9 {B : Nat} (w : World) (n : Nat) : Below B w (w.drewN n) := ⟨rfl, rfl, rfl, Nat.le_refl _, fun _ _ => rfl⟩
theorem drewN_add (w : World) (n m : Nat) : (w.drewN n).drewN m = w.drewN (n + m) := by simp [World.drewN, Nat.add_assoc]
theorem le_not (a b : ByteArray) : leB a b = !(Op.bytesLess b.toList a.toList) := by
  cases h : leB a b
  · rw [bytes_list, bytes_list, leB_no h]
    rfl
  · rw [bytes_list, bytes_list]
    unfold leB at h
    rw [bytes_list, bytes_list, Bool.or_eq_true] at h
    rcases h with h | h
    · rw [less_asym h]; rfl
    · rw [beq_iff_eq] at h
      rw [h, less_irrefl]
      rfl
/-- The name of the branch ahead. -/
def lastN (rs : List Re) : Nat → ByteArray
  | 0 => ⟨#[]⟩
  | t + 1 => (rs.getD t ⟨⟨#[]⟩, noId⟩).name
theorem le_none {s : ByteArray} (h : nameB s = true) : leB s ⟨#[]⟩ = false := by
  simp only [nameB, Bool.and_eq_true, decide_eq_true_eq] at h
  have h1 := h.1.1.1.2
  have hne : s.data.toList ≠ [] := fun e => by
    have h2 : s.data.toList.length = s.size := by simp
    rw [e] at h2
    have h3 : s.size = 0 := h2.symm
    omega
  unfold leB
  rw [bytes_list, bytes_list]
  match hm : s.data.toList, hne with
  | c :: r, _ => rfl
set_option pp.deepTerms.threshold 2000 in
set_option maxRecDepth 100000 in
set_option maxHeartbeats 4000000 in
theorem r9right_any (sp : Option Addr) (cap : Nat) (rs : List Re) (w : World) (hr : RowsAt w 33 Re.cells sp rs) (hl : rs.length ≤ 1000000) (hsz : ∀ e ∈ rs, e.name.size ≤ 9223372036854775807) :
    Calls Tryz.prog 16 #[.agg #[.slice sp rs.length cap]] w fun e w' => e = .returned (.bool (refsB rs)) ∧ Below w.heap.size w w' := by
  have HR : Hid (RowsAt w 33 Re.cells sp rs) := hr
  have HSZ : Hid (∀ e ∈ rs, e.name.size ≤ 9223372036854775807) := hsz
  have g0 := heap_alloc_new w (.cells #[.slice sp rs.length cap] 24)
  have b0 : Below w.heap.size w (w.alloc (.cells #[.slice sp rs.length cap] 24)) := (Below.refl _ _).alloc (Nat.le_refl _) _
  clear hr hsz
  go_enter Tryz.func16, Tryz.ntmps16
  go_wp2
  generalize w.alloc (.cells #[.slice sp rs.length cap] 24) = W0 at g0 b0 ⊢
  have HW : Hid (∀ n, (W0.drewN n).cell? ⟨w.heap.size, 0, none⟩ = some (.slice sp rs.length cap) ∧ RowsAt (W0.drewN n) 33 Re.cells sp rs ∧ Below w.heap.size w (W0.drewN n)) := fun n => ⟨(cell_of_row _ _ _ _ _ _ g0).trans rfl, RowsAt.below (RowsAt.below HR.out b0) (below_drawn9 W0 n), b0.trans (below_drawn9 W0 n)⟩
  clear g0 b0 HR
  go_loopw [3] (fun i wr => ∃ t n : Nat, t ≤ rs.length ∧ t ≤ 8 ∧ i = .int .i64 t ∧ wr = W0.drewN n ∧ risesR ⟨#[]⟩ rs = risesR (lastN rs t) (rs.drop t)) (fun i _ => rs.length - (intOf i).toNat)
  case atStart => exact ⟨0, 0, Nat.zero_le _, by omega, rfl, rfl, rfl⟩
  case round =>
    obtain ⟨t, n, ht, ht8, rfl, rfl, hz⟩ := hrel
    have HZ : Hid (risesR ⟨#[]⟩ rs = risesR (lastN rs t) (rs.drop t)) := hz
    obtain ⟨k0, hrw, hbw⟩ := HW.out n
    have HBW : Hid (∀ m, Below w.heap.size w ((W0.drewN n).drewN m)) := fun m => hbw.trans (below_drawn9 _ m)
    have HRW : Hid (RowsAt (W0.drewN n) 33 Re.cells sp rs) := hrw
    obtain ⟨W, HWW⟩ : ∃ W, Hid (W0.drewN n = W) := ⟨_, rfl⟩
    rw [HWW.out] at k0 HBW HRW ⊢
    clear hz hrw hbw
    by_cases hlt : t < rs.length
    · have hd2 : decide ((t : Int) < rs.length) = true := by simp; omega
      obtain ⟨b, o, rfl, hc⟩ := HRW.out (by omega)
      obtain ⟨x, hx⟩ : ∃ x, rs[t]? = some x := ⟨_, List.getElem?_eq_getElem hlt⟩
      have c0 : W.cell? ⟨b, o + t * 33, none⟩ = some (.string x.name) := hc t x hx 0 _ x.cell0
      have hxs : x.name.size ≤ 9223372036854775807 := HSZ.out x (List.mem_of_getElem? hx)
      have HX : Hid (rs.drop t = x :: rs.drop (t + 1)) := by
        have hg := List.getElem?_eq_some_iff.1 hx
        show _ = _
        rw [List.drop_eq_getElem_cons hlt, hg.2]
      have HL : Hid (lastN rs (t + 1) = x.name) := by show (rs.getD t ⟨⟨#[]⟩, noId⟩).name = x.name; rw [List.getD_eq_getElem?_getD, hx]; rfl
      have HN : Hid (∀ W, Calls Tryz.prog 41 #[.string x.name] W fun e w' => e = .returned (.bool (nameB x.name)) ∧ w' = W) := fun W => rname_any x.name W hxs
      by_cases h8 : t = 8
      · have h8' : ((t : Int) == 8) = true := by rw [beq_iff_eq]; omega
        have HF : Hid (refsB rs = false) := by
          show _ = _
          unfold refsB
          rw [decide_eq_false (by omega)]
          rfl
        clear hc hx
        go_wp2
        go_quiet (fail)
        go_wp2
        go_ret
        exact ⟨by rw [HF.out]; rfl, HBW.out nq⟩
      · have h8' : ((t : Int) == 8) = false := by rw [beq_eq_false_iff_ne]; omega
        cases hn : nameB x.name
        · have HF : Hid (refsB rs = false) := by
            show _ = _
            unfold refsB
            rw [HZ.out, HX.out, risesR, hn]
            simp
          clear hc hx
          go_wp2
          go_quiet ((go_at_call 41; refine Calls.quiet_of_same (HN.out _)))
          go_wp2
          go_ret
          exact ⟨by rw [HF.out]; rfl, HBW.out nq⟩
        · by_cases ht0 : 0 < t
          · have hd3 : decide (0 < t) = true := by simpa using ht0
            have hd4 : decide ((0 : Int) < t) = true := by simp; omega
            obtain ⟨pv, hpf⟩ : ∃ pv, rs[t - 1]? = some pv := ⟨_, List.getElem?_eq_getElem (by omega)⟩
            have e0 : W.cell? ⟨b, o + (t - 1) * 33, none⟩ = some (.string pv.name) := hc (t - 1) pv hpf 0 _ pv.cell0
            have HPV : Hid (lastN rs t = pv.name) := by
              show lastN rs t = pv.name
              cases t with
              | zero => omega
              | succ k =>
                show (rs.getD k ⟨⟨#[]⟩, noId⟩).name = pv.name
                rw [Nat.add_sub_cancel] at hpf
                rw [List.getD_eq_getElem?_getD, hpf]
                rfl
            cases hls : Op.bytesLess pv.name.toList x.name.toList
            · have HF : Hid (refsB rs = false) := by
                show _ = _
                unfold refsB
                rw [HZ.out, HX.out, HPV.out, risesR, le_not, hls]
                simp
              clear hc hx hpf
              have hle := le_not x.name pv.name
              rw [hls] at hle
              unfold leB at hle
              cases h1 : Op.bytesLess x.name.toList pv.name.toList
              · have h2 : (x.name.toList == pv.name.toList) = true := by rw [h1] at hle; simpa using hle
                clear hle hls
                go_wp2
                go_quiet ((go_at_call 41; refine Calls.quiet_of_same (HN.out _)))
                go_wp2
                go_ret
                exact ⟨by rw [HF.out]; rfl, HBW.out nq⟩
              · clear hle hls
                go_wp2
                go_quiet ((go_at_call 41; refine Calls.quiet_of_same (HN.out _)))
                go_wp2
                go_ret
                exact ⟨by rw [HF.out]; rfl, HBW.out nq⟩
            · have HZ2 : Hid (risesR ⟨#[]⟩ rs = risesR (lastN rs (t + 1)) (rs.drop (t + 1))) := by
                show _ = _
                rw [HZ.out, HX.out, HPV.out, risesR, le_not, hls, hn, HL.out]
                simp
              have hle := le_not x.name pv.name
              rw [hls] at hle
              unfold leB at hle
              have h1 : Op.bytesLess x.name.toList pv.name.toList = false := by
                cases h : Op.bytesLess x.name.toList pv.name.toList
                · rfl
                · rw [h] at hle; simp at hle
              have h2 : (x.name.toList == pv.name.toList) = false := by rw [h1] at hle; simpa using hle
              clear hc hx hpf hle hls
              go_wp2
              go_quiet ((go_at_call 41; refine Calls.quiet_of_same (HN.out _)))
              go_wp2
              exact ⟨⟨t + 1, n + nq, by omega, by omega, by go_num, by rw [← HWW.out]; exact drewN_add W0 n nq, HZ2.out⟩, by simp [intOf]; omega⟩
          · have hd3 : decide (0 < t) = false := by simpa using ht0
            have hd4 : decide ((0 : Int) < t) = false := by simp; omega
            have HZ2 : Hid (risesR ⟨#[]⟩ rs = risesR (lastN rs (t + 1)) (rs.drop (t + 1))) := by
              show _ = _
              obtain rfl : t = 0 := by omega
              rw [HZ.out, HX.out, HL.out]
              show (nameB x.name && !(leB x.name ⟨#[]⟩) && risesR x.name (rs.drop (0 + 1))) = _
              rw [hn, le_none hn]
              rfl
            clear hc hx
            go_wp2
            go_quiet ((go_at_call 41; refine Calls.quiet_of_same (HN.out _)))
            go_wp2
            exact ⟨⟨t + 1, n + nq, by omega, by omega, by go_num, by rw [← HWW.out]; exact drewN_add W0 n nq, HZ2.out⟩, by simp [intOf]; omega⟩
    · have hd2 : decide ((t : Int) < rs.length) = false := by simp; omega
      have HT : Hid (refsB rs = true) := by
        show _ = _
        unfold refsB
        rw [HZ.out, List.drop_eq_nil_of_le (by omega), decide_eq_true (by omega)]
        rfl
      go_wp2
      go_ret
      exact ⟨by rw [HT.out]; rfl, HBW.out 0⟩
/-- Where a name stands first. -/
def findR (name : ByteArray) : List Re → Option Re
  | [] => none
  | e :: r => if e.name = name then some e else findR name r
def getV : Option Re → Value
  | none => .tuple #[.agg (arr .u8 32 noId), .bool false]
  | some e => .tuple #[.agg (arr .u8 32 e.id), .bool true]
set_option pp.deepTerms.threshold 2000 in
set_option maxRecDepth 100000 in
set_option maxHeartbeats 4000000 in
theorem r9get_any (sp : Option Addr) (cap : Nat) (rs : List Re) (name : ByteArray) (w : World) (hr : RowsAt w 33 Re.cells sp rs) (hl : rs.length ≤ 1000000) :
    Calls Tryz.prog 15 #[.agg #[.slice sp rs.length cap], .string name] w fun e w' => e = .returned (getV (findR name rs)) ∧ Below w.heap.size w w' := by
  have HR : Hid (RowsAt w 33 Re.cells sp rs) := hr
  have HBI : Hid _ := build_no
  clear hr
  go_enter Tryz.func15, Tryz.ntmps15
  go_wp2_with (first
    | (refine wpList_build (by rfl) 26 _ (by rfl) [] (by rfl) (.agg (arr .u8 32 noId)) (HBI.out _) ?_))
  refine wp_gen (fun W => Below w.heap.size w W ∧ W.heap[w.heap.size]? = some (.cells #[.slice sp rs.length cap] 24 (0, 0)) ∧ W.heap[w.heap.size + 1]? = some (.cells (arr .u8 32 noId) 26 (0, 0))) ⟨((Below.refl _ _).alloc (Nat.le_refl _) _).alloc (by simp) _, (Below.heap_alloc _ _ _ (by simp)).trans (heap_alloc_new _ _), (heap_alloc2_new _ _ _).trans rfl⟩ ?_
  rintro W0 ⟨b0, r0, r1⟩
  have B0 : Hid (Below w.heap.size w W0) := b0
  have R1 : Hid (W0.heap[w.heap.size + 1]? = some (.cells (arr .u8 32 noId) 26 (0, 0))) := r1
  have k0 : W0.cell? ⟨w.heap.size, 0, none⟩ = some (.slice sp rs.length cap) := (cell_of_row _ _ _ _ _ _ r0).trans rfl
  have HRW : Hid (RowsAt W0 33 Re.cells sp rs) := RowsAt.below HR.out b0
  clear b0 r0 r1 HR
  go_loopw [6] (fun i wr => ∃ t : Nat, t ≤ rs.length ∧ i = .int .i64 t ∧ wr = W0 ∧ findR name rs = findR name (rs.drop t)) (fun i _ => rs.length - (intOf i).toNat)
  case atStart => exact ⟨0, Nat.zero_le _, rfl, rfl, rfl⟩
  case round =>
    obtain ⟨t, ht, rfl, rfl, hz⟩ := hrel
    have HZ : Hid (findR name rs = findR name (rs.drop t)) := hz
    clear hz
    by_cases hlt : t < rs.length
    · have hd2 : decide ((t : Int) < rs.length) = true := by simp; omega
      obtain ⟨b, o, rfl, hc⟩ := HRW.out (by omega)
      obtain ⟨x, hx⟩ : ∃ x, rs[t]? = some x := ⟨_, List.getElem?_eq_getElem hlt⟩
      have c0 : wr.cell? ⟨b, o + t * 33, none⟩ = some (.string x.name) := hc t x hx 0 _ x.cell0
      have HCI : Hid (∀ i, i < 32 → wr.cell? ⟨b, o + t * 33 + 1 + i, none⟩ = some (.int .u8 (x.id i))) := fun i hi => by
        have := hc t x hx (1 + i) _ (x.cellId i hi)
        rw [← Nat.add_assoc] at this
        exact this
      have HX : Hid (rs.drop t = x :: rs.drop (t + 1)) := by
        have hg := List.getElem?_eq_some_iff.1 hx
        show _ = _
        rw [List.drop_eq_getElem_cons hlt, hg.2]
      clear hc hx
      by_cases hxn : x.name = name
      · have hq : (x.name.toList == name.toList) = true := by rw [hxn]; simp
        have HF : Hid (findR name rs = some x) := by show _ = _; rw [HZ.out, HX.out, findR, if_pos hxn]
        go_wp2_with (first
          | (refine load_at (by rfl) 26 (.tmp 26) (by rfl) b (o + t * 33 + 1) (by rfl) .u8 32 x.id _ HCI.out Tryz.underlying26 rfl (by kernel_rfl) ?_)
          | (refine wpList_store_row (by rfl) 26 (.tmp 4) (.tmp 27) (by rfl) (w.heap.size + 1) (arr .u8 32 x.id) (by rfl) (by rfl) 26 _ R1.out (by rw [arr_size]; kernel_rfl) (by rw [arr_size, arr_size]) (arr_one _ _ _) ?_))
        refine bodyPost_ret (v := .tuple #[.agg (arr .u8 32 x.id), .bool true]) (results_cell_tmp Tryz.results15 _ _ (w.heap.size + 1) 26 _ (0, 0) _ _ rfl rfl (heap_setRow_same R1.out) Tryz.underlying26 rfl (by rw [arr_size]; kernel_rfl)) rfl ⟨by rw [HF.out]; rfl, below_setRow' B0.out (by omega) _⟩
      · have hq : (x.name.toList == name.toList) = false := by
          rw [beq_eq_false_iff_ne, bytes_list, bytes_list]
          intro e
          apply hxn
          have : x.name = ⟨name.data.toList.toArray⟩ := by rw [← e]
          exact this
        have HZ2 : Hid (findR name rs = findR name (rs.drop (t + 1))) := by show _ = _; rw [HZ.out, HX.out, findR, if_neg hxn]
        go_wp2
        exact ⟨⟨t + 1, by omega, by go_num, trivial, HZ2.out⟩, by simp [intOf]; omega⟩
    · have hd2 : decide ((t : Int) < rs.length) = false := by simp; omega
      have HF : Hid (findR name rs = none) := by show _ = _; rw [HZ.out, List.drop_eq_nil_of_le (by omega)]; rfl
      go_wp2_with (first
        | (refine wpList_build (by rfl) 26 _ (by rfl) [] (by rfl) (.agg (arr .u8 32 noId)) (HBI.out _) ?_)
        | (refine wpList_store_row (by rfl) 26 (.tmp 4) (.tmp 28) (by rfl) (w.heap.size + 1) (arr .u8 32 noId) (by rfl) (by rfl) 26 _ R1.out (by rw [arr_size]; kernel_rfl) (by rw [arr_size]) (arr_one _ _ _) ?_))
      refine bodyPost_ret (v := .tuple #[.agg (arr .u8 32 noId), .bool false]) (results_cell_tmp Tryz.results15 _ _ (w.heap.size + 1) 26 _ (0, 0) _ _ rfl rfl (heap_setRow_same R1.out) Tryz.underlying26 rfl (by rw [arr_size]; kernel_rfl)) rfl ⟨by rw [HF.out]; rfl, below_setRow' B0.out (by omega) _⟩
end Go.Proofs.YtgfjjglejlnfbaaGreatDoor
