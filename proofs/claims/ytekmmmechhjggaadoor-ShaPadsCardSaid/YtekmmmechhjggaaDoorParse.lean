/- The contracts of strings.IndexByte at the sixteen digits, and of sha.Parse. -/
import Derived.Test.YtekmmmechhjggaaDoorText
import Derived.Laws.StandIn
namespace Go.Proofs.YtekmmmechhjggaaDoor
open Go.RowKit

/-- The worth of a digit; -1 of a byte that is none. -/
def worthI (c : Int) : Int := if 48 ≤ c ∧ c ≤ 57 then c - 48 else if 97 ≤ c ∧ c ≤ 102 then c - 87 else -1
theorem worth_idx : ∀ n : Nat, n < 256 → firstIdx digS n.toUInt8 = worthI (n : Int) := by decide +kernel
theorem worth_le (c : Int) : -1 ≤ worthI c ∧ worthI c ≤ 15 := by unfold worthI; split <;> (try split) <;> omega
theorem run_idx48 (c : Int) (h0 : 0 ≤ c) (h1 : c ≤ 255) (w : World) : (callFunc 48 #[.string digS, .int .u8 c]).run Tryd.prog w = .ok (.value (.int .i64 (worthI c))) w := by
  rw [run_callFunc_indexByte (fn := Tryd.f48) Tryd.func48 (by kernel_rfl) (by kernel_rfl) (by kernel_rfl) (by kernel_rfl), run_indexByte_string]
  obtain ⟨n, rfl⟩ := Int.eq_ofNat_of_zero_le h0
  rw [Int.toNat_natCast, worth_idx n (by omega)]
  rfl
set_option maxRecDepth 100000 in
theorem idx44 (c : Int) (h0 : 0 ≤ c) (h1 : c ≤ 255) (w : World) :
    Calls Tryd.prog 44 #[.string digS, .int .u8 c] w fun e w' => e = .returned (.int .i64 (worthI c)) ∧ w' = w := by
  have hc := run_idx48 c h0 h1
  have hw := worth_le c
  generalize worthI c = q at *
  go_enter Tryd.func44, Tryd.ntmps44
  go_wp2
  go_ret
  exact ⟨rfl, rfl⟩
set_option maxRecDepth 100000 in
theorem idx38 (c : Int) (h0 : 0 ≤ c) (h1 : c ≤ 255) (w : World) :
    Calls Tryd.prog 38 #[.string digS, .int .u8 c] w fun e w' => e = .returned (.int .i64 (worthI c)) ∧ w' = w := by
  go_enter Tryd.func38, Tryd.ntmps38
  go_wp2_with fail
  refine (idx44 c h0 h1 _).mono ?_
  rintro e w1 ⟨rfl, rfl⟩
  go_wp2
  go_ret
  exact ⟨rfl, rfl⟩

/-- A string's byte. -/
def chr (s : ByteArray) (k : Nat) : Int := ((s.data.toList.getD k 0).toNat : Int)
theorem chr_le (s : ByteArray) (k : Nat) : 0 ≤ chr s k ∧ chr s k ≤ 255 := by
  unfold chr
  have := (s.data.toList.getD k 0).toNat_lt
  omega
theorem index_chr (s : ByteArray) (k : Nat) (h : k < s.size) (w : World) : (Instr.index 9 (.string s) (.int .i64 k)).run Tryd.prog w = .ok (.int .u8 (chr s k)) w := by
  have hu := run_underlying Tryd.underlying9 w
  have hg : s[k]? = some s[k] := getElem?_pos s k h
  have e : chr s k = (s[k].toNat : Int) := by
    unfold chr
    have hl : k < s.data.toList.length := by simpa using h
    rw [List.getD_eq_getElem?_getD, List.getElem?_eq_getElem hl]
    rfl
  rw [e]
  simp [Instr.index, asIntOf, hu, hg]
/-- The bytes behind t digits. -/
def parseTo (s : ByteArray) : Nat → Nat → Int
  | 0 => fun _ => 0
  | t + 1 => upd (parseTo s t) (t / 2) (bits .or .u8 (parseTo s t (t / 2) * 16 % 256) (worthI (chr s t)))
def digitsTo (s : ByteArray) (t : Nat) : Prop := ∀ i, i < t → 0 ≤ worthI (chr s i)
def parseOk (s : ByteArray) : Prop := s.size = 64 ∧ digitsTo s 64

theorem results_cell_tmp {P : Program} {fn : Func} {p q : Tmp} {ty : TypeId} (h : fn.results = #[.cell p ty, .tmp q]) (tmps : Array Value) (w : World) (g : Nat) (t : TypeId) (cs : Array Value) (fr : Nat × Nat) (d : TypeDesc) (v : Value)
    (hp : tmps.getD p undef = .pointer (some ⟨g, 0, none⟩)) (hq : tmps.getD q undef = v) (hg : w.heap[g]? = some (.cells cs t fr))
    (hu : P.underlying ty = some d) (hd : (match d with | .struct _ | .array _ _ => true | _ => false) = true) (hi : (P.info? ty).map (·.size) = some cs.size) :
    (results fn tmps).run P w = .ok (.tuple #[.agg cs, v]) w := by
  have hp' : tmps[p]?.getD undef = .pointer (some ⟨g, 0, none⟩) := by simpa using hp
  have hq' : tmps[q]?.getD undef = v := by simpa using hq
  simp [results, h, hp', hq', asAddr, run_loadVar_row w g t ty cs fr d hg hu hd hi]

theorem zero_id : (Value.agg #[.int .u8 0, .int .u8 0, .int .u8 0, .int .u8 0, .int .u8 0, .int .u8 0, .int .u8 0, .int .u8 0, .int .u8 0, .int .u8 0, .int .u8 0, .int .u8 0, .int .u8 0, .int .u8 0, .int .u8 0, .int .u8 0, .int .u8 0, .int .u8 0, .int .u8 0, .int .u8 0, .int .u8 0, .int .u8 0, .int .u8 0, .int .u8 0, .int .u8 0, .int .u8 0, .int .u8 0, .int .u8 0, .int .u8 0, .int .u8 0, .int .u8 0, .int .u8 0]) = .agg (arr .u8 32 fun _ => 0) := rfl

set_option maxRecDepth 100000 in
set_option maxHeartbeats 1000000 in
theorem parse_long (s : ByteArray) (w : World) (h : s.size ≠ 64) :
    Calls Tryd.prog 22 #[.string s] w fun e w' => e = .returned (.tuple #[.agg (arr .u8 32 fun _ => 0), .int .i64 130]) ∧ Below w.heap.size w w' := by
  have hne : ((s.size : Int) != 64) = true := by rw [bne_iff_ne]; omega
  go_enter Tryd.func22, Tryd.ntmps22
  go_wp2_with (refine wpList_store_row (by rfl) 25 (.tmp 2) (.tmp 10) (by rfl) w.heap.size (arr .u8 32 fun _ => 0) (by rfl) (by rfl) 25 (arr .u8 32 fun _ => 0) ((heap_alloc2_old _ _ _).trans rfl) (by rw [arr_size]; kernel_rfl) rfl (arr_one _ _ _) ?_)
  refine bodyPost_ret (v := .tuple #[.agg (arr .u8 32 fun _ => 0), .int .i64 130]) ?_ rfl ⟨rfl, ?_⟩
  · exact results_cell_tmp Tryd.results22 _ _ w.heap.size 25 _ (0, 0) _ _ rfl rfl (heap_setRow_same (heap_alloc2_old _ _ _)) Tryd.underlying25 rfl (by rw [arr_size]; kernel_rfl)
  · exact below_setRow' (((Below.refl _ _).alloc (Nat.le_refl _) _).alloc (by simp) _) (Nat.le_refl _) _

set_option maxRecDepth 100000 in
set_option maxHeartbeats 1000000 in
theorem parse_64 (s : ByteArray) (w : World) (h : s.size = 64) :
    Calls Tryd.prog 22 #[.string s] w fun e w' => ((digitsTo s 64 ∧ e = .returned (.tuple #[.agg (arr .u8 32 (parseTo s 64)), .int .i64 0])) ∨ (¬ digitsTo s 64 ∧ e = .returned (.tuple #[.agg (arr .u8 32 fun _ => 0), .int .i64 130]))) ∧ Below w.heap.size w w' := by
  have hne : ((s.size : Int) != 64) = false := by rw [h]; rfl
  have hix := fun k hk => index_chr s k (h ▸ hk : k < s.size)
  have HIX : Hid _ := hix
  clear hix
  have hsz : (s.size : Int) = 64 := by rw [h]; rfl
  clear h
  go_enter Tryd.func22, Tryd.ntmps22
  go_wp2
  refine wp_gen (fun W1 => Below w.heap.size w W1 ∧ W1.heap[w.heap.size]? = some (.cells (arr .u8 32 fun _ => 0) 25 (0, 0)) ∧ W1.heap[w.heap.size + 1]? = some (.cells (arr .u8 32 fun _ => 0) 25 (0, 0))) ⟨?_, ?_, ?_⟩ ?_
  · exact ((Below.refl _ _).alloc (Nat.le_refl _) _).alloc (by simp) _
  · exact (heap_alloc2_old _ _ _).trans rfl
  · exact (heap_alloc2_new _ _ _).trans rfl
  intro W1 ⟨hB, hres, hid⟩
  have HRES : Hid _ := hres
  have HID : Hid _ := hid
  clear hres hid hsz hne
  go_loopw [13] (fun i wr => ∃ t : Nat, t ≤ 64 ∧ i = .int .i64 t ∧ digitsTo s t ∧ Below w.heap.size w wr ∧ wr.heap[w.heap.size]? = some (.cells (arr .u8 32 fun _ => 0) 25 (0, 0)) ∧ wr.heap[w.heap.size + 1]? = some (.cells (arr .u8 32 (parseTo s t)) 25 (0, 0))) (fun i _ => 64 - (intOf i).toNat)
  case atStart => exact ⟨0, Nat.zero_le _, rfl, fun i hi => absurd hi (by omega), hB, HRES.out, HID.out⟩
  case round =>
    obtain ⟨t, ht, rfl, hdg, hBr, hres, hid⟩ := hrel
    have HDG : Hid _ := hdg
    have HR : Hid _ := hres
    have HI : Hid _ := hid
    clear hdg HRES HID hB
    by_cases hlt : t < 64
    · have hx := HIX.out t hlt
      have hcl := chr_le s t
      have hwl := worth_le (chr s t)
      have hcall : ∀ w, Calls Tryd.prog 38 #[.string digS, .int .u8 (chr s t)] w fun e w' => e = .returned (.int .i64 (worthI (chr s t))) ∧ w' = w := idx38 (chr s t) hcl.1 hcl.2
      have HC : Hid _ := hcall
      clear hcall
      generalize hq : worthI (chr s t) = q at hwl HC
      have HQ : Hid _ := hq
      clear hq
      generalize hch : chr s t = c at hx hcl HC HQ
      have HCH : Hid _ := hch
      clear hch
      by_cases hneg : q < 0
      · clear hres hid
        go_wp2_with (first
          | (go_at_call 38; refine (HC.out _).mono ?_; rintro e w' ⟨rfl, rfl⟩)
          | (refine wpList_store_row (by rfl) 25 (.tmp 2) (.tmp 22) (by rfl) w.heap.size (arr .u8 32 fun _ => 0) (by rfl) (by rfl) 25 (arr .u8 32 fun _ => 0) HR.out (by rw [arr_size]; kernel_rfl) rfl (arr_one _ _ _) ?_))
        refine bodyPost_ret (v := .tuple #[.agg (arr .u8 32 fun _ => 0), .int .i64 130]) ?_ rfl ⟨.inr ⟨?_, rfl⟩, ?_⟩
        · exact results_cell_tmp Tryd.results22 _ _ w.heap.size 25 _ (0, 0) _ _ rfl rfl (heap_setRow_same HR.out) Tryd.underlying25 rfl (by rw [arr_size]; kernel_rfl)
        · intro hd
          have := hd t hlt
          rw [HCH.out, HQ.out] at this
          omega
        · exact below_setRow' hBr (Nat.le_refl _) _
      · have hc0 : wr.cell? ⟨w.heap.size + 1, t / 2, none⟩ = some (.int .u8 (parseTo s t (t / 2))) := row_cell hid (by omega)
        have hz : ∀ j, wr.frozen? ⟨w.heap.size + 1, j, none⟩ = false := fun j => frozen_of_row _ _ j _ _ hid
        clear hres hid
        go_wp2_with (go_at_call 38; refine (HC.out _).mono ?_; rintro e w' ⟨rfl, rfl⟩)
        go_roundw
        case rel =>
          refine ⟨t + 1, by omega, by go_num, fun i hi => ?_, hBr.setCell (by simp) _, (heap_setCell_other _ _ _ _ (by simp)).trans HR.out, ?_⟩
          · by_cases hit : i < t
            · exact HDG.out i hit
            · obtain rfl : i = t := by omega
              rw [HCH.out, HQ.out]; exact hneg
          · have e : parseTo s (t + 1) = upd (parseTo s t) (t / 2) (bits .or .u8 (parseTo s t (t / 2) * 16 % 256) q) := by
              rw [← HQ.out, ← HCH.out]; rfl
            rw [e]
            exact row_set HI.out _ _
        case measure => simp [intOf]; omega
    · have ht64 : t = 64 := by omega
      have HT : Hid _ := ht64
      clear ht64 hres hid
      go_wp2_with (first
        | (refine wpList_load_row (by rfl) 25 (.tmp 4) (by rfl) (w.heap.size + 1) (by rfl) 25 _ (0, 0) _ HI.out Tryd.underlying25 rfl (by rw [arr_size]; kernel_rfl) ?_)
        | (refine wpList_store_row (by rfl) 25 (.tmp 2) (.tmp 35) (by rfl) w.heap.size _ (by rfl) (by rfl) 25 (arr .u8 32 fun _ => 0) HR.out (by rw [arr_size]; kernel_rfl) (by rw [arr_size, arr_size]) (arr_one _ _ _) ?_))
      refine bodyPost_ret (v := .tuple #[.agg (arr .u8 32 (parseTo s t)), .int .i64 0]) ?_ rfl ⟨.inl ⟨?_, ?_⟩, ?_⟩
      · exact results_cell_tmp Tryd.results22 _ _ w.heap.size 25 _ (0, 0) _ _ rfl rfl (heap_setRow_same HR.out) Tryd.underlying25 rfl (by rw [arr_size]; kernel_rfl)
      · have := HDG.out
        rw [HT.out] at this
        exact this
      · rw [HT.out]
      · exact below_setRow' hBr (Nat.le_refl _) _
end Go.Proofs.YtekmmmechhjggaaDoor
