/- The contract of sha.Sum. -/
import Derived.Test.YtgfjjglejlnfbaaGreatDoorBlock
import Derived.Test.YtgfjjglejlnfbaaGreatDoorPad
namespace Go.Proofs.YtgfjjglejlnfbaaGreatDoor
open Go.RowKit

def St.ok (s : St) : Prop := ∀ i, 0 ≤ s.fn i ∧ s.fn i < 4294967296
theorem St.add_ok (s t : St) : (s.add t).ok := by
  intro i
  unfold St.add St.fn
  split <;> (simp only; omega)
/-- What the numbers have become behind i blocks. -/
def hAt (K : Nat → Int) (p : Nat → Int) (s : St) : Nat → St
  | 0 => s
  | i + 1 => blockF K (fun j => p (64 * i + j)) (hAt K p s i)
theorem hAt_ok (K p : Nat → Int) (s : St) (hs : s.ok) : ∀ i, (hAt K p s i).ok
  | 0 => hs
  | _ + 1 => St.add_ok _ _
/-- The bytes of eight numbers, highest first. -/
def outF (s : St) : Nat → Int := fun i => s.fn (i / 4) / 256 ^ (3 - i % 4) % 256
theorem out_put (s : St) (t i : Nat) (hi : i < 4 * t + 4) : putF (outF s) (4 * t) 4 (s.fn t) 4 i = outF s i := by
  unfold putF
  by_cases h : i < 4 * t
  · rw [if_pos h]
  · rw [if_neg h, if_pos (by omega)]
    unfold outF
    rw [show i / 4 = t by omega, show 4 * t + 4 - 1 - i = 3 - i % 4 by omega]
theorem padLen_mod (len : Nat) : padLen len % 64 = 0 := by have := padZ_mod len; unfold padLen; omega
theorem pad_bytes (src : Nat → Int) (len : Nat) (hs : ∀ i, 0 ≤ src i ∧ src i ≤ 255) (i : Nat) : 0 ≤ padF src len i ∧ padF src len i ≤ 255 := by
  unfold padF putF pad1F upd
  dsimp only
  split
  · split
    · omega
    · split
      · exact hs i
      · omega
  · split
    · generalize (8 * (len : Int)) / 256 ^ _ = q; omega
    · omega

/-- A slice as an array's address. -/
theorem run_toArray {P : Program} (ty : TypeId) (n : Nat) (e : TypeId) (hu : P.underlying ty = some (.array n e)) {o : Oper} (x : Operand) (ho : o.op = .sliceToArrayPointer ty x) {a : Act} (ad : Addr) (len cap : Nat) (hx : a.eval x = .slice (some ad) len cap) (hn : n ≤ len) {w : World} :
    (execOp a.eval o).run P w = .ok (.value (.pointer (some ad))) w := by
  unfold execOp
  simp [ho, hx, Instr.arrayAt, run_underlying hu, show ¬ len < n by omega]
theorem rest_step (L i g : Nat) (_hlt : 64 * i < L) : ∃ ad : Addr, Value.slice (if L - 64 * i = 64 then some ⟨g, 64 * i, none⟩ else some ⟨g, 64 * i + 64, none⟩) (L - 64 * i - 64) (L - 64 * i - 64) = .slice (some ad) (L - 64 * (i + 1)) (L - 64 * (i + 1)) ∧ (64 * (i + 1) < L → ad = ⟨g, 64 * (i + 1), none⟩) := by
  rw [show L - 64 * i - 64 = L - 64 * (i + 1) by omega]
  by_cases h : L - 64 * i = 64
  · rw [if_pos h]; exact ⟨_, rfl, fun h' => by omega⟩
  · rw [if_neg h]; exact ⟨_, rfl, fun _ => rfl⟩
def sliceLen : Value → Nat | .slice _ n _ => n | _ => 0
def sumF (K : Nat → Int) (H : St) (src : Nat → Int) (len : Nat) : St := hAt K (padF src len) H (padLen len / 64)

set_option maxRecDepth 100000 in
set_option maxHeartbeats 1000000 in
theorem sum_any (sp : Option Addr) (len cap : Nat) (src : Nat → Int) (K : Nat → Int) (H : St) (w : World) (hsrc : SrcAt w .u8 sp len src) (hlen : len ≤ 100000) (hs : ∀ i, 0 ≤ src i ∧ src i ≤ 255)
    (hK : ∀ i : Nat, i < 64 → w.cell? ⟨2, i, none⟩ = some (.int .u32 (K i))) (hH : ∀ i : Nat, i < 8 → w.cell? ⟨0, i, none⟩ = some (.int .u32 (H.fn i))) (hok : H.ok) :
    Calls Tryz.prog 69 #[.slice sp len cap] w fun e w' => e = .returned (.agg (arr .u8 32 (outF (sumF K H src len)))) ∧ Below w.heap.size w w' := by
  have h1w : 2 < w.heap.size := block_lt_of_cell (hK 0 (by omega))
  go_enter Tryz.func69, Tryz.ntmps69
  go_wp2_with (first
    | (refine load_cells (by rfl) 179 (.global 0) (by rfl) 0 (by rfl) .u32 8 H.fn _ (fun i hi => (((Below.refl _ _).alloc (Nat.le_refl _) _).cell (p := ⟨0, i, none⟩) (by simp only; omega)).trans (hH i hi)) Tryz.underlying179 rfl (by kernel_rfl) ?_)
    | (refine wpList_store_row (by rfl) 179 (.tmp 3) (.tmp 8) (by rfl) (w.heap.size + 1) _ (by rfl) (by rfl) 179 (arr .u32 8 fun _ => 0) ((heap_alloc2_new _ _ _).trans rfl) (by rw [arr_size]; kernel_rfl) (by rw [arr_size, arr_size]) (arr_one _ _ _) ?_))
  refine calls_gen (fun W1 => Below w.heap.size w W1 ∧ W1.heap[w.heap.size]? = some (.cells (arr .u8 32 fun _ => 0) 26 (0, 0)) ∧ W1.heap[w.heap.size + 1]? = some (.cells (arr .u32 8 H.fn) 179 (0, 0))) ⟨?_, ?_, ?_⟩ ?_
  · exact below_setRow' (((Below.refl _ _).alloc (Nat.le_refl _) _).alloc (by simp) _) (by omega) _
  · rw [setRow_other _ _ _ _ (by omega), heap_alloc2_old]; rfl
  · exact heap_setRow_same (heap_alloc2_new _ _ _)
  intro W1 ⟨hB1, hres, hrh⟩
  refine (pad_any sp len cap src W1 (hsrc.below hB1) hlen).mono ?_
  rintro e w2 ⟨g, rfl, hg, hpad, hB2⟩
  have hz1 := lt_of_row hrh
  have hB : Below w.heap.size w w2 := hB1.trans (hB2.mono hB1.size)
  have HP : Hid _ := hpad
  have HRES : Hid (w2.heap[w.heap.size]? = some (.cells (arr .u8 32 fun _ => 0) 26 (0, 0))) := (hB2.block _ (by omega)).trans hres
  have HRH : Hid (w2.heap[w.heap.size + 1]? = some (.cells (arr .u32 8 H.fn) 179 (0, 0))) := (hB2.block _ (by omega)).trans hrh
  have hL := padLen_mod len
  have hL1 : padLen len ≤ len + 72 := by have := padZ_lt len; unfold padLen; omega
  have hpb := pad_bytes src len hs
  have HSUM : Hid (sumF K H src len = hAt K (padF src len) H (padLen len / 64)) := rfl
  generalize hPL : padLen len = L at *
  generalize hPF : padF src len = p at *
  clear hpad hres hrh hPL hPF hB1 hB2
  have HHOK := hAt_ok K p H hok
  go_wp2
  go_loopw [4] (fun v wr => ∃ i : Nat, ∃ ad : Addr, 64 * i ≤ L ∧ v = .slice (some ad) (L - 64 * i) (L - 64 * i) ∧ (64 * i < L → ad = ⟨g, 64 * i, none⟩) ∧ Below w.heap.size w wr ∧ wr.heap[g]? = some (.cells (arr .u8 L p) 5 (0, 0)) ∧ wr.heap[w.heap.size]? = some (.cells (arr .u8 32 fun _ => 0) 26 (0, 0)) ∧ wr.heap[w.heap.size + 1]? = some (.cells (arr .u32 8 (hAt K p H i).fn) 179 (0, 0))) (fun v _ => sliceLen v)
  case atStart => exact ⟨0, ⟨g, 0, none⟩, by omega, rfl, fun _ => rfl, hB, HP.out, HRES.out, HRH.out⟩
  case round =>
    obtain ⟨i, ad, hi, rfl, had, hBr, hrp, hr0, hr1⟩ := hrel
    clear hB HP HRES HRH
    have H0 : Hid _ := hr0
    have H1 : Hid _ := hr1
    have HP : Hid _ := hrp
    have HAD : Hid _ := had
    clear hr0 hr1 hrp had
    by_cases hlt : 64 * i < L
    · obtain rfl := HAD.out hlt
      go_wp2
      refine wp_region_held (S := fun w' => w'.heap[g]? = some (.cells (arr .u8 L p) 5 (0, 0))) (by kernel_rfl) ?_
      refine take_run (i := 1) (.slice (some ⟨g, 64 * i, none⟩) (L - 64 * i) (L - 64 * i)) rfl (by kernel_rfl) (by kernel_rfl) (by kernel_rfl) (fun _ _ _ h => h) rfl (fun _ _ => rfl) HP.out ?_
      refine take_run (i := 2) (.pointer (some ⟨g, 64 * i, none⟩)) rfl (by kernel_rfl) (by kernel_rfl) (by kernel_rfl) (fun _ _ _ h => h) rfl (fun w' _ => ?_) HP.out ?_
      · exact run_toArray 182 64 5 Tryz.underlying182 _ rfl _ _ _ rfl (by omega)
      refine take_part (i := 3) rfl (by kernel_rfl) (by kernel_rfl) (by kernel_rfl) (fun _ _ _ h => h) rfl 182 _ rfl g (64 * i) rfl 5 .u8 L 64 p rfl (0, 0) _ (fun _ h => h) (by omega) Tryz.underlying182 rfl (by kernel_rfl) HP.out ?_
      refine next_one (i := 0) rfl (by kernel_rfl) rfl rfl ?_
      refine wp_load_row 179 _ rfl (w.heap.size + 1) rfl 179 _ (0, 0) _ H1.out Tryz.underlying179 rfl (by rw [arr_size]; kernel_rfl) ⟨HP.out, ?_⟩
      refine next_one (i := 4) rfl (by kernel_rfl) rfl rfl ?_
      go_simp
      have hb := block_any (hAt K p H i) (fun j => p (64 * i + j)) K wr.drew (fun j => hpb _) (fun j hj => (hBr.drew.cell (p := ⟨2, j, none⟩) (by simp only; omega)).trans (hK j hj))
      rw [St.val_arr] at hb
      refine hb.mono ?_
      rintro e w3 ⟨rfl, hB3⟩
      clear hb
      have hlg := lt_of_row HP.out
      have hl1 := lt_of_row H1.out
      have hl0 := lt_of_row H0.out
      have hP3 : w3.heap[g]? = some (.cells (arr .u8 L p) 5 (0, 0)) := (hB3.block _ hlg).trans HP.out
      have h13 : w3.heap[w.heap.size + 1]? = some (.cells (arr .u32 8 (hAt K p H i).fn) 179 (0, 0)) := (hB3.block _ hl1).trans H1.out
      have h03 : w3.heap[w.heap.size]? = some (.cells (arr .u8 32 fun _ => 0) 26 (0, 0)) := (hB3.block _ hl0).trans H0.out
      refine ⟨hP3, ?_⟩
      refine next_one (i := 5) rfl (by kernel_rfl) rfl rfl ?_
      rw [St.val_arr]
      refine wp_store_row 179 _ _ rfl (w.heap.size + 1) _ rfl rfl 179 _ h13 (by rw [arr_size]; kernel_rfl) (by rw [arr_size, arr_size]) (arr_one _ _ _) ?_
      have hP4 : (w3.setRow (w.heap.size + 1) (arr .u32 8 (hAt K p H (i + 1)).fn)).heap[g]? = some (.cells (arr .u8 L p) 5 (0, 0)) := (setRow_other _ _ _ _ (by omega)).trans hP3
      refine ⟨hP4, ?_⟩
      refine wpAnyH_done (by kernel_rfl) ?_ _
      have HP4 : Hid _ := hP4
      have H14 : Hid _ := heap_setRow_same (cs := arr .u32 8 (hAt K p H (i + 1)).fn) h13
      have H04 : Hid ((w3.setRow (w.heap.size + 1) (arr .u32 8 (hAt K p H (i + 1)).fn)).heap[w.heap.size]? = some (.cells (arr .u8 32 fun _ => 0) 26 (0, 0))) := (setRow_other _ _ _ _ (by omega)).trans h03
      have hB4 : Below w.heap.size w (w3.setRow (w.heap.size + 1) (arr .u32 8 (hAt K p H (i + 1)).fn)) := below_setRow' (hBr.drew.trans (hB3.mono (Nat.le_of_lt hl0))) (by omega) _
      have e4 : arr .u32 8 (blockF K (fun j => p (64 * i + j)) (hAt K p H i)).fn = arr .u32 8 (hAt K p H (i + 1)).fn := rfl
      rw [e4]
      generalize w3.setRow (w.heap.size + 1) (arr .u32 8 (hAt K p H (i + 1)).fn) = w4 at *
      clear hP3 h13 h03 hP4 hB3 H0 H1 HP HAD e4
      go_wp2
      go_roundw
      case rel =>
        obtain ⟨ad, h1, h2⟩ := rest_step L i g hlt
        exact ⟨i + 1, ad, by omega, h1, h2, hB4, HP4.out, H04.out, H14.out⟩
      case measure => simp [sliceLen]; omega
    · have hil : i = L / 64 := by omega
      have hfin : Hid (hAt K p H i = sumF K H src len) := by rw [HSUM.out, hil]; exact rfl
      have hokI := HHOK i
      generalize hAt K p H i = T at H1 hfin hokI
      clear hil HSUM HHOK hpb HP HAD hsrc hH hK hok
      have hix : ∀ j : Nat, j < 8 → ∀ w, (Instr.index 179 (.agg (arr .u32 8 T.fn)) (.int .i64 j)).run Tryz.prog w = .ok (.int .u32 (T.fn j)) w :=
        fun j hj w => index_arr Tryz.underlying179 Tryz.underlying63 (by kernel_rfl) hj (arr_get hj) w
      have HIX : Hid _ := hix
      clear hix
      go_wp2_with (refine wpList_load_row (by rfl) 179 (.tmp 3) (by rfl) (w.heap.size + 1) (by rfl) 179 _ (0, 0) _ H1.out Tryz.underlying179 rfl (by rw [arr_size]; kernel_rfl) ?_)
      go_loopw [5, 22] (fun v c wq => ∃ t : Nat, ∃ sq : Option Addr, ∃ cq : Nat, t ≤ 8 ∧ c = .int .i64 t ∧ v = .slice sq (4 * t) cq ∧ SrcAt wq .u8 sq (4 * t) (outF T) ∧ Below w.heap.size w wq ∧ wq.heap[w.heap.size]? = some (.cells (arr .u8 32 fun _ => 0) 26 (0, 0))) (fun _ c _ => 8 - (intOf c).toNat)
      case atStart => exact ⟨0, none, 0, by omega, rfl, rfl, fun h => absurd h (by omega), hBr, H0.out⟩
      case round =>
        obtain ⟨t, sq, cq, ht, rfl, rfl, hsq, hBq, hrq⟩ := hrel
        have HQ : Hid _ := hrq
        have HS : Hid _ := hsq
        clear hrq hsq
        by_cases hlt8 : t < 8
        · have hb1 := HIX.out t hlt8
          go_wp2_with fail
          refine (put32_any sq (4 * t) cq (outF T) (T.fn t) _ HS.out (by omega) (hokI t).1 (hokI t).2).mono ?_
          rintro e w5 ⟨rfl, h5, hB5⟩
          have H5 : Hid _ := h5
          clear h5
          have hlr := lt_of_row HQ.out
          go_wp2
          go_roundw
          case rel =>
            refine ⟨t + 1, _, 4 * t + 4, by omega, by go_num, rfl, ?_, hBq.trans (hB5.mono (by omega)), (hB5.block _ hlr).trans HQ.out⟩
            exact (srcAt_row H5.out (Nat.le_refl _)).congr fun j hj => out_put T t j (by omega)
          case measure => simp [intOf]; omega
        · have ht8 : t = 8 := by omega
          subst ht8
          obtain ⟨b, off, rfl, hcs⟩ := HS.out (by omega)
          have HCS : Hid _ := hcs
          have har : ∀ w', (Instr.arrayAt 26 (.slice (some ⟨b, off, none⟩) 32 cq)).run Tryz.prog w' = .ok (.pointer (some ⟨b, off, none⟩)) w' := fun w' => by simp [Instr.arrayAt, run_underlying Tryz.underlying26]
          clear hcs HS
          go_wp2_with (first
            | (refine load_at (by rfl) 26 (.tmp 30) (by rfl) b off (by rfl) .u8 32 (outF T) _ HCS.out Tryz.underlying26 rfl (by kernel_rfl) ?_)
            | (refine wpList_store_row (by rfl) 26 (.tmp 2) (.tmp 31) (by rfl) w.heap.size _ (by rfl) (by rfl) 26 _ HQ.out (by rw [arr_size]; kernel_rfl) (by rw [arr_size, arr_size]) (arr_one _ _ _) ?_))
          refine bodyPost_ret (v := .agg (arr .u8 32 (outF T))) ?_ rfl ⟨by rw [hfin.out], ?_⟩
          · exact results_cell_row Tryz.results69 _ _ w.heap.size 26 _ (0, 0) _ rfl (heap_setRow_same HQ.out) Tryz.underlying26 rfl (by rw [arr_size]; kernel_rfl)
          · exact below_setRow' hBq (Nat.le_refl _) _
end Go.Proofs.YtgfjjglejlnfbaaGreatDoor
