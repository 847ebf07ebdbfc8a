/- How many bytes ahead are of some classes; the contracts of lex's run and decimal. -/
import Derived.Test.YtcbpnmdphmdemaaLxO
import Derived.Test.YtcbpnmdphmdemaaShelf
namespace Go.Proofs.Ytcbpnmdphmdemaa
open Go.RowKit

/-- How many elements ahead are so. -/
def runN (p : UInt8 → Bool) (L : List UInt8) : Nat := (L.takeWhile p).length
theorem runN_le (p : UInt8 → Bool) (L : List UInt8) : runN p L ≤ L.length := (List.takeWhile_sublist p).length_le
theorem runN_nil (p : UInt8 → Bool) : runN p [] = 0 := rfl
theorem runN_cons (p : UInt8 → Bool) (c : UInt8) (L : List UInt8) : runN p (c :: L) = if p c then runN p L + 1 else 0 := by
  unfold runN
  rw [List.takeWhile_cons]
  split <;> simp
theorem runN_at {p : UInt8 → Bool} : ∀ {L : List UInt8} {t : Nat} {c : UInt8}, (∀ j d, j < t → L[j]? = some d → p d = true) → L[t]? = some c → p c = false → runN p L = t
  | [], t, c, _, h, _ => by simp at h
  | a :: L, 0, c, _, h, hp => by
    have h' : a = c := by simpa using h
    rw [runN_cons, h', hp]
    rfl
  | a :: L, t + 1, c, hz, h, hp => by
    rw [runN_cons, hz 0 a (by omega) rfl, if_pos rfl, runN_at (fun j d hj hd => hz (j + 1) d (Nat.succ_lt_succ hj) (by simpa using hd)) (by simpa using h) hp]
theorem runN_all {p : UInt8 → Bool} : ∀ {L : List UInt8}, (∀ j d, j < L.length → L[j]? = some d → p d = true) → runN p L = L.length
  | [], _ => rfl
  | a :: L, hz => by
    rw [runN_cons, hz 0 a (by simp) rfl, if_pos rfl, runN_all (fun j d hj hd => hz (j + 1) d (by simp; omega) (by simpa using hd)), List.length_cons]
/-- Is a byte of one of these classes? -/
def inC (zs : List Int) (c : UInt8) : Bool := zs.contains (clsI c.toNat)
theorem conv_u8_i32 (c : UInt8) : IntKind.i32.wrap (c.toNat : Int) = c.toNat := by
  have := c.toNat_lt
  rw [show IntKind.i32.wrap (c.toNat : Int) = ((c.toNat : Int) + 2147483648) % 4294967296 - 2147483648 by simp [IntKind.wrap, IntKind.bits, IntKind.signed]; omega]
  omega
set_option maxRecDepth 100000 in
set_option maxHeartbeats 1000000 in
theorem run_any (sp : Option Addr) (cap : Nat) (L : List UInt8) (bz oz cz : Nat) (zs : List Int) (w : World) (h : BA w sp L) (hl : L.length ≤ 1000000) (hzl : zs.length ≤ 1000) (hz : ∀ j, j < zs.length → w.cell? ⟨bz, oz + j, none⟩ = some (.int .i64 (zs.getD j 0))) :
    Calls Try.prog 64 #[.slice sp L.length cap, .slice (some ⟨bz, oz, none⟩) zs.length cz] w fun e w' => e = .returned (.int .i64 (runN (inC zs) L)) ∧ w' = w := by
  have HL : Hid (BA w sp L) := h
  have HZ : Hid (∀ j, j < zs.length → w.cell? ⟨bz, oz + j, none⟩ = some (.int .i64 (zs.getD j 0))) := hz
  clear h hz
  go_enter Try.func64, Try.ntmps64
  go_wp2
  go_loopw [9] (fun i wr => ∃ t : Nat, t ≤ L.length ∧ i = .int .i64 t ∧ wr = w ∧ ∀ j d, j < t → L[j]? = some d → inC zs d = true) (fun i _ => L.length - (intOf i).toNat)
  case atStart => exact ⟨0, Nat.zero_le _, rfl, rfl, fun j d hj => by omega⟩
  case round =>
    obtain ⟨t, ht, rfl, rfl, hall⟩ := hrel
    have HA : Hid (∀ j d, j < t → L[j]? = some d → inC zs d = true) := hall
    clear hall
    by_cases hlt : t < L.length
    · have hd : decide ((t : Int) < L.length) = true := by simp; omega
      obtain ⟨b, o, rfl, hc⟩ := HL.out (by omega)
      obtain ⟨c, hcc⟩ : ∃ c, L[t]? = some c := ⟨_, List.getElem?_eq_getElem hlt⟩
      have h0 := hc t c hcc
      have HC : Hid (L[t]? = some c) := hcc
      have hw := conv_u8_i32 c
      clear hc hcc
      go_wp2_with (first
        | (go_at_call 47; refine (class_any _ _).mono ?_; rintro e W1 ⟨rfl, hW1⟩; subst hW1)
        | (go_at_call 69; refine (Try.slices_Contains_int bz oz zs.length cz zs _ _ (Nat.le_refl _) (by omega) HZ.out).mono ?_; rintro e W1 ⟨rfl, hW1⟩; subst hW1; rw [List.take_length]))
      · rename_i hx
        have hx' : inC zs c = false := by simpa [inC] using hx
        go_ret
        exact ⟨ret_int (by rw [runN_at HA.out HC.out hx']), rfl⟩
      · rename_i hx
        have hx' : inC zs c = true := by simpa [inC] using hx
        refine ⟨⟨t + 1, by omega, by go_num, trivial, fun j d hj hjd => ?_⟩, by simp [intOf]; omega⟩
        by_cases hjt : j < t
        · exact HA.out j d hjt hjd
        · obtain rfl : j = t := by omega
          rw [HC.out] at hjd
          injection hjd with hjd
          rw [← hjd]
          exact hx'
    · have hd : decide ((t : Int) < L.length) = false := by simp; omega
      have HYES : Hid (runN (inC zs) L = L.length) := runN_all fun j d hj hdd => HA.out j d (by omega) hdd
      go_wp2
      go_ret
      exact ⟨ret_int (by rw [HYES.out]), rfl⟩
end Go.Proofs.Ytcbpnmdphmdemaa
