/- What begins a text's rest; the contract of lex's look. -/
import Derived.Test.YtcbpnmdphmdemaaLxG
import Derived.Lib.SlBytesConst
namespace Go.Proofs.Ytcbpnmdphmdemaa
open Go.RowKit

/-- The Kind, the size and the error of what begins bytes; en: a line ends here. -/
def lookR (L : List UInt8) (en : Bool) : Int × Nat × Int := match L with
  | [] => (5, 0, 0)
  | c :: r =>
    if clsI c.toNat = 2 then (if en then (5, 0, 0) else (0, 1, 0))
    else if clsI c.toNat = 1 then (0, 1, 0)
    else if clsI c.toNat = 6 then (5, 1, 0)
    else if clsI c.toNat = 3 then (1, wordR (c :: r))
    else if clsI c.toNat = 4 then (2, numR (c :: r))
    else if clsI c.toNat = 5 then (3, quoR (c :: r))
    else if Lib.hasPrefix (c :: r) [47, 47] then (0, comN (c :: r), 0)
    else (4, sigR (c :: r))
def tripV (p : Int × Nat × Int) : Value := .tuple #[.int .i64 p.1, .int .i64 p.2.1, .int .i64 p.2.2]
theorem ret_trip {p : Int × Nat × Int} {k : Int} {n : Nat} {e : Int} (h : p = (k, n, e)) : Ending.returned (.tuple #[.int .i64 k, .int .i64 n, .int .i64 e]) = .returned (tripV p) := by rw [h]; rfl
theorem cls_range (c : Int) : clsI c = 0 ∨ clsI c = 1 ∨ clsI c = 2 ∨ clsI c = 3 ∨ clsI c = 4 ∨ clsI c = 5 ∨ clsI c = 6 := by
  unfold clsI
  repeat' split
  all_goals simp
set_option maxRecDepth 100000 in
set_option maxHeartbeats 4000000 in
theorem look_any (sp : Option Addr) (cap : Nat) (L : List UInt8) (g : Nat) (t : Tok) (w : World) (h : BA w sp L) (hl : L.length ≤ 100000) (hcap : L.length ≤ cap)
    (h0 : w.cell? ⟨g, 0, none⟩ = some (.int .i64 t.kind)) (h1 : w.cell? ⟨g, 1, none⟩ = some (.string t.text)) :
    Calls Try.prog 32 #[.slice sp L.length cap, .func (.func 31) #[.pointer (some ⟨g, 0, none⟩)] #[]] w fun e w' => e = .returned (tripV (lookR L (clo t))) ∧ Below w.heap.size w w' := by
  have H0 : Hid (w.cell? ⟨g, 0, none⟩ = some (.int .i64 t.kind)) := h0
  have H1 : Hid (w.cell? ⟨g, 1, none⟩ = some (.string t.text)) := h1
  have HL : Hid (BA w sp L) := h
  clear h h0 h1
  cases L with
  | nil =>
    go_enter Try.func32, Try.ntmps32
    go_wp2
    go_ret3
    exact ⟨rfl, Below.refl _ _⟩
  | cons c r =>
    obtain ⟨b, o, rfl, hc⟩ := HL.out (by simp)
    have k0 : w.cell? ⟨b, o, none⟩ = some (.int .u8 c.toNat) := hc 0 c rfl
    have hln : ((((c :: r).length : Nat) : Int) == 0) = false := by rw [beq_eq_false_iff_ne, List.length_cons]; omega
    have hlt : (0 : Int) < ((c :: r).length : Nat) := by rw [List.length_cons]; omega
    have hw := conv_u8_i32 c
    clear hc
    obtain ⟨M, HM⟩ : ∃ M, Hid (c :: r = M) := ⟨_, rfl⟩
    have HE : Hid (lookR M (clo t) = if clsI c.toNat = 2 then (if clo t then (5, 0, 0) else (0, 1, 0)) else if clsI c.toNat = 1 then (0, 1, 0) else if clsI c.toNat = 6 then (5, 1, 0) else if clsI c.toNat = 3 then (1, wordR M)
      else if clsI c.toNat = 4 then (2, numR M) else if clsI c.toNat = 5 then (3, quoR M) else if Lib.hasPrefix M [47, 47] then (0, comN M, 0) else (4, sigR M)) := by rw [← HM.out]; exact rfl
    have HC : Hid (∃ r, M = c :: r) := ⟨r, HM.out.symm⟩
    rw [HM.out] at hln hlt HL hl hcap ⊢
    clear HM
    have HPOS : 0 < M.length := by omega
    go_enter Try.func32, Try.ntmps32
    rcases cls_range c.toNat with hk | hk | hk | hk | hk | hk | hk
    · have HX : Hid (lookR M (clo t) = if Lib.hasPrefix M [47, 47] then (0, comN M, 0) else (4, sigR M)) := by rw [HE.out, hk]; exact rfl
      clear HE
      have hcv := Lib.run_convert_bytes_const (P := Try.prog) w 58 5 #[.int .u8 47, .int .u8 47] 2 2 Try.underlying58 Try.underlying5
      obtain ⟨WA, HWA⟩ : ∃ WA, Hid (w.alloc (.cells #[.int .u8 47, .int .u8 47] 5 (2, 3)) = WA) := ⟨_, rfl⟩
      have b1 : Below w.heap.size w WA := by rw [← HWA.out]; exact (Below.refl _ _).alloc (Nat.le_refl _) _
      have hP2 : BA WA (some ⟨w.heap.size, 0, none⟩) [47, 47] := BA.of_rows (fun _ => ⟨w.heap.size, 0, rfl, fun i x hx j u hu => by
        have hrow : WA.heap[w.heap.size]? = some (.cells #[.int .u8 47, .int .u8 47] 5 (2, 3)) := by rw [← HWA.out]; exact heap_alloc_new _ _
        rw [cell_of_row _ _ _ _ _ _ hrow]
        have hj : j = 0 := by have := (Array.getElem?_eq_some_iff.1 hu).1; simp [byC] at this; omega
        subst hj
        rw [← hu]
        match i, hx with
        | 0, hx => have hx' : (47 : UInt8) = x := by simpa using hx
                   subst hx'; rfl
        | 1, hx => have hx' : (47 : UInt8) = x := by simpa using hx
                   subst hx'; rfl
        | k + 2, hx => simp at hx⟩)
      have HP : Hid (Calls Try.prog 57 #[.slice (some ⟨b, o, none⟩) M.length cap, .slice (some ⟨w.heap.size, 0, none⟩) 2 2] WA fun e w' => e = .returned (.bool (Lib.hasPrefix M [47, 47])) ∧ w' = WA) := by
        have := Try.bytes_HasPrefix_all (some ⟨b, o, none⟩) (some ⟨w.heap.size, 0, none⟩) M.length cap 2 2 (Lib.numsL M) (Lib.numsL [47, 47]) WA (by simp [Lib.numsL]) rfl hcap (HL.out.below b1).bytesIn hP2.bytesIn
        rw [Lib.bytesOf_numsL, Lib.bytesOf_numsL] at this
        exact this
      clear hP2
      have hcv' : (convert 58 58 (.slice (some ⟨w.heap.size, 0, none⟩) 2 2)).run Try.prog (w.alloc (.cells #[.int .u8 47, .int .u8 47] 5)) = .ok (.slice (some ⟨w.heap.size, 0, none⟩) 2 2) WA := by
        rw [hcv]
        exact congrArg _ HWA.out
      clear hcv
      cases hp : Lib.hasPrefix M [47, 47]
      · have HY : Hid (lookR M (clo t) = (4, sigR M)) := by rw [HX.out, hp]; exact rfl
        clear HX
        obtain ⟨n, er, HR⟩ : ∃ n er, Hid (sigR M = (n, er)) := ⟨_, _, rfl⟩
        have HS : Hid (Calls Try.prog 59 #[.slice (some ⟨b, o, none⟩) M.length cap] WA fun e w' => e = .returned (.tuple #[.int .i64 n, .int .i64 er]) ∧ w' = WA) := by
          obtain ⟨r', hr'⟩ := HC.out
          have := sign_any (some ⟨b, o, none⟩) cap c r' WA (hr' ▸ HL.out.below b1) (hr' ▸ hl) (hr' ▸ hcap)
          rw [← hr', HR.out] at this
          exact this
        go_wp2_with (first
          | (go_at_call 47; refine (class_any _ _).mono ?_; rintro e W1 ⟨rfl, hW1⟩; subst hW1; rw [hk])
          | (go_at_call 57; refine HP.out.mono ?_; rintro e W1 ⟨rfl, hW1⟩; rw [hW1, hp])
          | (go_at_call 59; refine HS.out.mono ?_; rintro e W1 ⟨rfl, hW1⟩; rw [hW1]))
        go_ret3
        exact ⟨ret_trip (by rw [HY.out, HR.out]), b1⟩
      · have HY : Hid (lookR M (clo t) = (0, comN M, 0)) := by rw [HX.out, hp]; exact rfl
        clear HX
        have HS : Hid (Calls Try.prog 58 #[.slice (some ⟨b, o, none⟩) M.length cap] WA fun e w' => e = .returned (.int .i64 (comN M)) ∧ w' = WA) := comment_any _ cap M WA (HL.out.below b1) HPOS
        go_wp2_with (first
          | (go_at_call 47; refine (class_any _ _).mono ?_; rintro e W1 ⟨rfl, hW1⟩; subst hW1; rw [hk])
          | (go_at_call 57; refine HP.out.mono ?_; rintro e W1 ⟨rfl, hW1⟩; rw [hW1, hp])
          | (go_at_call 58; refine HS.out.mono ?_; rintro e W1 ⟨rfl, hW1⟩; rw [hW1]))
        go_ret3
        exact ⟨ret_trip HY.out, b1⟩
    · have HX : Hid (lookR M (clo t) = (0, 1, 0)) := by rw [HE.out, hk]; exact rfl
      clear HE
      go_wp2_with (go_at_call 47; refine (class_any _ _).mono ?_; rintro e W1 ⟨rfl, hW1⟩; subst hW1; rw [hk])
      go_ret3
      exact ⟨ret_trip HX.out, Below.refl _ _⟩
    · have HX : Hid (lookR M (clo t) = if clo t then (5, 0, 0) else (0, 1, 0)) := by rw [HE.out, hk]; exact rfl
      clear HE
      cases hcl : clo t
      · have HY : Hid (lookR M false = (0, 1, 0)) := by rw [← hcl, HX.out, hcl]; exact rfl
        clear HX
        go_wp2_with (first
          | (go_at_call 47; refine (class_any _ _).mono ?_; rintro e W1 ⟨rfl, hW1⟩; subst hW1; rw [hk])
          | (go_at_call 31; refine (ends_any g t _ H0.out H1.out).mono ?_; rintro e W1 ⟨rfl, hW1⟩; subst hW1; rw [hcl]))
        go_ret3
        exact ⟨ret_trip HY.out, Below.refl _ _⟩
      · have HY : Hid (lookR M true = (5, 0, 0)) := by rw [← hcl, HX.out, hcl]; exact rfl
        clear HX
        go_wp2_with (first
          | (go_at_call 47; refine (class_any _ _).mono ?_; rintro e W1 ⟨rfl, hW1⟩; subst hW1; rw [hk])
          | (go_at_call 31; refine (ends_any g t _ H0.out H1.out).mono ?_; rintro e W1 ⟨rfl, hW1⟩; subst hW1; rw [hcl]))
        go_ret3
        exact ⟨ret_trip HY.out, Below.refl _ _⟩
    · have HX : Hid (lookR M (clo t) = (1, wordR M)) := by rw [HE.out, hk]; exact rfl
      clear HE
      obtain ⟨n, er, HR⟩ : ∃ n er, Hid (wordR M = (n, er)) := ⟨_, _, rfl⟩
      go_wp2_with (first
        | (go_at_call 47; refine (class_any _ _).mono ?_; rintro e W1 ⟨rfl, hW1⟩; subst hW1; rw [hk])
        | (go_at_call 54; refine (word_any _ cap M _ HL.out hl).mono ?_; rintro e W1 ⟨rfl, b1⟩; rw [HR.out, pairV]))
      go_ret3
      exact ⟨ret_trip (by rw [HX.out, HR.out]), b1⟩
    · have HX : Hid (lookR M (clo t) = (2, numR M)) := by rw [HE.out, hk]; exact rfl
      clear HE
      obtain ⟨n, er, HR⟩ : ∃ n er, Hid (numR M = (n, er)) := ⟨_, _, rfl⟩
      go_wp2_with (first
        | (go_at_call 47; refine (class_any _ _).mono ?_; rintro e W1 ⟨rfl, hW1⟩; subst hW1; rw [hk])
        | (go_at_call 55; refine (number_any _ cap M _ HL.out HPOS hl hcap).mono ?_; rintro e W1 ⟨rfl, b1⟩; rw [HR.out, pairV]))
      go_ret3
      exact ⟨ret_trip (by rw [HX.out, HR.out]), b1⟩
    · have HX : Hid (lookR M (clo t) = (3, quoR M)) := by rw [HE.out, hk]; exact rfl
      clear HE
      obtain ⟨n, er, HR⟩ : ∃ n er, Hid (quoR M = (n, er)) := ⟨_, _, rfl⟩
      go_wp2_with (first
        | (go_at_call 47; refine (class_any _ _).mono ?_; rintro e W1 ⟨rfl, hW1⟩; subst hW1; rw [hk])
        | (go_at_call 56; refine (quoted_any _ cap M _ HL.out hl hcap).mono ?_; rintro e W1 ⟨rfl, b1⟩; rw [HR.out, pairV]))
      go_ret3
      exact ⟨ret_trip (by rw [HX.out, HR.out]), b1⟩
    · have HX : Hid (lookR M (clo t) = (5, 1, 0)) := by rw [HE.out, hk]; exact rfl
      clear HE
      go_wp2_with (go_at_call 47; refine (class_any _ _).mono ?_; rintro e W1 ⟨rfl, hW1⟩; subst hW1; rw [hk])
      go_ret3
      exact ⟨ret_trip HX.out, Below.refl _ _⟩
end Go.Proofs.Ytcbpnmdphmdemaa
