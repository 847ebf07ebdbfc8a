/- The contracts of strings.Builder's writers, as far as they serve here. -/
/- A text that is quoted; the contract of lex's Quote. -/
/- The contracts of lex's comment and number. -/
/- What begins a text's rest; the contract of lex's look. -/
import Derived.Test.YthnoiohganknnabDoorMrgA
import Derived.Lib.Builder
import Derived.Lib.OthersKept
import Derived.Lib.AppendStr
import Derived.Laws.Externs
import Derived.Test.YthnoiohganknnabDoorShelf
import Derived.Lib.SlBytesConst
namespace Go.Proofs.YthnoiohganknnabDoor
open Go.RowKit

theorem flat_byC (l : List UInt8) : flatG byC l = Lib.byteCells l := by
  induction l with
  | nil => rfl
  | cons a r ih => rw [flatG, List.flatMap_cons, ← flatG, ih]; rfl
theorem OwnG.nb {α : Type} {e : TypeId} {m : Nat} {f : α → Array Value} {B : Nat} {w : World} {v : Value} {xs : List α} (h : OwnG e m f B w v xs) {g : Nat} {cs : Array Value} {e' : TypeId} {fr : Nat × Nat} (hg : w.heap[g]? = some (.cells cs e' fr)) (hne : e ≠ e') : v.ownBlock ≠ some g := by
  rcases h.2 with ⟨rfl, h0⟩ | ⟨g', cap, cur, rfl, h1, h2, h3⟩
  · exact fun h => by cases h
  · intro hh
    have e1 : g' = g := by simpa [Value.ownBlock] using hh
    subst e1
    rw [hg] at h2
    injection h2 with h2
    injection h2 with h2 h4
    exact hne h4.symm
theorem own_kind {B : Nat} {w : World} {v : Value} {l : List UInt8} (h : OwnB B w v l) : ∀ g, v.ownBlock = some g → ∃ c fz, w.heap[g]? = some (.cells c 5 fz) := fun g hg => by
  rcases h.2 with ⟨rfl, _⟩ | ⟨g', cap, cur, rfl, _, hgg, _⟩
  · simp [Value.ownBlock] at hg
  · simp [Value.ownBlock] at hg
    subst hg
    exact ⟨cur, _, hgg⟩
theorem strCells_flat (s : ByteArray) : Lib.strCells s = flatG byC s.data.toList := by
  rw [flat_byC]
  simp [Lib.strCells, Lib.byteCells]
theorem list_append2 {P : Program} {ops : Array Oper} {rest : List Oper} {Q : Exit → Act → World → Prop} {a : Act} {w w' : World} {o : Oper} {v' vs vx : Value} (s x : Operand) (t u : TypeId)
    (ho : o.op = .call { callee := .builtin .append, args := #[s, x], argTypes := #[t, u] }) (hw : Region.wanted o (yielded ops a.tmps) = true) (hs : a.eval s = vs) (hx : a.eval x = vx) (hr : (Builtin.append_ #[t, u] o.type #[vs, vx]).run P w = .ok v' w') (h : wpList P ops Q rest (a.put o.dst v') w') : wpList P ops Q (o :: rest) a w :=
  wpList_step fun _ hK => by
    rw [if_pos hw]
    unfold Oper.wp execOp
    simp only [ho, resolve, invoke, builtin, Sem.run_bind, Sem.run_pure, Result.andThen_ok, List.map_toArray, List.map_cons, List.map_nil, hs, hx, hr]
    exact hK _ _ h
end Go.Proofs.YthnoiohganknnabDoor

namespace Go.Proofs.YthnoiohganknnabDoor
open Go.RowKit

/-- How a byte is quoted. -/
def quoB (c : UInt8) : Option (List UInt8) := if c.toNat = 34 ∨ c.toNat = 92 then some [92, c] else if c.toNat = 10 then some [92, 110] else if plnB c.toNat then some [c] else none
def quoG (acc : List UInt8) : List UInt8 → Option (List UInt8)
  | [] => some (acc ++ [34])
  | c :: r => match quoB c with | none => none | some x => quoG (acc ++ x) r
/-- A text, quoted; none: it may not be. -/
def quoO (L : List UInt8) : Option (List UInt8) := quoG [34] L
theorem quoG_step {acc : List UInt8} {L : List UInt8} {i : Nat} {c : UInt8} (h : L[i]? = some c) : quoG acc (L.drop i) = match quoB c with | none => none | some x => quoG (acc ++ x) (L.drop (i + 1)) := by
  rw [drop_at h, quoG]
theorem quo_no {acc : List UInt8} {L : List UInt8} {i : Nat} {c : UInt8} {o : Option (List UInt8)} (h : L[i]? = some c) (hg : quoG acc (L.drop i) = o) (hq : quoB c = none) : o = none := by
  rw [← hg, quoG_step h, hq]
theorem quo_go {acc x : List UInt8} {L : List UInt8} {i : Nat} {c : UInt8} {o : Option (List UInt8)} (h : L[i]? = some c) (hg : quoG acc (L.drop i) = o) (hq : quoB c = some x) : quoG (acc ++ x) (L.drop (i + 1)) = o := by
  rw [← hg, quoG_step h, hq]
def strV (o : Option (List UInt8)) (e : Int) : Value := match o with | none => .tuple #[.string ⟨#[]⟩, .int .i64 e] | some x => .tuple #[.string (strU x), .int .i64 0]
theorem iterPos_at {w : World} {k : Nat} {s : ByteArray} {pos : Nat} (h : w.heap[k]? = some (.stringIter s pos)) : w.iterPos k = pos := by unfold World.iterPos; rw [h]
end Go.Proofs.YthnoiohganknnabDoor

namespace Go.Proofs.YthnoiohganknnabDoor
open Go.RowKit

/-- The size of a comment. -/
def comN (L : List UInt8) : Nat := runN (fun c => c != 10) L
theorem index_ge (L : List UInt8) (c : UInt8) : Lib.indexByte L c = if runN (fun d => d != c) L < L.length then (runN (fun d => d != c) L : Int) else -1 := by
  induction L with
  | nil => rfl
  | cons a r ih =>
    rw [Lib.indexByte, runN_cons, List.length_cons]
    by_cases h : a = c
    · subst h
      simp
    · have h1 : (a == c) = false := by simpa using h
      have h2 : (a != c) = true := by simpa using h
      by_cases hlt : runN (fun d => d != c) r < r.length
      · have h3 : ((runN (fun d => d != c) r : Int) == -1) = false := by rw [beq_eq_false_iff_ne]; omega
        simp [h1, h2, ih, hlt, h3]
      · simp [h1, h2, ih, hlt]
set_option maxRecDepth 100000 in
set_option maxHeartbeats 1000000 in
theorem comment_any (sp : Option Addr) (cap : Nat) (L : List UInt8) (w : World) (h : BA w sp L) (hpos : 0 < L.length) :
    Calls Tryd.prog 23 #[.slice sp L.length cap] w fun e w' => e = .returned (.int .i64 (comN L)) ∧ w' = w := by
  obtain ⟨b, o, rfl, hc⟩ := h hpos
  have HI : Hid (Calls Tryd.prog 33 #[.slice (some ⟨b, o, none⟩) L.length cap, .int .u8 10] w fun e w' => e = .returned (.int .i64 (if runN (fun d => d != 10) L < L.length then (runN (fun d => d != 10) L : Int) else -1)) ∧ w' = w) := by
    have := Tryd.bytes_IndexByte_at ⟨b, o, none⟩ L.length cap (Lib.numsL L) 10 w (by simp [Lib.numsL]) (fun i hi => by
      rw [Addr.add_mid, hc i _ (List.getElem?_eq_getElem hi)]
      simp [Lib.numsL, hi])
    rw [Lib.bytesOf_numsL, index_ge] at this
    exact this
  have hle := runN_le (fun c => c != 10) L
  clear hc h
  go_enter Tryd.func23, Tryd.ntmps23
  by_cases hlt : runN (fun d => d != 10) L < L.length
  · have hn : ¬ ((runN (fun d => d != 10) L : Int) < 0) := by omega
    have HX : Hid (comN L = runN (fun d => d != 10) L) := rfl
    go_wp2_with (go_at_call 33; refine HI.out.mono ?_; rintro e W1 ⟨rfl, hW1⟩; subst hW1; rw [if_pos hlt])
    go_ret
    exact ⟨ret_int (by rw [HX.out]), rfl⟩
  · have HX : Hid (comN L = L.length) := by
      have : comN L = runN (fun d => d != 10) L := rfl
      rw [this]
      show runN (fun d => d != 10) L = L.length
      omega
    go_wp2_with (go_at_call 33; refine HI.out.mono ?_; rintro e W1 ⟨rfl, hW1⟩; subst hW1; rw [if_neg hlt])
    go_ret
    exact ⟨ret_int (by rw [HX.out]), rfl⟩
theorem num_some {L M : List UInt8} {n q k : Nat} (h : numR L = if (decO M).isSome = false ∨ 0 < k then (0, 201) else (n, 0)) (hd : decO M = some q) : numR L = if 0 < k then (0, 201) else (n, 0) := by
  rw [h, hd]
  simp
set_option maxRecDepth 100000 in
set_option maxHeartbeats 1000000 in
theorem number_any (sp : Option Addr) (cap : Nat) (L : List UInt8) (w : World) (h : BA w sp L) (hpos : 0 < L.length) (hl : L.length ≤ 100000) (hcap : L.length ≤ cap) :
    Calls Tryd.prog 20 #[.slice sp L.length cap] w fun e w' => e = .returned (pairV (numR L)) ∧ Below w.heap.size w w' := by
  obtain ⟨b, o, rfl, hc⟩ := h hpos
  have HL : Hid (BA w (some ⟨b, o, none⟩) L) := h
  clear h hc
  obtain ⟨n, HN⟩ : ∃ n, Hid (runN (inC [4]) L = n) := ⟨_, rfl⟩
  have hnl : n ≤ L.length := by rw [← HN.out]; exact runN_le _ _
  have HE : Hid (numR L = if (decO (L.take n)).isSome = false ∨ 0 < runN (inC [3]) (L.drop n) then (0, 201) else (n, 0)) := by unfold numR; rw [HN.out]; exact rfl
  have HR : Hid (Calls Tryd.prog 29 #[.slice (some ⟨b, o, none⟩) L.length cap, .slice (some ⟨w.heap.size, 0, none⟩) 1 1] (w.alloc (.cells #[.int .i64 4] 3)) fun e w' => e = .returned (.int .i64 n) ∧ Below w.heap.size w w') := by
    have b1 : Below w.heap.size w (w.alloc (.cells #[.int .i64 4] 3)) := (Below.refl _ _).alloc (Nat.le_refl _) _
    have := run_any _ cap L w.heap.size 0 1 [4] _ (HL.out.below b1) (by omega) (by simp) (ints_cells w [4] 3)
    rw [HN.out] at this
    exact this.mono fun e w' ⟨h1, h2⟩ => ⟨h1, h2 ▸ b1⟩
  go_enter Tryd.func20, Tryd.ntmps20
  go_wp2_with fail
  refine HR.out.mono ?_
  rintro e W1 ⟨rfl, b1⟩
  have htl : (L.take n).length = n := by rw [List.length_take]; omega
  have hcv := conv_str ((HL.out.below' b1).take n) cap
  rw [htl] at hcv
  have hnc : (n : Int) ≤ cap := by omega
  go_wp2_with fail
  refine (decimal_any (strU (L.take n)) W1).mono ?_
  rintro e W2 ⟨rfl, b2⟩
  rw [strU_data]
  have bw2 : Below w.heap.size w W2 := b1.trans (b2.mono b1.size)
  clear hcv htl HR
  cases hdo : decO (L.take n) with
  | none =>
    have HX : Hid (numR L = (0, 201)) := by rw [HE.out, hdo]; exact rfl
    clear HE hdo
    unfold decV
    go_wp2
    go_ret2
    exact ⟨ret_pair HX.out, bw2⟩
  | some q =>
    have HX : Hid (numR L = if 0 < runN (inC [3]) (L.drop n) then (0, 201) else (n, 0)) := num_some HE.out hdo
    clear HE hdo
    have b3 : Below w.heap.size w (W2.alloc (.cells #[.int .i64 3] 3)) := bw2.alloc bw2.size _
    have HR2 : Hid (Calls Tryd.prog 29 #[.slice (if cap = n then some ⟨b, o, none⟩ else some ⟨b, o + n, none⟩) (L.length - n) (cap - n), .slice (some ⟨W2.heap.size, 0, none⟩) 1 1] (W2.alloc (.cells #[.int .i64 3] 3)) fun e w' => e = .returned (.int .i64 (runN (inC [3]) (L.drop n))) ∧ w' = (W2.alloc (.cells #[.int .i64 3] 3))) := by
      have := run_any _ (cap - n) (L.drop n) W2.heap.size 0 1 [3] _ (BA.cut (HL.out.below' b3) n hcap) (by rw [List.length_drop]; omega) (by simp) (ints_cells W2 [3] 3)
      rw [List.length_drop] at this
      exact this
    unfold decV
    by_cases hr : 0 < runN (inC [3]) (L.drop n)
    · have hr' : ((runN (inC [3]) (L.drop n) : Nat) : Int) > 0 := by omega
      have HY : Hid (numR L = (0, 201)) := by rw [HX.out, if_pos hr]; exact rfl
      clear HX
      go_wp2_with (go_at_call 29; refine HR2.out.mono ?_; rintro e W3 ⟨rfl, rfl⟩)
      all_goals go_ret2
      all_goals exact ⟨ret_pair HY.out, b3⟩
    · have hr' : ¬ ((runN (inC [3]) (L.drop n) : Nat) : Int) > 0 := by omega
      have HY : Hid (numR L = (n, 0)) := by rw [HX.out, if_neg hr]; exact rfl
      clear HX
      go_wp2_with (go_at_call 29; refine HR2.out.mono ?_; rintro e W3 ⟨rfl, rfl⟩)
      all_goals go_ret2
      all_goals exact ⟨ret_pair HY.out, b3⟩
end Go.Proofs.YthnoiohganknnabDoor

namespace Go.Proofs.YthnoiohganknnabDoor
open Go.RowKit

/-- The Kind, the size and the error of what begins bytes; en: a line ends here. -/
def lookR (L : List UInt8) (en : Bool) : Int × Nat × Int := match L with
  | [] => (5, 0, 0)
  | c :: r =>
    if clsI c.toNat = 2 then (if en then (5, 0, 0) else (0, 1, 0))
    else if clsI c.toNat = 1 then (0, 1, 0)
    else if clsI c.toNat = 6 then (5, 1, 0)
    else if clsI c.toNat = 3 then (1, wordR (c :: r))
    else if clsI c.toNat = 4 then (2, numR (c :: r))
    else if clsI c.toNat = 5 then (3, quoR (c :: r))
    else if Lib.hasPrefix (c :: r) [47, 47] then (0, comN (c :: r), 0)
    else (4, sigR (c :: r))
def tripV (p : Int × Nat × Int) : Value := .tuple #[.int .i64 p.1, .int .i64 p.2.1, .int .i64 p.2.2]
theorem ret_trip {p : Int × Nat × Int} {k : Int} {n : Nat} {e : Int} (h : p = (k, n, e)) : Ending.returned (.tuple #[.int .i64 k, .int .i64 n, .int .i64 e]) = .returned (tripV p) := by rw [h]; rfl
theorem cls_range (c : Int) : clsI c = 0 ∨ clsI c = 1 ∨ clsI c = 2 ∨ clsI c = 3 ∨ clsI c = 4 ∨ clsI c = 5 ∨ clsI c = 6 := by
  unfold clsI
  repeat' split
  all_goals simp
set_option maxRecDepth 100000 in
set_option maxHeartbeats 4000000 in
theorem look_any (sp : Option Addr) (cap : Nat) (L : List UInt8) (g : Nat) (t : Tok) (w : World) (h : BA w sp L) (hl : L.length ≤ 100000) (hcap : L.length ≤ cap)
    (h0 : w.cell? ⟨g, 0, none⟩ = some (.int .i64 t.kind)) (h1 : w.cell? ⟨g, 1, none⟩ = some (.string t.text)) :
    Calls Tryd.prog 11 #[.slice sp L.length cap, .func (.func 10) #[.pointer (some ⟨g, 0, none⟩)] #[]] w fun e w' => e = .returned (tripV (lookR L (clo t))) ∧ Below w.heap.size w w' := by
  have H0 : Hid (w.cell? ⟨g, 0, none⟩ = some (.int .i64 t.kind)) := h0
  have H1 : Hid (w.cell? ⟨g, 1, none⟩ = some (.string t.text)) := h1
  have HL : Hid (BA w sp L) := h
  clear h h0 h1
  cases L with
  | nil =>
    go_enter Tryd.func11, Tryd.ntmps11
    go_wp2
    go_ret3
    exact ⟨rfl, Below.refl _ _⟩
  | cons c r =>
    obtain ⟨b, o, rfl, hc⟩ := HL.out (by simp)
    have k0 : w.cell? ⟨b, o, none⟩ = some (.int .u8 c.toNat) := hc 0 c rfl
    have hln : ((((c :: r).length : Nat) : Int) == 0) = false := by rw [beq_eq_false_iff_ne, List.length_cons]; omega
    have hlt : (0 : Int) < ((c :: r).length : Nat) := by rw [List.length_cons]; omega
    have hw := conv_u8_i32 c
    clear hc
    obtain ⟨M, HM⟩ : ∃ M, Hid (c :: r = M) := ⟨_, rfl⟩
    have HE : Hid (lookR M (clo t) = if clsI c.toNat = 2 then (if clo t then (5, 0, 0) else (0, 1, 0)) else if clsI c.toNat = 1 then (0, 1, 0) else if clsI c.toNat = 6 then (5, 1, 0) else if clsI c.toNat = 3 then (1, wordR M)
      else if clsI c.toNat = 4 then (2, numR M) else if clsI c.toNat = 5 then (3, quoR M) else if Lib.hasPrefix M [47, 47] then (0, comN M, 0) else (4, sigR M)) := by rw [← HM.out]; exact rfl
    have HC : Hid (∃ r, M = c :: r) := ⟨r, HM.out.symm⟩
    rw [HM.out] at hln hlt HL hl hcap ⊢
    clear HM
    have HPOS : 0 < M.length := by omega
    go_enter Tryd.func11, Tryd.ntmps11
    rcases cls_range c.toNat with hk | hk | hk | hk | hk | hk | hk
    · have HX : Hid (lookR M (clo t) = if Lib.hasPrefix M [47, 47] then (0, comN M, 0) else (4, sigR M)) := by rw [HE.out, hk]; exact rfl
      clear HE
      have hcv := Lib.run_convert_bytes_const (P := Tryd.prog) w 45 5 #[.int .u8 47, .int .u8 47] 2 2 Tryd.underlying45 Tryd.underlying5
      obtain ⟨WA, HWA⟩ : ∃ WA, Hid (w.alloc (.cells #[.int .u8 47, .int .u8 47] 5 (2, 3)) = WA) := ⟨_, rfl⟩
      have b1 : Below w.heap.size w WA := by rw [← HWA.out]; exact (Below.refl _ _).alloc (Nat.le_refl _) _
      have hP2 : BA WA (some ⟨w.heap.size, 0, none⟩) [47, 47] := BA.of_rows (fun _ => ⟨w.heap.size, 0, rfl, fun i x hx j u hu => by
        have hrow : WA.heap[w.heap.size]? = some (.cells #[.int .u8 47, .int .u8 47] 5 (2, 3)) := by rw [← HWA.out]; exact heap_alloc_new _ _
        rw [cell_of_row _ _ _ _ _ _ hrow]
        have hj : j = 0 := by have := (Array.getElem?_eq_some_iff.1 hu).1; simp [byC] at this; omega
        subst hj
        rw [← hu]
        match i, hx with
        | 0, hx => have hx' : (47 : UInt8) = x := by simpa using hx
                   subst hx'; rfl
        | 1, hx => have hx' : (47 : UInt8) = x := by simpa using hx
                   subst hx'; rfl
        | k + 2, hx => simp at hx⟩)
      have HP : Hid (Calls Tryd.prog 22 #[.slice (some ⟨b, o, none⟩) M.length cap, .slice (some ⟨w.heap.size, 0, none⟩) 2 2] WA fun e w' => e = .returned (.bool (Lib.hasPrefix M [47, 47])) ∧ w' = WA) := by
        have := Tryd.bytes_HasPrefix_all (some ⟨b, o, none⟩) (some ⟨w.heap.size, 0, none⟩) M.length cap 2 2 (Lib.numsL M) (Lib.numsL [47, 47]) WA (by simp [Lib.numsL]) rfl hcap (HL.out.below b1).bytesIn hP2.bytesIn
        rw [Lib.bytesOf_numsL, Lib.bytesOf_numsL] at this
        exact this
      clear hP2
      have hcv' : (convert 45 45 (.slice (some ⟨w.heap.size, 0, none⟩) 2 2)).run Tryd.prog (w.alloc (.cells #[.int .u8 47, .int .u8 47] 5)) = .ok (.slice (some ⟨w.heap.size, 0, none⟩) 2 2) WA := by
        rw [hcv]
        exact congrArg _ HWA.out
      clear hcv
      cases hp : Lib.hasPrefix M [47, 47]
      · have HY : Hid (lookR M (clo t) = (4, sigR M)) := by rw [HX.out, hp]; exact rfl
        clear HX
        obtain ⟨n, er, HR⟩ : ∃ n er, Hid (sigR M = (n, er)) := ⟨_, _, rfl⟩
        have HS : Hid (Calls Tryd.prog 24 #[.slice (some ⟨b, o, none⟩) M.length cap] WA fun e w' => e = .returned (.tuple #[.int .i64 n, .int .i64 er]) ∧ w' = WA) := by
          obtain ⟨r', hr'⟩ := HC.out
          have := sign_any (some ⟨b, o, none⟩) cap c r' WA (hr' ▸ HL.out.below b1) (hr' ▸ hl) (hr' ▸ hcap)
          rw [← hr', HR.out] at this
          exact this
        go_wp2_with (first
          | (go_at_call 18; refine (class_any _ _).mono ?_; rintro e W1 ⟨rfl, hW1⟩; subst hW1; rw [hk])
          | (go_at_call 22; refine HP.out.mono ?_; rintro e W1 ⟨rfl, hW1⟩; rw [hW1, hp])
          | (go_at_call 24; refine HS.out.mono ?_; rintro e W1 ⟨rfl, hW1⟩; rw [hW1]))
        go_ret3
        exact ⟨ret_trip (by rw [HY.out, HR.out]), b1⟩
      · have HY : Hid (lookR M (clo t) = (0, comN M, 0)) := by rw [HX.out, hp]; exact rfl
        clear HX
        have HS : Hid (Calls Tryd.prog 23 #[.slice (some ⟨b, o, none⟩) M.length cap] WA fun e w' => e = .returned (.int .i64 (comN M)) ∧ w' = WA) := comment_any _ cap M WA (HL.out.below b1) HPOS
        go_wp2_with (first
          | (go_at_call 18; refine (class_any _ _).mono ?_; rintro e W1 ⟨rfl, hW1⟩; subst hW1; rw [hk])
          | (go_at_call 22; refine HP.out.mono ?_; rintro e W1 ⟨rfl, hW1⟩; rw [hW1, hp])
          | (go_at_call 23; refine HS.out.mono ?_; rintro e W1 ⟨rfl, hW1⟩; rw [hW1]))
        go_ret3
        exact ⟨ret_trip HY.out, b1⟩
    · have HX : Hid (lookR M (clo t) = (0, 1, 0)) := by rw [HE.out, hk]; exact rfl
      clear HE
      go_wp2_with (go_at_call 18; refine (class_any _ _).mono ?_; rintro e W1 ⟨rfl, hW1⟩; subst hW1; rw [hk])
      go_ret3
      exact ⟨ret_trip HX.out, Below.refl _ _⟩
    · have HX : Hid (lookR M (clo t) = if clo t then (5, 0, 0) else (0, 1, 0)) := by rw [HE.out, hk]; exact rfl
      clear HE
      cases hcl : clo t
      · have HY : Hid (lookR M false = (0, 1, 0)) := by rw [← hcl, HX.out, hcl]; exact rfl
        clear HX
        go_wp2_with (first
          | (go_at_call 18; refine (class_any _ _).mono ?_; rintro e W1 ⟨rfl, hW1⟩; subst hW1; rw [hk])
          | (go_at_call 10; refine (ends_any g t _ H0.out H1.out).mono ?_; rintro e W1 ⟨rfl, hW1⟩; subst hW1; rw [hcl]))
        go_ret3
        exact ⟨ret_trip HY.out, Below.refl _ _⟩
      · have HY : Hid (lookR M true = (5, 0, 0)) := by rw [← hcl, HX.out, hcl]; exact rfl
        clear HX
        go_wp2_with (first
          | (go_at_call 18; refine (class_any _ _).mono ?_; rintro e W1 ⟨rfl, hW1⟩; subst hW1; rw [hk])
          | (go_at_call 10; refine (ends_any g t _ H0.out H1.out).mono ?_; rintro e W1 ⟨rfl, hW1⟩; subst hW1; rw [hcl]))
        go_ret3
        exact ⟨ret_trip HY.out, Below.refl _ _⟩
    · have HX : Hid (lookR M (clo t) = (1, wordR M)) := by rw [HE.out, hk]; exact rfl
      clear HE
      obtain ⟨n, er, HR⟩ : ∃ n er, Hid (wordR M = (n, er)) := ⟨_, _, rfl⟩
      go_wp2_with (first
        | (go_at_call 18; refine (class_any _ _).mono ?_; rintro e W1 ⟨rfl, hW1⟩; subst hW1; rw [hk])
        | (go_at_call 19; refine (word_any _ cap M _ HL.out hl).mono ?_; rintro e W1 ⟨rfl, b1⟩; rw [HR.out, pairV]))
      go_ret3
      exact ⟨ret_trip (by rw [HX.out, HR.out]), b1⟩
    · have HX : Hid (lookR M (clo t) = (2, numR M)) := by rw [HE.out, hk]; exact rfl
      clear HE
      obtain ⟨n, er, HR⟩ : ∃ n er, Hid (numR M = (n, er)) := ⟨_, _, rfl⟩
      go_wp2_with (first
        | (go_at_call 18; refine (class_any _ _).mono ?_; rintro e W1 ⟨rfl, hW1⟩; subst hW1; rw [hk])
        | (go_at_call 20; refine (number_any _ cap M _ HL.out HPOS hl hcap).mono ?_; rintro e W1 ⟨rfl, b1⟩; rw [HR.out, pairV]))
      go_ret3
      exact ⟨ret_trip (by rw [HX.out, HR.out]), b1⟩
    · have HX : Hid (lookR M (clo t) = (3, quoR M)) := by rw [HE.out, hk]; exact rfl
      clear HE
      obtain ⟨n, er, HR⟩ : ∃ n er, Hid (quoR M = (n, er)) := ⟨_, _, rfl⟩
      go_wp2_with (first
        | (go_at_call 18; refine (class_any _ _).mono ?_; rintro e W1 ⟨rfl, hW1⟩; subst hW1; rw [hk])
        | (go_at_call 21; refine (quoted_any _ cap M _ HL.out hl hcap).mono ?_; rintro e W1 ⟨rfl, b1⟩; rw [HR.out, pairV]))
      go_ret3
      exact ⟨ret_trip (by rw [HX.out, HR.out]), b1⟩
    · have HX : Hid (lookR M (clo t) = (5, 1, 0)) := by rw [HE.out, hk]; exact rfl
      clear HE
      go_wp2_with (go_at_call 18; refine (class_any _ _).mono ?_; rintro e W1 ⟨rfl, hW1⟩; subst hW1; rw [hk])
      go_ret3
      exact ⟨ret_trip HX.out, Below.refl _ _⟩
end Go.Proofs.YthnoiohganknnabDoor
