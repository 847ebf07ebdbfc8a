/- Tokens, what a sign is, which tokens close; the contracts of lex's class, plain, bare, ends and paired. -/
import Derived.Test.YthnoiohganknnabDoorMObs
import Derived.Laws.RangeAny
namespace Go.Proofs.YthnoiohganknnabDoor
open Go.RowKit

theorem ret_bool {a b : Bool} (h : a = b) : Ending.returned (.bool a) = .returned (.bool b) := by rw [h]

/-- What a sign is. -/
def clsI (c : Int) : Int :=
  if c = 9 ∨ c = 13 ∨ c = 32 then 1 else if c = 10 then 2 else if (97 ≤ c ∧ c ≤ 122) ∨ (65 ≤ c ∧ c ≤ 90) ∨ c = 95 then 3
  else if 48 ≤ c ∧ c ≤ 57 then 4 else if c = 34 then 5 else if c = 59 then 6 else 0
set_option maxRecDepth 100000 in
set_option maxHeartbeats 1000000 in
theorem class_any (r : Int) (w : World) : Calls Tryd.prog 18 #[.int .i32 r] w fun e w' => e = .returned (.int .i64 (clsI r)) ∧ w' = w := by
  go_enter Tryd.func18, Tryd.ntmps18
  go_wp2
  all_goals go_ret
  all_goals (refine ⟨ret_int ?_, rfl⟩; unfold clsI; repeat' split; all_goals first | rfl | omega | (simp_all; done) | (simp_all; omega))

/-- May a sign stand in a text as it is? -/
def plnB (c : Int) : Bool := decide (32 ≤ c) && decide (c ≤ 126)
set_option maxRecDepth 100000 in
theorem plain_any (r : Int) (w : World) : Calls Tryd.prog 49 #[.int .i32 r] w fun e w' => e = .returned (.bool (plnB r)) ∧ w' = w := by
  go_enter Tryd.func49, Tryd.ntmps49
  go_wp2
  all_goals go_ret
  all_goals (refine ⟨ret_bool ?_, rfl⟩; rw [Bool.eq_iff_iff]; simp_all [plnB]; try omega)

/-- A token. -/
structure Tok where
  kind : Int
  text : ByteArray
  pos : Int
def Tok.cells (t : Tok) : Array Value := #[.int .i64 t.kind, .string t.text, .int .i64 t.pos]
theorem Tok.size (t : Tok) : t.cells.size = 3 := rfl
instance : Inhabited Tok := ⟨⟨0, ⟨#[]⟩, 0⟩⟩
/-- Is a token a closing one? -/
def clo (t : Tok) : Bool := (t.kind == 1) || (t.kind == 2) || (t.kind == 3) || ((t.kind == 4) && ((t.text.toList == [41]) || (t.text.toList == [93]) || (t.text.toList == [125])))
/-- Is it an end without Text? -/
def bareB (t : Tok) : Bool := (t.kind == 5) && t.text.toList.isEmpty

set_option maxRecDepth 100000 in
set_option maxHeartbeats 1000000 in
theorem ends_any (g : Nat) (t : Tok) (w : World) (h0 : w.cell? ⟨g, 0, none⟩ = some (.int .i64 t.kind)) (h1 : w.cell? ⟨g, 1, none⟩ = some (.string t.text)) :
    Calls Tryd.prog 10 #[.pointer (some ⟨g, 0, none⟩)] w fun e w' => e = .returned (.bool (clo t)) ∧ w' = w := by
  go_enter Tryd.func10, Tryd.ntmps10
  go_wp2
  all_goals go_ret
  all_goals (refine ⟨ret_bool ?_, rfl⟩; clear h0 h1; simp_all [clo])
set_option maxRecDepth 100000 in
set_option maxHeartbeats 1000000 in
theorem bare_any (t : Tok) (w : World) : Calls Tryd.prog 16 #[.agg t.cells] w fun e w' => e = .returned (.bool (bareB t)) ∧ Below w.heap.size w w' := by
  unfold Tok.cells
  go_enter Tryd.func16, Tryd.ntmps16
  go_wp2
  all_goals go_ret
  all_goals (refine ⟨ret_bool ?_, (Below.refl _ _).alloc (Nat.le_refl _) _⟩; simp_all [bareB])

/-- Bytes in memory. -/
def BA (w : World) (sp : Option Addr) (L : List UInt8) : Prop := 0 < L.length → ∃ b o, sp = some ⟨b, o, none⟩ ∧ ∀ i c, L[i]? = some c → w.cell? ⟨b, o + i, none⟩ = some (.int .u8 c.toNat)
theorem BA.nil (w : World) (sp : Option Addr) : BA w sp [] := fun h => by simp at h
theorem BA.below {w w' : World} {sp : Option Addr} {L : List UInt8} (h : BA w sp L) (hb : Below w.heap.size w w') : BA w' sp L := fun hl => by
  obtain ⟨b, o, e, hc⟩ := h hl
  exact ⟨b, o, e, fun i c hi => (hb.cell (block_lt_of_cell (hc i c hi))).trans (hc i c hi)⟩
/-- What a backslash and the first byte of the rest say; 0: no pair. -/
def pairI : List UInt8 → Int
  | [] => 0
  | c :: _ => if c.toNat = 34 ∨ c.toNat = 92 then c.toNat else if c.toNat = 110 then 10 else 0
set_option maxRecDepth 100000 in
set_option maxHeartbeats 1000000 in
theorem paired_any (sp : Option Addr) (cap : Nat) (L : List UInt8) (w : World) (h : BA w sp L) (hl : L.length ≤ 1000000) :
    Calls Tryd.prog 48 #[.slice sp L.length cap] w fun e w' => e = .returned (.int .u8 (pairI L)) ∧ w' = w := by
  cases L with
  | nil =>
    go_enter Tryd.func48, Tryd.ntmps48
    go_wp2
    go_ret
    exact ⟨rfl, rfl⟩
  | cons c r =>
    obtain ⟨b, o, rfl, hc⟩ := h (by simp)
    have h0 : w.cell? ⟨b, o, none⟩ = some (.int .u8 c.toNat) := hc 0 c rfl
    have hln : ((((c :: r).length : Nat) : Int) == 0) = false := by rw [beq_eq_false_iff_ne, List.length_cons]; omega
    have hlt : (0 : Int) < ((c :: r).length : Nat) := by rw [List.length_cons]; omega
    clear hc h hl
    go_enter Tryd.func48, Tryd.ntmps48
    go_wp2
    all_goals go_ret
    all_goals (refine ⟨ret_int ?_, rfl⟩; clear h0; unfold pairI; repeat' split; all_goals first | rfl | omega | (simp_all; done) | (simp_all; omega))
end Go.Proofs.YthnoiohganknnabDoor
