/- The contract of object.Decode, whole. -/
import Derived.Test.YtnaoaeapffgojaaDecT
import Derived.Test.YtnaoaeapffgojaaDecK
import Derived.Test.YtnaoaeapffgojaaDecB
namespace Go.Proofs.Ytnaoaeapffgojaa
open Go.RowKit

/-- The first byte. -/
def decX (L : List Int) : Int := numOf (tk L (0, 0) 1).2
/-- Where the Reader is behind all that is read. -/
def decP (L : List Int) : Nat × Int := if decX L = 1 then (bB L).1 else if decX L = 2 then (decE L).1 else if decX L = 3 then (cS L).1 else (tk L (0, 0) 1).1
/-- What is read: its lists, and the object with its slices. -/
def decC (L : List Int) : Co := if decX L = 1 then blobCo L else if decX L = 2 then ⟨0, fun _ => 0, (decE L).2, []⟩ else if decX L = 3 then commitCo L else ⟨0, fun _ => 0, [], []⟩
def decO (L : List Int) (sq : Option Addr) (cq : Nat) : Ob :=
  if decX L = 1 then blobOb L sq cq else if decX L = 2 then { zeroOb with kind := 2, es := .slice sq (decE L).2.length cq } else if decX L = 3 then commitOb L sq cq else { zeroOb with kind := decX L }
theorem decode_any (sp : Option Addr) (n cap : Nat) (src : Nat → Int) (w : World) (hsrc : SrcAt w .u8 sp n src) (hcap : sp = none → cap = 0 ∧ n = 0) (hn : n ≤ 100000) (hok : ∀ i, i < n → 0 ≤ src i ∧ src i ≤ 255) :
    Calls Try.prog 7 #[.slice sp n cap] w fun e w' => ∃ sq cq, DecPost ((List.range n).map src) (decO ((List.range n).map src) sq cq) (decC ((List.range n).map src)) (decP ((List.range n).map src)) w e w' := by
  by_cases h1 : decX ((List.range n).map src) = 1
  · simp only [decO, decC, decP, h1, if_true]
    exact decode_blob sp n cap src w hsrc hcap hn hok h1
  by_cases h2 : decX ((List.range n).map src) = 2
  · simp only [decO, decC, decP, h2, if_true, show ¬ (2 : Int) = 1 by omega, if_false]
    exact decode_tree sp n cap src w hsrc hcap hn hok h2
  by_cases h3 : decX ((List.range n).map src) = 3
  · simp only [decO, decC, decP, h3, if_true, show ¬ (3 : Int) = 1 by omega, show ¬ (3 : Int) = 2 by omega, if_false]
    exact decode_commit sp n cap src w hsrc hcap hn hok h3
  simp only [decO, decC, decP, h1, h2, h3, if_false]
  exact (decode_other sp n cap src w hsrc hcap hn hok ⟨h1, h2, h3⟩).mono fun e w' h => ⟨none, 0, h⟩
theorem dec_fit {L : List Int} (hL : ∀ x ∈ L, 0 ≤ x ∧ x ≤ 255) (sq : Option Addr) (cq : Nat) : Fit (decO L sq cq) (decC L) := by
  have hz : ∀ i : Nat, (0 : Int) ≤ (fun _ => 0 : Nat → Int) i ∧ (fun _ => 0 : Nat → Int) i ≤ 255 := fun _ => ⟨Int.le_refl 0, by show (0 : Int) ≤ 255; omega⟩
  have hn : (0 : Int) ≤ 0 ∧ (0 : Int) < 4294967296 := by omega
  unfold decO decC
  by_cases h1 : decX L = 1
  · simp only [h1, if_true]
    exact ⟨fun e he => by simp [blobCo] at he, hz, fun f hf => by simp [blobCo] at hf, hn⟩
  by_cases h2 : decX L = 2
  · simp only [h2, if_true, show ¬ (2 : Int) = 1 by omega, if_false]
    exact ⟨tkEnts_ok hL _ _, hz, fun f hf => by simp at hf, hn⟩
  by_cases h3 : decX L = 3
  · simp only [h3, if_true, show ¬ (3 : Int) = 1 by omega, show ¬ (3 : Int) = 2 by omega, if_false]
    refine ⟨fun e he => by simp [commitCo] at he, fun i => tkId_ok hL _ i, tkIds_ok hL _ _, ?_⟩
    have := numOf_len (tk_ok hL (cP L).1 4) (tk_len L (cP L).1 4)
    have h4 : numOf (tk L (cP L).1 4).2 < 4294967296 := by simpa using this.2
    exact ⟨this.1, h4⟩
  simp only [h1, h2, h3, if_false]
  exact ⟨fun e he => by simp at he, hz, fun f hf => by simp at hf, hn⟩
end Go.Proofs.Ytnaoaeapffgojaa
