/-
  DERIVED. GIVEN WITH THE SEED: THE CARDS: each row of YtgfjjglejlnfbaaGreatDoorRows.lean that lists a variable, with what it lists TIED to the program's text (the seventh form; the later family's looks); each row that meets fmt, with fmt's text TOLD by the authors' own Lean function (tested against real Go, not proved from fmt's source: count such statements apart). THE CARD IS WHAT COUNTS. Prove the row's statement (the work); the ties are given (YtgfjjglejlnfbaaGreatDoorTie.lean); close each card by the builder's one call (the guide's Derived/Test/ToyasCard.lean, 'card_holds'). Laid BY PROGRAM, IN A SANDBOX (cutbox-door.mjs). By AI agents, Wed Nov 11 2026. No macro, syntax, notation, axiom, sorry.
-/
import Derived.Test.YtgfjjglejlnfbaaGreatDoorRows
import GoSem.ClaimSeven
namespace Go.Proofs.YtgfjjglejlnfbaaGreatDoor
namespace Rows

/-- THE TIED CARD OF 'shipwrightlaw09.RefsMoves'. -/
def refsMovesCard : Claim7 := { stood := { row := refsMovesRow, standIns := [], harness := (true, "ad50d20f973a155036c7fe83bd76ede2a62de474233f986e822eb3e5a471ff19"), looks := false }, kinds := [], alts := [], laidByText := true, laidKinds := [.data, .data], laidTests := true, laidLooks := .later }
def RefsMovesCardSaid : Prop := Claim7.holds Tryz.pinned (.plain (OpenSpec.ofChange refsMovesSpec)) refsMovesCard

/-- THE TIED CARD OF 'shipwrightlaw09.RefsSound'. -/
def refsSoundCard : Claim7 := { stood := { row := refsSoundRow, standIns := [], harness := (true, "ad50d20f973a155036c7fe83bd76ede2a62de474233f986e822eb3e5a471ff19"), looks := false }, kinds := [], alts := [], laidByText := true, laidKinds := [.data, .data], laidTests := true, laidLooks := .later }
def RefsSoundCardSaid : Prop := Claim7.holds Tryz.pinned (.plain (OpenSpec.ofChange refsSoundSpec)) refsSoundCard

/-- THE TIED CARD OF 'shipwrightlaw09.RefsCommits'. -/
def refsCommitsCard : Claim7 := { stood := { row := refsCommitsRow, standIns := [], harness := (true, "ad50d20f973a155036c7fe83bd76ede2a62de474233f986e822eb3e5a471ff19"), looks := false }, kinds := [], alts := [], laidByText := true, laidKinds := [.data, .data], laidTests := true, laidLooks := .later }
def RefsCommitsCardSaid : Prop := Claim7.holds Tryz.pinned (.plain (OpenSpec.ofChange refsCommitsSpec)) refsCommitsCard

/-- THE TIED CARD OF 'shipwrightlaw09.RefsGrow'. -/
def refsGrowCard : Claim7 := { stood := { row := refsGrowRow, standIns := [], harness := (true, "ad50d20f973a155036c7fe83bd76ede2a62de474233f986e822eb3e5a471ff19"), looks := false }, kinds := [], alts := [], laidByText := true, laidKinds := [.data, .data], laidTests := true, laidLooks := .later }
def RefsGrowCardSaid : Prop := Claim7.holds Tryz.pinned (.plain (OpenSpec.ofChange refsGrowSpec)) refsGrowCard

/-- THE TIED CARD OF 'shipwrightlaw09.RefsHold'. -/
def refsHoldCard : Claim7 := { stood := { row := refsHoldRow, standIns := [], harness := (true, "ad50d20f973a155036c7fe83bd76ede2a62de474233f986e822eb3e5a471ff19"), looks := false }, kinds := [], alts := [], laidByText := true, laidKinds := [.data, .data], laidTests := true, laidLooks := .later }
def RefsHoldCardSaid : Prop := Claim7.holds Tryz.pinned (.plain (OpenSpec.ofChange refsHoldSpec)) refsHoldCard

/-- THE SECOND FORM's CARD OF 'shipwrightlaw09.RefsMoves'. -/
def refsMovesUptoCard : Claim7 := { stood := { row := refsMovesUptoRow, standIns := [], harness := (true, "ad50d20f973a155036c7fe83bd76ede2a62de474233f986e822eb3e5a471ff19"), looks := false }, kinds := [], alts := [], laidByText := true, laidKinds := [.data, .data], laidTests := true, laidLooks := .later }
def RefsMovesUptoCardSaid : Prop := Claim7.holds Tryz.pinned (.plain (OpenSpec.upto refsMovesSpec)) refsMovesUptoCard

/-- THE SECOND FORM's CARD OF 'shipwrightlaw09.RefsSound'. -/
def refsSoundUptoCard : Claim7 := { stood := { row := refsSoundUptoRow, standIns := [], harness := (true, "ad50d20f973a155036c7fe83bd76ede2a62de474233f986e822eb3e5a471ff19"), looks := false }, kinds := [], alts := [], laidByText := true, laidKinds := [.data, .data], laidTests := true, laidLooks := .later }
def RefsSoundUptoCardSaid : Prop := Claim7.holds Tryz.pinned (.plain (OpenSpec.upto refsSoundSpec)) refsSoundUptoCard

/-- THE SECOND FORM's CARD OF 'shipwrightlaw09.RefsCommits'. -/
def refsCommitsUptoCard : Claim7 := { stood := { row := refsCommitsUptoRow, standIns := [], harness := (true, "ad50d20f973a155036c7fe83bd76ede2a62de474233f986e822eb3e5a471ff19"), looks := false }, kinds := [], alts := [], laidByText := true, laidKinds := [.data, .data], laidTests := true, laidLooks := .later }
def RefsCommitsUptoCardSaid : Prop := Claim7.holds Tryz.pinned (.plain (OpenSpec.upto refsCommitsSpec)) refsCommitsUptoCard

/-- THE SECOND FORM's CARD OF 'shipwrightlaw09.RefsGrow'. -/
def refsGrowUptoCard : Claim7 := { stood := { row := refsGrowUptoRow, standIns := [], harness := (true, "ad50d20f973a155036c7fe83bd76ede2a62de474233f986e822eb3e5a471ff19"), looks := false }, kinds := [], alts := [], laidByText := true, laidKinds := [.data, .data], laidTests := true, laidLooks := .later }
def RefsGrowUptoCardSaid : Prop := Claim7.holds Tryz.pinned (.plain (OpenSpec.upto refsGrowSpec)) refsGrowUptoCard

/-- THE SECOND FORM's CARD OF 'shipwrightlaw09.RefsHold'. -/
def refsHoldUptoCard : Claim7 := { stood := { row := refsHoldUptoRow, standIns := [], harness := (true, "ad50d20f973a155036c7fe83bd76ede2a62de474233f986e822eb3e5a471ff19"), looks := false }, kinds := [], alts := [], laidByText := true, laidKinds := [.data, .data], laidTests := true, laidLooks := .later }
def RefsHoldUptoCardSaid : Prop := Claim7.holds Tryz.pinned (.plain (OpenSpec.upto refsHoldSpec)) refsHoldUptoCard
end Rows
end Go.Proofs.YtgfjjglejlnfbaaGreatDoor
