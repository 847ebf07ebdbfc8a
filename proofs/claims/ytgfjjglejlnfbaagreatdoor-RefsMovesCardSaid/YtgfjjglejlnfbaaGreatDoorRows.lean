/-
  NARROWER THAN 'FOR EVERY INPUT', by the rows' own cells (each row's printed sentence says how): RefsMoves: laid · RefsSound: laid · RefsCommits: laid · RefsGrow: laid · RefsHold: laid.
  DERIVED. THE GIVEN ROWS OF THIS SEAT. 5 by the template 'for every input the law returns true; each argument reads behind the call as it read before'; 0 by the template 'total and deterministic' (their statements: YtgfjjglejlnfbaaGreatDoorTotals.lean).
  GIVEN WITH THE SEED: the statements are not yours to turn. If you find one false, say at which input.
  Laid BY PROGRAM, IN A SANDBOX (cutbox-rows.mjs): the forced cells as the released guide's own fill.sh prints them over the translation 7f6f09a35cab92b5… (all of the seat's roots in one cut). By AI agents, Wed Nov 11 2026. No macro, syntax, notation, axiom, sorry.
-/
import Derived.Test.YtgfjjglejlnfbaaGreatDoorChecked
import GoSem.Claim
import GoSem.ClaimJoined
import GoSem.ClaimMapViews
import Derived.JoinedTies
import Derived.KernelRfl
namespace Go.Proofs.YtgfjjglejlnfbaaGreatDoor
/- THE CELL 'sum', in the pinned program and in every row, IS THE sha256 OF THE DUMP (.gsa) THAT YtgfjjglejlnfbaaGreatDoorProg.lean LOADS. Nothing in Lean hashes anything: it is a label: what it is worth is what the hold of that sum in a sandbox is worth. -/
noncomputable def Tryz.pinned : Pinned := { name := "ytgfjjglejlnfbaagreatdoor", sum := "7f6f09a35cab92b511705c56c71659e9933b2b360300816b0116e237a20e4ae0", checked := Tryz.checked }
namespace Rows
def none {H : Type} : Left H := { results := [], args := [] }

/- WHAT THE LISTED PACKAGE-LEVEL VARIABLES READ AS WHEN THE CALL BEGINS. Each datum BY PROGRAM (the guide's laid-datum.mjs) off the statement by which the dump's own 'gosem.cut.vars' lays the variable. In a bare row this is a premise. The card (YtgfjjglejlnfbaaGreatDoorCards.lean) ties it to the program's text. -/
def laid_shipwright_sha_constants {H : Type} : DataW H := .agg [.lit (.int .u32 1116352408), .lit (.int .u32 1899447441), .lit (.int .u32 3049323471), .lit (.int .u32 3921009573), .lit (.int .u32 961987163), .lit (.int .u32 1508970993), .lit (.int .u32 2453635748), .lit (.int .u32 2870763221), .lit (.int .u32 3624381080), .lit (.int .u32 310598401), .lit (.int .u32 607225278), .lit (.int .u32 1426881987), .lit (.int .u32 1925078388), .lit (.int .u32 2162078206), .lit (.int .u32 2614888103), .lit (.int .u32 3248222580), .lit (.int .u32 3835390401), .lit (.int .u32 4022224774), .lit (.int .u32 264347078), .lit (.int .u32 604807628), .lit (.int .u32 770255983), .lit (.int .u32 1249150122), .lit (.int .u32 1555081692), .lit (.int .u32 1996064986), .lit (.int .u32 2554220882), .lit (.int .u32 2821834349), .lit (.int .u32 2952996808), .lit (.int .u32 3210313671), .lit (.int .u32 3336571891), .lit (.int .u32 3584528711), .lit (.int .u32 113926993), .lit (.int .u32 338241895), .lit (.int .u32 666307205), .lit (.int .u32 773529912), .lit (.int .u32 1294757372), .lit (.int .u32 1396182291), .lit (.int .u32 1695183700), .lit (.int .u32 1986661051), .lit (.int .u32 2177026350), .lit (.int .u32 2456956037), .lit (.int .u32 2730485921), .lit (.int .u32 2820302411), .lit (.int .u32 3259730800), .lit (.int .u32 3345764771), .lit (.int .u32 3516065817), .lit (.int .u32 3600352804), .lit (.int .u32 4094571909), .lit (.int .u32 275423344), .lit (.int .u32 430227734), .lit (.int .u32 506948616), .lit (.int .u32 659060556), .lit (.int .u32 883997877), .lit (.int .u32 958139571), .lit (.int .u32 1322822218), .lit (.int .u32 1537002063), .lit (.int .u32 1747873779), .lit (.int .u32 1955562222), .lit (.int .u32 2024104815), .lit (.int .u32 2227730452), .lit (.int .u32 2361852424), .lit (.int .u32 2428436474), .lit (.int .u32 2756734187), .lit (.int .u32 3204031479), .lit (.int .u32 3329325298)]
def laid_shipwright_sha_start {H : Type} : DataW H := .agg [.lit (.int .u32 1779033703), .lit (.int .u32 3144134277), .lit (.int .u32 1013904242), .lit (.int .u32 2773480762), .lit (.int .u32 1359893119), .lit (.int .u32 2600822924), .lit (.int .u32 528734635), .lit (.int .u32 1541459225)]

/-- 'shipwrightlaw09.RefsMoves': WHATEVER THE INPUT: true; the input reads as it did. -/
def refsMovesSpec : ChangeSpec := { name := "refsMoves", fn := fun _ => fun
  | [d1, d2, d3] => { results := [.lit (.bool true)], args := [d1, d2, d3] }
  | _ => none }
def refsMovesRow : OpenClaim := { program := "ytgfjjglejlnfbaagreatdoor", sum := "7f6f09a35cab92b511705c56c71659e9933b2b360300816b0116e237a20e4ae0", func := "shipwright/shipwrightlaw09.RefsMoves", spec := "refsMoves", inPlace := ["internal/bytealg.abigen_runtime_cmpstring", "internal/bytealg.IndexByteString", "internal/bytealg.IndexString"], unfollowed := true, recurses := true, named := ["internal/bytealg.MaxLen", "shipwright/sha.start", "shipwright/sha.constants"], plainKeys := false, apart := false, laid := [("shipwright/sha.constants", laid_shipwright_sha_constants), ("shipwright/sha.start", laid_shipwright_sha_start)] }
def RefsMovesSaid : Prop := refsMovesRow.holds Tryz.pinned (OpenSpec.ofChange refsMovesSpec)

/-- ITS FALSE NEIGHBOUR: 'it returns false'. Refute it at one input. -/
def refsMovesWrong : ChangeSpec := { name := "refsMoves", fn := fun _ => fun
  | [d1, d2, d3] => { results := [.lit (.bool false)], args := [d1, d2, d3] }
  | _ => none }
def RefsMovesWrongFalsely : Prop := refsMovesRow.holds Tryz.pinned (OpenSpec.ofChange refsMovesWrong)

/-- 'shipwrightlaw09.RefsSound': WHATEVER THE INPUT: true; the input reads as it did. -/
def refsSoundSpec : ChangeSpec := { name := "refsSound", fn := fun _ => fun
  | [d1, d2] => { results := [.lit (.bool true)], args := [d1, d2] }
  | _ => none }
def refsSoundRow : OpenClaim := { program := "ytgfjjglejlnfbaagreatdoor", sum := "7f6f09a35cab92b511705c56c71659e9933b2b360300816b0116e237a20e4ae0", func := "shipwright/shipwrightlaw09.RefsSound", spec := "refsSound", inPlace := ["internal/bytealg.abigen_runtime_cmpstring", "internal/bytealg.IndexByteString", "internal/bytealg.IndexString"], unfollowed := true, recurses := true, named := ["internal/bytealg.MaxLen", "shipwright/sha.start", "shipwright/sha.constants"], plainKeys := false, apart := false, laid := [("shipwright/sha.constants", laid_shipwright_sha_constants), ("shipwright/sha.start", laid_shipwright_sha_start)] }
def RefsSoundSaid : Prop := refsSoundRow.holds Tryz.pinned (OpenSpec.ofChange refsSoundSpec)

/-- ITS FALSE NEIGHBOUR: 'it returns false'. Refute it at one input. -/
def refsSoundWrong : ChangeSpec := { name := "refsSound", fn := fun _ => fun
  | [d1, d2] => { results := [.lit (.bool false)], args := [d1, d2] }
  | _ => none }
def RefsSoundWrongFalsely : Prop := refsSoundRow.holds Tryz.pinned (OpenSpec.ofChange refsSoundWrong)

/-- 'shipwrightlaw09.RefsCommits': WHATEVER THE INPUT: true; the input reads as it did. -/
def refsCommitsSpec : ChangeSpec := { name := "refsCommits", fn := fun _ => fun
  | [d1, d2, d3] => { results := [.lit (.bool true)], args := [d1, d2, d3] }
  | _ => none }
def refsCommitsRow : OpenClaim := { program := "ytgfjjglejlnfbaagreatdoor", sum := "7f6f09a35cab92b511705c56c71659e9933b2b360300816b0116e237a20e4ae0", func := "shipwright/shipwrightlaw09.RefsCommits", spec := "refsCommits", inPlace := ["internal/bytealg.abigen_runtime_cmpstring", "internal/bytealg.IndexByteString", "internal/bytealg.IndexString"], unfollowed := true, recurses := true, named := ["internal/bytealg.MaxLen", "shipwright/sha.start", "shipwright/sha.constants"], plainKeys := false, apart := false, laid := [("shipwright/sha.constants", laid_shipwright_sha_constants), ("shipwright/sha.start", laid_shipwright_sha_start)] }
def RefsCommitsSaid : Prop := refsCommitsRow.holds Tryz.pinned (OpenSpec.ofChange refsCommitsSpec)

/-- ITS FALSE NEIGHBOUR: 'it returns false'. Refute it at one input. -/
def refsCommitsWrong : ChangeSpec := { name := "refsCommits", fn := fun _ => fun
  | [d1, d2, d3] => { results := [.lit (.bool false)], args := [d1, d2, d3] }
  | _ => none }
def RefsCommitsWrongFalsely : Prop := refsCommitsRow.holds Tryz.pinned (OpenSpec.ofChange refsCommitsWrong)

/-- 'shipwrightlaw09.RefsGrow': WHATEVER THE INPUT: true; the input reads as it did. -/
def refsGrowSpec : ChangeSpec := { name := "refsGrow", fn := fun _ => fun
  | [d] => { results := [.lit (.bool true)], args := [d] }
  | _ => none }
def refsGrowRow : OpenClaim := { program := "ytgfjjglejlnfbaagreatdoor", sum := "7f6f09a35cab92b511705c56c71659e9933b2b360300816b0116e237a20e4ae0", func := "shipwright/shipwrightlaw09.RefsGrow", spec := "refsGrow", inPlace := ["internal/bytealg.abigen_runtime_cmpstring", "internal/bytealg.IndexByteString", "internal/bytealg.IndexString"], unfollowed := true, recurses := true, named := ["internal/bytealg.MaxLen", "shipwright/sha.start", "shipwright/sha.constants"], plainKeys := false, apart := false, laid := [("shipwright/sha.constants", laid_shipwright_sha_constants), ("shipwright/sha.start", laid_shipwright_sha_start)] }
def RefsGrowSaid : Prop := refsGrowRow.holds Tryz.pinned (OpenSpec.ofChange refsGrowSpec)

/-- ITS FALSE NEIGHBOUR: 'it returns false'. Refute it at one input. -/
def refsGrowWrong : ChangeSpec := { name := "refsGrow", fn := fun _ => fun
  | [d] => { results := [.lit (.bool false)], args := [d] }
  | _ => none }
def RefsGrowWrongFalsely : Prop := refsGrowRow.holds Tryz.pinned (OpenSpec.ofChange refsGrowWrong)

/-- 'shipwrightlaw09.RefsHold': WHATEVER THE INPUT: true; the input reads as it did. -/
def refsHoldSpec : ChangeSpec := { name := "refsHold", fn := fun _ => fun
  | [d1, d2] => { results := [.lit (.bool true)], args := [d1, d2] }
  | _ => none }
def refsHoldRow : OpenClaim := { program := "ytgfjjglejlnfbaagreatdoor", sum := "7f6f09a35cab92b511705c56c71659e9933b2b360300816b0116e237a20e4ae0", func := "shipwright/shipwrightlaw09.RefsHold", spec := "refsHold", inPlace := ["internal/bytealg.abigen_runtime_cmpstring", "internal/bytealg.IndexByteString", "internal/bytealg.IndexString"], unfollowed := true, recurses := true, named := ["internal/bytealg.MaxLen", "shipwright/sha.start", "shipwright/sha.constants"], plainKeys := false, apart := false, laid := [("shipwright/sha.constants", laid_shipwright_sha_constants), ("shipwright/sha.start", laid_shipwright_sha_start)] }
def RefsHoldSaid : Prop := refsHoldRow.holds Tryz.pinned (OpenSpec.ofChange refsHoldSpec)

/-- ITS FALSE NEIGHBOUR: 'it returns false'. Refute it at one input. -/
def refsHoldWrong : ChangeSpec := { name := "refsHold", fn := fun _ => fun
  | [d1, d2] => { results := [.lit (.bool false)], args := [d1, d2] }
  | _ => none }
def RefsHoldWrongFalsely : Prop := refsHoldRow.holds Tryz.pinned (OpenSpec.ofChange refsHoldWrong)

/- THE SECOND FORM. 'bulk': how many values and letters a reading holds, each counted each time it is reached (what is shared counts as often as it is met; a slice's spare places count too). A statement '..UptoSaid' is the law's where the arguments, and the package variables that the reading takes, are together of bulk at most 1048576: NARROWER than '..Said'. Prove '..Said' where nothing that the law and all that it calls make is longer than what came in: it says more and counts as full. Else prove '..UptoSaid'. A law counts once. -/
mutual
def uptoBulk {H : Type} : DataW H → Nat
  | .lit (.string bytes) => bytes.length + 1
  | .lit _ => 1
  | .nil => 1
  | .ptr d => uptoBulk d + 1
  | .slice elems spare => uptoBulkAll elems + uptoBulkAll spare + 1
  | .agg parts => uptoBulkAll parts + 1
  | .iface _ d => uptoBulk d + 1
  | .map entries => uptoBulkEntries entries + 1
  | .held _ => 1
def uptoBulkAll {H : Type} : List (DataW H) → Nat
  | [] => 0
  | d :: r => uptoBulk d + uptoBulkAll r
def uptoBulkEntries {H : Type} : List (Lit × DataW H) → Nat
  | [] => 0
  | x :: r => uptoBulkEntry x + uptoBulkEntries r
def uptoBulkEntry {H : Type} : Lit × DataW H → Nat
  | (.string bytes, d) => bytes.length + uptoBulk d + 1
  | (_, d) => uptoBulk d + 1
 end
def uptoSmall : (H : Type) → List (DataW H) → Bool := fun _ ds => decide (uptoBulkAll ds ≤ 1048576)
def OpenSpec.upto (s : _root_.Go.ChangeSpec) : _root_.Go.OpenSpec := { _root_.Go.OpenSpec.ofChange s with cond := some uptoSmall }

/-- 'shipwrightlaw09.RefsMoves', WHERE WHAT IT READS IS OF BULK AT MOST 1048576: true; the input reads as it did. -/
def refsMovesUptoRow : OpenClaim := { program := "ytgfjjglejlnfbaagreatdoor", sum := "7f6f09a35cab92b511705c56c71659e9933b2b360300816b0116e237a20e4ae0", func := "shipwright/shipwrightlaw09.RefsMoves", spec := "refsMoves", inPlace := ["internal/bytealg.abigen_runtime_cmpstring", "internal/bytealg.IndexByteString", "internal/bytealg.IndexString"], unfollowed := true, recurses := true, named := ["internal/bytealg.MaxLen", "shipwright/sha.start", "shipwright/sha.constants"], plainKeys := false, apart := false, laid := [("shipwright/sha.constants", laid_shipwright_sha_constants), ("shipwright/sha.start", laid_shipwright_sha_start)], narrowed := true }
def RefsMovesUptoSaid : Prop := refsMovesUptoRow.holds Tryz.pinned (OpenSpec.upto refsMovesSpec)

/-- 'shipwrightlaw09.RefsSound', WHERE WHAT IT READS IS OF BULK AT MOST 1048576: true; the input reads as it did. -/
def refsSoundUptoRow : OpenClaim := { program := "ytgfjjglejlnfbaagreatdoor", sum := "7f6f09a35cab92b511705c56c71659e9933b2b360300816b0116e237a20e4ae0", func := "shipwright/shipwrightlaw09.RefsSound", spec := "refsSound", inPlace := ["internal/bytealg.abigen_runtime_cmpstring", "internal/bytealg.IndexByteString", "internal/bytealg.IndexString"], unfollowed := true, recurses := true, named := ["internal/bytealg.MaxLen", "shipwright/sha.start", "shipwright/sha.constants"], plainKeys := false, apart := false, laid := [("shipwright/sha.constants", laid_shipwright_sha_constants), ("shipwright/sha.start", laid_shipwright_sha_start)], narrowed := true }
def RefsSoundUptoSaid : Prop := refsSoundUptoRow.holds Tryz.pinned (OpenSpec.upto refsSoundSpec)

/-- 'shipwrightlaw09.RefsCommits', WHERE WHAT IT READS IS OF BULK AT MOST 1048576: true; the input reads as it did. -/
def refsCommitsUptoRow : OpenClaim := { program := "ytgfjjglejlnfbaagreatdoor", sum := "7f6f09a35cab92b511705c56c71659e9933b2b360300816b0116e237a20e4ae0", func := "shipwright/shipwrightlaw09.RefsCommits", spec := "refsCommits", inPlace := ["internal/bytealg.abigen_runtime_cmpstring", "internal/bytealg.IndexByteString", "internal/bytealg.IndexString"], unfollowed := true, recurses := true, named := ["internal/bytealg.MaxLen", "shipwright/sha.start", "shipwright/sha.constants"], plainKeys := false, apart := false, laid := [("shipwright/sha.constants", laid_shipwright_sha_constants), ("shipwright/sha.start", laid_shipwright_sha_start)], narrowed := true }
def RefsCommitsUptoSaid : Prop := refsCommitsUptoRow.holds Tryz.pinned (OpenSpec.upto refsCommitsSpec)

/-- 'shipwrightlaw09.RefsGrow', WHERE WHAT IT READS IS OF BULK AT MOST 1048576: true; the input reads as it did. -/
def refsGrowUptoRow : OpenClaim := { program := "ytgfjjglejlnfbaagreatdoor", sum := "7f6f09a35cab92b511705c56c71659e9933b2b360300816b0116e237a20e4ae0", func := "shipwright/shipwrightlaw09.RefsGrow", spec := "refsGrow", inPlace := ["internal/bytealg.abigen_runtime_cmpstring", "internal/bytealg.IndexByteString", "internal/bytealg.IndexString"], unfollowed := true, recurses := true, named := ["internal/bytealg.MaxLen", "shipwright/sha.start", "shipwright/sha.constants"], plainKeys := false, apart := false, laid := [("shipwright/sha.constants", laid_shipwright_sha_constants), ("shipwright/sha.start", laid_shipwright_sha_start)], narrowed := true }
def RefsGrowUptoSaid : Prop := refsGrowUptoRow.holds Tryz.pinned (OpenSpec.upto refsGrowSpec)

/-- 'shipwrightlaw09.RefsHold', WHERE WHAT IT READS IS OF BULK AT MOST 1048576: true; the input reads as it did. -/
def refsHoldUptoRow : OpenClaim := { program := "ytgfjjglejlnfbaagreatdoor", sum := "7f6f09a35cab92b511705c56c71659e9933b2b360300816b0116e237a20e4ae0", func := "shipwright/shipwrightlaw09.RefsHold", spec := "refsHold", inPlace := ["internal/bytealg.abigen_runtime_cmpstring", "internal/bytealg.IndexByteString", "internal/bytealg.IndexString"], unfollowed := true, recurses := true, named := ["internal/bytealg.MaxLen", "shipwright/sha.start", "shipwright/sha.constants"], plainKeys := false, apart := false, laid := [("shipwright/sha.constants", laid_shipwright_sha_constants), ("shipwright/sha.start", laid_shipwright_sha_start)], narrowed := true }
def RefsHoldUptoSaid : Prop := refsHoldUptoRow.holds Tryz.pinned (OpenSpec.upto refsHoldSpec)

end Rows
end Go.Proofs.YtgfjjglejlnfbaaGreatDoor
