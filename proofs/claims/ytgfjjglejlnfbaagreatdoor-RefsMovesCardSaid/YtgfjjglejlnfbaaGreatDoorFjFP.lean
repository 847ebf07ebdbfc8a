/- For every branches, every move and every name the law RefsMoves returns true: what the program's Apply and Get tell, which branches may be and which are the same is as the document says (the law itself answers true at once past 100 branches, or a name of more than 1000 bytes). The arguments read afterwards as before. Conditions: the row's own: the two listed tables of package sha hold what the program's text lays (tied by the card). -/
import Derived.Test.YtgfjjglejlnfbaaGreatDoorFjF
import Derived.Test.YtgfjjglejlnfbaaGreatDoorFiI
namespace Go.Proofs.YtgfjjglejlnfbaaGreatDoor
open Go.ChangeShapes Go.WideShapes Go.ChangeAt Go.RowKit
open Go.ChangeMaps (open_string shut_string)

def zeroMv : Mv := ⟨⟨#[]⟩, fun _ => 0, fun _ => 0⟩
set_option maxRecDepth 100000 in
/-- Branches that came in, their names no longer than can be. -/
theorem open_refs2 {H : Type} {enc : TypeId × Value → H} {W : World} {base b0 : Nat} {spare : Nat → Bool} {held : Bool} {r : Reach} {v : Value} {d : DataW H} {p : List MemPlace}
    (hv : Value.okWide Tryz.prog W r b0 24 v) (h : DataW.Trod enc Tryz.prog W base spare held 24 v d p) : ∃ (sp : Option Addr) (cap : Nat) (xs : List Re), v = .agg #[.slice sp xs.length cap] ∧ RowsAt W 33 Re.cells sp xs ∧ (∀ e ∈ xs, e.name.size ≤ maxLen) ∧ (sp = none → xs.length = 0 ∧ cap = 0) := by
  obtain ⟨cs, rfl⟩ := open_agg (by kernel_rfl) hv
  obtain ⟨fuel, hf⟩ := h
  obtain ⟨hlen, n, hf'⟩ := open_fields (by kernel_rfl) fields_refs hf
  obtain ⟨y0, h0⟩ := hf' 0 _ _ rfl
  obtain ⟨sp, cap, xs, e, hr, hq, -, hn⟩ := open_rows (m := 33) (f := Re.cells) (Q := fun e => e.name.size ≤ maxLen) Tryz.underlying22 (by kernel_rfl) (by omega) (fun n cs' y hy => open_ref hy) h0
  have hl : (Value.cells (.agg cs)).toList.length = 1 := hlen.trans (by kernel_rfl)
  rw [show Tryz.prog.cellsOf 22 = 1 by kernel_rfl, List.drop_zero, List.take_of_length_le (by omega)] at e
  exact ⟨sp, cap, xs, congrArg Value.agg (Array.toList_inj.1 e), hr, hq, hn⟩
set_option maxRecDepth 100000 in
theorem moves_lifted (os : Os) (started : os.Started) (H : Type) (enc : TypeId × Value → H) :
    ReturnsInHanded {} Tryz.checked os 3 .any (fun w args => (Rows.refsMovesSpec.pre enc Tryz.prog Tryz.f3 [] false w args ∧ laidMetH Tryz.prog laid2 w) ∧ sizedMet enc Tryz.prog Tryz.f3 (OpenSpec.ofChange Rows.refsMovesSpec) false w args)
      (Rows.refsMovesSpec.post enc Tryz.prog Tryz.f3 false true false false) := by
  refine returnsInHanded_of_change_and (C := Tryz.checked) (X := fun w _ => laidMetH Tryz.prog laid2 w) (fun _ _ _ hh h => h.of_heap hh) own started (by kernel_rfl) Tryz.func3
    (ChangeSpec.witness_shaped (enc := enc) (C := Tryz.checked) (os := os) (X := fun w _ => laidMetH Tryz.prog laid2 w) false (World.doorLaid Tryz.prog 400 os) #[.agg #[.slice none 0 0], .agg zeroMv.cells, .string ByteArray.empty] 8 rfl (World.shaped_of_RefB (by kernel_rfl) (by kernel_rfl)) (by kernel_rfl) (by kernel_rfl) (by kernel_rfl) (door_met os _)) ?_
  intro W base args ds gs before hval0 hW _ _ hL _
  have hval : ∀ (j : Nat) t v, Tryz.f3.params[j]? = some t → args[j]? = some v → Value.okWide Tryz.prog W .any base t v := hval0
  have hW' := hW
  obtain ⟨p, q, hA0, hV, rfl, hfz, hnd⟩ := hW
  have hA : DataW.TrodAll enc Tryz.prog W 0 (fun _ => true) true Tryz.f3.params.toList args.toList ds p := hA0
  rw [Tryz.params3] at hA hval
  obtain ⟨v0, v1, v2, d0, d1, d2, p0, p1, p2, rfl, rfl, rfl, h0, h1, h2⟩ := trodAll_three hA
  obtain ⟨rfl, rfl⟩ := trodVars_none hV
  have lt0 : ∀ x ∈ p0, x.block < W.heap.size := by obtain ⟨m, hm⟩ := h0; exact DataW.trod_lt m _ _ _ hm
  have lt1 : ∀ x ∈ p1, x.block < W.heap.size := by obtain ⟨m, hm⟩ := h1; exact DataW.trod_lt m _ _ _ hm
  obtain ⟨sp, cap, rs, rfl, hr, hsz, hn⟩ := open_refs2 (hval 0 24 v0 rfl rfl) h0
  obtain ⟨m, rfl⟩ := open_move (hval 1 28 v1 rfl rfl) h1
  obtain ⟨s, rfl, rfl, rfl, hs⟩ := open_string Tryz.underlying9 (hval 2 9 v2 rfl rfl) h2
  clear hA0 hval0
  refine (refsMoves_all sp cap rs m s W (laid_of hL) hr hn (fun e he => hsz e he)).mono fun e W' ⟨he, bel⟩ => ?_
  subst he
  exact ⟨_, rfl, _, _, _, [], _, [], hW', trodAll_mk1 (shut_bool Tryz.underlying4 _), trodAll_mk3 (Below.trod laidOut (by kernel_rfl) (of_decide_eq_true (by kernel_rfl)) h0 bel lt0) (Below.trod laidOut (by kernel_rfl) (of_decide_eq_true (by kernel_rfl)) h1 bel lt1) (shut_string Tryz.underlying9 hs), rfl, bel.frame _, fun h => by cases h⟩

theorem moves_row : Rows.RefsMovesSaid :=
  OpenClaim.holds_of_wide 3 Tryz.f3 rfl rfl rfl rfl rfl rfl rfl ⟨rfl, rfl, rfl, rfl, rfl⟩ rfl rfl rfl rfl rfl (by kernel_rfl) Tryz.func3 (by kernel_rfl)
    (of_decide_eq_true (by kernel_rfl)) (by unfold Func.isWrapper; first | (rw [if_pos (by decide +kernel)]; kernel_rfl) | (rw [if_neg (by decide +kernel)]; exact ⟨rfl, rfl⟩))
    (fun os started H enc _ => moves_lifted os started H enc)

theorem moves_card : Rows.RefsMovesCardSaid :=
  Claim7.holds_tied_plain_at .later [] [.data, .data] true (true, "ad50d20f973a155036c7fe83bd76ede2a62de474233f986e822eb3e5a471ff19") false
    moves_row (fun _ h => by cases h) (by kernel_rfl) (fun _ h => by cases h) refsMoves_row_tie rfl ⟨rfl, rfl⟩ (by kernel_rfl) rfl
    (fun f fn hf hfn => by
      obtain rfl : f = 3 := Option.some.inj ((show Tryz.prog.funcNamed "shipwright/shipwrightlaw09.RefsMoves" = some 3 by kernel_rfl).symm.trans hf) |>.symm
      obtain rfl : fn = Tryz.f3 := (Option.some.inj (Tryz.func3.symm.trans hfn)).symm
      exact ⟨by kernel_rfl, fun j t ht => by
        rw [Tryz.params3] at ht
        have hm : t ∈ [24, 28, 9] := by simpa using Array.mem_of_getElem? ht
        have hall : ([24, 28, 9].all fun u => !Tryz.prog.wantsStandIn u) = true := by kernel_rfl
        exact (show Tryz.prog.wantsStandIn t = false by simpa using List.all_eq_true.1 hall t hm)⟩)
    (by kernel_rfl)
#print axioms moves_card
end Go.Proofs.YtgfjjglejlnfbaaGreatDoor
