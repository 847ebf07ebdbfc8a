/- For every three repositories and every choice of files the law MergeSettles returns true: cut short, Settle tells ErrRepo where one of the three may not be, ErrArg where the choice's paths do not rise, ErrNone where they are not just the clashes' paths, ErrFull where what comes of it may not be; else what the document has, path by path, with the choice's texts at the clashes. The three and the choice read afterwards as before. Conditions: none. -/
import Derived.Test.YtmbnbehlfbdpnaaMrgI
namespace Go.Proofs.Ytmbnbehlfbdpnaa
open Go.ChangeShapes Go.WideShapes Go.ChangeAt Go.RowKit

set_option maxRecDepth 100000 in
theorem open_threeV {H : Type} {enc : TypeId × Value → H} {W : World} {base b0 : Nat} {spare : Nat → Bool} {held : Bool} {r : Reach} {v : Value} {d : DataW H} {p : List MemPlace}
    (hv : Value.okWide Try.prog W r b0 26 v) (h : DataW.Trod enc Try.prog W base spare held 26 v d p) : ∃ a b c : Sl, v = .agg #[.slice a.sp a.fs.length a.cap, .slice b.sp b.fs.length b.cap, .slice c.sp c.fs.length c.cap] ∧ InF W a ∧ InF W b ∧ InF W c := by
  obtain ⟨cs, rfl⟩ := agg_of (by kernel_rfl) hv
  obtain ⟨fuel, hf⟩ := h
  obtain ⟨a, b, c, e, ha, hb, hc⟩ := open_three hf
  exact ⟨a, b, c, congrArg Value.agg (Array.toList_inj.1 e), ha, hb, hc⟩

set_option maxRecDepth 100000 in
theorem open_filesV {H : Type} {enc : TypeId × Value → H} {W : World} {base b0 : Nat} {spare : Nat → Bool} {held : Bool} {r : Reach} {v : Value} {d : DataW H} {p : List MemPlace}
    (hv : Value.okWide Try.prog W r b0 22 v) (h : DataW.Trod enc Try.prog W base spare held 22 v d p) : ∃ s : Sl, v = .slice s.sp s.fs.length s.cap ∧ InF W s := by
  obtain ⟨a0, len0, cap0, rfl⟩ := okWide_slice Try.underlying22 hv
  obtain ⟨fuel, hf⟩ := h
  obtain ⟨sp, cap, xs, e, hr, hq, hc, hn⟩ := open_rows (m := 2) (f := Fi.cells) (Q := fun f => f.path.size ≤ maxLen ∧ f.text.size ≤ maxLen) Try.underlying22 (by kernel_rfl) (by omega) (fun n cs' y hy => open_fi hy) hf
  have e' : Value.slice a0 len0 cap0 = .slice sp xs.length cap := by simpa [Value.cells] using e
  exact ⟨⟨sp, cap, xs⟩, e', hr, hq, hc, hn⟩

set_option maxRecDepth 100000 in
theorem settles_lifted (os : Os) (started : os.Started) (H : Type) (enc : TypeId × Value → H) :
    ReturnsInHanded {} Try.checked os 4 .any (Rows.mergeSettlesSpec.pre6 enc Try.prog Try.f4 Rows.mergeSettlesRow.domain false) (Rows.mergeSettlesSpec.post enc Try.prog Try.f4 false true false false) := by
  refine returnsInHanded_of_change (C := Try.checked) own started (by kernel_rfl) Try.func4
    (ChangeSpec.witness6 (enc := enc) (C := Try.checked) false ⟨#[], #[.agg #[.slice none 0 0, .slice none 0 0, .slice none 0 0], .slice none 0 0], []⟩ 8 (by kernel_rfl) (by kernel_rfl) (by kernel_rfl) (by kernel_rfl)) ?_
  intro W base args ds gs before hval0 hW _ _
  have hval : ∀ (j : Nat) t v, Try.f4.params[j]? = some t → args[j]? = some v → Value.okWide Try.prog W .any base t v := hval0
  have hW' := hW
  obtain ⟨p, q, hA0, hV, rfl, hfz, hnd⟩ := hW
  have hA : DataW.TrodAll enc Try.prog W 0 (fun _ => true) true Try.f4.params.toList args.toList ds p := hA0
  rw [Try.params4] at hA hval
  obtain ⟨v0, v1, d0, d1, p0, p1, rfl, rfl, rfl, h0, h1⟩ := trodAll_two hA
  obtain ⟨rfl, rfl⟩ := trodVars_none hV
  have lt0 : ∀ x ∈ p0, x.block < W.heap.size := by obtain ⟨m, hm⟩ := h0; exact DataW.trod_lt m _ _ _ hm
  have lt1 : ∀ x ∈ p1, x.block < W.heap.size := by obtain ⟨m, hm⟩ := h1; exact DataW.trod_lt m _ _ _ hm
  obtain ⟨a, b, c, rfl, ha, hb, hc⟩ := open_threeV (hval 0 26 v0 rfl rfl) h0
  obtain ⟨d, rfl, hd⟩ := open_filesV (hval 1 22 v1 rfl rfl) h1
  clear hA0 hval0
  refine (mergeSettles_all a b c d W ha hb hc hd).mono fun e W' ⟨he, bel⟩ => ?_
  subst he
  exact ⟨_, rfl, _, _, _, [], _, [], hW', trodAll_mk1 (shut_bool Try.underlying4 _), trodAll_mk2 (Below.trod laidOut (by kernel_rfl) (of_decide_eq_true (by kernel_rfl)) h0 bel lt0) (Below.trod laidOut (by kernel_rfl) (of_decide_eq_true (by kernel_rfl)) h1 bel lt1), rfl, bel.frame _, fun h => by cases h⟩

theorem settles_holds : Rows.MergeSettlesSaid :=
  OpenClaim.holds_of_wide 4 Try.f4 rfl rfl rfl rfl rfl rfl rfl ⟨rfl, rfl, rfl, rfl, rfl⟩ rfl rfl rfl rfl rfl (by kernel_rfl) Try.func4 (by kernel_rfl)
    (of_decide_eq_true (by kernel_rfl)) (by unfold Func.isWrapper; first | (rw [if_pos (by decide +kernel)]; kernel_rfl) | (rw [if_neg (by decide +kernel)]; exact ⟨rfl, rfl⟩))
    (fun os started H enc _ => settles_lifted os started H enc)
#print axioms settles_holds
end Go.Proofs.Ytmbnbehlfbdpnaa
