/- For every row of texts the law LexTexts returns true: of the first 16, each of at most 4097 bytes: Lex tells twice the tokens, with their places, or the error and its place, that the document's Lex tells. The row reads afterwards as before. Conditions: none. -/
import Derived.Test.YtcbpnmdphmdemaaLxI
import Derived.Test.YtcbpnmdphmdemaaSxE
namespace Go.Proofs.Ytcbpnmdphmdemaa
open Go.ChangeShapes Go.WideShapes Go.ChangeAt Go.RowKit

set_option maxRecDepth 100000 in
/-- Texts that came in. -/
theorem open_strs {H : Type} {enc : TypeId × Value → H} {W : World} {base b0 : Nat} {spare : Nat → Bool} {held : Bool} {r : Reach} {v : Value} {d : DataW H} {p : List MemPlace}
    (hv : Value.okWide Try.prog W r b0 22 v) (h : DataW.Trod enc Try.prog W base spare held 22 v d p) : ∃ (sp : Option Addr) (cap : Nat) (xs : List ByteArray), v = .slice sp xs.length cap ∧ RowsAt W 1 (fun s => #[Value.string s]) sp xs ∧ xs.length ≤ maxLen := by
  obtain ⟨a0, len0, cap0, rfl⟩ := okWide_slice Try.underlying22 hv
  obtain ⟨fuel, hf⟩ := h
  obtain ⟨sp, cap, xs, e, hr, hq, hc, hn⟩ := open_rows (m := 1) (f := fun s : ByteArray => #[Value.string s]) (Q := fun s => s.size ≤ maxLen) Try.underlying22 (by kernel_rfl) (by omega) (fun n cs' y hy => by
    obtain ⟨s, e1, -, hs⟩ := DataW.trod_string Try.underlying9 hy
    exact ⟨s, e1, hs⟩) hf
  have e' : Value.slice a0 len0 cap0 = .slice sp xs.length cap := by simpa [Value.cells] using e
  exact ⟨sp, cap, xs, e', hr, by omega⟩
set_option maxRecDepth 100000 in
theorem texts_lifted (os : Os) (started : os.Started) (H : Type) (enc : TypeId × Value → H) :
    ReturnsInHanded {} Try.checked os 3 .any (Rows.lexTextsSpec.pre6 enc Try.prog Try.f3 Rows.lexTextsRow.domain false) (Rows.lexTextsSpec.post enc Try.prog Try.f3 false true false false) := by
  refine returnsInHanded_of_change (C := Try.checked) own started (by kernel_rfl) Try.func3
    (ChangeSpec.witness6 (enc := enc) (C := Try.checked) false ⟨#[], #[.slice none 0 0], []⟩ 8 (by kernel_rfl) (by kernel_rfl) (by kernel_rfl) (by kernel_rfl)) ?_
  intro W base args ds gs before hval0 hW _ _
  have hval : ∀ (j : Nat) t v, Try.f3.params[j]? = some t → args[j]? = some v → Value.okWide Try.prog W .any base t v := hval0
  have hW' := hW
  obtain ⟨p, q, hA0, hV, rfl, hfz, hnd⟩ := hW
  have hA : DataW.TrodAll enc Try.prog W 0 (fun _ => true) true Try.f3.params.toList args.toList ds p := hA0
  rw [Try.params3] at hA hval
  obtain ⟨v0, d0, rfl, rfl, h0⟩ := trodAll_one hA
  obtain ⟨rfl, rfl⟩ := trodVars_none hV
  have lt0 : ∀ x ∈ p, x.block < W.heap.size := by obtain ⟨m, hm⟩ := h0; exact DataW.trod_lt m _ _ _ hm
  obtain ⟨s0, c0, xs, rfl, hr0, hxl⟩ := open_strs (hval 0 22 v0 rfl rfl) h0
  clear hA0 hval0
  refine (lexTexts_all s0 c0 xs W hr0 hxl).mono fun e W' ⟨he, bel⟩ => ?_
  subst he
  exact ⟨_, rfl, _, _, _, [], _, [], hW', trodAll_mk1 (shut_bool Try.underlying4 _), trodAll_mk1 (Below.trod laidOut (by kernel_rfl) (of_decide_eq_true (by kernel_rfl)) h0 bel lt0), rfl, bel.frame _, fun h => by cases h⟩

theorem texts_holds : Rows.LexTextsSaid :=
  OpenClaim.holds_of_wide 3 Try.f3 rfl rfl rfl rfl rfl rfl rfl ⟨rfl, rfl, rfl, rfl, rfl⟩ rfl rfl rfl rfl rfl (by kernel_rfl) Try.func3 (by kernel_rfl)
    (of_decide_eq_true (by kernel_rfl)) (by unfold Func.isWrapper; first | (rw [if_pos (by decide +kernel)]; kernel_rfl) | (rw [if_neg (by decide +kernel)]; exact ⟨rfl, rfl⟩))
    (fun os started H enc _ => texts_lifted os started H enc)
#print axioms texts_holds
end Go.Proofs.Ytcbpnmdphmdemaa
