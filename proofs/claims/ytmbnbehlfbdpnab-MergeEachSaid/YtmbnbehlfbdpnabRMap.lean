/- A map of paths to numbers that the law makes. -/
import Derived.Test.YtmbnbehlfbdpnabBase
import Derived.Maps.OwnSet
import Derived.Maps.OwnOps
import Derived.Maps.Views
namespace Go.Proofs.Ytmbnbehlfbdpnab
open Go.RowKit Go.Maps

theorem mapLaw : Keyed Try.prog 9 := string_keyed Try.underlying9
theorem zeroI (w : World) : (zeroValue 3).run Try.prog w = .ok (.int .i64 0) w := by kernel_rfl
abbrev i64L (c : Int) : DataW Unit := .lit (.int .i64 c)
/-- What a map has: at each path a number; just these keys. -/
structure MapS (f : List UInt8 → Int) (ks : List (List UInt8)) (D : DataW Unit) : Prop where
  tidy : Maps.Tidy D
  val : ∀ q, D.atKey (.string q) (i64L 0) = i64L (f q)
  len : Maps.size D = ks.length
  key : ∀ q, Maps.has D (.string q) = true ↔ q ∈ ks
theorem mapS_nil : MapS (fun _ => 0) [] (.map []) := ⟨tidy_empty, fun q => rfl, rfl, fun q => by simp [Maps.has_eq]⟩
theorem MapS.put {f : List UInt8 → Int} {ks : List (List UInt8)} {D : DataW Unit} (h : MapS f ks D) (q : List UInt8) (v : Int) {f' : List UInt8 → Int} {ks' : List (List UInt8)} (hf : ∀ x, f' x = if x = q then v else f x) (hk : ks' = if q ∈ ks then ks else ks ++ [q]) : MapS f' ks' (D.put (.string q) (i64L v)) := by
  have ik : WideAt.IsKeyLit (.string q) := by first | trivial | exact True.intro | simp [WideAt.IsKeyLit]
  refine ⟨h.tidy.put ik _, fun x => ?_, ?_, fun x => ?_⟩
  · rw [hf x]
    by_cases e : x = q
    · subst e
      rw [if_pos rfl]
      exact atKey_put_same h.tidy.isMap ik _ _
    · rw [if_neg e, atKey_put_other (fun e' => e (by injection e'))]
      exact h.val x
  · rw [size_put h.tidy, hk]
    by_cases hq : q ∈ ks
    · rw [if_pos hq, if_pos ((h.key q).2 hq)]
      exact h.len
    · rw [if_neg hq, if_neg (fun e => hq ((h.key q).1 e)), h.len, List.length_append]
      rfl
  · rw [hk]
    by_cases e : x = q
    · subst e
      rw [has_put_same h.tidy.isMap ik]
      by_cases hq : x ∈ ks
      · simp [hq]
      · simp [hq]
    · rw [has_put_other (fun e' => e (by injection e')), h.key x]
      by_cases hq : q ∈ ks
      · simp [hq]
      · simp [hq, e]
end Go.Proofs.Ytmbnbehlfbdpnab
