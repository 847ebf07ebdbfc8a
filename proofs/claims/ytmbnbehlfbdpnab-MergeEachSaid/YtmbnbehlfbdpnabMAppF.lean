/- An append to a slice that has nothing and no room: what it leaves, for elements of any number of cells. No function of the program is walked here. -/
import Derived.Test.YtmbnbehlfbdpnabMWak
import Derived.Deep.Upon
import Derived.Deep.AppendSrc
namespace Go.Proofs.Ytmbnbehlfbdpnab
open Go.RowKit

/-- The cells of elements, one behind the other. -/
def rowV {α : Type} [Inhabited α] (f : α → Array Value) (m : Nat) (xs : List α) (q : Nat) : Value := ((f (xs.getD (q / m) default))[q % m]?).getD undef
theorem rowV_at {α : Type} [Inhabited α] {f : α → Array Value} {m : Nat} {xs : List α} {i j : Nat} {x : α} {u : Value} (hx : xs[i]? = some x) (hj : j < m) (hu : (f x)[j]? = some u) : rowV f m xs (i * m + j) = u := by
  have e1 : (i * m + j) / m = i := by rw [Nat.mul_comm, Nat.mul_add_div (by omega), Nat.div_eq_of_lt hj, Nat.add_zero]
  have e2 : (i * m + j) % m = j := by rw [Nat.mul_comm, Nat.mul_add_mod, Nat.mod_eq_of_lt hj]
  have e3 : xs.getD i default = x := by rw [List.getD_eq_getElem?_getD, hx]; rfl
  unfold rowV
  rw [e1, e2, e3, hu]
  rfl
theorem app_fresh {α : Type} [Inhabited α] {t e ty : TypeId} {i : TypeInfo} {z : Value} {m : Nat} (f : α → Array Value) (ht : Try.prog.underlying t = some (.slice e)) (hi : Try.prog.info? e = some i) (hz : i.zero = some z) (hs : i.size = m) (hb : i.bytes ≤ 100) (hm : 0 < m) (hf : ∀ x, (f x).size = m)
    (g : Nat) (sp : Option Addr) (cap : Nat) (xs : List α) (W : World) (hr : RowsAt W m f sp xs) (hn : sp = none → xs.length = 0 ∧ cap = 0) (hl : xs.length ≤ 100000) :
    ∃ v' W', (Builtin.append_ #[t, t] ty #[.slice (some ⟨g, 0, none⟩) 0 0, .slice sp xs.length cap]).run Try.prog W = .ok v' W' ∧ Below W.heap.size W W' ∧
      ∃ sp' cap', v' = .slice sp' xs.length cap' ∧ RowsAt W' m f sp' xs ∧ (∀ a, sp' = some a → a.block = g ∨ a.block = W.heap.size) ∧ sp' ≠ none := by
  by_cases h0 : xs.length = 0
  · rw [h0]
    refine ⟨.slice (some ⟨g, 0, none⟩) 0 0, W, ?_, Below.refl _ _, some ⟨g, 0, none⟩, 0, rfl, fun h => by omega, fun a ha => by injection ha with ha; subst ha; exact .inl rfl, by simp⟩
    cases sp with
    | none => exact run_append_nothing W t t ty e i ht hi _ 0 0 (Nat.le_refl _) _ (Src.ofNil W ht cap)
    | some a => exact run_append_nothing W t t ty e i ht hi _ 0 0 (Nat.le_refl _) _ (Src.ofSlice W ht a 0 cap [] (by simp) (fun j u hu => by simp at hu) (fun u hu => by simp at hu))
  obtain ⟨b, off, rfl, hc⟩ := hr (by omega)
  have hlen : ((List.range (xs.length * m)).map (rowV f m xs)).length = xs.length * i.size := by rw [hs]; simp
  have hV : ∀ q, q < xs.length * m → W.cell? ⟨b, off + q, none⟩ = some (rowV f m xs q) := fun q hq => by
    have hi' : q / m < xs.length := (Nat.div_lt_iff_lt_mul hm).2 hq
    have hj : q % m < m := Nat.mod_lt _ hm
    have hx : xs[q / m]? = some (xs[q / m]'hi') := List.getElem?_eq_getElem hi'
    have hu : (f (xs[q / m]'hi'))[q % m]? = some ((f (xs[q / m]'hi'))[q % m]'(by rw [hf]; exact hj)) := Array.getElem?_eq_getElem _
    have h1 := hc _ _ hx _ _ hu
    have h2 := rowV_at (m := m) hx hj hu
    have e : q / m * m + q % m = q := by rw [Nat.mul_comm]; exact Nat.div_add_mod q m
    rw [e] at h2
    rw [h2, ← h1, Nat.add_assoc, e]
  have hnews : ∀ j u, ((List.range (xs.length * m)).map (rowV f m xs))[j]? = some u → W.cell? ((⟨b, off, none⟩ : Addr).add j) = some u := fun j u hu => by
    have hj : j < xs.length * m := by
      by_cases hj : j < xs.length * m
      · exact hj
      · rw [List.getElem?_eq_none (by simp; omega)] at hu; cases hu
    have hu' : rowV f m xs j = u := by simpa [hj] using hu
    rw [Addr.add_mid, hV j hj, hu']
  have er := run_append_grow (P := Try.prog) W t ty e i z ht hi hz ⟨g, 0, none⟩ 0 0 [] (by simp) (fun j v hv => by simp at hv) ⟨b, off, none⟩ xs.length cap _ hlen hnews (by omega) (by omega) (by
    rw [Nat.zero_add, nextslicecap_zero (by omega)]
    have := Nat.mul_le_mul hl hb
    omega)
  rw [Nat.zero_add] at er
  refine ⟨_, _, er, (Below.refl _ _).drew.alloc (by simp) _, some ⟨W.heap.size, 0, none⟩, _, rfl, fun _ => ⟨W.heap.size, 0, rfl, fun i' x hx j u hu => ?_⟩, fun a ha => by injection ha with ha; subst ha; exact .inr rfl, by simp⟩
  have hj : j < m := by rw [← hf x]; exact (Array.getElem?_eq_some_iff.1 hu).1
  have hi' : i' < xs.length := (List.getElem?_eq_some_iff.1 hx).1
  have hlt : i' * m + j < xs.length * m := by
    have := Nat.mul_le_mul_right m (show i' + 1 ≤ xs.length by omega)
    rw [Nat.add_mul, Nat.one_mul] at this
    omega
  have hrow := heap_alloc_new W.drew (.cells ([].toArray ++ ((List.range (xs.length * m)).map (rowV f m xs)).toArray ++ Builtin.zeroCells z.cells (grownCap W xs.length 0 e - xs.length)) e)
  rw [Nat.zero_add]
  refine (cell_of_row _ _ _ _ _ _ hrow).trans ?_
  rw [Array.getElem?_append_left (by simp; omega), Array.getElem?_append_right (by simp)]
  simp only [List.size_toArray, List.length_nil, Nat.sub_zero, List.getElem?_toArray, List.getElem?_map, List.getElem?_range hlt, Option.map_some]
  rw [rowV_at hx hj hu]
/-- An append, its guard open, where its run is known. -/
theorem list_appendg {P : Program} {ops : Array Oper} {rest : List Oper} {Q : Exit → Act → World → Prop} {a : Act} {w w' : World} {o : Oper} {v' vs vx : Value} (s x : Operand) (t : TypeId)
    (ho : o.op = .call { callee := .builtin .append, args := #[s, x], argTypes := #[t, t] }) (hw : Region.wanted o (yielded ops a.tmps) = true) (hs : a.eval s = vs) (hx : a.eval x = vx) (hr : (Builtin.append_ #[t, t] o.type #[vs, vx]).run P w = .ok v' w') (h : wpList P ops Q rest (a.put o.dst v') w') : wpList P ops Q (o :: rest) a w :=
  wpList_step fun _ hK => by rw [if_pos hw]; exact op_append s x t ho hs hx hr (hK _ _ h)
end Go.Proofs.Ytmbnbehlfbdpnab
