/- An append to a slice that has nothing and no room; the law LexSame answers true. -/
import Derived.Test.YtcbpnmdphmdemaaLxE
namespace Go.Proofs.Ytcbpnmdphmdemaa
open Go.RowKit

/-- The cells of elements, one behind the other. -/
def rowV {α : Type} [Inhabited α] (f : α → Array Value) (m : Nat) (xs : List α) (q : Nat) : Value := ((f (xs.getD (q / m) default))[q % m]?).getD undef
theorem rowV_at {α : Type} [Inhabited α] {f : α → Array Value} {m : Nat} {xs : List α} {i j : Nat} {x : α} {u : Value} (hx : xs[i]? = some x) (hj : j < m) (hu : (f x)[j]? = some u) : rowV f m xs (i * m + j) = u := by
  have e1 : (i * m + j) / m = i := by rw [Nat.mul_comm, Nat.mul_add_div (by omega), Nat.div_eq_of_lt hj, Nat.add_zero]
  have e2 : (i * m + j) % m = j := by rw [Nat.mul_comm, Nat.mul_add_mod, Nat.mod_eq_of_lt hj]
  have e3 : xs.getD i default = x := by rw [List.getD_eq_getElem?_getD, hx]; rfl
  unfold rowV
  rw [e1, e2, e3, hu]
  rfl
theorem app_fresh {α : Type} [Inhabited α] {t e ty : TypeId} {i : TypeInfo} {z : Value} {m : Nat} (f : α → Array Value) (ht : Try.prog.underlying t = some (.slice e)) (hi : Try.prog.info? e = some i) (hz : i.zero = some z) (hs : i.size = m) (hb : i.bytes ≤ 100) (hm : 0 < m) (hf : ∀ x, (f x).size = m)
    (g : Nat) (sp : Option Addr) (cap : Nat) (xs : List α) (W : World) (hr : RowsAt W m f sp xs) (hn : sp = none → xs.length = 0 ∧ cap = 0) (hl : xs.length ≤ 100000) :
    ∃ v' W', (Builtin.append_ #[t, t] ty #[.slice (some ⟨g, 0, none⟩) 0 0, .slice sp xs.length cap]).run Try.prog W = .ok v' W' ∧ Below W.heap.size W W' ∧
      ∃ sp' cap', v' = .slice sp' xs.length cap' ∧ RowsAt W' m f sp' xs ∧ (∀ a, sp' = some a → a.block = g ∨ a.block = W.heap.size) ∧ sp' ≠ none := by
  by_cases h0 : xs.length = 0
  · rw [h0]
    refine ⟨.slice (some ⟨g, 0, none⟩) 0 0, W, ?_, Below.refl _ _, some ⟨g, 0, none⟩, 0, rfl, fun h => by omega, fun a ha => by injection ha with ha; subst ha; exact .inl rfl, by simp⟩
    cases sp with
    | none => exact run_append_nothing W t t ty e i ht hi _ 0 0 (Nat.le_refl _) _ (Src.ofNil W ht cap)
    | some a => exact run_append_nothing W t t ty e i ht hi _ 0 0 (Nat.le_refl _) _ (Src.ofSlice W ht a 0 cap [] (by simp) (fun j u hu => by simp at hu) (fun u hu => by simp at hu))
  obtain ⟨b, off, rfl, hc⟩ := hr (by omega)
  have hlen : ((List.range (xs.length * m)).map (rowV f m xs)).length = xs.length * i.size := by rw [hs]; simp
  have hV : ∀ q, q < xs.length * m → W.cell? ⟨b, off + q, none⟩ = some (rowV f m xs q) := fun q hq => by
    have hi' : q / m < xs.length := (Nat.div_lt_iff_lt_mul hm).2 hq
    have hj : q % m < m := Nat.mod_lt _ hm
    have hx : xs[q / m]? = some (xs[q / m]'hi') := List.getElem?_eq_getElem hi'
    have hu : (f (xs[q / m]'hi'))[q % m]? = some ((f (xs[q / m]'hi'))[q % m]'(by rw [hf]; exact hj)) := Array.getElem?_eq_getElem _
    have h1 := hc _ _ hx _ _ hu
    have h2 := rowV_at (m := m) hx hj hu
    have e : q / m * m + q % m = q := by rw [Nat.mul_comm]; exact Nat.div_add_mod q m
    rw [e] at h2
    rw [h2, ← h1, Nat.add_assoc, e]
  have hnews : ∀ j u, ((List.range (xs.length * m)).map (rowV f m xs))[j]? = some u → W.cell? ((⟨b, off, none⟩ : Addr).add j) = some u := fun j u hu => by
    have hj : j < xs.length * m := by
      by_cases hj : j < xs.length * m
      · exact hj
      · rw [List.getElem?_eq_none (by simp; omega)] at hu; cases hu
    have hu' : rowV f m xs j = u := by simpa [hj] using hu
    rw [Addr.add_mid, hV j hj, hu']
  have er := run_append_grow (P := Try.prog) W t ty e i z ht hi hz ⟨g, 0, none⟩ 0 0 [] (by simp) (fun j v hv => by simp at hv) ⟨b, off, none⟩ xs.length cap _ hlen hnews (by omega) (by omega) (by
    rw [Nat.zero_add, nextslicecap_zero (by omega)]
    have := Nat.mul_le_mul hl hb
    omega)
  rw [Nat.zero_add] at er
  refine ⟨_, _, er, (Below.refl _ _).drew.alloc (by simp) _, some ⟨W.heap.size, 0, none⟩, _, rfl, fun _ => ⟨W.heap.size, 0, rfl, fun i' x hx j u hu => ?_⟩, fun a ha => by injection ha with ha; subst ha; exact .inr rfl, by simp⟩
  have hj : j < m := by rw [← hf x]; exact (Array.getElem?_eq_some_iff.1 hu).1
  have hi' : i' < xs.length := (List.getElem?_eq_some_iff.1 hx).1
  have hlt : i' * m + j < xs.length * m := by
    have := Nat.mul_le_mul_right m (show i' + 1 ≤ xs.length by omega)
    rw [Nat.add_mul, Nat.one_mul] at this
    omega
  have hrow := heap_alloc_new W.drew (.cells ([].toArray ++ ((List.range (xs.length * m)).map (rowV f m xs)).toArray ++ Builtin.zeroCells z.cells (grownCap W xs.length 0 e - xs.length)) e)
  rw [Nat.zero_add]
  refine (cell_of_row _ _ _ _ _ _ hrow).trans ?_
  rw [Array.getElem?_append_left (by simp; omega), Array.getElem?_append_right (by simp)]
  simp only [List.size_toArray, List.length_nil, Nat.sub_zero, List.getElem?_toArray, List.getElem?_map, List.getElem?_range hlt, Option.map_some]
  rw [rowV_at hx hj hu]
theorem below_drawn' {B : Nat} (w : World) (n : Nat) : Below B w (w.drewN n) := ⟨rfl, rfl, rfl, Nat.le_refl _, fun _ _ => rfl⟩
theorem few_rows {B n : Nat} {w : World} {sp : Option Addr} {cap : Nat} {xs : List Tok} {t : Tok} (h : OwnT B w (.slice sp (n + 1) cap) (xs ++ [t])) (hn : xs.length = n) : RowsT w sp xs ∧ n + 1 ≤ cap ∧ cap ≤ maxLen ∧ ∃ a, sp = some a := by
  obtain ⟨sp', cap', e, hr, hnn, hc, hm⟩ := OwnG.rows elT h
  have hl : (xs ++ [t]).length = n + 1 := by rw [List.length_append, hn]; rfl
  rw [hl] at e hc
  injection e with e1 e2 e3
  subst e1 e3
  refine ⟨fun hl' => ?_, hc, hm, ?_⟩
  · obtain ⟨b, o, rfl, hcc⟩ := hr (by rw [hl]; omega)
    exact ⟨b, o, rfl, fun i x hx => hcc i x (by rw [List.getElem?_append_left (List.getElem?_eq_some_iff.1 hx).1]; exact hx)⟩
  · cases sp with
    | none => have := (hnn rfl).1; omega
    | some a => exact ⟨a, rfl⟩
theorem fewL_small (ts : List Tok) : (fewL ts).length ≤ 1025 := by rw [fewL_len]; omega
set_option maxRecDepth 100000 in
set_option maxHeartbeats 2000000 in
theorem lexSame_all (sp tp : Option Addr) (c1 c2 : Nat) (xs ys : List Tok) (w : World) (h1 : RowsT w sp xs) (h2 : RowsT w tp ys) :
    Calls Try.prog 6 #[.slice sp xs.length c1, .slice tp ys.length c2] w fun e w' => e = .returned (.bool true) ∧ Below w.heap.size w w' := by
  have H1 : Hid (RowsT w sp xs) := h1
  have H2 : Hid (RowsT w tp ys) := h2
  clear h1 h2
  go_enter Try.func6, Try.ntmps6
  go_wp2_with fail
  refine (wakes_any w).mono ?_
  rintro e W1 ⟨rfl, b1⟩
  go_wp2_with fail
  refine (few_any sp c1 xs W1 (RowsAt.below H1.out b1)).mono ?_
  rintro e W2 ⟨⟨s1, k1, rfl, o1⟩, b2⟩
  have bw2 : Below w.heap.size w W2 := b1.trans (b2.mono b1.size)
  go_wp2_with fail
  refine (few_any tp c2 ys W2 (RowsAt.below H2.out bw2)).mono ?_
  rintro e W3 ⟨⟨s2, k2, rfl, o2⟩, b3⟩
  have bw3 : Below w.heap.size w W3 := bw2.trans (b3.mono bw2.size)
  obtain ⟨r1, -, m1, a1, rfl⟩ := few_rows (OwnG.below o1 b3) rfl
  obtain ⟨r2, -, m2, -⟩ := few_rows o2 rfl
  have R1 : Hid (RowsT W3 (some a1) (fewL xs)) := r1
  have R2 : Hid (RowsT W3 s2 (fewL ys)) := r2
  have l1 := fewL_small xs
  have l2 := fewL_small ys
  clear H1 H2 b1 b2 b3 bw2 o1 o2 r1 r2
  generalize fewL xs = us at R1 l1 ⊢
  generalize fewL ys = vs at R2 l2 ⊢
  go_wp2_with fail
  refine (same_any (some a1) s2 k1 k2 us vs W3 R1.out R2.out (by omega) (by omega)).mono ?_
  rintro e W4 ⟨rfl, b4⟩
  go_wp2_with fail
  refine (ssame_any (some a1) s2 k1 k2 us vs W4 (RowsAt.below R1.out b4) (RowsAt.below R2.out b4) (by omega) (by omega)).mono ?_
  rintro e W5 ⟨rfl, n5, rfl⟩
  have bw5 : Below w.heap.size w (W4.drewN n5) := (bw3.trans (b4.mono bw3.size)).trans (below_drawn' _ n5)
  have R5 : Hid (RowsT (W4.drewN n5) (some a1) us) := RowsAt.below (RowsAt.below R1.out b4) (below_drawn' _ n5)
  clear R1 R2 bw3 b4
  generalize W4.drewN n5 = W6 at bw5 R5 ⊢
  have hqq : ∀ q : Bool, (q == q) = true := fun q => by cases q <;> rfl
  have hq := hqq (eqAll tkEq us vs)
  clear hqq
  have ba : Below w.heap.size w (W6.alloc (.cells #[] 32)) := bw5.alloc bw5.size _
  have b6a : Below W6.heap.size W6 (W6.alloc (.cells #[] 32)) := (Below.refl _ _).alloc (Nat.le_refl _) _
  obtain ⟨i, z, hi, hz0, hz1, hz2, -⟩ := elT.hi
  obtain ⟨v7, W7, hr7, b7, s7, k7, rfl, R7, -, -⟩ := app_fresh (t := 24) (e := 32) (ty := 24) (m := 3) Tok.cells Try.underlying24 hi hz0 hz1 hz2 (by omega) (fun _ => rfl) W6.heap.size (some a1) k1 us (W6.alloc (.cells #[] 32)) (RowsAt.below R5.out b6a) (fun h => by cases h) (by omega)
  have R7' : Hid (RowsT W7 s7 us) := R7
  have R8 : Hid (RowsT W7 (some a1) us) := RowsAt.below (RowsAt.below R5.out b6a) b7
  have bw7 : Below w.heap.size w W7 := ba.trans (b7.mono ba.size)
  clear R7 b6a ba b7 hi hz0 hz1 hz2
  go_wp2_with (refine list_appendg (.tmp 20) (.tmp 21) 24 (by rfl) (by rfl) (by rfl) (by rfl) hr7 ?_)
  refine (same_any (some a1) s7 k1 k7 us us W7 R8.out R7'.out (by omega) (by omega)).mono ?_
  rintro e W8 ⟨rfl, b8⟩
  rw [eqAll_refl tkEq_refl us]
  go_wp2
  go_ret
  exact ⟨rfl, bw7.trans (b8.mono bw7.size)⟩
end Go.Proofs.Ytcbpnmdphmdemaa
