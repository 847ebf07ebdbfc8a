/- There and back, on lists: what is read from an object's bytes is that object, and every beginning of them is too short. No function of the program is walked here. -/
import Derived.Test.YtnaoaeapffgojaaDecA
namespace Go.Proofs.Ytnaoaeapffgojaa
open Go.RowKit

/-- Bytes that stand at the place are stepped over. -/
theorem tk_at {L A M R : List Int} (hL : L = A ++ (M ++ R)) {k n : Nat} (hk : k = A.length) (hn : n = M.length) : tk L (k, 0) n = ((k + n, 0), M) := by
  subst hL hk hn
  unfold tk
  rw [if_pos rfl, if_neg (by simp only [List.length_append]; omega)]
  simp
theorem num_one (x : Int) : numOf [x] = x := by simp [numOf]
theorem num_two {x : Int} (h0 : 0 ≤ x) (h1 : x < 65536) : numOf (beBytes 2 x) = x := by
  have : beBytes 2 x = [x / 256 % 256, x % 256] := by simp [beBytes, List.range_succ]
  rw [this]
  simp only [numOf, List.foldl_cons, List.foldl_nil]
  omega
theorem num_four {x : Int} (h0 : 0 ≤ x) (h1 : x < 4294967296) : numOf (beBytes 4 x) = x := by
  have : beBytes 4 x = [x / 16777216 % 256, x / 65536 % 256, x / 256 % 256, x % 256] := by simp [beBytes, List.range_succ]
  rw [this]
  simp only [numOf, List.foldl_cons, List.foldl_nil]
  omega
theorem str_back (s : ByteArray) : strL (bytesOf s) = s := by
  unfold strL bytesOf
  cases s with
  | mk d =>
    congr 1
    apply Array.ext_getElem?
    intro i
    simp
    cases d[i]? <;> simp
theorem idL_at {f : Nat → Int} {i : Nat} (hi : i < 32) : idL (idBytes f) i = f i := by
  simp [idL, idBytes, hi]
theorem id_back (f : Nat → Int) : idBytes (idL (idBytes f)) = idBytes f := List.map_congr_left fun _ hi => idL_at (List.mem_range.1 hi)
/-- An entry as it is read. -/
def entN (e : Ent) : Ent := ⟨e.name, e.folder, idL (idBytes e.id)⟩
theorem ent_back (e : Ent) : entBytes (entN e) = entBytes e := by simp only [entBytes, entN, id_back]; rfl
theorem ent_same (e : Ent) : entEq (entN e) e = true := by
  simp only [entEq, entN, beq_self_eq_true, Bool.true_and]
  exact eqTo_true fun i hi => idL_at hi
theorem ent_len (e : Ent) : (entBytes e).length = e.name.size + 34 := by simp [entBytes, bytesOf_len, id_len]
theorem text_at {L A R : List Int} {s : ByteArray} (hL : L = A ++ ((s.size : Int) :: bytesOf s ++ R)) {k : Nat} (hk : k = A.length) : tkText L (k, 0) = ((k + (s.size + 1), 0), s) := by
  have h1 : tk L (k, 0) 1 = ((k + 1, 0), [(s.size : Int)]) := tk_at (R := bytesOf s ++ R) (by simpa using hL) hk rfl
  have h2 : tk L (k + 1, 0) s.size = ((k + 1 + s.size, 0), bytesOf s) := tk_at (A := A ++ [(s.size : Int)]) (R := R) (by simpa using hL) (by simp [hk]) (by rw [bytesOf_len])
  unfold tkText
  rw [h1, num_one, Int.toNat_natCast, h2, str_back, show k + 1 + s.size = k + (s.size + 1) by omega]
theorem id_at {L A R : List Int} {f : Nat → Int} (hL : L = A ++ (idBytes f ++ R)) {k : Nat} (hk : k = A.length) : tkId L (k, 0) = ((k + 32, 0), idL (idBytes f)) := by
  unfold tkId
  rw [tk_at hL hk (by rw [id_len])]
theorem ent_at {L A R : List Int} {e : Ent} (hL : L = A ++ (entBytes e ++ R)) {k : Nat} (hk : k = A.length) : tkEnt L (k, 0) = ((k + (entBytes e).length, 0), entN e) := by
  have hL' : L = A ++ ((e.name.size : Int) :: bytesOf e.name ++ (((if e.folder then 1 else 0) :: idBytes e.id) ++ R)) := by rw [hL]; simp [entBytes]
  have h1 := text_at hL' hk
  have h2 : tk L (k + (e.name.size + 1), 0) 1 = ((k + (e.name.size + 1) + 1, 0), [if e.folder then 1 else 0]) := tk_at (A := A ++ ((e.name.size : Int) :: bytesOf e.name)) (R := idBytes e.id ++ R) (by rw [hL']; simp) (by simp [hk, bytesOf_len]) rfl
  have h3 : tkId L (k + (e.name.size + 1) + 1, 0) = ((k + (e.name.size + 1) + 1 + 32, 0), idL (idBytes e.id)) := id_at (A := A ++ ((e.name.size : Int) :: bytesOf e.name) ++ [if e.folder then 1 else 0]) (R := R) (by rw [hL']; simp) (by simp [hk, bytesOf_len]; omega)
  unfold tkEnt
  rw [h1]
  simp only
  rw [h2]
  simp only [num_one]
  rw [h3]
  unfold entN
  rw [ent_len, show k + (e.name.size + 1) + 1 + 32 = k + (e.name.size + 34) by omega]
  cases e.folder <;> rfl
theorem ents_at {L A : List Int} : ∀ (n : Nat) (es : List Ent) (R : List Int), L = A ++ (es.flatMap entBytes ++ R) → n ≤ es.length → ∀ k, k = A.length → tkEnts L n (k, 0) = ((k + ((es.take n).flatMap entBytes).length, 0), (es.take n).map entN)
  | 0, es, R, hL, hn, k, hk => by simp [tkEnts]
  | n + 1, es, R, hL, hn, k, hk => by
    have ih := ents_at n es R hL (by omega) k hk
    have hs : es = es.take n ++ (es[n]'(by omega) :: es.drop (n + 1)) := by rw [← List.drop_eq_getElem_cons (by omega), List.take_append_drop]
    have hL2 : L = (A ++ (es.take n).flatMap entBytes) ++ (entBytes (es[n]'(by omega)) ++ ((es.drop (n + 1)).flatMap entBytes ++ R)) := by
      have h : es.flatMap entBytes = (es.take n).flatMap entBytes ++ (entBytes (es[n]'(by omega)) ++ (es.drop (n + 1)).flatMap entBytes) := by
        conv => lhs; rw [hs]
        simp only [List.flatMap_append, List.flatMap_cons]
      rw [hL, h]
      simp only [List.append_assoc]
    have ht : es.take (n + 1) = es.take n ++ [es[n]'(by omega)] := by rw [List.take_add_one, List.getElem?_eq_getElem (by omega)]; rfl
    simp only [tkEnts]
    rw [ih, ent_at hL2 (by simp [hk]), ht]
    simp only [List.flatMap_append, List.length_append, List.map_append, List.map_cons, List.map_nil, List.flatMap_cons, List.flatMap_nil, List.append_nil, Nat.add_assoc]
theorem ids_at {L A : List Int} : ∀ (n : Nat) (ps : List (Nat → Int)) (R : List Int), L = A ++ (ps.flatMap idBytes ++ R) → n ≤ ps.length → ∀ k, k = A.length → tkIds L n (k, 0) = ((k + ((ps.take n).flatMap idBytes).length, 0), (ps.take n).map fun f => idL (idBytes f))
  | 0, ps, R, hL, hn, k, hk => by simp [tkIds]
  | n + 1, ps, R, hL, hn, k, hk => by
    have ih := ids_at n ps R hL (by omega) k hk
    have hs : ps = ps.take n ++ (ps[n]'(by omega) :: ps.drop (n + 1)) := by rw [← List.drop_eq_getElem_cons (by omega), List.take_append_drop]
    have hL2 : L = (A ++ (ps.take n).flatMap idBytes) ++ (idBytes (ps[n]'(by omega)) ++ ((ps.drop (n + 1)).flatMap idBytes ++ R)) := by
      have h : ps.flatMap idBytes = (ps.take n).flatMap idBytes ++ (idBytes (ps[n]'(by omega)) ++ (ps.drop (n + 1)).flatMap idBytes) := by
        conv => lhs; rw [hs]
        simp only [List.flatMap_append, List.flatMap_cons]
      rw [hL, h]
      simp only [List.append_assoc]
    have ht : ps.take (n + 1) = ps.take n ++ [ps[n]'(by omega)] := by rw [List.take_add_one, List.getElem?_eq_getElem (by omega)]; rfl
    simp only [tkIds]
    rw [ih, id_at hL2 (by simp [hk]), ht]
    simp only [List.flatMap_append, List.length_append, List.map_append, List.map_cons, List.map_nil, List.flatMap_cons, List.flatMap_nil, List.append_nil, id_len, Nat.add_assoc]
end Go.Proofs.Ytnaoaeapffgojaa
