/- The document's Decode, on lists: when all bytes are read, and what is read then has these bytes. No function of the program is walked here. -/
import Derived.Test.YtnaoaeapffgojaaBkS
namespace Go.Proofs.Ytnaoaeapffgojaa
open Go.RowKit

theorem tk_zero {L : List Int} {p : Nat × Int} {n : Nat} (h : (tk L p n).1.2 = 0) : p.2 = 0 := by
  unfold tk at h
  by_cases h0 : p.2 = 0
  · exact h0
  · rw [if_neg h0] at h
    exact h
theorem tk_either (L : List Int) {p : Nat × Int} (hp : p.2 = 0 ∨ p.2 = 7) (n : Nat) : (tk L p n).1.2 = 0 ∨ (tk L p n).1.2 = 7 := by
  unfold tk
  by_cases h0 : p.2 = 0
  · rw [if_pos h0]
    split
    · exact .inr rfl
    · exact .inl rfl
  · rw [if_neg h0]
    exact hp
/-- A read that went well. -/
theorem tk_good {L : List Int} {k n : Nat} (h : n ≤ L.length - k) : tk L (k, 0) n = ((k + n, 0), (L.drop k).take n) := by
  unfold tk
  rw [if_pos rfl, if_neg (by show ¬ L.length - k < n; omega)]
theorem tk_bad {L : List Int} {k n : Nat} (h : L.length - k < n) : tk L (k, 0) n = ((k, 7), []) := by
  unfold tk
  rw [if_pos rfl, if_pos h]
theorem tk_fits {L : List Int} {k n : Nat} (h : (tk L (k, 0) n).1.2 = 0) : n ≤ L.length - k := by
  by_cases h1 : L.length - k < n
  · rw [tk_bad h1] at h
    exact absurd h (by show ¬ (7 : Int) = 0; omega)
  · omega
theorem drop_split (L : List Int) (k n : Nat) : L.drop k = (L.drop k).take n ++ L.drop (k + n) := by
  rw [← List.drop_drop, List.take_append_drop]
theorem take_len {L : List Int} {k n : Nat} (h : n ≤ L.length - k) : ((L.drop k).take n).length = n := by
  rw [List.length_take, List.length_drop]; omega
theorem mem_part {L : List Int} (hL : ∀ x ∈ L, 0 ≤ x ∧ x ≤ 255) {k n : Nat} : ∀ x ∈ (L.drop k).take n, 0 ≤ x ∧ x ≤ 255 := fun x hx => hL x (List.mem_of_mem_drop (List.mem_of_mem_take hx))
theorem str_bytes {M : List Int} (h : ∀ x ∈ M, 0 ≤ x ∧ x ≤ 255) : bytesOf (strL M) = M := by
  unfold bytesOf strL
  simp only [List.map_map]
  conv => rhs; rw [← List.map_id M]
  refine List.map_congr_left fun x hx => ?_
  have := h x hx
  simp only [Function.comp, id]
  rw [UInt8.toNat_ofNat_of_lt' (by show x.toNat < 256; omega)]
  omega
theorem str_size (M : List Int) : (strL M).size = M.length := by
  unfold strL
  show (M.map fun x => UInt8.ofNat x.toNat).toArray.size = M.length
  simp
theorem idL_bytes {M : List Int} (h : M.length = 32) : idBytes (idL M) = M := by
  have := range_getD M
  rw [h] at this
  exact this
theorem len_two {M : List Int} (h : M.length = 2) : ∃ x y, M = [x, y] := by
  match M, h with
  | [x, y], _ => exact ⟨x, y, rfl⟩
theorem len_one {M : List Int} (h : M.length = 1) : ∃ x, M = [x] := by
  match M, h with
  | [x], _ => exact ⟨x, rfl⟩
theorem len_four {M : List Int} (h : M.length = 4) : ∃ x y z u, M = [x, y, z, u] := by
  match M, h with
  | [x, y, z, u], _ => exact ⟨x, y, z, u, rfl⟩
theorem be_two {M : List Int} (hl : M.length = 2) (h : ∀ x ∈ M, 0 ≤ x ∧ x ≤ 255) : beBytes 2 (numOf M) = M := by
  obtain ⟨x, y, rfl⟩ := len_two hl
  have hx := h x (by simp)
  have hy := h y (by simp)
  have : beBytes 2 (numOf [x, y]) = [numOf [x, y] / 256 % 256, numOf [x, y] % 256] := by simp [beBytes, List.range_succ]
  rw [this]
  simp only [numOf, List.foldl_cons, List.foldl_nil]
  congr 1
  · omega
  · congr 1; omega
theorem be_four {M : List Int} (hl : M.length = 4) (h : ∀ x ∈ M, 0 ≤ x ∧ x ≤ 255) : beBytes 4 (numOf M) = M := by
  obtain ⟨x, y, z, u, rfl⟩ := len_four hl
  have hx := h x (by simp)
  have hy := h y (by simp)
  have hz := h z (by simp)
  have hu := h u (by simp)
  have : beBytes 4 (numOf [x, y, z, u]) = [numOf [x, y, z, u] / 16777216 % 256, numOf [x, y, z, u] / 65536 % 256, numOf [x, y, z, u] / 256 % 256, numOf [x, y, z, u] % 256] := by simp [beBytes, List.range_succ]
  rw [this]
  simp only [numOf, List.foldl_cons, List.foldl_nil]
  congr 1
  · omega
  · congr 1
    · omega
    · congr 1
      · omega
      · congr 1; omega

/-- Is an entry's byte of what it is nought or one? -/
def foldEnt (L : List Int) (p : Nat × Int) : Bool := decide (numOf (tk L (tkText L p).1 1).2 ≤ 1)
def foldOk (L : List Int) : Nat → Nat × Int → Bool
  | 0, _ => true
  | n + 1, p => foldOk L n p && foldEnt L (tkEnts L n p).1
theorem text_zero {L : List Int} {p : Nat × Int} (h : (tkText L p).1.2 = 0) : p.2 = 0 := tk_zero (tk_zero h)
theorem tkId_zero {L : List Int} {p : Nat × Int} (h : (tkId L p).1.2 = 0) : p.2 = 0 := tk_zero h
theorem tkEnt_zero {L : List Int} {p : Nat × Int} (h : (tkEnt L p).1.2 = 0) : p.2 = 0 := text_zero (tk_zero (tkId_zero h))
theorem ents_zero {L : List Int} {p : Nat × Int} : ∀ n, (tkEnts L n p).1.2 = 0 → p.2 = 0
  | 0, h => h
  | n + 1, h => ents_zero n (tkEnt_zero h)
theorem ids_zero {L : List Int} {p : Nat × Int} : ∀ n, (tkIds L n p).1.2 = 0 → p.2 = 0
  | 0, h => h
  | n + 1, h => ids_zero n (tkId_zero h)
theorem text_either (L : List Int) {p : Nat × Int} (hp : p.2 = 0 ∨ p.2 = 7) : (tkText L p).1.2 = 0 ∨ (tkText L p).1.2 = 7 := tk_either L (tk_either L hp 1) _
theorem tkId_either (L : List Int) {p : Nat × Int} (hp : p.2 = 0 ∨ p.2 = 7) : (tkId L p).1.2 = 0 ∨ (tkId L p).1.2 = 7 := tk_either L hp 32
theorem ent_either (L : List Int) {p : Nat × Int} (hp : p.2 = 0 ∨ p.2 = 7) : (tkEnt L p).1.2 = 0 ∨ (tkEnt L p).1.2 = 7 := tkId_either L (tk_either L (text_either L hp) 1)
theorem ents_either (L : List Int) {p : Nat × Int} (hp : p.2 = 0 ∨ p.2 = 7) : ∀ n, (tkEnts L n p).1.2 = 0 ∨ (tkEnts L n p).1.2 = 7
  | 0 => hp
  | n + 1 => ent_either L (ents_either L hp n)
theorem ids_either (L : List Int) {p : Nat × Int} (hp : p.2 = 0 ∨ p.2 = 7) : ∀ n, (tkIds L n p).1.2 = 0 ∨ (tkIds L n p).1.2 = 7
  | 0 => hp
  | n + 1 => tkId_either L (ids_either L hp n)
theorem decP_either (L : List Int) : (decP L).2 = 0 ∨ (decP L).2 = 7 := by
  have h0 := tk_either L (p := (0, 0)) (.inl rfl) 1
  have hT : (cT L).1.2 = 0 ∨ (cT L).1.2 = 7 := tkId_either L h0
  have hP : (cP L).1.2 = 0 ∨ (cP L).1.2 = 7 := ids_either L (tk_either L hT 1) _
  unfold decP
  split
  · exact tk_either L (tk_either L h0 2) _
  split
  · exact ents_either L (tk_either L h0 1) _
  split
  · exact text_either L (tk_either L hP 4)
  · exact h0
/-- An error stays. -/
theorem ents_stay {L : List Int} {p : Nat × Int} {i : Nat} (h : (tkEnts L i p).1.2 = 7) : ∀ k, (tkEnts L (i + k) p).1.2 = 7
  | 0 => h
  | k + 1 => ent_err L (ents_stay h k)
theorem ids_stay {L : List Int} {p : Nat × Int} {i : Nat} (h : (tkIds L i p).1.2 = 7) : ∀ k, (tkIds L (i + k) p).1.2 = 7
  | 0 => h
  | k + 1 => tkId_err L (ids_stay h k)

/-- A text that was read stands there. -/
theorem text_split {L : List Int} (hL : ∀ x ∈ L, 0 ≤ x ∧ x ≤ 255) {k : Nat} (h : (tkText L (k, 0)).1.2 = 0) :
    ∃ k', (tkText L (k, 0)).1 = (k', 0) ∧ L.drop k = ((tkText L (k, 0)).2.size : Int) :: bytesOf (tkText L (k, 0)).2 ++ L.drop k' := by
  have h1 := tk_zero h
  have f1 := tk_fits h1
  have e1 := tk_good f1
  obtain ⟨x, hx⟩ := len_one (take_len f1)
  rw [hx] at e1
  have hxm : 0 ≤ x ∧ x ≤ 255 := mem_part hL (k := k) (n := 1) x (by rw [hx]; simp)
  unfold tkText at h ⊢
  rw [e1] at h ⊢
  simp only [num_one] at h ⊢
  have f2 := tk_fits h
  rw [tk_good f2]
  refine ⟨_, rfl, ?_⟩
  simp only
  rw [str_bytes (mem_part hL), str_size, take_len f2, drop_split L k 1, hx]
  rw [show ((x.toNat : Nat) : Int) = x by omega]
  simp only [List.cons_append, List.nil_append]
  congr 1
  exact drop_split L (k + 1) x.toNat
theorem id_split {L : List Int} {k : Nat} (h : (tkId L (k, 0)).1.2 = 0) : (tkId L (k, 0)).1 = (k + 32, 0) ∧ L.drop k = idBytes (tkId L (k, 0)).2 ++ L.drop (k + 32) := by
  have f := tk_fits h
  unfold tkId
  rw [tk_good f]
  refine ⟨rfl, ?_⟩
  simp only
  rw [idL_bytes (take_len f)]
  exact drop_split L k 32
theorem ent_split {L : List Int} (hL : ∀ x ∈ L, 0 ≤ x ∧ x ≤ 255) {k : Nat} (h : (tkEnt L (k, 0)).1.2 = 0) (hf : foldEnt L (k, 0) = true) :
    ∃ k', (tkEnt L (k, 0)).1 = (k', 0) ∧ L.drop k = entBytes (tkEnt L (k, 0)).2 ++ L.drop k' := by
  have h2 : (tk L (tkText L (k, 0)).1 1).1.2 = 0 := tkId_zero h
  have h1 : (tkText L (k, 0)).1.2 = 0 := tk_zero h2
  obtain ⟨k1, e1, s1⟩ := text_split hL h1
  unfold foldEnt at hf
  rw [e1] at hf h2
  have f2 := tk_fits h2
  have e2 := tk_good f2
  obtain ⟨x, hx⟩ := len_one (take_len f2)
  rw [hx] at e2
  have hxm : 0 ≤ x ∧ x ≤ 255 := mem_part hL (k := k1) (n := 1) x (by rw [hx]; simp)
  rw [e2, num_one] at hf
  have hx1 : x ≤ 1 := by simpa using hf
  unfold tkEnt at h ⊢
  rw [e1, e2] at h ⊢
  simp only [num_one] at h ⊢
  obtain ⟨e3, s3⟩ := id_split h
  refine ⟨_, e3, ?_⟩
  rw [s1, drop_split L k1 1, hx, s3]
  have hfo : (if (x == 1) = true then (1 : Int) else 0) = x := by
    rcases (show x = 0 ∨ x = 1 by omega) with rfl | rfl <;> rfl
  simp only [entBytes, hfo]
  simp
theorem ents_split {L : List Int} (hL : ∀ x ∈ L, 0 ≤ x ∧ x ≤ 255) {k : Nat} : ∀ n, (tkEnts L n (k, 0)).1.2 = 0 → foldOk L n (k, 0) = true →
    ∃ k', (tkEnts L n (k, 0)).1 = (k', 0) ∧ L.drop k = (tkEnts L n (k, 0)).2.flatMap entBytes ++ L.drop k'
  | 0, _, _ => ⟨k, rfl, rfl⟩
  | n + 1, h, hf => by
    simp only [tkEnts] at h ⊢
    simp only [foldOk, Bool.and_eq_true] at hf
    obtain ⟨k1, e1, s1⟩ := ents_split hL n (tkEnt_zero h) hf.1
    rw [e1] at h hf ⊢
    obtain ⟨k2, e2, s2⟩ := ent_split hL h hf.2
    refine ⟨k2, e2, ?_⟩
    rw [s1, s2]
    simp
theorem ids_split {L : List Int} {k : Nat} : ∀ n, (tkIds L n (k, 0)).1.2 = 0 → (tkIds L n (k, 0)).1 = (k + n * 32, 0) ∧ L.drop k = (tkIds L n (k, 0)).2.flatMap idBytes ++ L.drop (k + n * 32)
  | 0, _ => ⟨by simp [tkIds], by simp [tkIds]⟩
  | n + 1, h => by
    simp only [tkIds] at h ⊢
    obtain ⟨e1, s1⟩ := ids_split n (tkId_zero h)
    rw [e1] at h ⊢
    obtain ⟨e2, s2⟩ := id_split h
    have e : k + (n + 1) * 32 = k + n * 32 + 32 := by omega
    rw [e]
    refine ⟨e2, ?_⟩
    rw [s1, s2]
    simp

/-- Are the bytes of the entries, what they are, noughts and ones? -/
def allOk (L : List Int) : Bool := if decX L = 2 then foldOk L (numOf (tk L (tk L (0, 0) 1).1 1).2).toNat (tk L (tk L (0, 0) 1).1 1).1 else true
/-- All is read, and may be. -/
def fullB (L : List Int) : Bool := decide (L.length ≤ (decP L).1) && (allOk L && rightB (decO L none 0) (decC L))
theorem decO_right (L : List Int) (sq : Option Addr) (cq : Nat) : rightB (decO L sq cq) (decC L) = rightB (decO L none 0) (decC L) := by
  unfold decO
  split
  · rfl
  split
  · rfl
  split
  · rfl
  · rfl
theorem fold_at {L A : List Int} : ∀ (n : Nat) (es : List Ent) (R : List Int), L = A ++ (es.flatMap entBytes ++ R) → n ≤ es.length → ∀ k, k = A.length → foldOk L n (k, 0) = true
  | 0, es, R, hL, hn, k, hk => rfl
  | n + 1, es, R, hL, hn, k, hk => by
    have ih := fold_at n es R hL (by omega) k hk
    have h1 := ents_at n es R hL (by omega) k hk
    have hs : es = es.take n ++ (es[n]'(by omega) :: es.drop (n + 1)) := by rw [← List.drop_eq_getElem_cons (by omega), List.take_append_drop]
    generalize hE : es[n]'(by omega) = e at hs
    have hL2 : L = (A ++ (es.take n).flatMap entBytes) ++ ((e.name.size : Int) :: bytesOf e.name ++ (((if e.folder then 1 else 0) :: idBytes e.id) ++ ((es.drop (n + 1)).flatMap entBytes ++ R))) := by
      have h : es.flatMap entBytes = (es.take n).flatMap entBytes ++ (entBytes e ++ (es.drop (n + 1)).flatMap entBytes) := by
        conv => lhs; rw [hs]
        simp only [List.flatMap_append, List.flatMap_cons]
      rw [hL, h]
      simp [entBytes]
    simp only [foldOk, ih, Bool.true_and]
    rw [h1]
    have h2 := text_at hL2 (k := k + ((es.take n).flatMap entBytes).length) (by simp [hk])
    unfold foldEnt
    rw [h2]
    simp only
    rw [tk_at (n := 1) (A := A ++ (es.take n).flatMap entBytes ++ ((e.name.size : Int) :: bytesOf e.name)) (M := [if e.folder then 1 else 0]) (R := idBytes e.id ++ ((es.drop (n + 1)).flatMap entBytes ++ R)) (by rw [hL2]; simp) (by simp [hk, bytesOf_len]; omega) rfl]
    simp only [num_one]
    cases e.folder <;> rfl
theorem full_of_enc {L : List Int} (hL : ∀ x ∈ L, 0 ≤ x ∧ x ≤ 255) {sq : Option Addr} {cq : Nat} (hr : rightB (decO L sq cq) (decC L) = true) (he : encB (decO L sq cq) (decC L) = L) : fullB L = true := by
  have hb := back_any hr (dec_fit hL sq cq).n
  rw [he] at hb
  unfold fullB
  rw [← decO_right L sq cq, hr, hb.p]
  simp only [Nat.le_refl, decide_true, Bool.true_and, Bool.and_true]
  unfold allOk
  by_cases h2 : decX L = 2
  · rw [if_pos h2]
    have hk : (decO L sq cq).kind = 2 := by rw [← hb.x, h2]
    have hC : (decC L).es = (decE L).2 := by simp [decC, h2]
    have hL2 : L = 2 :: ((decC L).es.length : Int) :: (decC L).es.flatMap entBytes := by
      conv => lhs; rw [← he]
      simp [encB, hk]
    have t1 : tk L (0, 0) 1 = ((1, 0), [2]) := tk_at (A := []) (R := ((decC L).es.length : Int) :: (decC L).es.flatMap entBytes) (hL2.trans (by simp)) rfl rfl
    have t2 : tk L (1, 0) 1 = ((2, 0), [((decC L).es.length : Int)]) := tk_at (A := [2]) (R := (decC L).es.flatMap entBytes) (hL2.trans (by simp)) rfl rfl
    rw [t1]
    simp only
    rw [t2]
    simp only [num_one, Int.toNat_natCast]
    exact fold_at (L := L) (A := [2, ((decC L).es.length : Int)]) _ (decC L).es [] (hL2.trans (by simp)) (Nat.le_refl _) 2 rfl
  · rw [if_neg h2]
theorem enc_of_full {L : List Int} (hL : ∀ x ∈ L, 0 ≤ x ∧ x ≤ 255) (h0 : (decP L).2 = 0) (hf : fullB L = true) (sq : Option Addr) (cq : Nat) : rightB (decO L sq cq) (decC L) = true ∧ encB (decO L sq cq) (decC L) = L := by
  unfold fullB at hf
  simp only [Bool.and_eq_true, decide_eq_true_eq] at hf
  obtain ⟨hle, hok, hr⟩ := hf
  refine ⟨by rw [decO_right, hr], ?_⟩
  have hnil : ∀ k, (decP L).1 = k → L.drop k = [] := fun k hk => List.drop_eq_nil_of_le (by omega)
  unfold decP at h0 hnil
  by_cases h1 : decX L = 1
  · simp only [h1, if_true] at h0 hnil
    have hz2 : (bN L).1.2 = 0 := tk_zero h0
    have hz1 : (tk L (0, 0) 1).1.2 = 0 := tk_zero hz2
    have f1 := tk_fits hz1
    have e1 := tk_good f1
    obtain ⟨x, hx⟩ := len_one (take_len f1)
    rw [hx] at e1
    have hx1 : x = 1 := by have := h1; unfold decX at this; rw [e1, num_one] at this; exact this
    subst hx1
    have hN : bN L = tk L (1, 0) 2 := by unfold bN; rw [e1]
    rw [hN] at hz2
    have f2 := tk_fits hz2
    have e2 := tk_good f2
    have hN2 : bN L = ((1 + 2, 0), (L.drop 1).take 2) := by rw [hN, e2]
    have hB : bB L = tk L (3, 0) (numOf ((L.drop 1).take 2)).toNat := by unfold bB; rw [hN2]
    rw [hB] at h0
    have f3 := tk_fits h0
    have e3 := tk_good f3
    have hB2 : bB L = ((3 + (numOf ((L.drop 1).take 2)).toNat, 0), (L.drop 3).take (numOf ((L.drop 1).take 2)).toNat) := by rw [hB, e3]
    have hd := hnil _ (by rw [hB2])
    have hnum := numOf_len (mem_part hL (k := 1) (n := 2)) (Nat.le_of_eq (take_len f2))
    have hE : encB (decO L sq cq) (decC L) = 1 :: beBytes 2 (numOf ((L.drop 1).take 2)) ++ (L.drop 3).take (numOf ((L.drop 1).take 2)).toNat := by
      have hl := take_len f3
      simp only [decO, decC, h1, if_true, blobOb, blobCo, encB, hB2]
      rw [range_getD, hl, Int.toNat_of_nonneg hnum.1]
    rw [hE, be_two (take_len f2) (mem_part hL)]
    conv => rhs; rw [show L = L.drop 0 from rfl, drop_split L 0 1, hx, drop_split L (0 + 1) 2, drop_split L (0 + 1 + 2) (numOf ((L.drop 1).take 2)).toNat]
    rw [show 0 + 1 + 2 + (numOf ((L.drop 1).take 2)).toNat = 3 + (numOf ((L.drop 1).take 2)).toNat by omega, hd]
    simp
  by_cases h2 : decX L = 2
  · simp only [h2, show ¬ (2 : Int) = 1 by omega, if_false, if_true] at h0 hnil
    unfold allOk at hok
    rw [if_pos h2] at hok
    have hz2 : (tk L (tk L (0, 0) 1).1 1).1.2 = 0 := ents_zero _ h0
    have hz1 : (tk L (0, 0) 1).1.2 = 0 := tk_zero hz2
    have f1 := tk_fits hz1
    have e1 := tk_good f1
    obtain ⟨x, hx⟩ := len_one (take_len f1)
    rw [hx] at e1
    have hx1 : x = 2 := by have := h2; unfold decX at this; rw [e1, num_one] at this; exact this
    subst hx1
    rw [e1] at hz2 hok
    have f2 := tk_fits hz2
    have e2 := tk_good f2
    obtain ⟨y, hy⟩ := len_one (take_len f2)
    rw [hy] at e2
    have hym : 0 ≤ y ∧ y ≤ 255 := mem_part hL (k := 1) (n := 1) y (by rw [show (1 : Nat) = 0 + 1 from rfl, hy]; simp)
    have hE : decE L = tkEnts L y.toNat (2, 0) := by unfold decE; rw [e1]; simp only; rw [show ((0 : Nat) + 1, (0 : Int)) = (0 + 1, 0) from rfl, e2]; simp only [num_one]
    rw [e2] at hok
    simp only [num_one] at hok
    rw [hE] at h0 hnil
    obtain ⟨k', e3, s3⟩ := ents_split hL y.toNat h0 hok
    have hd := hnil k' (by rw [e3])
    have hlen : ((tkEnts L y.toNat (2, 0)).2.length : Int) = y := by rw [tkEnts_len]; omega
    have hEn : encB (decO L sq cq) (decC L) = 2 :: y :: (tkEnts L y.toNat (2, 0)).2.flatMap entBytes := by
      simp only [decO, decC, h2, show ¬ (2 : Int) = 1 by omega, if_true, if_false, encB, hE, hlen]
    rw [hEn]
    conv => rhs; rw [show L = L.drop 0 from rfl, drop_split L 0 1, hx, drop_split L (0 + 1) 1, hy]
    rw [show 0 + 1 + 1 = 2 from rfl, s3, hd]
    simp
  by_cases h3 : decX L = 3
  · simp only [h3, show ¬ (3 : Int) = 1 by omega, show ¬ (3 : Int) = 2 by omega, if_false, if_true] at h0 hnil
    have hzN : (cN L).1.2 = 0 := text_zero h0
    have hzP : (cP L).1.2 = 0 := tk_zero hzN
    have hz2 : (tk L (cT L).1 1).1.2 = 0 := ids_zero _ hzP
    have hzT : (cT L).1.2 = 0 := tk_zero hz2
    have hz1 : (tk L (0, 0) 1).1.2 = 0 := tkId_zero hzT
    have f1 := tk_fits hz1
    have e1 := tk_good f1
    obtain ⟨x, hx⟩ := len_one (take_len f1)
    rw [hx] at e1
    have hx1 : x = 3 := by have := h3; unfold decX at this; rw [e1, num_one] at this; exact this
    subst hx1
    have hT : cT L = tkId L (1, 0) := by unfold cT; rw [e1]
    rw [hT] at hzT hz2
    obtain ⟨eT, sT⟩ := id_split hzT
    rw [eT] at hz2
    have f2 := tk_fits hz2
    have e2 := tk_good f2
    obtain ⟨y, hy⟩ := len_one (take_len f2)
    rw [hy] at e2
    have hym : 0 ≤ y ∧ y ≤ 255 := mem_part hL (k := 1 + 32) (n := 1) y (by rw [hy]; simp)
    have hP : cP L = tkIds L y.toNat (34, 0) := by unfold cP; rw [hT, eT, e2]; simp only [num_one]
    rw [hP] at hzP
    obtain ⟨eP, sP⟩ := ids_split y.toNat hzP
    have hN : cN L = tk L (34 + y.toNat * 32, 0) 4 := by unfold cN; rw [hP, eP]
    rw [hN] at hzN
    have f4 := tk_fits hzN
    have e4 := tk_good f4
    have hN2 : cN L = ((34 + y.toNat * 32 + 4, 0), (L.drop (34 + y.toNat * 32)).take 4) := by rw [hN, e4]
    have hS : cS L = tkText L (34 + y.toNat * 32 + 4, 0) := by unfold cS; rw [hN2]
    rw [hS] at h0
    obtain ⟨k', eS, sS⟩ := text_split hL h0
    have hd := hnil k' (by rw [hS, eS])
    have hlen : ((tkIds L y.toNat (34, 0)).2.length : Int) = y := by rw [tkIds_len]; omega
    have hEn : encB (decO L sq cq) (decC L) = 3 :: idBytes (tkId L (1, 0)).2 ++ (y :: (tkIds L y.toNat (34, 0)).2.flatMap idBytes ++ (beBytes 4 (numOf ((L.drop (34 + y.toNat * 32)).take 4)) ++ (((tkText L (34 + y.toNat * 32 + 4, 0)).2.size : Int) :: bytesOf (tkText L (34 + y.toNat * 32 + 4, 0)).2))) := by
      simp only [decO, decC, h3, show ¬ (3 : Int) = 1 by omega, show ¬ (3 : Int) = 2 by omega, if_true, if_false, commitOb, commitCo, encB, hT, hP, hN2, hS, hlen]
    rw [hEn, be_four (take_len f4) (mem_part hL)]
    conv => rhs; rw [show L = L.drop 0 from rfl, drop_split L 0 1, hx, sT, drop_split L (1 + 32) 1, hy]
    rw [show 1 + 32 + 1 = 34 from rfl, sP]
    have sN := drop_split L (34 + y.toNat * 32) 4
    generalize (L.drop (34 + y.toNat * 32)).take 4 = M at sN ⊢
    rw [sN, sS, hd]
    simp
  · have hk : (decO L none 0).kind = decX L := by simp [decO, h1, h2, h3]
    rcases right_kind hr with q | q | q
    · exact absurd (hk.symm.trans q) h1
    · exact absurd (hk.symm.trans q) h2
    · exact absurd (hk.symm.trans q) h3
end Go.Proofs.Ytnaoaeapffgojaa
