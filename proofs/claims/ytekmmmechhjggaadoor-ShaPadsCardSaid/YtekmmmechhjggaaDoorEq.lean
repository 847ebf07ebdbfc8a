/- Two arrays of numbers compared; what Parse and Text are to each other. No walk. -/
import Derived.Test.YtekmmmechhjggaaDoorParse
import Derived.Laws.StructEq
namespace Go.Proofs.YtekmmmechhjggaaDoor
open Go.RowKit

theorem run_elem {P : Program} {e : TypeId} {k k' : IntKind} {n i : Nat} {f : Nat → Int} {w : World} (he : P.underlying e = some (.int k')) (hi : i < n) : (part e (arr k n f) i).run P w = .ok (.int k (f i)) w := by
  simp [part, isAgg, run_underlying he, arr_get hi]

/-- Are the first n numbers the same? -/
def eqTo (f g : Nat → Int) (n : Nat) : Bool := (List.range n).all fun i => f i == g i
theorem eqTo_true {f g : Nat → Int} {n : Nat} (h : ∀ i, i < n → f i = g i) : eqTo f g n = true := by
  unfold eqTo
  rw [List.all_eq_true]
  intro i hi
  simp [h i (List.mem_range.1 hi)]

theorem equal_arr' {P : Program} (d : Nat) (t e : TypeId) (n : Nat) (k k' : IntKind) (f g : Nat → Int) (ht : P.underlying t = some (.array n e)) (he : P.underlying e = some (.int k')) (hs : (P.info? e).map (·.size) = some 1) (w : World)
    (hd : ∀ a b, (Op.equalIn d e (.int k a) (.int k b)).run P w = .ok (a == b) w) :
    (Op.equalIn (d + 1) t (.agg (arr k n f)) (.agg (arr k n g))).run P w = .ok (eqTo f g n) w := by
  have h3 : (sizeOf e).run P w = .ok 1 w := by
    cases hq : P.info? e with
    | none => simp [hq] at hs
    | some q =>
      have hq1 : q.size = 1 := by simpa [hq] using hs
      simp [sizeOf, typeInfo, hq, hq1]
  have key : ∀ m s, s + m ≤ n → ((forIn (List.range' s m) ((none : Option Bool), ()) fun i (_ : Option Bool × Unit) => do
        let a ← part e (arr k n f) (i * 1)
        let b ← part e (arr k n g) (i * 1)
        let c ← Op.equalIn d e a b
        if (!c) = true then pure (.done (some false, ())) else pure (.yield (none, ()))).run P w) = .ok (if (List.range' s m).all fun i => f i == g i then none else some false, ()) w := by
    intro m
    induction m with
    | zero => intro s _; simp
    | succ m ih =>
      intro s hsm
      simp only [List.range'_succ, List.forIn_cons, Nat.mul_one, Sem.run_bind, run_elem he (show s < n by omega), Result.andThen_ok, hd, List.all_cons]
      by_cases hfg : f s = g s
      · have hb : (f s == g s) = true := by simp [hfg]
        simp only [hb, Bool.not_true, Bool.false_eq_true, if_false, Sem.run_pure, Result.andThen_ok, Bool.true_and]
        have := ih (s + 1) (by omega)
        simp only [Nat.mul_one] at this
        exact this
      · have hb : (f s == g s) = false := by simp [hfg]
        simp [hb]
  have h0 := key n 0 (by omega)
  simp only [Op.equalIn, Sem.run_bind, run_underlying ht, Result.andThen_ok, h3, Std.Legacy.Range.forIn_eq_forIn_range']
  have e0 : [:n].size = n := by simp [Std.Legacy.Range.size]
  rw [e0, h0]
  unfold eqTo
  rw [List.range_eq_range']
  cases (List.range' 0 n).all fun i => f i == g i <;> simp
theorem equal_arr {P : Program} (d : Nat) (t e : TypeId) (n : Nat) (k k' : IntKind) (f g : Nat → Int) (ht : P.underlying t = some (.array n e)) (he : P.underlying e = some (.int k')) (hs : (P.info? e).map (·.size) = some 1) (w : World) :
    (Op.equalIn (d + 1 + 1) t (.agg (arr k n f)) (.agg (arr k n g))).run P w = .ok (eqTo f g n) w :=
  equal_arr' (d + 1) t e n k k' f g ht he hs w fun a b => run_equalIn_int w d e k k' a b he

theorem or_digits : ∀ a : Nat, a < 16 → ∀ b : Nat, b < 16 → bits .or .u8 (bits .or .u8 (0 * 16 % 256) (a : Int) * 16 % 256) (b : Int) = 16 * (a : Int) + b := by decide +kernel
theorem parse_keep (s : ByteArray) (t i : Nat) (h : 2 * i + 2 ≤ t) : ∀ m, parseTo s (t + m) i = parseTo s t i
  | 0 => rfl
  | m + 1 => by
    have e : parseTo s (t + (m + 1)) i = parseTo s (t + m) i := by
      show upd (parseTo s (t + m)) ((t + m) / 2) _ i = _
      unfold upd
      rw [if_neg (by omega)]
    rw [e]; exact parse_keep s t i h m
theorem parse_none (s : ByteArray) : ∀ t i, t ≤ 2 * i → parseTo s t i = 0
  | 0, _, _ => rfl
  | t + 1, i, h => by
    show upd (parseTo s t) (t / 2) _ i = _
    unfold upd
    rw [if_neg (by omega)]
    exact parse_none s t i (by omega)
theorem parse_at (s : ByteArray) (hd : digitsTo s 64) (i : Nat) (h : i < 32) : parseTo s 64 i = 16 * worthI (chr s (2 * i)) + worthI (chr s (2 * i + 1)) := by
  obtain ⟨m, hm⟩ : ∃ m, 64 = 2 * i + 2 + m := ⟨64 - (2 * i + 2), by omega⟩
  have hk : parseTo s 64 i = parseTo s (2 * i + 2) i := by rw [hm]; exact parse_keep s (2 * i + 2) i (Nat.le_refl _) m
  have st : ∀ t, t / 2 = i → parseTo s (t + 1) i = bits .or .u8 (parseTo s t i * 16 % 256) (worthI (chr s t)) := fun t ht => by
    show upd (parseTo s t) (t / 2) _ i = _
    unfold upd
    rw [ht, if_pos rfl]
  rw [hk, st (2 * i + 1) (by omega), st (2 * i) (by omega), parse_none s (2 * i) i (Nat.le_refl _)]
  obtain ⟨a, ha⟩ := Int.eq_ofNat_of_zero_le (hd (2 * i) (by omega))
  obtain ⟨b, hb⟩ := Int.eq_ofNat_of_zero_le (hd (2 * i + 1) (by omega))
  have la := (worth_le (chr s (2 * i))).2
  have lb := (worth_le (chr s (2 * i + 1))).2
  rw [ha, hb]
  exact or_digits a (by omega) b (by omega)
theorem parse_bytes (s : ByteArray) (hd : digitsTo s 64) (i : Nat) (h : i < 32) : 0 ≤ parseTo s 64 i ∧ parseTo s 64 i ≤ 255 := by
  rw [parse_at s hd i h]
  have a := hd (2 * i) (by omega)
  have b := hd (2 * i + 1) (by omega)
  have la := (worth_le (chr s (2 * i))).2
  have lb := (worth_le (chr s (2 * i + 1))).2
  omega
theorem str_size (n : Nat) (f : Nat → Int) : (strOf n f).size = n := by simp [strOf, ByteArray.size]
theorem chr_str (n : Nat) (f : Nat → Int) (k : Nat) (hk : k < n) (h : 0 ≤ f k ∧ f k ≤ 255) : chr (strOf n f) k = f k := by
  unfold chr strOf
  rw [List.getD_eq_getElem?_getD]
  simp [hk]
  omega
theorem worth_dig (q : Int) (h0 : 0 ≤ q) (h1 : q < 16) : worthI (digI q) = q := by
  unfold worthI digI
  split <;> split <;> (try split) <;> omega
theorem dig_worth (c : Int) (h : 0 ≤ worthI c) : digI (worthI c) = c := by
  unfold worthI digI at *
  split at h
  · split <;> split <;> omega
  · split at h
    · split <;> (try split) <;> (try split) <;> omega
    · omega
theorem dig_byte (q : Int) (h0 : 0 ≤ q) (h1 : q < 16) : 0 ≤ digI q ∧ digI q ≤ 255 := by unfold digI; split <;> omega
theorem text_byte (f : Nat → Int) (hf : ∀ i, 0 ≤ f i ∧ f i ≤ 255) (j : Nat) : 0 ≤ textTo f 32 j ∧ textTo f 32 j ≤ 255 := by
  unfold textTo
  have := hf (j / 2)
  split
  · split
    · exact dig_byte _ (by omega) (by omega)
    · exact dig_byte _ (by omega) (by omega)
  · omega
/-- A digest's digits are read as it. -/
theorem text_digits (f : Nat → Int) (hf : ∀ i, 0 ≤ f i ∧ f i ≤ 255) : digitsTo (textF f) 64 := by
  intro i hi
  unfold textF
  rw [chr_str 64 _ i hi (text_byte f hf i)]
  unfold textTo
  have := hf (i / 2)
  rw [if_pos (by omega)]
  split
  · rw [worth_dig _ (by omega) (by omega)]; omega
  · rw [worth_dig _ (by omega) (by omega)]; omega
theorem parse_text (f : Nat → Int) (hf : ∀ i, 0 ≤ f i ∧ f i ≤ 255) (i : Nat) (h : i < 32) : parseTo (textF f) 64 i = f i := by
  rw [parse_at _ (text_digits f hf) i h]
  unfold textF
  rw [chr_str 64 _ (2 * i) (by omega) (text_byte f hf _), chr_str 64 _ (2 * i + 1) (by omega) (text_byte f hf _)]
  unfold textTo
  have := hf i
  rw [if_pos (by omega), if_pos (by omega), if_pos (by omega), if_neg (by omega), show 2 * i / 2 = i by omega, show (2 * i + 1) / 2 = i by omega, worth_dig _ (by omega) (by omega), worth_dig _ (by omega) (by omega)]
  omega
/-- Digits that are read are those of what they are read as. -/
theorem text_parse (s : ByteArray) (hs : s.size = 64) (hd : digitsTo s 64) (p : Nat → Int) (hp : ∀ i, i < 32 → p i = parseTo s 64 i) : (textF p).data.toList = s.data.toList := by
  apply List.ext_getElem
  · have h1 : (textF p).data.toList.length = 64 := by simp [textF, strOf]
    have h2 : s.data.toList.length = 64 := by simpa using hs
    rw [h1, h2]
  · intro j h1 h2
    have hj : j < 64 := by simpa [textF, strOf] using h1
    have hc : chr s j = (s.data.toList[j].toNat : Int) := by
      unfold chr
      rw [List.getD_eq_getElem?_getD, List.getElem?_eq_getElem h2]
      rfl
    have e : textTo p 32 j = chr s j := by
      unfold textTo
      have h32 : j / 2 < 32 := by omega
      rw [if_pos (by omega), hp _ h32, parse_at s hd (j / 2) h32]
      have a := hd (2 * (j / 2)) (by omega)
      have b := hd (2 * (j / 2) + 1) (by omega)
      have la := (worth_le (chr s (2 * (j / 2)))).2
      have lb := (worth_le (chr s (2 * (j / 2) + 1))).2
      split
      · rw [show (16 * worthI (chr s (2 * (j / 2))) + worthI (chr s (2 * (j / 2) + 1))) / 16 = worthI (chr s (2 * (j / 2))) by omega, dig_worth _ a, show 2 * (j / 2) = j by omega]
      · rw [show (16 * worthI (chr s (2 * (j / 2))) + worthI (chr s (2 * (j / 2) + 1))) % 16 = worthI (chr s (2 * (j / 2) + 1)) by omega, dig_worth _ b, show 2 * (j / 2) + 1 = j by omega]
    have e2 : (textF p).data.toList[j] = UInt8.ofNat (textTo p 32 j).toNat := by simp [textF, strOf]
    refine e2.trans ?_
    rw [e, hc]
    simp
end Go.Proofs.YtekmmmechhjggaaDoor
