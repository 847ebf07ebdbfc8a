/- What a text says; the contract of lex's unquote. -/
import Derived.Test.YtcbpnmdphmdemaaLxN
import Derived.WalkMore
import Derived.ScopeJumps
namespace Go.Proofs.Ytcbpnmdphmdemaa
open Go.RowKit

/-- What a backslash and a byte say. -/
def pairU (c : UInt8) : Option UInt8 := if c.toNat = 34 ∨ c.toNat = 92 then some c else if c.toNat = 110 then some 10 else none
theorem pairI_cons (c : UInt8) (r : List UInt8) : pairI (c :: r) = match pairU c with | none => 0 | some x => (x.toNat : Int) := by
  show (if c.toNat = 34 ∨ c.toNat = 92 then (c.toNat : Int) else if c.toNat = 110 then 10 else 0) = _
  unfold pairU
  by_cases h1 : c.toNat = 34 ∨ c.toNat = 92
  · rw [if_pos h1, if_pos h1]
  · rw [if_neg h1, if_neg h1]
    by_cases h2 : c.toNat = 110
    · rw [if_pos h2, if_pos h2]
      rfl
    · rw [if_neg h2, if_neg h2]
theorem pairU_pos {c x : UInt8} (h : pairU c = some x) : x.toNat ≠ 0 := by
  unfold pairU at h
  split at h
  · injection h with h; subst h; omega
  · split at h
    · injection h with h; subst h; decide
    · cases h
/-- The rest of a text, read on: what it says, and its size. -/
def unqA (acc : List UInt8) (i : Nat) : List UInt8 → Option (List UInt8 × Nat)
  | [] => none
  | c :: r => if c.toNat = 34 then some (acc, i + 1) else if c.toNat = 92 then (match r with | [] => none | d :: r' => match pairU d with | none => none | some x => unqA (acc ++ [x]) (i + 2) r') else if plnB c.toNat then unqA (acc ++ [c]) (i + 1) r else none
theorem unqA_cons (acc : List UInt8) (i : Nat) (c : UInt8) (r : List UInt8) : unqA acc i (c :: r) = if c.toNat = 34 then some (acc, i + 1) else if c.toNat = 92 then (match r with | [] => none | d :: r' => match pairU d with | none => none | some x => unqA (acc ++ [x]) (i + 2) r') else if plnB c.toNat then unqA (acc ++ [c]) (i + 1) r else none := by
  rw [unqA.eq_def]
/-- What the text that bytes begin with says, and its size. -/
def unqO : List UInt8 → Option (List UInt8 × Nat)
  | [] => none
  | c :: r => if c.toNat = 34 then unqA [] 1 r else none
theorem drop_at {L : List UInt8} {i : Nat} {c : UInt8} (h : L[i]? = some c) : L.drop i = c :: L.drop (i + 1) := by
  obtain ⟨hlt, he⟩ := List.getElem?_eq_some_iff.1 h
  rw [List.drop_eq_getElem_cons hlt, he]
theorem unqA_end {acc : List UInt8} {i : Nat} {L : List UInt8} {c : UInt8} (h : L[i]? = some c) (h1 : c.toNat = 34) : unqA acc i (L.drop i) = some (acc, i + 1) := by
  rw [drop_at h, unqA_cons, if_pos h1]
theorem unqA_esc {acc : List UInt8} {i : Nat} {L : List UInt8} {c d x : UInt8} (h : L[i]? = some c) (h1 : c.toNat = 92) (hd : L[i + 1]? = some d) (hx : pairU d = some x) : unqA acc i (L.drop i) = unqA (acc ++ [x]) (i + 2) (L.drop (i + 2)) := by
  rw [drop_at h, drop_at hd, unqA_cons, if_neg (by omega), if_pos h1]
  simp only [hx]
theorem unqA_bad {acc : List UInt8} {i : Nat} {L : List UInt8} {c : UInt8} (h : L[i]? = some c) (h1 : c.toNat = 92) (hd : pairI (L.drop (i + 1)) = 0) : unqA acc i (L.drop i) = none := by
  rw [drop_at h, unqA_cons, if_neg (by omega), if_pos h1]
  cases hr : L.drop (i + 1) with
  | nil => rfl
  | cons d r =>
    rw [hr, pairI_cons] at hd
    cases hp : pairU d with
    | none => simp only [hp]
    | some x =>
      rw [hp] at hd
      have := pairU_pos hp
      simp only at hd
      omega
theorem unqA_plain {acc : List UInt8} {i : Nat} {L : List UInt8} {c : UInt8} (h : L[i]? = some c) (h1 : c.toNat ≠ 34) (h2 : c.toNat ≠ 92) (h3 : plnB c.toNat = true) : unqA acc i (L.drop i) = unqA (acc ++ [c]) (i + 1) (L.drop (i + 1)) := by
  rw [drop_at h, unqA_cons, if_neg h1, if_neg h2, if_pos h3]
theorem unqA_not {acc : List UInt8} {i : Nat} {L : List UInt8} {c : UInt8} (h : L[i]? = some c) (h1 : c.toNat ≠ 34) (h2 : c.toNat ≠ 92) (h3 : plnB c.toNat = false) : unqA acc i (L.drop i) = none := by
  rw [drop_at h, unqA_cons, if_neg h1, if_neg h2, if_neg (by rw [h3]; decide)]
theorem BA.below' {w w' : World} {sp : Option Addr} {L : List UInt8} {B : Nat} (h : BA w sp L) (hb : Below B w w') (hB : B = w.heap.size := by rfl) : BA w' sp L := h.below (hB ▸ hb)
theorem BA.drop {w : World} {b o : Nat} {L : List UInt8} (h : BA w (some ⟨b, o, none⟩) L) (k : Nat) : BA w (some ⟨b, o + k, none⟩) (L.drop k) := fun hl => by
  obtain ⟨b', o', e, hc⟩ := h (by rw [List.length_drop] at hl; omega)
  injection e with e
  injection e with e1 e2
  subst e1 e2
  refine ⟨b, o + k, rfl, fun i c hi => ?_⟩
  rw [List.getElem?_drop] at hi
  rw [Nat.add_assoc]
  exact hc (k + i) c hi
theorem BA.none_left {w : World} {sp : Option Addr} {L : List UInt8} {k : Nat} (h : L.length ≤ k) : BA w sp (L.drop k) := by
  rw [List.drop_eq_nil_of_le h]
  exact BA.nil _ _
theorem BA.cut {w : World} {b o cap : Nat} {L : List UInt8} (h : BA w (some ⟨b, o, none⟩) L) (k : Nat) (hc : L.length ≤ cap) : BA w (if cap = k then some ⟨b, o, none⟩ else some ⟨b, o + k, none⟩) (L.drop k) := by
  split
  · exact BA.none_left (by omega)
  · exact h.drop k
theorem pair_some {L : List UInt8} {k : Nat} (h : pairI (L.drop k) ≠ 0) : ∃ d x, L[k]? = some d ∧ pairU d = some x ∧ pairI (L.drop k) = x.toNat := by
  cases hk : L[k]? with
  | none =>
    rw [List.drop_eq_nil_of_le (by simpa using hk)] at h
    exact absurd rfl h
  | some d =>
    rw [drop_at hk, pairI_cons] at h
    cases hp : pairU d with
    | none => rw [hp] at h; exact absurd rfl h
    | some x => exact ⟨d, x, rfl, hp, by rw [drop_at hk, pairI_cons, hp]⟩
/-- A byte is put behind a slice of one's own. -/
theorem push_byte {B : Nat} {w wr : World} {v : Value} {acc : List UInt8} (c : UInt8) (ho : OwnB B wr v acc) (hb : Below B w wr) (hB : B ≤ wr.heap.size) (hl : acc.length ≤ 900000) :
    ∃ v' w', (Builtin.append_ #[58, 58] 58 #[v, .slice (some ⟨wr.heap.size, 0, none⟩) 1 1]).run Try.prog (wr.alloc (.cells #[.int .u8 c.toNat] 5)) = .ok v' w' ∧ OwnB B w' v' (acc ++ [c]) ∧ Below B w w' := by
  have ba : Below wr.heap.size wr (wr.alloc (.cells #[.int .u8 c.toNat] 5)) := (Below.refl _ _).alloc (Nat.le_refl _) _
  have ho' := ho.below ba
  obtain ⟨v', w', hr, q1, q2, -⟩ := own_run elB (ys := [c]) (sp := some ⟨wr.heap.size, 0, none⟩) (cap := 1) 58 ho' (fun h => by cases h) (oneG_rows (x := c) (heap_alloc_new wr _)) (by simp; omega) (by simp; omega)
  exact ⟨v', w', hr, q1, OwnG.grown ho' (Nat.le_refl _) (by simp; omega) (hb.alloc hB _) q2⟩
/-- What unquote tells. -/
def UnqP (B : Nat) (w : World) (o : Option (List UInt8 × Nat)) (e : Ending) : Prop := match o with
  | none => e = .returned (.tuple #[.slice none 0 0, .int .i64 0])
  | some (v, n) => ∃ u, e = .returned (.tuple #[u, .int .i64 n]) ∧ OwnB B w u v
set_option maxRecDepth 100000 in
set_option maxHeartbeats 1000000 in
theorem unquote_any (sp : Option Addr) (cap : Nat) (L : List UInt8) (w : World) (h : BA w sp L) (hl : L.length ≤ 100000) (hcap : L.length ≤ cap) :
    Calls Try.prog 43 #[.slice sp L.length cap] w fun e w' => UnqP w.heap.size w' (unqO L) e ∧ Below w.heap.size w w' := by
  have HL : Hid (BA w sp L) := h
  clear h
  go_enter Try.func43, Try.ntmps43
  go_wp2
  refine wp_scope_jumps 0 (fun a' w' => unqO L = none ∧ Below w.heap.size w w' ∧ ∃ u0 u1 u2 u3 u4 u5 u6 u7 u8 u9 u10 u11 u12 u13 u14 u15 u16 u17 u18 u19 u20 u21 u22 u23 u24 u25 u26 u27 u28 u29 u30 u31 u32 u33 u34 u35 u36 u37 u38 u39 u40 u41 u42 u43 u44 u45 u46 u47 u48 u49 u50 : Value, a' = { tmps := #[u0, u1, u2, u3, u4, u5, u6, u7, u8, u9, u10, u11, u12, u13, u14, u15, u16, u17, u18, u19, u20, u21, u22, u23, u24, u25, u26, u27, u28, u29, u30, u31, u32, u33, u34, u35, u36, u37, u38, u39, u40, u41, u42, u43, u44, u45, u46, u47, u48, u49, u50], defers := [] }) (fun _ _ => 0) rfl ?_ ?_
  rotate_left
  · rintro a' w' ⟨hn, hb, u0, u1, u2, u3, u4, u5, u6, u7, u8, u9, u10, u11, u12, u13, u14, u15, u16, u17, u18, u19, u20, u21, u22, u23, u24, u25, u26, u27, u28, u29, u30, u31, u32, u33, u34, u35, u36, u37, u38, u39, u40, u41, u42, u43, u44, u45, u46, u47, u48, u49, u50, rfl⟩
    have HN : Hid (unqO L = none) := hn
    clear hn
    go_wp2
    simp only [Exit.jump]
    go_ret2
    refine ⟨?_, hb⟩
    rw [HN.out]
    exact rfl
  by_cases hnil : L = []
  · subst hnil
    have HN : Hid (unqO [] = none) := rfl
    go_wp2
    go_step3
    exact ⟨rfl, HN.out, Below.refl _ _, _, _, _, _, _, _, _, _, _, _, _, _, _, _, _, _, _, _, _, _, _, _, _, _, _, _, _, _, _, _, _, _, _, _, _, _, _, _, _, _, _, _, _, _, _, _, _, _, _, _, _, rfl⟩
  have hpos : 0 < L.length := List.length_pos_iff.2 hnil
  obtain ⟨b, o, rfl, hc⟩ := HL.out hpos
  obtain ⟨c0, hc0⟩ : ∃ c, L[0]? = some c := ⟨_, List.getElem?_eq_getElem hpos⟩
  have k0 : w.cell? ⟨b, o, none⟩ = some (.int .u8 c0.toNat) := hc 0 c0 hc0
  have hln : (((L.length : Nat) : Int) == 0) = false := by rw [beq_eq_false_iff_ne]; omega
  have hlt0 : (0 : Int) < (L.length : Nat) := by omega
  have HU : Hid (unqO L = if c0.toNat = 34 then unqA [] 1 (L.drop 1) else none) := by
    have e := drop_at hc0
    rw [List.drop_zero] at e
    rw [e]
    exact rfl
  have HC : Hid (∀ i c, L[i]? = some c → w.cell? ⟨b, o + i, none⟩ = some (.int .u8 c.toNat)) := hc
  clear hc hc0 hnil
  by_cases hq : c0.toNat = 34
  · have HG : Hid (unqA [] 1 (L.drop 1) = unqO L) := by rw [HU.out, if_pos hq]; exact rfl
    have hq' : (c0.toNat : Int) = 34 := by omega
    clear hq HU
    rw [hq'] at k0
    go_wp2
    go_loopw [2, 4] (fun v i wr => ∃ (t : Nat) (acc : List UInt8), 1 ≤ t ∧ t ≤ L.length ∧ i = .int .i64 t ∧ OwnB w.heap.size wr v acc ∧ Below w.heap.size w wr ∧ acc.length ≤ t ∧ unqA acc t (L.drop t) = unqO L) (fun _ i _ => L.length - (intOf i).toNat)
    case atStart => exact ⟨1, [], Nat.le_refl _, hpos, rfl, ownG_nil _ _, Below.refl _ _, Nat.zero_le _, HG.out⟩
    case round =>
      clear HG k0
      obtain ⟨t, acc, ht1, htl, rfl, hown, hbel, hal, hun⟩ := hrel
      have HO : Hid (OwnB w.heap.size wr u2 acc) := hown
      have HB : Hid (Below w.heap.size w wr) := hbel
      have HN : Hid (unqA acc t (L.drop t) = unqO L) := hun
      clear hown hbel hun
      by_cases hlt : t < L.length
      · have hd : decide ((t : Int) < L.length) = true := by simp; omega
        obtain ⟨c, hcc⟩ : ∃ c, L[t]? = some c := ⟨_, List.getElem?_eq_getElem hlt⟩
        have h0 : wr.cell? ⟨b, o + t, none⟩ = some (.int .u8 c.toNat) := (HB.out.cell (p := ⟨b, o + t, none⟩) (block_lt_of_cell (HC.out t c hcc))).trans (HC.out t c hcc)
        have HCC : Hid (L[t]? = some c) := hcc
        clear hcc
        by_cases h34 : (c.toNat : Int) = 34
        · have HE : Hid (unqO L = some (acc, t + 1)) := by rw [← HN.out, unqA_end HCC.out (by omega)]; exact rfl
          go_wp2
          simp only [Exit.jump]
          go_ret2
          refine ⟨?_, HB.out⟩
          rw [HE.out]
          exact ⟨_, by congr 4, HO.out⟩
        · by_cases h92 : (c.toNat : Int) = 92
          · have hdl : (L.drop (t + 1)).length = L.length - (t + 1) := List.length_drop
            have HP : Hid (∀ X : Option Addr, BA wr X (L.drop (t + 1)) → Calls Try.prog 61 #[.slice X (L.length - (t + 1)) (cap - (t + 1))] wr fun e w' => e = .returned (.int .u8 (pairI (L.drop (t + 1)))) ∧ w' = wr) := fun X hX => by
              have := paired_any X (cap - (t + 1)) (L.drop (t + 1)) wr hX (by omega)
              rw [hdl] at this
              exact this
            have HD1 : Hid (BA wr (if cap = t + 1 then some ⟨b, o, none⟩ else some ⟨b, o + (t + 1), none⟩) (L.drop (t + 1))) := BA.cut (HL.out.below' HB.out) (t + 1) hcap
            by_cases hp0 : pairI (L.drop (t + 1)) = 0
            · have HE : Hid (unqO L = none) := by rw [← HN.out, unqA_bad HCC.out (by omega) hp0]; exact rfl
              go_wp2_with (go_at_call 61; refine (HP.out _ HD1.out).mono ?_; rintro e W1 ⟨rfl, hW1⟩; subst hW1; rw [hp0])
              all_goals go_step3
              all_goals exact ⟨rfl, HE.out, HB.out, _, _, _, _, _, _, _, _, _, _, _, _, _, _, _, _, _, _, _, _, _, _, _, _, _, _, _, _, _, _, _, _, _, _, _, _, _, _, _, _, _, _, _, _, _, _, _, _, _, _, _, rfl⟩
            · obtain ⟨d, x, hdd, hxx, hpx⟩ := pair_some hp0
              have hx0 := pairU_pos hxx
              have hx0' : ((x.toNat : Int) == 0) = false := by rw [beq_eq_false_iff_ne]; omega
              have HE : Hid (unqA (acc ++ [x]) (t + 2) (L.drop (t + 2)) = unqO L) := by rw [← HN.out, unqA_esc HCC.out (by omega) hdd hxx]; exact rfl
              have hlt2 : t + 1 < L.length := (List.getElem?_eq_some_iff.1 hdd).1
              have hne : ¬ cap = t + 1 := by omega
              have HD2 : Hid (BA wr (some ⟨b, o + (t + 1), none⟩) (L.drop (t + 1))) := BA.drop (HL.out.below' HB.out) (t + 1)
              have HPX : Hid (pairI (L.drop (t + 1)) = x.toNat) := hpx
              clear hp0 hdd hxx hpx
              obtain ⟨v', w', hr, ho', hb'⟩ := push_byte x HO.out HB.out HB.out.size (by omega)
              go_wp2_with (first
                | (go_at_call 61; refine (HP.out _ HD2.out).mono ?_; rintro e W1 ⟨rfl, hW1⟩; subst hW1; rw [HPX.out])
                | (at_builtin; refine list_appendg (.tmp 47) (.tmp 49) 58 (by rfl) (by rfl) (by rfl) (by rfl) hr ?_))
              exact ⟨⟨t + 2, acc ++ [x], by omega, by omega, by go_num, ho', hb', by rw [List.length_append, List.length_singleton]; omega, HE.out⟩, by simp [intOf]; omega⟩
          · have hw := conv_u8_i32 c
            cases hpl : plnB c.toNat
            · have HE : Hid (unqO L = none) := by rw [← HN.out, unqA_not HCC.out (by omega) (by omega) hpl]; exact rfl
              go_wp2_with (go_at_call 46; refine (plain_any _ _).mono ?_; rintro e W1 ⟨rfl, hW1⟩; subst hW1; rw [hpl])
              go_step3
              exact ⟨rfl, HE.out, HB.out, _, _, _, _, _, _, _, _, _, _, _, _, _, _, _, _, _, _, _, _, _, _, _, _, _, _, _, _, _, _, _, _, _, _, _, _, _, _, _, _, _, _, _, _, _, _, _, _, _, _, _, rfl⟩
            · have HE : Hid (unqA (acc ++ [c]) (t + 1) (L.drop (t + 1)) = unqO L) := by rw [← HN.out, unqA_plain HCC.out (by omega) (by omega) hpl]; exact rfl
              obtain ⟨v', w', hr, ho', hb'⟩ := push_byte c HO.out HB.out HB.out.size (by omega)
              go_wp2_with (first
                | (go_at_call 46; refine (plain_any _ _).mono ?_; rintro e W1 ⟨rfl, hW1⟩; subst hW1; rw [hpl])
                | (at_builtin; refine list_appendg (.tmp 47) (.tmp 49) 58 (by rfl) (by rfl) (by rfl) (by rfl) hr ?_))
              exact ⟨⟨t + 1, acc ++ [c], by omega, by omega, by go_num, ho', hb', by rw [List.length_append, List.length_singleton]; omega, HE.out⟩, by simp [intOf]; omega⟩
      · have hd : decide ((t : Int) < L.length) = false := by simp; omega
        have HE : Hid (unqO L = none) := by rw [← HN.out, List.drop_eq_nil_of_le (by omega)]; exact rfl
        go_wp2
        go_step3
        go_wp2
        simp only [Exit.jump]
        go_ret2
        refine ⟨?_, HB.out⟩
        rw [HE.out]
        exact rfl
  · have HN : Hid (unqO L = none) := by rw [HU.out, if_neg hq]; exact rfl
    have hq' : ¬ (c0.toNat : Int) = 34 := by omega
    clear hq HU
    go_wp2
    go_step3
    exact ⟨rfl, HN.out, Below.refl _ _, _, _, _, _, _, _, _, _, _, _, _, _, _, _, _, _, _, _, _, _, _, _, _, _, _, _, _, _, _, _, _, _, _, _, _, _, _, _, _, _, _, _, _, _, _, _, _, _, _, _, _, rfl⟩
end Go.Proofs.Ytcbpnmdphmdemaa
