/- What was parsed is a tree, and its tokens, printed, are parsed as it: over lists. No function of the program is walked here. -/
/- The contracts of Check and Depth: of a tree that can be written. -/
/- wakes: the layer does something. -/
/- The law ParseBack answers true. -/
import Derived.Test.YtbadafkfjfbnlaaGreatDoorMrgT
import Derived.Test.YtbadafkfjfbnlaaGreatDoorMrgM
import Derived.Test.YtbadafkfjfbnlaaGreatDoorMrgQ
import Derived.Test.YtbadafkfjfbnlaaGreatDoorMrgL
import Derived.Test.YtbadafkfjfbnlaaGreatDoorMrgS
namespace Go.Proofs.YtbadafkfjfbnlaaGreatDoor
set_option maxRecDepth 100000
open Go.RowKit

theorem ris_snoc : ∀ (a : List Tok) (l : Int) (t : Tok), risB l a = true → (∀ x, a.getLast? = some x → x.pos < t.pos) → (a = [] → l < t.pos) → risB l (a ++ [t]) = true
  | [], l, t, _, _, h => by
    show (if t.pos ≤ l then false else true) = true
    rw [if_neg (by have := h rfl; omega)]
  | x :: r, l, t, h, h', _ => by
    rw [risB] at h
    split at h
    · cases h
    rename_i hx
    rw [List.cons_append, risB, if_neg hx]
    refine ris_snoc r x.pos t h (fun y hy => h' y ?_) fun e => h' x ?_
    · rw [List.getLast?_cons, hy]; rfl
    · rw [e]; rfl
/-- The places of a text's tokens rise. -/
theorem lex_ris {L : List UInt8} : ∀ (f p : Nat) (ds ms : List Tok), p ≤ L.length → risB (-1) ds = true → (∀ x, ds.getLast? = some x → x.pos < (p : Int) ∨ (x.pos = p ∧ clo (lastT ds) = false ∧ (p < L.length → lookR (L.drop p) false = (0, 1, 0)))) →
    lexG L f p ds = (ms, 0, 0) → risB (-1) ms = true := by
  intro f
  induction f with
  | zero =>
    intro p ds ms _ h _ he
    rw [lexG] at he
    simp only [Prod.mk.injEq] at he
    rw [← he.1]
    exact h
  | succ f ih =>
    intro p ds ms hp hr hla he
    obtain ⟨k, n, e, hl⟩ : ∃ k n e, lookR (L.drop p) (clo (lastT ds)) = (k, n, e) := ⟨_, _, _, rfl⟩
    by_cases h1 : p < L.length ∨ clo (lastT ds) = true
    · by_cases hee : e = 0
      · subst hee
        have hsz := look_size hl (fun e => by
          rcases h1 with h1 | h1
          · have := congrArg List.length e; rw [List.length_drop] at this; simp at this; omega
          · exact h1)
        have hpn : p + n ≤ L.length := by have := hsz.1; rw [List.length_drop] at this; omega
        by_cases hk : k = 0
        · subst hk
          rw [lexG_gap h1 hl] at he
          have hn : 0 < n := by
            rcases hsz.2 with h | h
            · exact h
            · exact absurd h.1 (by decide)
          refine ih (p + n) ds ms hpn hr (fun x hx => .inl ?_) he
          rcases hla x hx with h | h
          · have : ((p + n : Nat) : Int) = (p : Int) + n := by omega
            omega
          · have := h.1
            have : ((p + n : Nat) : Int) = (p : Int) + n := by omega
            omega
        · have hbe : ∀ x, ds.getLast? = some x → x.pos < (p : Int) := fun x hx => by
            rcases hla x hx with h | ⟨-, h2, h3⟩
            · exact h
            · rcases h1 with h1 | h1
              · rw [h2, h3 h1] at hl
                simp only [Prod.mk.injEq] at hl
                exact absurd hl.1.symm hk
              · rw [h2] at h1; cases h1
          by_cases ht : ds.length = 1024
          · rw [lexG_full h1 hl hk ht] at he
            simp at he
          · rw [lexG_tok h1 hl hk ht] at he
            refine ih (p + n) _ ms hpn (ris_snoc ds (-1) _ hr hbe fun _ => by show (-1 : Int) < (p : Int); omega) (fun x hx => ?_) he
            rw [List.getLast?_concat] at hx
            injection hx with hx
            subst hx
            rcases hsz.2 with h0 | ⟨hk5, h0, hen⟩
            · refine .inl ?_
              show (p : Int) < ((p + n : Nat) : Int)
              omega
            · subst hk5 h0
              refine .inr ⟨rfl, by rw [lastT_push]; rfl, fun hlt => ?_⟩
              rw [Nat.add_zero]
              cases hd : L.drop p with
              | nil => have := congrArg List.length hd; rw [List.length_drop] at this; simp at this; omega
              | cons c r =>
                rw [hd, hen] at hl
                unfold lookR at hl ⊢
                simp only at hl ⊢
                split at hl
                · rename_i hc
                  rw [if_pos hc]
                  rfl
                · exfalso
                  split at hl
                  · simp at hl
                  split at hl
                  · simp at hl
                  split at hl
                  · simp only [Prod.mk.injEq] at hl; exact absurd hl.1 (by decide)
                  split at hl
                  · simp only [Prod.mk.injEq] at hl; exact absurd hl.1 (by decide)
                  split at hl
                  · simp only [Prod.mk.injEq] at hl; exact absurd hl.1 (by decide)
                  split at hl
                  · simp at hl
                  · simp only [Prod.mk.injEq] at hl; exact absurd hl.1 (by decide)
      · rw [lexG_err h1 hl hee] at he
        simp only [Prod.mk.injEq] at he
        exact absurd he.2.1 hee
    · rw [lexG, if_neg h1] at he
      simp only [Prod.mk.injEq] at he
      rw [← he.1]
      exact hr
theorem lexO_ris {L : List UInt8} {ms : List Tok} (h : lexO L = (ms, 0, 0)) : risB (-1) ms = true := by
  unfold lexO at h
  split at h
  · simp at h
  · exact lex_ris _ 0 [] ms (Nat.zero_le _) rfl (fun x hx => by simp at hx) h
/-- What is wrong has an error, and stands in the text. -/
theorem txt_inl {s : List UInt8} {p : Int × Int} (h : txtO s = .inl p) : p.1 ≠ 0 ∧ 0 ≤ p.2 ∧ p.2 ≤ s.length := by
  unfold txtO at h
  by_cases hL : s.length ≤ 4096
  · rcases lexO_stands hL with ⟨e, q, he, h0, hq⟩ | ⟨ms, hm, hst, hck, hlen⟩
    · rw [he, if_neg h0] at h
      injection h with h
      subst h
      exact ⟨h0, by show (0 : Int) ≤ (q : Int); omega, by show (q : Int) ≤ _; omega⟩
    · rw [hm, if_pos rfl] at h
      unfold parO at h
      split at h
      · injection h with h; subst h; exact ⟨by decide, by decide, by show (0 : Int) ≤ _; omega⟩
      split at h
      · injection h with h; subst h; exact ⟨by decide, by decide, by show (0 : Int) ≤ _; omega⟩
      have hstd := stl_of hst
      split at h
      · split at h
        · injection h with h; subst h; exact ⟨by decide, by decide, by show (0 : Int) ≤ _; omega⟩
        split at h
        · injection h with h; subst h; exact ⟨by decide, by decide, by show (0 : Int) ≤ _; omega⟩
        · cases h
      · rename_i x hx
        injection h with h
        subst h
        have hb := bd_fil (ts := ms) (12 * ms.length + 12) (p := 0) (Nat.zero_le _)
        have hx' : filP ms (12 * ms.length + 12) 0 = .bad x := hx
        rw [hx'] at hb
        obtain ⟨q, -, hq, e⟩ := hb
        refine ⟨by show (210 : Int) ≠ 0; decide, ?_, ?_⟩
        · show 0 ≤ x
          rw [e]
          exact hstd.hz hq
        · show x ≤ _
          rw [e]
          by_cases hlt : q < ms.length
          · rw [Std.hp hlt]
            have := hstd.one q hlt
            omega
          · have e2 : herI ms q = behI ms q := by unfold herI; rw [if_neg hlt]
            rw [e2]
            exact (hstd.z hq).2
      · rename_i hx
        exact absurd hx fil_ends
  · have he : lexO s = ([], 3, 0) := by unfold lexO; rw [if_pos (by omega)]
    rw [he, if_neg (by decide)] at h
    injection h with h
    subst h
    exact ⟨by decide, by decide, by show ((0 : Nat) : Int) ≤ _; omega⟩
/-- What is right is a tree that was read of tokens that may be. -/
theorem txt_inr {s : List UInt8} {t : Pt} (h : txtO s = .inr t) : ∃ ts q, lexO s = (ts, 0, 0) ∧ chkO ts = 0 ∧ filO ts = .ok t q ∧ (layP 0 t).length ≤ 2048 ∧ dpF (fun _ => 0) 0 0 (layP 0 t) ≤ 24 := by
  unfold txtO at h
  by_cases hL : s.length ≤ 4096
  · rcases lexO_stands hL with ⟨e, q, he, h0, hq⟩ | ⟨ms, hm, hst, hck, hlen⟩
    · rw [he, if_neg h0] at h
      cases h
    · rw [hm, if_pos rfl] at h
      refine ⟨ms, ?_⟩
      unfold parO at h
      split at h
      · cases h
      split at h
      · cases h
      split at h
      · rename_i u q hu
        split at h
        · cases h
        split at h
        · cases h
        · injection h with h
          subst h
          exact ⟨q, hm, hck, hu, by omega, by omega⟩
      · cases h
      · cases h
  · have he : lexO s = ([], 3, 0) := by unfold lexO; rw [if_pos (by omega)]
    rw [he, if_neg (by decide)] at h
    cases h
theorem dp_eq : ∀ (a b : List Nd) (D : Nat → Int) (i : Nat) (m : Int), eqAll ndEq a b = true → dpF D i m a = dpF D i m b
  | [], [], _, _, _, _ => rfl
  | [], _ :: _, _, _, _, h => by simp [eqAll] at h
  | _ :: _, [], _, _, _, h => by simp [eqAll] at h
  | x :: a, y :: b, D, i, m, h => by
    rw [eqAll, Bool.and_eq_true] at h
    have hk : x.kids = y.kids := by
      have := h.1
      unfold ndEq at this
      simp only [Bool.and_eq_true, beq_iff_eq] at this
      exact this.2
    rw [dpF, dpF, hk]
    exact dp_eq a b _ _ _ h.2
theorem hs_of : ∀ (ws ts : List Tok), eqAll tkEq ws ts = true → Hs ts 0 ws ∧ ts.length = ws.length := fun ws ts h => by
  have hlen := eqAll_len h
  refine ⟨fun i t hi => ?_, hlen.symm⟩
  have hlt : i < ts.length := by have := (List.getElem?_eq_some_iff.1 hi).1; omega
  have := (eqAll_iff hlen).1 h i t ts[i] hi (List.getElem?_eq_getElem hlt)
  unfold tkEq at this
  simp only [Bool.and_eq_true, beq_iff_eq] at this
  have e : nxT ts (0 + i) = ts[i] := by unfold nxT; rw [Nat.zero_add, List.getD_eq_getElem?_getD, List.getElem?_eq_getElem hlt]; rfl
  rw [e]
  refine ⟨this.1.symm, ?_⟩
  have h2 := this.2
  rw [ByteArray.toList_eq, ByteArray.toList_eq] at h2
  exact (ByteArray.ext (Array.toList_inj.1 h2)).symm
theorem hs_self (ws : List Tok) : Hs ws 0 ws := fun i t hi => by
  have hlt := (List.getElem?_eq_some_iff.1 hi).1
  have e : nxT ws (0 + i) = t := by unfold nxT; rw [Nat.zero_add, List.getD_eq_getElem?_getD, hi]; rfl
  rw [e]
  exact ⟨rfl, rfl⟩
/-- A tree that was read can be written, and read again. -/
theorem txt_trw {s : List UInt8} {t : Pt} (h : txtO s = .inr t) : TrW t ∧ FiT t ∧ aT (wrP t) := by
  obtain ⟨ts, q, h1, h2, h3, h4, h5⟩ := txt_inr h
  obtain ⟨hf, ho⟩ := fil_good (chk_good h2) h3
  have ha := ok_aT t ho
  refine ⟨⟨by rw [← lay_cnt t 0]; exact h4, h5, ok_gd t ho, ?_, fun u hu => ?_, ?_⟩, hf, ha⟩
  · rw [List.any_eq_false]
    intro u hu
    rw [(ha u hu).1]
    simp
  · have := ha u hu
    rw [this.2.2]
    exact ⟨by decide, by decide, by have := this.2.1; omega⟩
  · obtain ⟨t', e1, e2⟩ := file_back hf (wrP t) (hs_self _) rfl
    refine ⟨t', _, e1, ?_⟩
    have := sm_lay t t' 0 e2
    rw [eqAll_iff (eqAll_len this)] at this
    rw [eqAll_iff (by have := eqAll_len (sm_lay t t' 0 e2); omega)]
    intro i a b ha hb
    have := this i b a hb ha
    unfold ndEq at this ⊢
    simp only [Bool.and_eq_true, beq_iff_eq] at this ⊢
    exact ⟨⟨⟨this.1.1.1.symm, this.1.1.2.symm⟩, this.1.2.symm⟩, this.2.symm⟩
theorem wrA_aln {u : Tok} (h : wrA u = false) : bareB u = false ∧ alnB u = true := by
  unfold wrA at h
  have h0 : chkO [u, enT] = 0 := by simpa using h
  unfold chkO at h0
  rw [if_neg (by simp)] at h0
  have h1 : chkF ⟨0, ⟨#[]⟩, 0⟩ [u, enT] = true := by
    cases hc : chkF ⟨0, ⟨#[]⟩, 0⟩ [u, enT] with
    | true => rfl
    | false => rw [hc] at h0; simp at h0
  rw [chkF] at h1
  cases hb : bareB u with
  | true => rw [hb] at h1; simp [clo] at h1
  | false =>
    rw [hb] at h1
    cases ha : alnB u with
    | true => exact ⟨rfl, rfl⟩
    | false => rw [ha] at h1; simp at h1
theorem chkF_all : ∀ (ws : List Tok) (last z : Tok), (∀ u ∈ ws, wrA u = false) → wrA z = false → clo z = false → chkF last (ws ++ [z]) = true
  | [], last, z, _, hz, hc => by
    rw [List.nil_append, chkF, (wrA_aln hz).1, (wrA_aln hz).2]
    simp [chkF, hc]
  | x :: r, last, z, h, hz, hc => by
    have hx := wrA_aln (h x (by simp))
    rw [List.cons_append, chkF, hx.1, hx.2]
    exact chkF_all r x z (fun u hu => h u (by simp [hu])) hz hc
/-- The tokens of a file may be. -/
theorem file_chk {t : Pt} (hf : FiT t) (ha : aT (wrP t)) (hl : (wrP t).length ≤ 1024) : chkO (wrP t) = 0 := by
  have hz : ∃ ws, wrP t = ws ++ [enT] := by
    obtain ⟨x, a, f, e, is, ds, rfl, -⟩ := hf
    rw [wr_file, ← wEnd_app, ← List.map_append]
    generalize is ++ ds = l
    have hw : ∀ l : List Pt, wEnd (l.map wrP) = [] ∨ ∃ ws, wEnd (l.map wrP) = ws ++ [enT] := fun l => by
      induction l with
      | nil => exact .inl rfl
      | cons u r ih =>
        right
        rw [wEnd_cons]
        rcases ih with h | ⟨ws, h⟩
        · exact ⟨wrP u, by rw [h]; rfl⟩
        · exact ⟨wrP u ++ tkW 5 (strU [59]) :: ws, by rw [h]; simp⟩
    rcases hw l with h | ⟨ws, h⟩
    · exact ⟨[wdT [112, 97, 99, 107, 97, 103, 101], tkW 1 x], by rw [h]; rfl⟩
    · exact ⟨wdT [112, 97, 99, 107, 97, 103, 101] :: tkW 1 x :: tkW 5 (strU [59]) :: ws, by rw [h]; simp⟩
  obtain ⟨ws, e⟩ := hz
  unfold chkO
  rw [if_neg (by omega), e, chkF_all ws _ enT (fun u hu => (ha u (by rw [e]; simp [hu])).1) (ha enT (by rw [e]; simp)).1 rfl]
  rfl
/-- What was written and printed is read as the same tree. -/
theorem txt_back {s : List UInt8} {t : Pt} (h : txtO s = .inr t) (hl : (wrP t).length ≤ 1024) (hp : ¬ 4096 < (prtF [] true (wrP t)).length) : ∃ t', txtO (prtF [] true (wrP t)) = .inr t' ∧ eqAll ndEq (layP 0 t) (layP 0 t') = true := by
  obtain ⟨hw, hf, ha⟩ := txt_trw h
  have hc := file_chk hf ha hl
  obtain ⟨ms, hm, he⟩ := print_back hc hp
  obtain ⟨hs, hlen⟩ := hs_of _ _ he
  obtain ⟨t', e1, e2⟩ := file_back hf ms hs hlen
  have hsm := sm_lay t t' 0 e2
  refine ⟨t', ?_, hsm⟩
  have hck : chkO ms = 0 := by
    rcases lexO_stands (L := prtF [] true (wrP t)) (by omega) with ⟨e, q, g, h0, -⟩ | ⟨ms', g, -, g2, -⟩
    · rw [hm] at g
      simp only [Prod.mk.injEq] at g
      exact absurd g.2.1.symm h0
    · rw [hm] at g
      simp only [Prod.mk.injEq] at g
      rw [g.1]
      exact g2
  unfold txtO
  rw [hm, if_pos rfl]
  unfold parO
  rw [if_neg (by rw [hck]; simp), if_neg (by rw [lexO_ris hm]; simp), e1]
  simp only
  rw [if_neg (by have := eqAll_len hsm; have := hw.n; rw [← lay_cnt t 0] at this; omega), if_neg (by rw [← dp_eq _ _ _ _ _ hsm]; have := hw.d; omega)]
end Go.Proofs.YtbadafkfjfbnlaaGreatDoor

namespace Go.Proofs.YtbadafkfjfbnlaaGreatDoor
set_option maxRecDepth 100000
open Go.RowKit

set_option maxRecDepth 100000 in
set_option maxHeartbeats 1000000 in
theorem pcheck_any {w : World} {sn : Option Addr} {cn : Nat} {t : Pt} (hP : TabP w) (hE : EnW w (.slice sn (layP 0 t).length cn) (layP 0 t)) (hT : TrW t) :
    Calls Tryz.prog 9 #[.agg #[.slice sn (layP 0 t).length cn]] w fun e w' => e = .returned (.int .i64 0) ∧ Below w.heap.size w w' := by
  have HC : Hid (∀ W, Below w.heap.size w W → Calls Tryz.prog 23 #[.agg #[.slice sn (layP 0 t).length cn]] W fun e w' => ∃ v', e = .returned (.tuple #[v', .int .i64 0]) ∧ OwnT W.heap.size w' v' (wrP t) ∧ Below W.heap.size W w') := fun W hb => written_any (hP.low hb) (hE.low hb) hT
  clear hP hE hT
  generalize (layP 0 t).length = nl at *
  go_enter Tryz.func9, Tryz.ntmps9
  go_wp2_with fail
  have b0 : Below w.heap.size w (w.alloc (.cells #[.slice sn nl cn] 25)) := (Below.refl _ _).alloc (Nat.le_refl _) _
  refine (HC.out _ b0).mono ?_
  rintro e W ⟨v', rfl, -, hb⟩
  have HB : Hid (Below w.heap.size w W) := b0.trans (hb.mono b0.size)
  clear hb b0
  go_wp2
  go_ret
  exact ⟨rfl, HB.out⟩
set_option maxRecDepth 100000 in
set_option maxHeartbeats 1000000 in
theorem tokens_long {w : World} {sn : Option Addr} {cn : Nat} {t : Pt} (hP : TabP w) (hE : EnW w (.slice sn (layP 0 t).length cn) (layP 0 t)) (hT : TrW t) (hl : 1024 < (wrP t).length) :
    Calls Tryz.prog 10 #[.agg #[.slice sn (layP 0 t).length cn]] w fun e w' => e = .returned (.tuple #[.slice none 0 0, .int .i64 3]) ∧ Below w.heap.size w w' := by
  have HC : Hid (∀ W, Below w.heap.size w W → Calls Tryz.prog 23 #[.agg #[.slice sn (layP 0 t).length cn]] W fun e w' => ∃ v', e = .returned (.tuple #[v', .int .i64 0]) ∧ OwnT W.heap.size w' v' (wrP t) ∧ Below W.heap.size W w') := fun W hb => written_any (hP.low hb) (hE.low hb) hT
  clear hP hE hT
  generalize (layP 0 t).length = nl at *
  have hd : decide (1024 < (wrP t).length) = true := by simp; omega
  have HO : Hid (∀ (B : Nat) (W : World) (v : Value), OwnT B W v (wrP t) → ∃ sp cap, v = .slice sp (wrP t).length cap) := fun B W v h => OwnG.shape h
  generalize hwl : (wrP t).length = wl at *
  clear hwl
  go_enter Tryz.func10, Tryz.ntmps10
  go_wp2_with fail
  have b0 : Below w.heap.size w (w.alloc (.cells #[.slice sn nl cn] 25)) := (Below.refl _ _).alloc (Nat.le_refl _) _
  refine (HC.out _ b0).mono ?_
  rintro e W ⟨v', rfl, ho, hb⟩
  obtain ⟨sp, cap, hv⟩ := HO.out _ _ _ ho
  subst hv
  have HB : Hid (Below w.heap.size w W) := b0.trans (hb.mono b0.size)
  clear ho hb b0
  go_wp2
  go_ret2
  exact ⟨rfl, HB.out⟩
end Go.Proofs.YtbadafkfjfbnlaaGreatDoor

namespace Go.Proofs.YtbadafkfjfbnlaaGreatDoor
set_option maxRecDepth 100000
open Go.RowKit

/-- The text of wakes. -/
def wkB : List UInt8 := [112, 97, 99, 107, 97, 103, 101, 32, 97, 10, 102, 117, 110, 99, 32, 102, 40, 120, 32, 105, 110, 116, 41, 32, 105, 110, 116, 32, 123, 32, 114, 101, 116, 117, 114, 110, 32, 120, 32, 43, 32, 49, 32, 125, 10]
def wkK : Bool := match txtO wkB with | .inr t => (layP 0 t).length == 10 && ((layP 0 t)[7]?.map (·.kind)) == some 27 | .inl _ => false
theorem wk_true : wkK = true := by kernel_rfl
theorem wk_tree : ∃ t d, txtO wkB = .inr t ∧ (layP 0 t).length = 10 ∧ (layP 0 t)[7]? = some d ∧ d.kind = 27 := by
  have h := wk_true
  unfold wkK at h
  cases hx : txtO wkB with
  | inl p => rw [hx] at h; cases h
  | inr t =>
    rw [hx] at h
    simp only [Bool.and_eq_true, beq_iff_eq] at h
    cases hd : (layP 0 t)[7]? with
    | none => rw [hd] at h; simp at h
    | some d =>
      rw [hd] at h
      exact ⟨t, d, rfl, h.1, hd, by simpa using h.2⟩
set_option maxRecDepth 100000 in
set_option maxHeartbeats 2000000 in
theorem wakes11_any (w : World) (hT : Tabl w) : Calls Tryz.prog 7 #[] w fun e w' => e = .returned (.bool true) ∧ Below w.heap.size w w' := by
  have HT : Hid (∀ W, Below w.heap.size w W → Tabl W) := fun W hb => tabl_agree hb.block hT
  clear hT
  go_enter Tryz.func7, Tryz.ntmps7
  go_wp2_with fail
  refine (text_all w ⟨wkB.toArray⟩ (HT.out w (Below.refl _ _))).mono ?_
  rintro e W ⟨hB, hm⟩
  obtain ⟨t, d, ht, hl, hd, hk⟩ := wk_tree
  rw [show txtO (ByteArray.data ⟨wkB.toArray⟩).toList = .inr t from ht] at hm
  obtain ⟨v, rfl, N, S, hO, hR, -⟩ := hm
  obtain ⟨sp, cap, rfl, hrows, -⟩ := OwnG.rows elN hO
  have hN : N.length = 10 := by rw [hR.1, hl]
  obtain ⟨b, o, rfl, -⟩ := hrows (by omega)
  obtain ⟨m, hm⟩ : ∃ m, N[7]? = some m := ⟨_, List.getElem?_eq_getElem (by omega)⟩
  have k0 := (node_cells hrows hm).1
  rw [(hR.at hm hd).1.1, hk] at k0
  have lb : b < W.heap.size := block_lt_of_cell k0
  rw [hN]
  have HB : Hid (Below w.heap.size w W) := hB
  clear hO hR hrows hN hm hB ht hl hd hk HT
  have hkk : kepB ⟨#[105, 102]⟩ = true := by kernel_rfl
  go_wp2_with (go_at_call 20; refine (kept_any _ _).mono ?_; rintro e W10 ⟨rfl, b10⟩; rw [hkk])
  have hA : Below w.heap.size w ((W.alloc (Obj.cells #[.slice (some ⟨b, o, none⟩) 10 cap] 25)).alloc (Obj.cells #[.int .i64 0, .int .i64 0] 28)) := (HB.out.alloc HB.out.size _).alloc (by simp; exact Nat.le_succ_of_le HB.out.size) _
  go_ret
  exact ⟨rfl, hA.trans (b10.mono hA.size)⟩
end Go.Proofs.YtbadafkfjfbnlaaGreatDoor

namespace Go.Proofs.YtbadafkfjfbnlaaGreatDoor
set_option maxRecDepth 100000
open Go.RowKit

theorem TrAt.env {B : Nat} {w : World} {s : Option Addr} {c : Nat} {L : List Nd} (h : TrAt B w (.slice s L.length c) L) (hT : Tabl w) (hl : L.length ≤ 100000) : EnW w (.slice s L.length c) L := by
  obtain ⟨N, S, h1, h2, -⟩ := h
  obtain ⟨s', c', e, hr, -, -, -⟩ := OwnG.rows elN h1
  refine ⟨⟨s, c, N, S, rfl, ?_, h2⟩, hT, hl⟩
  injection e with e1 _ e2
  rw [e1]
  exact hr
/-- A cell that is written as it was. -/
theorem setCell_id {w : World} {b i : Nat} {cs : Array Value} {T : TypeId} {v : Value} (h : w.heap[b]? = some (.cells cs T (0, 0))) (hv : cs[i]? = some v) : w.setCell ⟨b, i, none⟩ v = w := by
  have e : (w.setCell ⟨b, i, none⟩ v).heap = w.heap := by
    apply Array.ext_getElem?
    intro j
    by_cases hj : j = b
    · subst hj
      rw [heap_setCell_same _ _ _ _ _ _ h, h]
      have : cs.setIfInBounds i v = cs := by
        apply Array.ext_getElem?
        intro k
        rw [Array.getElem?_setIfInBounds]
        split
        · rename_i hk
          subst hk
          split
          · exact hv.symm
          · rename_i hk
            rw [Array.getElem?_eq_none (by omega)]
        · rfl
      rw [this]
    · exact heap_setCell_other _ _ _ _ hj
  have e2 : w.setCell ⟨b, i, none⟩ v = { w with heap := (w.setCell ⟨b, i, none⟩ v).heap } := rfl
  rw [e2, e]
/-- A place told of what is wrong. -/
theorem sp_bnd {s : List UInt8} : (spO (txtO s)).1 ≠ 0 → trO (txtO s) = [] ∧ 0 ≤ (spO (txtO s)).2 ∧ (spO (txtO s)).2 ≤ s.length := fun h => by
  cases hx : txtO s with
  | inl p => exact ⟨rfl, (txt_inl hx).2⟩
  | inr t => rw [hx] at h; exact absurd rfl h
theorem sp_ok {s : List UInt8} (h : (spO (txtO s)).1 = 0) : ∃ t, txtO s = .inr t := by
  cases hx : txtO s with
  | inl p => rw [hx] at h; exact absurd h (txt_inl hx).1
  | inr t => exact ⟨t, rfl⟩
set_option maxRecDepth 100000 in
set_option maxHeartbeats 4000000 in
theorem parseBack_all (s : ByteArray) (w : World) (hT : Tabl w) (hP : TabP w) : Calls Tryz.prog 3 #[.string s] w fun e w' => e = .returned (.bool true) ∧ Below w.heap.size w w' := by
  have HT : Hid (∀ W, Below w.heap.size w W → Tabl W) := fun W hb => tabl_agree hb.block hT
  have HP : Hid (∀ W, Below w.heap.size w W → TabP W) := fun W hb => hP.low hb
  clear hT hP
  go_enter Tryz.func3, Tryz.ntmps3
  go_wp2_with fail
  refine (wakes11_any w (HT.out w (Below.refl _ _))).mono ?_
  rintro e W1 ⟨rfl, b1⟩
  have HB1 : Hid (Below w.heap.size w W1) := b1
  clear b1
  cases z1 : decide ((6000 : Int) < s.size)
  rotate_left
  focus (
    go_wp2
    go_ret
    exact ⟨rfl, HB1.out⟩)
  have hsz : s.size ≤ 6000 := by have := of_decide_eq_false z1; omega
  go_wp2_with fail
  refine (text_all W1 s (HT.out W1 HB1.out)).mono ?_
  rintro e W2 h2
  obtain ⟨b2, v2, rfl, t2⟩ := prp_tr h2
  obtain ⟨s2, c2, rfl⟩ := t2.shape
  have HB2 : Hid (Below w.heap.size w W2) := HB1.out.trans (b2.mono HB1.out.size)
  have T2 : Hid (TrAt W1.heap.size W2 (.slice s2 (trO (txtO s.data.toList)).length c2) (trO (txtO s.data.toList))) := t2
  clear h2 b2 t2
  by_cases he : (spO (txtO s.data.toList)).1 = 0
  rotate_left
  focus (
    obtain ⟨h0, h1, h2⟩ := sp_bnd he
    have hlen : s.data.toList.length = s.size := by rw [Array.length_toList]; rfl
    rw [h0]
    generalize hS : spO (txtO s.data.toList) = sp0 at he h1 h2 ⊢
    clear hS h0 T2
    obtain ⟨er, pe⟩ := sp0
    have z2 : decide ((0 : Int) ≤ pe) = true := by simpa using h1
    have z3 : decide (pe ≤ (s.size : Int)) = true := by rw [hlen] at h2; simpa using h2
    have z4 : (er == 0) = false := by simpa using he
    have HB2' : Hid (Below w.heap.size w ((W2.alloc (.cells #[.slice s2 0 c2] 25)).alloc (.cells #[.int .i64 er, .int .i64 pe] 28))) := (HB2.out.alloc HB2.out.size _).alloc (by simp; exact Nat.le_succ_of_le HB2.out.size) _
    clear hlen h1 h2 hsz
    go_wp2
    go_ret
    exact ⟨rfl, HB2'.out⟩)
  obtain ⟨t, ht⟩ := sp_ok he
  obtain ⟨hw, hf, ha⟩ := txt_trw ht
  have hn2 : (layP 0 t).length ≤ 2048 := by rw [lay_cnt]; exact hw.n
  have T3 : Hid (TrAt W1.heap.size W2 (.slice s2 (layP 0 t).length c2) (layP 0 t)) := by have := T2.out; rw [ht] at this; exact this
  have HBK : Hid ((wrP t).length ≤ 1024 → ¬ 4096 < (prtF [] true (wrP t)).length → ∃ t', txtO (prtF [] true (wrP t)) = .inr t' ∧ eqAll ndEq (layP 0 t) (layP 0 t') = true) := txt_back ht
  have HCH : Hid ((wrP t).length ≤ 1024 → chkO (wrP t) = 0) := file_chk hf ha
  have HE : Hid (∀ W, Below W2.heap.size W2 W → EnW W (.slice s2 (layP 0 t).length c2) (layP 0 t)) := fun W hb => TrAt.env (T3.out.below hb) (HT.out W (HB2.out.trans (hb.mono HB2.out.size))) (by omega)
  have HPW : Hid (∀ W, Below W2.heap.size W2 W → TabP W) := fun W hb => HP.out W (HB2.out.trans (hb.mono HB2.out.size))
  have HTW : Hid (TrW t) := hw
  rw [ht]
  have HR1 : Hid (∀ W, Below W2.heap.size W2 W → ∃ N S, RowsAt W 7 NdM.cells s2 N ∧ Rep W S N (layP 0 t)) := fun W hb => by
    obtain ⟨s', c', N, S, e, h1, h2⟩ := (HE.out W hb).x
    injection e with e1 _ _
    rw [e1]
    exact ⟨N, S, h1, h2⟩
  have HKD : Hid (∀ d ∈ layP 0 t, d.kids.length ≤ 1000000) := fun d hd => by have := (lay_bnd t 0 d hd).2; have := HTW.out.n; omega
  have HCK : Hid (∀ W, Below W2.heap.size W2 W → Calls Tryz.prog 9 #[.agg #[.slice s2 (layP 0 t).length c2]] W fun e w' => e = .returned (.int .i64 0) ∧ Below W.heap.size W w') := fun W hb => pcheck_any (HPW.out W hb) (HE.out W hb) HTW.out
  have HTK : Hid (∀ W, Below W2.heap.size W2 W → (wrP t).length ≤ 1024 → Calls Tryz.prog 10 #[.agg #[.slice s2 (layP 0 t).length c2]] W fun e w' => ∃ v', e = .returned (.tuple #[v', .int .i64 0]) ∧ OwnT W.heap.size w' v' (wrP t) ∧ Below W.heap.size W w') := fun W hb h => tokens_any (HPW.out W hb) (HE.out W hb) HTW.out h
  have HTL : Hid (∀ W, Below W2.heap.size W2 W → 1024 < (wrP t).length → Calls Tryz.prog 10 #[.agg #[.slice s2 (layP 0 t).length c2]] W fun e w' => e = .returned (.tuple #[.slice none 0 0, .int .i64 3]) ∧ Below W.heap.size W w') := fun W hb h => tokens_long (HPW.out W hb) (HE.out W hb) HTW.out h
  have HSA : Hid (∀ W (s5 : Option Addr) (c5 : Nat) (N : List NdM) (S : Nat → Prop) (K : List Nd), Below W2.heap.size W2 W → RowsAt W 7 NdM.cells s5 N → Rep W S N K → K.length ≤ 1000000 → (∀ d ∈ K, d.kids.length ≤ 1000000) → Calls Tryz.prog 12 #[.agg #[.slice s2 (layP 0 t).length c2], .agg #[.slice s5 K.length c5]] W fun e w' => e = .returned (.bool (eqAll ndEq (layP 0 t) K)) ∧ Below W.heap.size W w') := fun W s5 c5 N S K hb h1 h2 h3 h4 => by
    obtain ⟨M, T, g1, g2⟩ := HR1.out W hb
    exact tsame_any s2 s5 c2 c5 M N T S (layP 0 t) K W g1 g2 h1 h2 (by have := HTW.out.n; rw [lay_cnt]; omega) h3 HKD.out h4
  have HEQ : Hid (spO (.inr t) = ((0 : Int), (0 : Int))) := rfl
  clear hw hf ha T2 he ht HE HPW HTW HR1 HKD
  simp only [spO, trO]
  generalize hnl : (layP 0 t).length = nl at HCK HTK HTL HSA T3 hn2 ⊢
  have HNL : Hid _ := hnl
  clear hnl
  have b0 : Below W2.heap.size W2 ((W2.alloc (.cells #[.slice s2 nl c2] 25)).alloc (.cells #[.int .i64 0, .int .i64 0] 28)) := ((Below.refl _ _).alloc (Nat.le_refl _) _).alloc (by simp) _
  have q0 : ((W2.alloc (.cells #[.slice s2 nl c2] 25)).alloc (.cells #[.int .i64 0, .int .i64 0] 28)).heap[W2.heap.size]? = some (.cells #[.slice s2 nl c2] 25 (0, 0)) := (heap_alloc_old _ _ (by simp)).trans (heap_alloc_new _ _)
  have q1 : ((W2.alloc (.cells #[.slice s2 nl c2] 25)).alloc (.cells #[.int .i64 0, .int .i64 0] 28)).heap[W2.heap.size + 1]? = some (.cells #[.int .i64 0, .int .i64 0] 28 (0, 0)) := by
    have := heap_alloc_new (W2.alloc (.cells #[.slice s2 nl c2] 25)) (.cells #[.int .i64 0, .int .i64 0] 28)
    simpa using this
  have B0 : Hid _ := b0
  have Q0 : Hid _ := q0
  have Q1 : Hid _ := q1
  clear b0 q0 q1
  go_wp2_with fail
  refine (HCK.out _ B0.out).mono ?_
  rintro e W3 ⟨rfl, b3⟩
  have B3 : Hid (Below W2.heap.size W2 W3) := B0.out.trans (b3.mono B0.out.size)
  have R3 : Hid (W3.heap[W2.heap.size]? = some (.cells #[.slice s2 nl c2] 25 (0, 0))) := (b3.block _ (lt_of_row Q0.out)).trans Q0.out
  have S3 : Hid (W3.heap[W2.heap.size + 1]? = some (.cells #[.int .i64 0, .int .i64 0] 28 (0, 0))) := (b3.block _ (lt_of_row Q1.out)).trans Q1.out
  have c3 : W3.cell? ⟨W2.heap.size, 0, none⟩ = some (.slice s2 nl c2) := (cell_of_row _ _ 0 _ _ _ R3.out).trans rfl
  clear b3 B0 Q0 Q1
  go_wp2_with fail
  by_cases hl : (wrP t).length ≤ 1024
  rotate_left
  focus (
    refine (HTL.out W3 B3.out (by omega)).mono ?_
    rintro e W4 ⟨rfl, b4⟩
    have B4 : Hid (Below w.heap.size w W4) := by have := B3.out.trans (b4.mono B3.out.size); exact HB2.out.trans (this.mono HB2.out.size)
    clear b4 c3 hl
    go_wp2
    go_ret
    exact ⟨rfl, B4.out⟩)
  refine (HTK.out W3 B3.out hl).mono ?_
  rintro e W4 ⟨v4, rfl, o4, b4⟩
  obtain ⟨sp, cp, rfl, hrows, -, -, -⟩ := OwnG.rows elT o4
  have B4 : Hid (Below W2.heap.size W2 W4) := B3.out.trans (b4.mono B3.out.size)
  have R4 : Hid (W4.heap[W2.heap.size]? = some (.cells #[.slice s2 nl c2] 25 (0, 0))) := (b4.block _ (lt_of_row R3.out)).trans R3.out
  have S4 : Hid (W4.heap[W2.heap.size + 1]? = some (.cells #[.int .i64 0, .int .i64 0] 28 (0, 0))) := (b4.block _ (lt_of_row S3.out)).trans S3.out
  have HPR : Hid (Calls Tryz.prog 11 #[.slice sp (wrP t).length cp] W4 fun e w' => e = .returned (prtO (wrP t)) ∧ Below W4.heap.size W4 w') := print_any sp cp (wrP t) W4 hrows (by omega)
  have HL : Hid ((wrP t).length ≤ 1024) := hl
  clear b4 o4 hrows c3 B3 R3 S3 hl
  generalize hwl : (wrP t).length = wl at HPR HL HBK HCH ⊢
  have HWL : Hid _ := hwl
  clear hwl HTK HTL HCK
  go_wp2_with fail
  refine HPR.out.mono ?_
  rintro e W5 ⟨rfl, b5⟩
  have B5 : Hid (Below W2.heap.size W2 W5) := B4.out.trans (b5.mono B4.out.size)
  have R5 : Hid (W5.heap[W2.heap.size]? = some (.cells #[.slice s2 nl c2] 25 (0, 0))) := (b5.block _ (lt_of_row R4.out)).trans R4.out
  have S5 : Hid (W5.heap[W2.heap.size + 1]? = some (.cells #[.int .i64 0, .int .i64 0] 28 (0, 0))) := (b5.block _ (lt_of_row S4.out)).trans S4.out
  have B5w : Hid (Below w.heap.size w W5) := HB2.out.trans (B5.out.mono HB2.out.size)
  clear b5 B4 R4 S4 HPR
  unfold prtO
  rw [if_neg (by rw [HCH.out HL.out]; simp)]
  by_cases hpl : 4096 < (prtF [] true (wrP t)).length
  focus (
    rw [if_pos hpl]
    clear hpl
    go_wp2
    go_ret
    exact ⟨rfl, B5w.out⟩)
  rw [if_neg hpl]
  obtain ⟨t', ht', heq⟩ := HBK.out HL.out hpl
  have HTX : Hid (txtO (strU (prtF [] true (wrP t))).data.toList = .inr t') := by rw [strU_data]; exact ht'
  have HEQ2 : Hid (eqAll ndEq (layP 0 t) (layP 0 t') = true) := heq
  clear hpl ht' heq HBK HCH HL
  generalize strU (prtF [] true (wrP t)) = y at HTX ⊢
  go_wp2_with fail
  refine (text_all W5 y (HT.out W5 B5w.out)).mono ?_
  rintro e W6 h6
  obtain ⟨b6, v6, rfl, t6⟩ := prp_tr h6
  rw [HTX.out] at t6 ⊢
  have t6' : TrAt W5.heap.size W6 v6 (layP 0 t') := t6
  obtain ⟨s6, c6, rfl⟩ := t6'.shape
  simp only [spO]
  have T6 : Hid (TrAt W5.heap.size W6 (.slice s6 (layP 0 t').length c6) (layP 0 t')) := t6'
  have B6 : Hid (Below W2.heap.size W2 W6) := B5.out.trans (b6.mono B5.out.size)
  have R6 : Hid (W6.heap[W2.heap.size]? = some (.cells #[.slice s2 nl c2] 25 (0, 0))) := (b6.block _ (lt_of_row R5.out)).trans R5.out
  have S6 : Hid (W6.heap[W2.heap.size + 1]? = some (.cells #[.int .i64 0, .int .i64 0] 28 (0, 0))) := (b6.block _ (lt_of_row S5.out)).trans S5.out
  clear b6 t6 t6' h6 B5 R5 S5 B5w HTX
  generalize hk6 : (layP 0 t').length = k6 at T6 ⊢
  have HK6 : Hid _ := hk6
  clear hk6
  have ltS : W2.heap.size + 1 < W6.heap.size := lt_of_row S6.out
  have E0 : W6.setCell ⟨W2.heap.size + 1, 0, none⟩ (.int .i64 0) = W6 := setCell_id S6.out rfl
  have E1 : W6.setCell ⟨W2.heap.size + 1, 1, none⟩ (.int .i64 0) = W6 := setCell_id S6.out rfl
  have d0 : W6.cell? ⟨W2.heap.size + 1, 0, none⟩ = some (.int .i64 0) := (cell_of_row _ _ 0 _ _ _ S6.out).trans rfl
  have d1 : W6.cell? ⟨W2.heap.size + 1, 1, none⟩ = some (.int .i64 0) := (cell_of_row _ _ 1 _ _ _ S6.out).trans rfl
  have z0 : W6.frozen? ⟨W2.heap.size + 1, 0, none⟩ = false := frozen_of_row _ _ _ _ _ S6.out
  have zz1 : W6.frozen? ⟨W2.heap.size + 1, 1, none⟩ = false := frozen_of_row _ _ _ _ _ S6.out
  have d2 : (W6.alloc (.cells #[.slice s6 k6 c6] 25)).cell? ⟨W2.heap.size, 0, none⟩ = some (.slice s2 nl c2) := (cell_of_row _ _ 0 _ _ _ ((heap_alloc_old _ _ (lt_of_row R6.out)).trans R6.out)).trans rfl
  go_wp2_with fail
  have hAl : Below W6.heap.size W6 (W6.alloc (.cells #[.slice s6 k6 c6] 25)) := (Below.refl _ _).alloc (Nat.le_refl _) _
  have B7 : Hid (Below W2.heap.size W2 (W6.alloc (.cells #[.slice s6 k6 c6] 25))) := B6.out.trans (hAl.mono B6.out.size)
  have B7w : Hid (Below w.heap.size w (W6.alloc (.cells #[.slice s6 k6 c6] 25))) := HB2.out.trans (B7.out.mono HB2.out.size)
  have hll : (layP 0 t').length ≤ 2048 := by have := eqAll_len HEQ2.out; have := HNL.out; omega
  have T7 := T6.out
  rw [← HK6.out] at T7
  obtain ⟨N, S, hO, hRe, -⟩ := T7.below (w' := W6.alloc (.cells #[.slice s6 k6 c6] 25)) hAl
  obtain ⟨s', c', e', hrows, -, -, -⟩ := OwnG.rows elN hO
  injection e' with e1 _ e2
  subst e1 e2
  have hsa := HSA.out (W6.alloc (.cells #[.slice s6 k6 c6] 25)) s6 c6 N S (layP 0 t') B7.out hrows hRe (by omega) (fun d hd => by have := (lay_bnd t' 0 d hd).2; have := lay_cnt t' 0; omega)
  rw [HK6.out, HEQ2.out] at hsa
  clear hAl T7 hO hRe hrows E0 E1 d0 d1 z0 zz1 d2 hll
  refine hsa.mono ?_
  rintro e W8 ⟨rfl, b8⟩
  have B8 : Hid (Below w.heap.size w W8) := B7w.out.trans (b8.mono B7w.out.size)
  clear b8
  go_wp2
  go_ret
  exact ⟨rfl, B8.out⟩
end Go.Proofs.YtbadafkfjfbnlaaGreatDoor
