/- What Text tells, as a tree that may be empty, and its bounds. No function of the program is walked here. -/
/- wakes: the layer does something. -/
/- The places of what is read are in order. No function of the program is walked here. -/
/- The places of the nodes as they are laid. No function of the program is walked here. -/
import Derived.Test.YthnoiohganknnaaDoorPcS
import Derived.Test.YthnoiohganknnaaDoorMrgF
import Derived.Test.YthnoiohganknnaaDoorMrgH
namespace Go.Proofs.YthnoiohganknnaaDoor
open Go.RowKit

/-- The nodes that are told. -/
def trO (r : (Int × Int) ⊕ Pt) : List Nd := match r with | .inl _ => [] | .inr t => layP 0 t
/-- The error that is told, and its place. -/
def spO (r : (Int × Int) ⊕ Pt) : Int × Int := match r with | .inl p => p | .inr _ => (0, 0)
theorem prp_tr {w w' : World} {r : (Int × Int) ⊕ Pt} {e : Ending} (h : PrP w r e w') : Below w.heap.size w w' ∧ ∃ v, e = .returned (.tuple #[.agg #[v], .agg #[.int .i64 (spO r).1, .int .i64 (spO r).2]]) ∧ TrAt w.heap.size w' v (trO r) := by
  obtain ⟨h1, h2⟩ := h
  refine ⟨h1, ?_⟩
  cases r with
  | inl p => exact ⟨_, h2, TrAt.nil _ _⟩
  | inr t => exact h2
theorem par_bnd (ts : List Tok) : (trO (parO ts)).length ≤ 2048 ∧ ∀ d ∈ trO (parO ts), (∀ k ∈ d.kids, k < (trO (parO ts)).length) ∧ d.kids.length ≤ 2048 := by
  unfold parO
  split
  · simp [trO]
  split
  · simp [trO]
  split
  · split
    · simp [trO]
    split
    · simp [trO]
    · rename_i t q _ h _
      have e := lay_cnt t 0
      refine ⟨by show (layP 0 t).length ≤ 2048; omega, fun d hd => ?_⟩
      have hb := lay_bnd t 0 d hd
      refine ⟨fun k hk => ?_, by omega⟩
      show k < (layP 0 t).length
      have := hb.1 k hk
      omega
  · simp [trO]
  · simp [trO]
theorem txt_bnd (s : List UInt8) : (trO (txtO s)).length ≤ 2048 ∧ ∀ d ∈ trO (txtO s), (∀ k ∈ d.kids, k < (trO (txtO s)).length) ∧ d.kids.length ≤ 2048 := by
  unfold txtO
  split
  · exact par_bnd _
  · simp [trO]
end Go.Proofs.YthnoiohganknnaaDoor

namespace Go.Proofs.YthnoiohganknnaaDoor
open Go.RowKit

/-- The text of wakes. -/
def wkB : List UInt8 := [112, 97, 99, 107, 97, 103, 101, 32, 97, 10, 102, 117, 110, 99, 32, 102, 40, 120, 32, 105, 110, 116, 41, 32, 105, 110, 116, 32, 123, 32, 114, 101, 116, 117, 114, 110, 32, 120, 32, 43, 32, 49, 32, 125, 10]
def wkK : Bool := match txtO wkB with | .inr t => (layP 0 t).length == 10 && ((layP 0 t)[7]?.map (·.kind)) == some 27 | .inl _ => false
theorem wk_true : wkK = true := by kernel_rfl
theorem wk_tree : ∃ t d, txtO wkB = .inr t ∧ (layP 0 t).length = 10 ∧ (layP 0 t)[7]? = some d ∧ d.kind = 27 := by
  have h := wk_true
  unfold wkK at h
  cases hx : txtO wkB with
  | inl p => rw [hx] at h; cases h
  | inr t =>
    rw [hx] at h
    simp only [Bool.and_eq_true, beq_iff_eq] at h
    cases hd : (layP 0 t)[7]? with
    | none => rw [hd] at h; simp at h
    | some d =>
      rw [hd] at h
      exact ⟨t, d, rfl, h.1, hd, by simpa using h.2⟩
set_option maxRecDepth 100000 in
set_option maxHeartbeats 2000000 in
theorem wakes11_any (w : World) (hT : Tabl w) : Calls Tryd.prog 5 #[] w fun e w' => e = .returned (.bool true) ∧ Below w.heap.size w w' := by
  have HT : Hid (∀ W, Below w.heap.size w W → Tabl W) := fun W hb => tabl_agree hb.block hT
  clear hT
  go_enter Tryd.func5, Tryd.ntmps5
  go_wp2_with fail
  refine (text_all w ⟨wkB.toArray⟩ (HT.out w (Below.refl _ _))).mono ?_
  rintro e W ⟨hB, hm⟩
  obtain ⟨t, d, ht, hl, hd, hk⟩ := wk_tree
  rw [show txtO (ByteArray.data ⟨wkB.toArray⟩).toList = .inr t from ht] at hm
  obtain ⟨v, rfl, N, S, hO, hR, -⟩ := hm
  obtain ⟨sp, cap, rfl, hrows, -⟩ := OwnG.rows elN hO
  have hN : N.length = 10 := by rw [hR.1, hl]
  obtain ⟨b, o, rfl, -⟩ := hrows (by omega)
  obtain ⟨m, hm⟩ : ∃ m, N[7]? = some m := ⟨_, List.getElem?_eq_getElem (by omega)⟩
  have k0 := (node_cells hrows hm).1
  rw [(hR.at hm hd).1.1, hk] at k0
  have lb : b < W.heap.size := block_lt_of_cell k0
  rw [hN]
  have HB : Hid (Below w.heap.size w W) := hB
  clear hO hR hrows hN hm hB ht hl hd hk HT
  have hkk : kepB ⟨#[105, 102]⟩ = true := by kernel_rfl
  go_wp2_with (go_at_call 9; refine (kept_any _ _).mono ?_; rintro e W10 ⟨rfl, b10⟩; rw [hkk])
  have hA : Below w.heap.size w ((W.alloc (Obj.cells #[.slice (some ⟨b, o, none⟩) 10 cap] 25)).alloc (Obj.cells #[.int .i64 0, .int .i64 0] 28)) := (HB.out.alloc HB.out.size _).alloc (by simp; exact Nat.le_succ_of_le HB.out.size) _
  go_ret
  exact ⟨rfl, hA.trans (b10.mono hA.size)⟩
end Go.Proofs.YthnoiohganknnaaDoor

namespace Go.Proofs.YthnoiohganknnaaDoor
open Go.RowKit

def frmP : Pt → Int | .mk _ _ _ _ f _ _ => f
def toP : Pt → Int | .mk _ _ _ _ _ t _ => t
/-- Kinds whose Text stands in the text, at At. -/
def wordK (k : Int) : Bool := !(k == 13 || k == 14 || k == 15 || k == 16 || k == 18 || k == 19 || k == 25 || k == 20 || k == 21 || k == 2)
/-- Tokens that stand one behind the other, in a text of that length. -/
structure Std (ts : List Tok) (N : Int) : Prop where
  zero : 0 ≤ N
  one : ∀ p, p < ts.length → 0 ≤ (nxT ts p).pos ∧ (nxT ts p).pos + (nxT ts p).text.size ≤ N
  two : ∀ p, p + 1 < ts.length → (nxT ts p).pos + (nxT ts p).text.size ≤ (nxT ts (p + 1)).pos
mutual
/-- A part's places are in order. -/
def plP (ts : List Tok) (N : Int) : Pt → Prop
  | .mk k x _ a f t l => (f ≤ a ∧ a ≤ t ∧ 0 ≤ f ∧ t ≤ N ∧ (wordK k = true → ∃ p, p < ts.length ∧ x = (nxT ts p).text ∧ a = (nxT ts p).pos)) ∧ plL ts N f t l
def plL (ts : List Tok) (N : Int) (lo hi : Int) : List Pt → Prop
  | [] => True
  | t :: r => (lo ≤ frmP t ∧ toP t ≤ hi) ∧ plP ts N t ∧ plL ts N (toP t) hi r
end
def plR (ts : List Tok) (N : Int) (lo : Int) (p : Nat) (r : Rs Pt) : Prop := match r with | .ok t q => p ≤ q ∧ q ≤ ts.length ∧ lo ≤ frmP t ∧ toP t ≤ behI ts q ∧ plP ts N t | _ => True
def plS (ts : List Tok) (N : Int) (lo : Int) (p : Nat) (r : Rs (List Pt)) : Prop := match r with | .ok l q => p ≤ q ∧ q ≤ ts.length ∧ plL ts N lo (behI ts q) l | _ => True
section
variable {ts : List Tok} {N : Int}
theorem plP_le {t : Pt} (h : plP ts N t) : frmP t ≤ toP t ∧ 0 ≤ frmP t := by
  cases t with
  | mk k x n a f t l =>
    rw [plP] at h
    show f ≤ t ∧ 0 ≤ f
    omega
theorem Std.hp {p : Nat} (h : p < ts.length) : herI ts p = (nxT ts p).pos := by unfold herI; rw [if_pos h]
theorem Std.bh (hs : Std ts N) {p : Nat} (_h : p ≤ ts.length) : behI ts p ≤ herI ts p := by
  unfold herI
  split
  · rename_i hp
    unfold behI
    split
    · exact (hs.one p hp).1
    · have := hs.two (p - 1) (by omega)
      rw [show p - 1 + 1 = p by omega] at this
      exact this
  · exact Int.le_refl _
theorem Std.hb {p : Nat} (h : p < ts.length) : herI ts p ≤ behI ts (p + 1) := by
  rw [Std.hp h]
  unfold behI
  rw [if_neg (by omega), show p + 1 - 1 = p by omega]
  omega
theorem Std.bb (hs : Std ts N) {p q : Nat} (h : p ≤ q) (hq : q ≤ ts.length) : behI ts p ≤ behI ts q := by
  induction q with
  | zero => obtain rfl : p = 0 := by omega
            exact Int.le_refl _
  | succ q ih =>
    rcases Nat.lt_or_ge p (q + 1) with h1 | h1
    · have h2 := ih (by omega) (by omega)
      have h3 := hs.bh (p := q) (by omega)
      have h4 := Std.hb (ts := ts) (p := q) (by omega)
      omega
    · obtain rfl : p = q + 1 := by omega
      exact Int.le_refl _
theorem Std.hq (hs : Std ts N) {p q : Nat} (h : p < q) (hq : q ≤ ts.length) : herI ts p ≤ behI ts q := by
  have h1 := Std.hb (ts := ts) (p := p) (by omega)
  have h2 := hs.bb (p := p + 1) (q := q) (by omega) hq
  omega
theorem Std.hh (hs : Std ts N) {p q : Nat} (h : p ≤ q) (hq : q ≤ ts.length) : herI ts p ≤ herI ts q := by
  rcases Nat.lt_or_ge p q with h1 | h1
  · have h2 := hs.hq h1 hq
    have h3 := hs.bh hq
    omega
  · obtain rfl : p = q := by omega
    exact Int.le_refl _
theorem Std.z (hs : Std ts N) {p : Nat} (h : p ≤ ts.length) : 0 ≤ behI ts p ∧ behI ts p ≤ N := by
  refine ⟨hs.bb (p := 0) (Nat.zero_le _) h, ?_⟩
  unfold behI
  split
  · exact hs.zero
  · exact (hs.one (p - 1) (by omega)).2
theorem Std.hz (hs : Std ts N) {p : Nat} (h : p ≤ ts.length) : 0 ≤ herI ts p := by
  have := hs.z h
  have := hs.bh h
  omega
theorem plL_lo {lo lo' hi : Int} {l : List Pt} (h : plL ts N lo hi l) (hl : lo' ≤ lo) : plL ts N lo' hi l := by
  cases l with
  | nil => rw [plL]; trivial
  | cons t r => rw [plL] at h ⊢; exact ⟨⟨by omega, h.1.2⟩, h.2⟩
theorem plL_nil (lo hi : Int) : plL ts N lo hi [] := by rw [plL]; trivial
theorem plL_app {b : List Pt} {h2 : Int} : ∀ {a : List Pt} {lo h : Int}, plL ts N lo h a → plL ts N h h2 b → lo ≤ h → h ≤ h2 → plL ts N lo h2 (a ++ b)
  | [], lo, h, _, hb, h1, _ => plL_lo hb h1
  | t :: r, lo, h, ha, hb, h1, h3 => by
    rw [List.cons_append, plL]
    rw [plL] at ha
    exact ⟨⟨ha.1.1, by omega⟩, ha.2.1, plL_app ha.2.2 hb ha.1.2 h3⟩
theorem plL_one {t : Pt} {lo hi : Int} (h : plP ts N t) (h1 : lo ≤ frmP t) (h2 : toP t ≤ hi) : plL ts N lo hi [t] := by
  rw [plL, plL]
  exact ⟨⟨h1, h2⟩, h, trivial⟩
theorem pl_mk (hs : Std ts N) {k n : Int} {x : ByteArray} {a f : Int} {l : List Pt} {i q : Nat} (hi : i < q) (hq : q ≤ ts.length) (hx : x = (nxT ts i).text) (ha : a = (nxT ts i).pos) (hf : f ≤ herI ts i) (h0 : 0 ≤ f) (hl : plL ts N f (behI ts q) l) : plP ts N (.mk k x n a f (behI ts q) l) := by
  have h1 := hs.hq hi hq
  have h2 := Std.hp (ts := ts) (p := i) (by omega)
  have h3 := hs.z hq
  rw [plP]
  exact ⟨⟨by omega, by omega, h0, h3.2, fun _ => ⟨i, by omega, hx, ha⟩⟩, hl⟩
theorem pl_no (hs : Std ts N) {k n : Int} {x : ByteArray} {a f : Int} {l : List Pt} {q : Nat} (hk : wordK k = false) (hq : q ≤ ts.length) (hf : f ≤ a) (ha : a ≤ behI ts q) (h0 : 0 ≤ f) (hl : plL ts N f (behI ts q) l) : plP ts N (.mk k x n a f (behI ts q) l) := by
  have h3 := hs.z hq
  rw [plP]
  exact ⟨⟨hf, ha, h0, h3.2, fun h => by rw [hk] at h; cases h⟩, hl⟩
theorem pl_ok {lo : Int} {p q : Nat} {k n : Int} {x : ByteArray} {a f : Int} {l : List Pt} (h1 : p ≤ q) (h2 : q ≤ ts.length) (h3 : lo ≤ f) (h : plP ts N (.mk k x n a f (behI ts q) l)) : plR ts N lo p (.ok (.mk k x n a f (behI ts q) l) q) := ⟨h1, h2, h3, Int.le_refl _, h⟩
theorem pl_need {lo : Int} {p : Nat} {b : Bool} {s : Int} {k : Rs Pt} (h : b = true → plR ts N lo p k) : plR ts N lo p (Rs.need b s k) := by
  unfold Rs.need
  split
  · rename_i hb; exact h hb
  · trivial
theorem ps_need {lo : Int} {p : Nat} {b : Bool} {s : Int} {k : Rs (List Pt)} (h : b = true → plS ts N lo p k) : plS ts N lo p (Rs.need b s k) := by
  unfold Rs.need
  split
  · rename_i hb; exact h hb
  · trivial
theorem pl_ite {lo : Int} {p : Nat} {c : Prop} [Decidable c] {a b : Rs Pt} (h : c → plR ts N lo p a) (h' : ¬ c → plR ts N lo p b) : plR ts N lo p (if c then a else b) := by
  split
  · rename_i hc; exact h hc
  · rename_i hc; exact h' hc
theorem ps_ite {lo : Int} {p : Nat} {c : Prop} [Decidable c] {a b : Rs (List Pt)} (h : c → plS ts N lo p a) (h' : ¬ c → plS ts N lo p b) : plS ts N lo p (if c then a else b) := by
  split
  · rename_i hc; exact h hc
  · rename_i hc; exact h' hc
theorem pl_bind {lo lo' : Int} {p p' : Nat} {r : Rs Pt} {f : Pt → Nat → Rs Pt} (h : plR ts N lo' p' r) (hf : ∀ t q, p' ≤ q → q ≤ ts.length → lo' ≤ frmP t → toP t ≤ behI ts q → plP ts N t → plR ts N lo p (f t q)) : plR ts N lo p (r.bind f) := by
  cases r with
  | ok t q => exact hf t q h.1 h.2.1 h.2.2.1 h.2.2.2.1 h.2.2.2.2
  | bad s => trivial
  | out => trivial
theorem pl_binds {lo lo' : Int} {p p' : Nat} {r : Rs (List Pt)} {f : List Pt → Nat → Rs Pt} (h : plS ts N lo' p' r) (hf : ∀ l q, p' ≤ q → q ≤ ts.length → plL ts N lo' (behI ts q) l → plR ts N lo p (f l q)) : plR ts N lo p (r.bind f) := by
  cases r with
  | ok l q => exact hf l q h.1 h.2.1 h.2.2
  | bad s => trivial
  | out => trivial
theorem ps_bind {lo lo' : Int} {p p' : Nat} {r : Rs Pt} {f : Pt → Nat → Rs (List Pt)} (h : plR ts N lo' p' r) (hf : ∀ t q, p' ≤ q → q ≤ ts.length → lo' ≤ frmP t → toP t ≤ behI ts q → plP ts N t → plS ts N lo p (f t q)) : plS ts N lo p (r.bind f) := by
  cases r with
  | ok t q => exact hf t q h.1 h.2.1 h.2.2.1 h.2.2.2.1 h.2.2.2.2
  | bad s => trivial
  | out => trivial
theorem ps_binds {lo lo' : Int} {p p' : Nat} {r : Rs (List Pt)} {f : List Pt → Nat → Rs (List Pt)} (h : plS ts N lo' p' r) (hf : ∀ l q, p' ≤ q → q ≤ ts.length → plL ts N lo' (behI ts q) l → plS ts N lo p (f l q)) : plS ts N lo p (r.bind f) := by
  cases r with
  | ok l q => exact hf l q h.1 h.2.1 h.2.2
  | bad s => trivial
  | out => trivial
theorem pl_mono {lo lo' : Int} {p p' : Nat} {r : Rs Pt} (h : plR ts N lo' p' r) (h1 : lo ≤ lo') (h2 : p ≤ p') : plR ts N lo p r := by
  cases r with
  | ok t q => exact ⟨Nat.le_trans h2 h.1, h.2.1, Int.le_trans h1 h.2.2.1, h.2.2.2⟩
  | bad s => trivial
  | out => trivial
theorem ps_mono {lo : Int} {p p' : Nat} {r : Rs (List Pt)} (h : plS ts N lo p' r) (h2 : p ≤ p') : plS ts N lo p r := by
  cases r with
  | ok t q => exact ⟨Nat.le_trans h2 h.1, h.2⟩
  | bad s => trivial
  | out => trivial
theorem pl_exp {lo : Int} {p m : Nat} {s : List UInt8} {k : Nat → Rs Pt} (hs : s ≠ []) (h : p < ts.length → plR ts N lo m (k (p + 1))) : plR ts N lo m (expP ts s p k) := pl_need fun hb => h (is_lt hb hs)
theorem pl_kin {lo : Int} {n : Int} {p m : Nat} {k : Tok → Nat → Rs Pt} (hn : n ≠ 0) (h : p < ts.length → plR ts N lo m (k (nxT ts p) (p + 1))) : plR ts N lo m (kinP ts n p k) := pl_need fun hb => h (kin_lt hb hn)
theorem pl_nam {lo : Int} {p m : Nat} {k : Tok → Nat → Rs Pt} (h : p < ts.length → plR ts N lo m (k (nxT ts p) (p + 1))) : plR ts N lo m (namP ts p k) := pl_need fun hb => h (nam_lt hb)
theorem ps_exp {lo : Int} {p m : Nat} {s : List UInt8} {k : Nat → Rs (List Pt)} (hs : s ≠ []) (h : p < ts.length → plS ts N lo m (k (p + 1))) : plS ts N lo m (expP ts s p k) := ps_need fun hb => h (is_lt hb hs)
theorem ps_kin {lo : Int} {n : Int} {p m : Nat} {k : Tok → Nat → Rs (List Pt)} (hn : n ≠ 0) (h : p < ts.length → plS ts N lo m (k (nxT ts p) (p + 1))) : plS ts N lo m (kinP ts n p k) := ps_need fun hb => h (kin_lt hb hn)
theorem ps_ok {lo : Int} {p q : Nat} {l : List Pt} (h1 : p ≤ q) (h2 : q ≤ ts.length) (h : plL ts N lo (behI ts q) l) : plS ts N lo p (.ok l q) := ⟨h1, h2, h⟩
theorem pl_lea (hs : Std ts N) (k : Int) {p : Nat} (h : p < ts.length) : plR ts N (herI ts p) (p + 1) (leaP ts k p) :=
  pl_ok (Nat.le_refl _) (by omega) (Int.le_refl _) (pl_mk hs (i := p) (by omega) (by omega) rfl rfl (Int.le_refl _) (hs.hz (by omega)) (plL_nil _ _))
theorem pl_wor (hs : Std ts N) (k : Int) (p : Nat) : plR ts N (herI ts p) (p + 1) (worP ts k p) := pl_need fun hb => pl_lea hs k (nam_lt hb)
theorem pl_va1 (hs : Std ts N) (p : Nat) : plR ts N (herI ts p) (p + 1) (va1P ts p) := by
  unfold va1P
  refine pl_ite (fun h => ?_) fun _ => pl_ite (fun h => ?_) fun _ => pl_ite (fun h => pl_lea hs _ ?_) fun _ => trivial
  · have hp := kin_lt h (by decide)
    exact pl_ok (Nat.le_refl _) (by omega) (Int.le_refl _) (pl_no hs rfl (by omega) (by rw [Std.hp hp]; exact Int.le_refl _) (by have := Std.hb hp; rw [Std.hp hp] at this; exact this) (hs.hz (by omega)) (plL_nil _ _))
  · have hp := kin_lt h (by decide)
    exact pl_ok (Nat.le_refl _) (by omega) (Int.le_refl _) (pl_no hs rfl (by omega) (by rw [Std.hp hp]; exact Int.le_refl _) (by have := Std.hb hp; rw [Std.hp hp] at this; exact this) (hs.hz (by omega)) (plL_nil _ _))
  · rw [Bool.or_eq_true] at h
    rcases h with h | h <;> exact is_lt h (by simp)
theorem pl_val (hs : Std ts N) (p : Nat) : plR ts N (herI ts p) (p + 1) (valP ts p) := by
  unfold valP
  refine pl_ite (fun h => ?_) fun _ => pl_va1 hs p
  have hp := is_lt h (by simp)
  refine pl_ite (fun h2 => pl_bind (pl_va1 hs _) fun v q h1 h2 h3 h4 h5 => ?_) fun _ => trivial
  have := hs.hh (p := p) (q := p + 1) (by omega) (by omega)
  exact pl_ok (by omega) h2 (Int.le_refl _) (pl_mk hs (i := p) (by omega) h2 rfl rfl (Int.le_refl _) (hs.hz (by omega)) (plL_one h5 (by omega) h4))
theorem pl_typ (hs : Std ts N) (p : Nat) : plR ts N (herI ts p) (p + 1) (typP ts p) := by
  unfold typP
  refine pl_ite (fun h => pl_lea hs _ ?_) fun _ => pl_ite (fun _ => pl_bind (pl_wor hs 23 p) fun v q h1 h2 h3 h4 h5 => pl_exp (by simp) fun _ => pl_nam fun hn => ?_) fun _ => pl_wor hs _ _
  · rw [Bool.or_eq_true, Bool.or_eq_true] at h
    rcases h with (h | h) | h <;> exact is_lt h (by simp)
  · have e1 := hs.hh (p := p) (q := q + 1) (by omega) (by omega)
    have e2 := hs.bb (p := q) (q := q + 1 + 1) (by omega) (by omega)
    exact pl_ok (by omega) (by omega) (Int.le_refl _) (pl_mk hs (i := q + 1) (by omega) (by omega) rfl rfl e1 (hs.hz (by omega)) (plL_one h5 h3 (by omega)))
theorem pl_tyd (hs : Std ts N) (k : Int) (p : Nat) : plR ts N (herI ts p) (p + 1) (tydP ts k p) := by
  unfold tydP
  refine pl_nam fun hp => pl_bind (pl_typ hs _) fun v q h1 h2 h3 h4 h5 => ?_
  have e1 := hs.hh (p := p) (q := p + 1) (by omega) (by omega)
  exact pl_ok (by omega) h2 (Int.le_refl _) (pl_mk hs (i := p) (by omega) h2 rfl rfl (Int.le_refl _) (hs.hz (by omega)) (plL_one h5 (by omega) h4))
theorem pl_imp (hs : Std ts N) (p : Nat) : plR ts N (herI ts p) (p + 1) (impP ts p) := by
  unfold impP
  refine pl_exp (by simp) fun hp => pl_kin (by simp) fun h1 => ?_
  have e1 := hs.hh (p := p) (q := p + 1) (by omega) (by omega)
  have e2 := hs.hq (p := p + 1) (q := p + 1 + 1) (by omega) (by omega)
  rw [Std.hp h1] at e1 e2
  exact pl_ok (by omega) (by omega) (Int.le_refl _) (pl_no hs rfl (by omega) e1 e2 (hs.hz (by omega)) (plL_nil _ _))
theorem pl_con (hs : Std ts N) (p : Nat) : plR ts N (herI ts p) (p + 1) (conP ts p) := by
  unfold conP
  refine pl_exp (by simp) fun hp => pl_nam fun h1 => pl_exp (by simp) fun h2 => pl_bind (pl_val hs _) fun v q h3 h4 h5 h6 h7 => ?_
  have e1 := hs.hh (p := p) (q := p + 1) (by omega) (by omega)
  have e2 := hs.hh (p := p) (q := p + 1 + 1 + 1) (by omega) (by omega)
  exact pl_ok (by omega) h4 (Int.le_refl _) (pl_mk hs (i := p + 1) (by omega) h4 rfl rfl e1 (hs.hz (by omega)) (plL_one h7 (by omega) h6))
theorem pl_rec (hs : Std ts N) (p : Nat) : plR ts N (herI ts p) (p + 1) (recP ts p) := by
  unfold recP
  refine pl_nam fun hp => pl_bind (pl_wor hs _ _) fun v q h3 h4 h5 h6 h7 => ?_
  have e1 := hs.hh (p := p) (q := p + 1) (by omega) (by omega)
  exact pl_ok (by omega) h4 (Int.le_refl _) (pl_mk hs (i := p) (by omega) h4 rfl rfl (Int.le_refl _) (hs.hz (by omega)) (plL_one h7 (by omega) h6))
structure PlA (ts : List Tok) (N : Int) (n : Nat) : Prop where
  bin : ∀ l p, plR ts N (herI ts p) (p + 1) ((fns ts n).bin l p)
  binL : ∀ l fr t p, p ≤ ts.length → 0 ≤ fr → fr ≤ frmP t → toP t ≤ behI ts p → plP ts N t → plR ts N fr p ((fns ts n).binL l fr t p)
  una : ∀ p, plR ts N (herI ts p) (p + 1) ((fns ts n).una p)
  post : ∀ p, plR ts N (herI ts p) (p + 1) ((fns ts n).post p)
  posL : ∀ fr t p, p ≤ ts.length → 0 ≤ fr → fr ≤ frmP t → toP t ≤ behI ts p → plP ts N t → plR ts N fr p ((fns ts n).posL fr t p)
  prim : ∀ p, plR ts N (herI ts p) (p + 1) ((fns ts n).prim p)
  argL : ∀ lo l p, p ≤ ts.length → lo ≤ behI ts p → plL ts N lo (behI ts p) l → plS ts N lo p ((fns ts n).argL l p)
  parL : ∀ lo l p, p ≤ ts.length → lo ≤ behI ts p → plL ts N lo (behI ts p) l → plS ts N lo p ((fns ts n).parL l p)
  fieL : ∀ lo l p, p ≤ ts.length → lo ≤ behI ts p → plL ts N lo (behI ts p) l → plS ts N lo p ((fns ts n).fieL l p)
  stmt : ∀ p, plR ts N (herI ts p) (p + 1) ((fns ts n).stmt p)
  bran : ∀ p, plR ts N (herI ts p) (p + 1) ((fns ts n).bran p)
  stmL : ∀ lo l p, p ≤ ts.length → lo ≤ behI ts p → plL ts N lo (behI ts p) l → plS ts N lo p ((fns ts n).stmL l p)
  impL : ∀ lo l p, p ≤ ts.length → lo ≤ behI ts p → plL ts N lo (behI ts p) l → plS ts N lo p ((fns ts n).impL l p)
  decL : ∀ lo l p, p ≤ ts.length → lo ≤ behI ts p → plL ts N lo (behI ts p) l → plS ts N lo p ((fns ts n).decL l p)
/-- A part more. -/
theorem pl_more (hs : Std ts N) {lo : Int} {l : List Pt} {t : Pt} {p p' q : Nat} (hl : plL ts N lo (behI ts p) l) (h0 : lo ≤ behI ts p) (hp : p ≤ p') (hq : p' ≤ q) (hl2 : q ≤ ts.length) (h1 : herI ts p' ≤ frmP t) (h2 : toP t ≤ behI ts q) (h3 : plP ts N t) : plL ts N lo (behI ts q) (l ++ [t]) := by
  have e1 := hs.bb (p := p) (q := p') hp (by omega)
  have e2 := hs.bh (p := p') (by omega)
  have e3 := hs.bb (p := p) (q := q) (by omega) hl2
  exact plL_app hl (plL_one h3 (by omega) h2) h0 e3
theorem pl_keep (hs : Std ts N) {lo : Int} {l : List Pt} {p q : Nat} (hl : plL ts N lo (behI ts p) l) (h0 : lo ≤ behI ts p) (hp : p ≤ q) (hq : q ≤ ts.length) : plL ts N lo (behI ts q) l := by
  have e3 := hs.bb (p := p) (q := q) hp hq
  have := plL_app (b := []) hl (plL_nil _ _) h0 e3
  rw [List.append_nil] at this
  exact this
theorem pl_lis (hs : Std ts N) {one : Nat → Rs Pt} {more : List Pt → Nat → Rs (List Pt)} {p : Nat} (h1 : ∀ q, plR ts N (herI ts q) (q + 1) (one q)) (h2 : ∀ lo l q, q ≤ ts.length → lo ≤ behI ts q → plL ts N lo (behI ts q) l → plS ts N lo q (more l q)) : plS ts N (herI ts p) (p + 1) (lisP ts one more p) := by
  unfold lisP
  refine ps_exp (by simp) fun hp => ps_ite (fun h => ps_ok (by omega) (by have := is_lt h (by simp); omega) (plL_nil _ _)) fun _ => ps_bind (h1 _) fun v q a1 a2 a3 a4 a5 => ps_binds (lo' := herI ts p) (h2 _ _ _ a2 (hs.hq (by omega) a2) ?_) fun l q' b1 b2 b3 => ps_exp (by simp) fun h => ps_ok (by omega) (by omega) (pl_keep hs b3 (hs.hq (by omega) b2) (by omega) (by omega))
  have e1 := hs.hh (p := p) (q := p + 1) (by omega) (by omega)
  exact plL_one a5 (by omega) a4
theorem pl_lin (hs : Std ts N) {more : List Pt → Nat → Rs (List Pt)} {p : Nat} (h2 : ∀ lo l q, q ≤ ts.length → lo ≤ behI ts q → plL ts N lo (behI ts q) l → plS ts N lo q (more l q)) : plS ts N (herI ts p) (p + 1) (linP ts more p) := by
  unfold linP
  exact ps_exp (by simp) fun hp => ps_binds (h2 (herI ts p) [] _ hp (Std.hb hp) (plL_nil _ _)) fun l q' b1 b2 b3 => ps_exp (by simp) fun h => ps_ok (by omega) (by omega) (pl_keep hs b3 (hs.hq (by omega) b2) (by omega) (by omega))
theorem pl_blo (hs : Std ts N) {n : Nat} (ih : PlA ts N n) (p : Nat) : plR ts N (herI ts p) (p + 1) (bloP ts (fns ts n) p) := by
  unfold bloP
  refine pl_binds (pl_lin hs ih.stmL) fun l q h1 h2 h3 => ?_
  exact pl_ok h1 h2 (Int.le_refl _) (pl_no hs rfl h2 (Int.le_refl _) (hs.hq (by omega) h2) (hs.hz (by omega)) h3)
theorem pl_var (hs : Std ts N) {n : Nat} (ih : PlA ts N n) (p : Nat) : plR ts N (herI ts p) (p + 1) (varP ts (fns ts n) p) := by
  unfold varP
  refine pl_exp (by simp) fun h1 => pl_nam fun h2 => pl_bind (pl_typ hs _) fun v q a1 a2 a3 a4 a5 => pl_ite (fun h => pl_bind (ih.bin 0 _) fun x q' b1 b2 b3 b4 b5 => ?_) fun _ => ?_
  · have e1 := hs.hh (p := p) (q := p + 1) (by omega) (by omega)
    have e2 := hs.hh (p := p) (q := p + 1 + 1) (by omega) (by omega)
    have hl : plL ts N (herI ts p) (behI ts q') ([v] ++ [x]) := pl_more hs (p := q) (p' := q + 1) (plL_one a5 (by omega) a4) (hs.hq (by omega) a2) (by omega) (by omega) b2 b3 b4 b5
    exact pl_ok (by omega) b2 (Int.le_refl _) (pl_mk hs (i := p + 1) (by omega) b2 rfl rfl e1 (hs.hz (by omega)) hl)
  · have e1 := hs.hh (p := p) (q := p + 1) (by omega) (by omega)
    have e2 := hs.hh (p := p) (q := p + 1 + 1) (by omega) (by omega)
    exact pl_ok (by omega) a2 (Int.le_refl _) (pl_mk hs (i := p + 1) (by omega) a2 rfl rfl e1 (hs.hz (by omega)) (plL_one a5 (by omega) a4))
theorem pl_dec (hs : Std ts N) {n : Nat} (ih : PlA ts N n) (p : Nat) : plR ts N (herI ts p) (p + 1) (decP ts (fns ts n) p) := by
  have hfun : ∀ fr l q, q ≤ ts.length → 0 ≤ fr → fr ≤ behI ts q → plL ts N fr (behI ts q) l → plR ts N fr (q + 1) (funR ts (fns ts n) fr l q) := fun fr l q hq h0 hf hl => by
    unfold funR
    have e0 := hs.bh hq
    refine pl_nam fun h1 => pl_binds (pl_lis hs (pl_tyd hs 9) ih.parL) fun ps q1 a1 a2 a3 => ?_
    have e1 := hs.bb (p := q) (q := q1) (by omega) a2
    have hl1 : plL ts N fr (behI ts q1) (l ++ ps) := plL_app hl (plL_lo a3 (by have := hs.bh (p := q + 1) (by omega); have := hs.bb (p := q) (q := q + 1) (by omega) (by omega); omega)) hf e1
    refine pl_ite (fun _ => pl_bind (pl_blo hs ih _) fun b q2 b1 b2 b3 b4 b5 => ?_) fun _ => pl_bind (pl_typ hs _) fun v q2 c1 c2 c3 c4 c5 => pl_bind (pl_blo hs ih _) fun b q3 b1 b2 b3 b4 b5 => ?_
    · exact pl_ok (by omega) b2 (Int.le_refl _) (pl_mk hs (i := q) (by omega) b2 rfl rfl (by omega) h0 (pl_more hs hl1 (by omega) (Nat.le_refl _) (by omega) b2 b3 b4 b5))
    · have hl2 := pl_more hs hl1 (by omega) (Nat.le_refl _) (by omega) c2 c3 c4 c5
      have e2 := hs.bb (p := q1) (q := q2) (by omega) c2
      exact pl_ok (by omega) b2 (Int.le_refl _) (pl_mk hs (i := q) (by omega) b2 rfl rfl (by omega) h0 (pl_more hs hl2 (by omega) (Nat.le_refl _) (by omega) b2 b3 b4 b5))
  unfold decP
  refine pl_ite (fun _ => pl_con hs p) fun _ => pl_ite (fun _ => pl_var hs ih p) fun _ => pl_ite (fun _ => ?_) fun _ => pl_ite (fun _ => ?_) fun _ => trivial
  · unfold strP
    refine pl_exp (by simp) fun h1 => pl_nam fun h2 => pl_exp (by simp) fun h3 => pl_binds (pl_lin hs ih.fieL) fun l q a1 a2 a3 => ?_
    have e1 := hs.hh (p := p) (q := p + 1) (by omega) (by omega)
    have e2 := hs.hh (p := p) (q := p + 1 + 1 + 1) (by omega) (by omega)
    exact pl_ok (by omega) a2 (Int.le_refl _) (pl_mk hs (i := p + 1) (by omega) a2 rfl rfl e1 (hs.hz (by omega)) (plL_lo a3 e2))
  · unfold funP
    refine pl_exp (by simp) fun h1 => pl_ite (fun h => pl_bind (pl_rec hs _) fun v q a1 a2 a3 a4 a5 => pl_exp (by simp) fun h2 => ?_) fun _ => ?_
    · have e1 := hs.hh (p := p) (q := p + 1 + 1) (by omega) (by omega)
      have e2 := hs.hq (p := p) (q := q) (by omega) a2
      have e3 := hs.hq (p := p) (q := q + 1) (by omega) (by omega)
      exact pl_mono (hfun _ _ _ (by omega) (hs.hz (by omega)) e3 (pl_keep hs (plL_one a5 (by omega) a4) e2 (by omega) (by omega))) (Int.le_refl _) (by omega)
    · have e3 := hs.hq (p := p) (q := p + 1) (by omega) (by omega)
      exact pl_mono (hfun _ _ _ (by omega) (hs.hz (by omega)) e3 (plL_nil _ _)) (Int.le_refl _) (by omega)
theorem plA (hs : Std ts N) (n : Nat) : PlA ts N n := by
  induction n with
  | zero => constructor <;> (intros; trivial)
  | succ n ih =>
    constructor
    · intro l p
      show plR ts N (herI ts p) (p + 1) (if l = 5 then (fns ts n).una p else ((fns ts n).bin (l + 1) p).bind fun t q => (fns ts n).binL l (herI ts p) t q)
      exact pl_ite (fun _ => ih.una p) fun _ => pl_bind (ih.bin _ _) fun t q a1 a2 a3 a4 a5 => pl_mono (ih.binL _ _ _ _ a2 (hs.hz (by omega)) a3 a4 a5) (Int.le_refl _) (by omega)
    · intro l fr t p h1 h0 h2 h3 h4
      refine pl_ite (fun h => ?_) fun _ => ⟨Nat.le_refl _, h1, h2, h3, h4⟩
      have hp := row_lt h
      have e0 := plP_le h4
      have e1 := hs.bh h1
      refine pl_bind (ih.bin _ _) fun u q a1 a2 a3 a4 a5 => ?_
      have hn : plP ts N (.mk 27 (nxT ts p).text 0 (nxT ts p).pos fr (behI ts q) [t, u]) := pl_mk hs (i := p) (by omega) a2 rfl rfl (by omega) h0 (pl_more hs (l := [t]) (p := p) (p' := p + 1) (plL_one h4 h2 h3) (by omega) (by omega) (by omega) a2 a3 a4 a5)
      exact pl_ite (fun _ => pl_ok (by omega) a2 (Int.le_refl _) hn) fun _ => pl_mono (ih.binL _ _ _ _ a2 h0 (Int.le_refl _) (Int.le_refl _) hn) (Int.le_refl _) (by omega)
    · intro p
      refine pl_ite (fun h => ?_) fun _ => ih.post p
      have hp : p < ts.length := by
        rw [Bool.or_eq_true] at h
        rcases h with h | h <;> exact is_lt h (by simp)
      refine pl_bind (ih.una _) fun u q a1 a2 a3 a4 a5 => ?_
      have e1 := hs.hh (p := p) (q := p + 1) (by omega) (by omega)
      exact pl_ok (by omega) a2 (Int.le_refl _) (pl_mk hs (i := p) (by omega) a2 rfl rfl (Int.le_refl _) (hs.hz (by omega)) (plL_one a5 (by omega) a4))
    · intro p
      exact pl_bind (ih.prim p) fun t q a1 a2 a3 a4 a5 => pl_mono (ih.posL _ _ _ a2 (hs.hz (by omega)) a3 a4 a5) (Int.le_refl _) (by omega)
    · intro fr t p h1 h0 h2 h3 h4
      have e0 := plP_le h4
      have e1 := hs.bh h1
      refine pl_ite (fun h => ?_) fun _ => pl_ite (fun h => ?_) fun _ => ⟨Nat.le_refl _, h1, h2, h3, h4⟩
      · have hp := is_lt h (by simp)
        refine pl_nam fun hn => ?_
        have e2 := hs.hh (p := p) (q := p + 1) (by omega) (by omega)
        have e3 := hs.bb (p := p) (q := p + 1 + 1) (by omega) (by omega)
        have hn : plP ts N (.mk 24 (nxT ts (p + 1)).text 0 (nxT ts (p + 1)).pos fr (behI ts (p + 1 + 1)) [t]) := pl_mk hs (i := p + 1) (by omega) (by omega) rfl rfl (by omega) h0 (plL_one h4 h2 (by omega))
        exact pl_mono (ih.posL _ _ _ (by omega) h0 (Int.le_refl _) (Int.le_refl _) hn) (Int.le_refl _) (by omega)
      · have hp := is_lt h (by simp)
        refine pl_binds (pl_lis hs (ih.bin 0) ih.argL) fun l q a1 a2 a3 => ?_
        have e2 := hs.bb (p := p) (q := q) (by omega) a2
        have hn : plP ts N (.mk 25 ⟨#[]⟩ 0 fr fr (behI ts q) ([t] ++ l)) := pl_no hs rfl a2 (Int.le_refl _) (by omega) h0 (plL_app (plL_one h4 h2 h3) (plL_lo a3 e1) (by omega) e2)
        exact pl_mono (ih.posL _ _ _ a2 h0 (Int.le_refl _) (Int.le_refl _) hn) (Int.le_refl _) (by omega)
    · intro p
      refine pl_ite (fun h => ?_) fun _ => pl_ite (fun h => pl_lea hs _ (nam_lt h)) fun _ => pl_va1 hs p
      have hp := is_lt h (by simp)
      refine pl_bind (ih.bin _ _) fun t q a1 a2 a3 a4 a5 => pl_exp (by simp) fun hq => ?_
      have e1 := hs.hh (p := p) (q := p + 1) (by omega) (by omega)
      have e2 := hs.bb (p := q) (q := q + 1) (by omega) (by omega)
      exact ⟨by omega, by omega, by omega, by omega, a5⟩
    · intro lo l p h1 h0 hl
      refine ps_ite (fun h => ?_) fun _ => ps_ok (Nat.le_refl _) h1 hl
      have hp := is_lt h (by simp)
      refine ps_bind (ih.bin _ _) fun t q a1 a2 a3 a4 a5 => ?_
      have e2 := hs.bb (p := p) (q := q) (by omega) a2
      exact ps_mono (ih.argL lo _ _ a2 (by omega) (pl_more hs hl h0 (p' := p + 1) (by omega) (by omega) a2 a3 a4 a5)) (by omega)
    · intro lo l p h1 h0 hl
      refine ps_ite (fun h => ?_) fun _ => ps_ok (Nat.le_refl _) h1 hl
      have hp := is_lt h (by simp)
      refine ps_bind (pl_tyd hs _ _) fun t q a1 a2 a3 a4 a5 => ?_
      have e2 := hs.bb (p := p) (q := q) (by omega) a2
      exact ps_mono (ih.parL lo _ _ a2 (by omega) (pl_more hs hl h0 (p' := p + 1) (by omega) (by omega) a2 a3 a4 a5)) (by omega)
    · intro lo l p h1 h0 hl
      refine ps_ite (fun h => ps_ok (Nat.le_refl _) h1 hl) fun _ => ps_bind (pl_tyd hs _ _) fun t q a1 a2 a3 a4 a5 => ?_
      have e2 := hs.bb (p := p) (q := q) (by omega) a2
      have hm := pl_more hs hl h0 (Nat.le_refl _) (by omega) a2 a3 a4 a5
      refine ps_ite (fun _ => ps_mono (ih.fieL lo _ _ a2 (by omega) hm) (by omega)) fun _ => ps_kin (by simp) fun hq => ?_
      have e3 := hs.bb (p := q) (q := q + 1) (by omega) (by omega)
      exact ps_mono (ih.fieL lo _ _ (by omega) (by omega) (pl_keep hs hm (by omega) (by omega) (by omega))) (by omega)
    · intro p
      refine pl_ite (fun _ => pl_blo hs ih p) fun _ => pl_ite (fun _ => pl_var hs ih p) fun _ => pl_ite (fun _ => ih.bran p) fun _ => pl_ite (fun _ => ?_) fun _ => pl_ite (fun _ => ?_) fun _ => pl_ite (fun _ => ?_) fun _ => ?_
      · unfold looP
        refine pl_exp (by simp) fun h1 => pl_bind (ih.bin _ _) fun x q a1 a2 a3 a4 a5 => pl_bind (pl_blo hs ih _) fun b q' b1 b2 b3 b4 b5 => ?_
        have e1 := hs.hh (p := p) (q := p + 1) (by omega) (by omega)
        have hl : plL ts N (herI ts p) (behI ts q') ([x] ++ [b]) := pl_more hs (plL_one a5 (by omega) a4) (hs.hq (by omega) a2) (Nat.le_refl _) (by omega) b2 b3 b4 b5
        exact pl_ok (by omega) b2 (Int.le_refl _) (pl_no hs rfl b2 (Int.le_refl _) (hs.hq (by omega) b2) (hs.hz (by omega)) hl)
      · unfold resP
        refine pl_exp (by simp) fun h1 => pl_ite (fun _ => pl_bind (ih.bin _ _) fun x q a1 a2 a3 a4 a5 => ?_) fun _ => ?_
        · have e1 := hs.hh (p := p) (q := p + 1) (by omega) (by omega)
          exact pl_ok (by omega) a2 (Int.le_refl _) (pl_no hs rfl a2 (Int.le_refl _) (hs.hq (by omega) a2) (hs.hz (by omega)) (plL_one a5 (by omega) a4))
        · exact pl_ok (by omega) (by omega) (Int.le_refl _) (pl_no hs rfl (by omega) (Int.le_refl _) (hs.hq (by omega) (by omega)) (hs.hz (by omega)) (plL_nil _ _))
      · unfold shoP
        refine pl_nam fun h1 => pl_exp (by simp) fun h2 => pl_bind (ih.bin _ _) fun x q a1 a2 a3 a4 a5 => ?_
        have e1 := hs.hh (p := p) (q := p + 1 + 1) (by omega) (by omega)
        exact pl_ok (by omega) a2 (Int.le_refl _) (pl_mk hs (i := p) (by omega) a2 rfl rfl (Int.le_refl _) (hs.hz (by omega)) (plL_one a5 (by omega) a4))
      · unfold simP
        refine pl_bind (ih.bin _ _) fun x q a1 a2 a3 a4 a5 => pl_ite (fun h => pl_bind (ih.bin _ _) fun y q' b1 b2 b3 b4 b5 => ?_) fun _ => ?_
        · have hl : plL ts N (herI ts p) (behI ts q') ([x] ++ [y]) := pl_more hs (p := q) (p' := q + 1) (plL_one a5 a3 a4) (hs.hq (by omega) a2) (by omega) (by omega) b2 b3 b4 b5
          exact pl_ok (by omega) b2 (Int.le_refl _) (pl_no hs rfl b2 (Int.le_refl _) (hs.hq (by omega) b2) (hs.hz (by omega)) hl)
        · exact pl_ok (by omega) a2 (Int.le_refl _) (pl_no hs rfl a2 (Int.le_refl _) (hs.hq (by omega) a2) (hs.hz (by omega)) (plL_one a5 a3 a4))
    · intro p
      unfold fns
      dsimp only
      refine pl_exp (by simp) fun h1 => pl_bind (ih.bin _ _) fun x q a1 a2 a3 a4 a5 => pl_bind (pl_blo hs ih _) fun b q' b1 b2 b3 b4 b5 => ?_
      have e1 := hs.hh (p := p) (q := p + 1) (by omega) (by omega)
      have hl : plL ts N (herI ts p) (behI ts q') ([x] ++ [b]) := pl_more hs (plL_one a5 (by omega) a4) (hs.hq (by omega) a2) (Nat.le_refl _) (by omega) b2 b3 b4 b5
      refine pl_ite (fun h => pl_bind (pl_ite (fun _ => ih.bran _) fun _ => pl_blo hs ih _) fun c q'' c1 c2 c3 c4 c5 => ?_) fun _ => ?_
      · have hl2 := pl_more hs (p := q') (p' := q' + 1) hl (hs.hq (by omega) b2) (by omega) (by omega) c2 c3 c4 c5
        exact pl_ok (by omega) c2 (Int.le_refl _) (pl_no hs rfl c2 (Int.le_refl _) (hs.hq (by omega) c2) (hs.hz (by omega)) hl2)
      · exact pl_ok (by omega) b2 (Int.le_refl _) (pl_no hs rfl b2 (Int.le_refl _) (hs.hq (by omega) b2) (hs.hz (by omega)) hl)
    · intro lo l p h1 h0 hl
      refine ps_ite (fun h => ps_ok (Nat.le_refl _) h1 hl) fun _ => ps_bind (ih.stmt _) fun t q a1 a2 a3 a4 a5 => ?_
      have e2 := hs.bb (p := p) (q := q) (by omega) a2
      have hm := pl_more hs hl h0 (Nat.le_refl _) (by omega) a2 a3 a4 a5
      refine ps_ite (fun _ => ps_mono (ih.stmL lo _ _ a2 (by omega) hm) (by omega)) fun _ => ps_kin (by simp) fun hq => ?_
      have e3 := hs.bb (p := q) (q := q + 1) (by omega) (by omega)
      exact ps_mono (ih.stmL lo _ _ (by omega) (by omega) (pl_keep hs hm (by omega) (by omega) (by omega))) (by omega)
    · intro lo l p h1 h0 hl
      refine ps_ite (fun h => ps_bind (pl_imp hs _) fun t q a1 a2 a3 a4 a5 => ps_kin (by simp) fun hq => ?_) fun _ => ps_ok (Nat.le_refl _) h1 hl
      have e2 := hs.bb (p := p) (q := q) (by omega) a2
      have e3 := hs.bb (p := q) (q := q + 1) (by omega) (by omega)
      have hm := pl_more hs hl h0 (Nat.le_refl _) (by omega) a2 a3 a4 a5
      exact ps_mono (ih.impL lo _ _ (by omega) (by omega) (pl_keep hs hm (by omega) (by omega) (by omega))) (by omega)
    · intro lo l p h1 h0 hl
      refine ps_ite (fun h => ps_bind (pl_dec hs ih _) fun t q a1 a2 a3 a4 a5 => ps_kin (by simp) fun hq => ?_) fun _ => ps_ok (Nat.le_refl _) h1 hl
      have e2 := hs.bb (p := p) (q := q) (by omega) a2
      have e3 := hs.bb (p := q) (q := q + 1) (by omega) (by omega)
      have hm := pl_more hs hl h0 (Nat.le_refl _) (by omega) a2 a3 a4 a5
      exact ps_mono (ih.decL lo _ _ (by omega) (by omega) (pl_keep hs hm (by omega) (by omega) (by omega))) (by omega)
/-- The places of a file that was read are in order. -/
theorem fil_places (hs : Std ts N) {t : Pt} {q : Nat} (h : filO ts = .ok t q) : plP ts N t := by
  have ih := plA hs (12 * ts.length + 12)
  have hp : plR ts N (herI ts 0) 1 (filO ts) := by
    unfold filO filP
    refine pl_exp (by simp) fun h1 => pl_nam fun h2 => pl_kin (by simp) fun h3 => pl_binds (lo' := herI ts 0) (ih.impL _ [] _ (by omega) (hs.hq (by omega) (by omega)) (plL_nil _ _)) fun l q a1 a2 a3 => pl_binds (ih.decL _ l _ a2 (hs.hq (by omega) a2) a3) fun l' q' b1 b2 b3 => ?_
    exact pl_ok (by omega) b2 (Int.le_refl _) (pl_mk hs (i := 0 + 1) (by omega) b2 rfl rfl (hs.hh (by omega) (by omega)) (hs.hz (by omega)) b3)
  rw [h] at hp
  exact hp.2.2.2.2
end
end Go.Proofs.YthnoiohganknnaaDoor

namespace Go.Proofs.YthnoiohganknnaaDoor
open Go.RowKit

/-- A node's kids stand one behind the other, within it. -/
def kdOk (L : List Nd) (hi : Int) : Int → List Nat → Prop
  | _, [] => True
  | lo, k :: r => ∃ y, L[k]? = some y ∧ lo ≤ y.frm ∧ y.to ≤ hi ∧ kdOk L hi y.to r
/-- A node's places are in order. -/
def ndOk (ts : List Tok) (N : Int) (L : List Nd) (d : Nd) : Prop :=
  (d.frm ≤ d.pos ∧ d.pos ≤ d.to ∧ 0 ≤ d.frm ∧ d.to ≤ N ∧ (wordK d.kind = true → ∃ p, p < ts.length ∧ d.text = (nxT ts p).text ∧ d.pos = (nxT ts p).pos)) ∧ kdOk L d.to d.frm d.kids
section
variable {ts : List Tok} {N : Int} {L : List Nd}
theorem lay_hd (i : Nat) (t : Pt) : ∃ d, (layP i t)[0]? = some d ∧ d.frm = frmP t ∧ d.to = toP t := by
  cases t with
  | mk k x n a f t l => exact ⟨_, by rw [layP]; rfl, rfl, rfl⟩
mutual
theorem lay_ok : ∀ (t : Pt) (i : Nat), plP ts N t → (∀ j d, (layP i t)[j]? = some d → L[i + j]? = some d) → ∀ d ∈ layP i t, ndOk ts N L d
  | .mk k x n a f t l, i, h, hL => by
    rw [plP] at h
    have hk : ∀ j d, (layL (i + 1) l)[j]? = some d → L[i + 1 + j]? = some d := fun j d hd => by
      have := hL (j + 1) d (by rw [layP, List.getElem?_cons_succ]; exact hd)
      rw [show i + 1 + j = i + (j + 1) by omega]
      exact this
    have hl := layL_ok l (i + 1) f t h.2 hk
    intro d hd
    rw [layP] at hd
    rcases List.mem_cons.1 hd with rfl | hd
    · exact ⟨h.1, hl.2⟩
    · exact hl.1 d hd
theorem layL_ok : ∀ (l : List Pt) (i : Nat) (lo hi : Int), plL ts N lo hi l → (∀ j d, (layL i l)[j]? = some d → L[i + j]? = some d) → (∀ d ∈ layL i l, ndOk ts N L d) ∧ kdOk L hi lo (kidI i l)
  | [], i, lo, hi, _, _ => by
    rw [layL, kidI, kdOk]
    exact ⟨fun d hd => by simp at hd, trivial⟩
  | t :: r, i, lo, hi, h, hL => by
    rw [plL] at h
    rw [layL] at hL
    have h1 : ∀ j d, (layP i t)[j]? = some d → L[i + j]? = some d := fun j d hd => hL j d (by rw [List.getElem?_append_left (List.getElem?_eq_some_iff.1 hd).1]; exact hd)
    have h2 : ∀ j d, (layL (i + cntP t) r)[j]? = some d → L[i + cntP t + j]? = some d := fun j d hd => by
      have := hL (cntP t + j) d (by rw [List.getElem?_append_right (by rw [lay_cnt]; omega), lay_cnt, show cntP t + j - cntP t = j by omega]; exact hd)
      rw [Nat.add_assoc]
      exact this
    have a := lay_ok t i h.2.1 h1
    have b := layL_ok r (i + cntP t) (toP t) hi h.2.2 h2
    rw [layL, kidI, kdOk]
    obtain ⟨y, hy, e1, e2⟩ := lay_hd i t
    refine ⟨fun d hd => ?_, y, by have := h1 0 y hy; simpa using this, by rw [e1]; exact h.1.1, by rw [e2]; exact h.1.2, by rw [e2]; exact b.2⟩
    rcases List.mem_append.1 hd with hd | hd
    · exact a d hd
    · exact b.1 d hd
end
theorem lay_places {t : Pt} (h : plP ts N t) : ∀ d ∈ layP 0 t, ndOk ts N (layP 0 t) d := lay_ok t 0 h fun j d hd => by rw [Nat.zero_add]; exact hd
end
end Go.Proofs.YthnoiohganknnaaDoor
