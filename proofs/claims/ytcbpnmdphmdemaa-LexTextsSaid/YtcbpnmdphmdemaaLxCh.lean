/- The contract of lex's Check. -/
import Derived.Test.YtcbpnmdphmdemaaLxAl
import Derived.Test.YtcbpnmdphmdemaaLxF
import Derived.Test.YtcbpnmdphmdemaaLxQ
namespace Go.Proofs.Ytcbpnmdphmdemaa
open Go.RowKit

/-- May tokens come behind this one, to the end? -/
def chkF : Tok → List Tok → Bool
  | last, [] => !clo last
  | last, t :: r => if bareB t then (if clo last then chkF t r else false) else if alnB t then chkF t r else false
def chkO (ts : List Tok) : Int := if 1024 < ts.length then 2 else if chkF ⟨0, ⟨#[]⟩, 0⟩ ts then 0 else 2
/-- The facts that last for a round. -/
structure ChF (w : World) (K : Nat) (last x : Tok) (W : World) : Prop where
  b : Below w.heap.size w W
  l : W.heap[w.heap.size]? = some (.cells last.cells 57 (0, 0))
  x : W.heap[K]? = some (.cells x.cells 32 (0, 0))
theorem ChF.below {w : World} {K : Nat} {last x : Tok} {W W' : World} (h : ChF w K last x W) (hb : Below W.heap.size W W') : ChF w K last x W' :=
  ⟨h.b.trans (hb.mono h.b.size), (hb.block _ (lt_of_row h.l)).trans h.l, (hb.block _ (lt_of_row h.x)).trans h.x⟩
theorem ChF.c {w : World} {K : Nat} {last x : Tok} {W : World} (h : ChF w K last x W) : W.cell? ⟨K, 0, none⟩ = some (.int .i64 x.kind) ∧ W.cell? ⟨K, 1, none⟩ = some (.string x.text) ∧ W.cell? ⟨K, 2, none⟩ = some (.int .i64 x.pos) :=
  ⟨(cell_of_row _ _ 0 _ _ _ h.x).trans rfl, (cell_of_row _ _ 1 _ _ _ h.x).trans rfl, (cell_of_row _ _ 2 _ _ _ h.x).trans rfl⟩
theorem ChF.d {w : World} {K : Nat} {last x : Tok} {W : World} (h : ChF w K last x W) : W.cell? ⟨w.heap.size, 0, none⟩ = some (.int .i64 last.kind) ∧ W.cell? ⟨w.heap.size, 1, none⟩ = some (.string last.text) ∧ W.cell? ⟨w.heap.size, 2, none⟩ = some (.int .i64 last.pos) :=
  ⟨(cell_of_row _ _ 0 _ _ _ h.l).trans rfl, (cell_of_row _ _ 1 _ _ _ h.l).trans rfl, (cell_of_row _ _ 2 _ _ _ h.l).trans rfl⟩
theorem ChF.z {w : World} {K : Nat} {last x : Tok} {W : World} (h : ChF w K last x W) (j : Nat) : W.frozen? ⟨w.heap.size, j, none⟩ = false := frozen_of_row _ _ _ _ _ h.l
set_option maxRecDepth 100000 in
set_option maxHeartbeats 2000000 in
theorem check_any (sp : Option Addr) (cap : Nat) (ts : List Tok) (w : World) (hr : RowsT w sp ts) (hm : ts.length ≤ 100000) :
    Calls Try.prog 15 #[.slice sp ts.length cap] w fun e w' => e = .returned (.int .i64 (chkO ts)) ∧ Below w.heap.size w w' := by
  have HR : Hid (RowsT w sp ts) := hr
  clear hr
  go_enter Try.func15, Try.ntmps15
  go_wp2
  refine wp_scope_jumps 0 (fun a' w' => chkO ts = 2 ∧ Below w.heap.size w w' ∧ ∃ u0 u1 u2 u3 u4 u5 u6 u7 u8 u9 u10 u11 u12 u13 u14 u15 u16 u17 u18 u19 u20 u21 u22 u23 u24 u25 u26 u27 u28 u29 u30 u31 u32 u33 u34 u35 u36 u37 u38 : Value, a' = { tmps := #[u0, u1, u2, u3, u4, u5, u6, u7, u8, u9, u10, u11, u12, u13, u14, u15, u16, u17, u18, u19, u20, u21, u22, u23, u24, u25, u26, u27, u28, u29, u30, u31, u32, u33, u34, u35, u36, u37, u38], defers := [] }) (fun _ _ => 0) rfl ?_ ?_
  rotate_left
  · rintro a' w' ⟨hn, hb, u0, u1, u2, u3, u4, u5, u6, u7, u8, u9, u10, u11, u12, u13, u14, u15, u16, u17, u18, u19, u20, u21, u22, u23, u24, u25, u26, u27, u28, u29, u30, u31, u32, u33, u34, u35, u36, u37, u38, rfl⟩
    have HN : Hid (chkO ts = 2) := hn
    clear hn
    go_wp2
    simp only [Exit.jump]
    go_ret
    refine ⟨?_, hb⟩
    rw [HN.out]
    exact rfl
  by_cases h4 : 1024 < ts.length
  · have HN : Hid (chkO ts = 2) := by unfold chkO; rw [if_pos h4]; exact rfl
    have h4' : (ts.length : Int) > 1024 := by omega
    clear h4
    go_wp2
    go_step3
    exact ⟨rfl, HN.out, (Below.refl _ _).alloc (Nat.le_refl _) _, _, _, _, _, _, _, _, _, _, _, _, _, _, _, _, _, _, _, _, _, _, _, _, _, _, _, _, _, _, _, _, _, _, _, _, _, _, _, _, rfl⟩
  have h4' : ¬ (ts.length : Int) > 1024 := by omega
  have HO : Hid (∀ b, chkF ⟨0, ⟨#[]⟩, 0⟩ ts = b → chkO ts = if b then 0 else 2) := fun b hb => by unfold chkO; rw [if_neg h4, hb]
  clear h4
  go_wp2
  go_loopw [13] (fun i wr => ∃ (t : Nat) (last : Tok), t ≤ ts.length ∧ i = .int .i64 t ∧ wr.heap[w.heap.size]? = some (.cells last.cells 57 (0, 0)) ∧ Below w.heap.size w wr ∧ chkF last (ts.drop t) = chkF ⟨0, ⟨#[]⟩, 0⟩ ts) (fun i _ => ts.length - (intOf i).toNat)
  case atStart => exact ⟨0, ⟨0, ⟨#[]⟩, 0⟩, Nat.zero_le _, rfl, heap_alloc_new _ _, (Below.refl _ _).alloc (Nat.le_refl _) _, rfl⟩
  case round =>
    obtain ⟨t, last, ht, rfl, hrow, hB, hch⟩ := hrel
    have HROW : Hid (wr.heap[w.heap.size]? = some (.cells last.cells 57 (0, 0))) := hrow
    have HB : Hid (Below w.heap.size w wr) := hB
    have HCH : Hid (chkF last (ts.drop t) = chkF ⟨0, ⟨#[]⟩, 0⟩ ts) := hch
    clear hB hch hrow
    by_cases hlt : t < ts.length
    · have hd : decide ((t : Int) < ts.length) = true := by simp; omega
      obtain ⟨b, o, rfl, -⟩ := HR.out (by omega)
      obtain ⟨x, hx⟩ : ∃ x, ts[t]? = some x := ⟨_, List.getElem?_eq_getElem (by omega)⟩
      obtain ⟨k0, k1, k2⟩ := tok_cell (RowsAt.below HR.out HB.out) hx
      have HD : Hid (ts.drop t = x :: ts.drop (t + 1)) := by
        have hg := List.getElem?_eq_some_iff.1 hx
        show ts.drop t = x :: ts.drop (t + 1)
        rw [← List.getElem_cons_drop (h := hlt), hg.2]
      clear hx
      go_wp2_with fail
      obtain ⟨K, HK⟩ : ∃ K, Hid (wr.heap.size = K) := ⟨_, rfl⟩
      have HKw : Hid (w.heap.size ≠ K) := fun e => by have := lt_of_row HROW.out; have := HK.out; omega
      refine calls_gen (fun W => ChF w K last x W) ⟨HB.out.alloc HB.out.size _, ?_, by rw [← HK.out]; exact heap_alloc_new _ _⟩ ?_
      · exact (((Below.refl wr.heap.size wr).alloc (Nat.le_refl _) _).block _ (lt_of_row HROW.out)).trans HROW.out
      intro W1 f1
      clear k0 k1 k2 HB HROW
      rw [HK.out]
      refine (bare_any x W1).mono ?_
      rintro e W2 ⟨rfl, b2⟩
      have F2 : Hid (ChF w K last x W2) := f1.below b2
      clear f1 b2 HK
      have NO : Hid (chkF last (ts.drop t) = false → chkO ts = 2) := fun h => by rw [HCH.out] at h; exact HO.out _ h
      have GO : Hid (chkF last (ts.drop t) = chkF x (ts.drop (t + 1)) → ∀ W : World, ChF w K last x W → (∃ (t' : Nat) (last' : Tok), t' ≤ ts.length ∧ Value.int .i64 ((t : Int) + 1) = .int .i64 t' ∧ (((W.setCell ⟨w.heap.size, 0, none⟩ (.int .i64 x.kind)).setCell ⟨w.heap.size, 1, none⟩ (.string x.text)).setCell ⟨w.heap.size, 2, none⟩ (.int .i64 x.pos)).heap[w.heap.size]? = some (.cells last'.cells 57 (0, 0)) ∧ Below w.heap.size w (((W.setCell ⟨w.heap.size, 0, none⟩ (.int .i64 x.kind)).setCell ⟨w.heap.size, 1, none⟩ (.string x.text)).setCell ⟨w.heap.size, 2, none⟩ (.int .i64 x.pos)) ∧ chkF last' (ts.drop t') = chkF ⟨0, ⟨#[]⟩, 0⟩ ts) ∧ ts.length - (intOf (.int .i64 ((t : Int) + 1))).toNat < ts.length - (intOf (.int .i64 (t : Int))).toNat) := fun h W f => by
        have r1 : (W.setCell ⟨w.heap.size, 0, none⟩ (.int .i64 x.kind)).heap[w.heap.size]? = _ := heap_setCell_same _ _ _ _ _ _ f.l
        have r2 : ((W.setCell ⟨w.heap.size, 0, none⟩ (.int .i64 x.kind)).setCell ⟨w.heap.size, 1, none⟩ (.string x.text)).heap[w.heap.size]? = _ := heap_setCell_same _ _ _ _ _ _ r1
        have r3 : (((W.setCell ⟨w.heap.size, 0, none⟩ (.int .i64 x.kind)).setCell ⟨w.heap.size, 1, none⟩ (.string x.text)).setCell ⟨w.heap.size, 2, none⟩ (.int .i64 x.pos)).heap[w.heap.size]? = _ := heap_setCell_same _ _ _ _ _ _ r2
        refine ⟨⟨t + 1, x, by omega, by congr 1, r3, ((f.b.setCell (p := ⟨w.heap.size, 0, none⟩) (Nat.le_refl _) _).setCell (p := ⟨w.heap.size, 1, none⟩) (Nat.le_refl _) _).setCell (p := ⟨w.heap.size, 2, none⟩) (Nat.le_refl _) _, by rw [← h]; exact HCH.out⟩, ?_⟩
        show ts.length - ((t : Int) + 1).toNat < ts.length - (t : Int).toNat
        omega
      clear HO HCH
      cases hbx : bareB x
      · have h := F2.out.c
        obtain ⟨k0, k1, k2⟩ := h
        go_wp2_with fail
        refine (bare_any x W2).mono ?_
        rintro e W3 ⟨rfl, b3⟩
        have F3 : Hid (ChF w K last x W3) := F2.out.below b3
        obtain ⟨k0, k1, k2⟩ := F3.out.c
        rw [hbx]
        clear b3 F2
        go_wp2_with fail
        refine (alone_any x W3).mono ?_
        rintro e W4 ⟨rfl, b4⟩
        have F4 : Hid (ChF w K last x W4) := F3.out.below b4
        obtain ⟨k0, k1, k2⟩ := F4.out.c
        obtain ⟨d0, d1, d2⟩ := F4.out.d
        have z := F4.out.z
        clear b4 F3
        cases hax : alnB x
        · have HN : Hid (chkO ts = 2) := NO.out (by rw [HD.out, chkF, hbx, hax]; exact rfl)
          go_wp2
          go_step3
          exact ⟨rfl, HN.out, F4.out.b, _, _, _, _, _, _, _, _, _, _, _, _, _, _, _, _, _, _, _, _, _, _, _, _, _, _, _, _, _, _, _, _, _, _, _, _, _, _, _, rfl⟩
        · have HG := GO.out (by rw [HD.out, chkF, hbx, hax]; exact rfl) W4 F4.out
          have HG' : Hid _ := HG
          clear HG GO
          go_wp2
          exact HG'.out
      · obtain ⟨d0, d1, d2⟩ := F2.out.d
        go_wp2_with fail
        refine (ends_any w.heap.size last W2 d0 d1).mono ?_
        rintro e W3 ⟨rfl, rfl⟩
        obtain ⟨k0, k1, k2⟩ := F2.out.c
        cases hcl : clo last
        · have HN : Hid (chkO ts = 2) := NO.out (by rw [HD.out, chkF, hbx, hcl]; exact rfl)
          go_wp2
          go_step3
          exact ⟨rfl, HN.out, F2.out.b, _, _, _, _, _, _, _, _, _, _, _, _, _, _, _, _, _, _, _, _, _, _, _, _, _, _, _, _, _, _, _, _, _, _, _, _, _, _, _, rfl⟩
        · go_wp2_with fail
          refine (bare_any x W3).mono ?_
          rintro e W4 ⟨rfl, b4⟩
          have F4 : Hid (ChF w K last x W4) := F2.out.below b4
          obtain ⟨k0, k1, k2⟩ := F4.out.c
          obtain ⟨d0, d1, d2⟩ := F4.out.d
          have z := F4.out.z
          rw [hbx]
          clear b4 F2
          have HG := GO.out (by rw [HD.out, chkF, hbx, hcl]; exact rfl) W4 F4.out
          have HG' : Hid _ := HG
          clear HG GO
          go_wp2
          exact HG'.out
    · have hd : decide ((t : Int) < ts.length) = false := by simp; omega
      have hdn : ts.drop t = [] := List.drop_eq_nil_iff.2 (by omega)
      have HE : Hid (chkO ts = if clo last then 2 else 0) := by
        have h := HCH.out
        rw [hdn, chkF] at h
        have := HO.out _ h.symm
        rw [this]
        cases clo last <;> exact rfl
      have c0 : wr.cell? ⟨w.heap.size, 0, none⟩ = some (.int .i64 last.kind) := (cell_of_row _ _ 0 _ _ _ HROW.out).trans rfl
      have c1 : wr.cell? ⟨w.heap.size, 1, none⟩ = some (.string last.text) := (cell_of_row _ _ 1 _ _ _ HROW.out).trans rfl
      clear hdn HCH HO
      go_wp2_with fail
      refine (ends_any w.heap.size last wr c0 c1).mono ?_
      rintro e W3 ⟨rfl, rfl⟩
      cases hcl : clo last
      · have HN : Hid (chkO ts = 0) := by rw [HE.out, hcl]; exact rfl
        go_wp2
        simp only [Exit.jump]
        go_ret
        refine ⟨?_, HB.out⟩
        rw [HN.out]
        exact rfl
      · have HN : Hid (chkO ts = 2) := by rw [HE.out, hcl]; exact rfl
        go_wp2
        go_step3
        exact ⟨rfl, HN.out, HB.out, _, _, _, _, _, _, _, _, _, _, _, _, _, _, _, _, _, _, _, _, _, _, _, _, _, _, _, _, _, _, _, _, _, _, _, _, _, _, _, rfl⟩
end Go.Proofs.Ytcbpnmdphmdemaa
