/- The contract of lex's alone. -/
import Derived.Test.YtcbpnmdphmdemaaLxL
import Derived.Test.YtcbpnmdphmdemaaLxE
import Derived.Deep.RegionWith
namespace Go.Proofs.Ytcbpnmdphmdemaa
open Go.RowKit

/-- Is a token's text one token of its kind, by itself? -/
def alnB (t : Tok) : Bool := match (lexO t.text.data.toList).1 with
  | [] => false
  | x :: _ => tkEq x t
set_option maxRecDepth 100000 in
set_option maxHeartbeats 2000000 in
theorem alone_any (t : Tok) (w : World) : Calls Try.prog 39 #[.agg t.cells] w fun e w' => e = .returned (.bool (alnB t)) ∧ Below w.heap.size w w' := by
  unfold Tok.cells
  go_enter Try.func39, Try.ntmps39
  go_wp2_with fail
  refine calls_gen (fun W1 => Below w.heap.size w W1 ∧ W1.heap[w.heap.size]? = some (.cells t.cells 32 (0, 0)) ∧ W1.heap.size = w.heap.size + 1) ⟨(Below.refl _ _).alloc (Nat.le_refl _) _, heap_alloc_new _ _, by simp⟩ ?_
  intro W1 ⟨b1, r1, z1⟩
  refine (lex_any t.text W1).mono ?_
  rintro e W2 ⟨⟨v, rfl, o2⟩, b2⟩
  obtain ⟨sp, cap, rfl, R2, hn, hc, hm⟩ := OwnG.rows elT o2
  have bw2 : Below w.heap.size w W2 := b1.trans (b2.mono b1.size)
  have row2 : W2.heap[w.heap.size]? = some (.cells t.cells 32 (0, 0)) := (b2.block _ (by omega)).trans r1
  clear r1 b1 b2 o2 z1
  have BW : Hid (Below w.heap.size w W2) := bw2
  have RR : Hid (RowsT W2 sp (lexO t.text.data.toList).1) := R2
  have AL : Hid (alnB t = match (lexO t.text.data.toList).1 with
    | [] => false
    | x :: _ => tkEq x t) := rfl
  clear bw2 R2
  generalize lexO t.text.data.toList = r at hn hc RR AL ⊢
  obtain ⟨ts, er, p⟩ := r
  cases ts with
  | nil =>
    have hR : Hid (alnB t = false) := AL.out
    clear AL RR hn hc hm
    go_wp2
    go_region
    go_wp2
    go_ret
    exact ⟨ret_bool hR.out.symm, (BW.out.alloc BW.out.size _).drew⟩
  | cons x xs =>
    have hR : Hid (alnB t = tkEq x t) := AL.out
    obtain ⟨bl, off, rfl, hcc⟩ := RR.out (by simp)
    have hcap : 1 ≤ cap := by simp at hc; omega
    have HC : Hid (∀ j u, x.cells[j]? = some u → W2.cell? ⟨bl, off + j, none⟩ = some u) := fun j u hu => (by simpa using hcc 0 x rfl j u hu)
    have ROW : Hid (W2.heap[w.heap.size]? = some (.cells t.cells 32 (0, 0))) := row2
    clear AL RR hn hc row2 hcc
    go_wp2
    refine wp_gen (fun W => Below w.heap.size w W ∧ W.heap[w.heap.size]? = some (.cells t.cells 32 (0, 0)) ∧ ∀ j u, x.cells[j]? = some u → W.cell? ⟨bl, off + j, none⟩ = some u) ⟨BW.out.alloc BW.out.size _, ?_, ?_⟩ ?_
    · exact (((Below.refl W2.heap.size W2).alloc (Nat.le_refl _) _).block _ (lt_of_row ROW.out)).trans ROW.out
    · exact fun j u hu => (((Below.refl W2.heap.size W2).alloc (Nat.le_refl _) _).cell (block_lt_of_cell (HC.out j u hu))).trans (HC.out j u hu)
    clear BW HC ROW
    intro W ⟨bw, row, hcc⟩
    have R3 : Hid (RowsT (W.alloc (.cells t.cells 32)).drew (some ⟨bl, off, none⟩) [x]) := fun _ => ⟨bl, off, rfl, fun i y hy j u hu => by
      have hi : i = 0 := by have := (List.getElem?_eq_some_iff.1 hy).1; simp at this; omega
      subst hi
      have := hcc j u (by rw [List.getElem?_cons_zero] at hy; injection hy with hy; rw [hy]; exact hu)
      rw [Nat.zero_mul, Nat.add_zero]
      exact ((((Below.refl W.heap.size W).alloc (Nat.le_refl _) _).drew).cell (block_lt_of_cell this)).trans this⟩
    have R4 : Hid (RowsT (W.alloc (.cells t.cells 32)).drew (some ⟨W.heap.size, 0, none⟩) [t]) := fun _ => ⟨W.heap.size, 0, rfl, fun i y hy j u hu => by
      have hi : i = 0 := by have := (List.getElem?_eq_some_iff.1 hy).1; simp at this; omega
      subst hi
      rw [List.getElem?_cons_zero] at hy; injection hy with hy; subst hy
      exact (cell_of_row _ _ _ _ _ _ (heap_alloc_new _ _)).trans (by simpa using hu)⟩
    have BW : Hid (Below w.heap.size w (W.alloc (.cells t.cells 32)).drew) := (bw.alloc bw.size _).drew
    have c0 : W.cell? ⟨w.heap.size, 0, none⟩ = some (.int .i64 t.kind) := (cell_of_row _ _ 0 _ _ _ row).trans rfl
    have c1 : W.cell? ⟨w.heap.size, 1, none⟩ = some (.string t.text) := (cell_of_row _ _ 1 _ _ _ row).trans rfl
    have c2 : W.cell? ⟨w.heap.size, 2, none⟩ = some (.int .i64 t.pos) := (cell_of_row _ _ 2 _ _ _ row).trans rfl
    clear row hcc bw
    unfold Tok.cells at R3 R4 BW
    go_region_with (refine (same_any (some ⟨bl, off, none⟩) (some ⟨W.heap.size, 0, none⟩) cap 1 [x] [t] _ R3.out R4.out (by simp) (by simp)).mono ?_; rintro e W5 ⟨rfl, b5⟩)
    all_goals (go_wp2; go_ret; exact ⟨ret_bool (by rw [hR.out]; simp [eqAll]), BW.out.trans (b5.mono BW.out.size)⟩)
end Go.Proofs.Ytcbpnmdphmdemaa
