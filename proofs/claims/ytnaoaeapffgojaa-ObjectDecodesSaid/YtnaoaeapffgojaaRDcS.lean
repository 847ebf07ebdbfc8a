/- What the walks through the document's Decode share; its entries on lists. No function of the program is walked here. -/
import Derived.Test.YtnaoaeapffgojaaRDcP
import Derived.Test.YtnaoaeapffgojaaRDcO
import Derived.Test.YtnaoaeapffgojaaRRgA
import Derived.Test.YtnaoaeapffgojaaRRgB
import Derived.Test.YtnaoaeapffgojaaRRgD
namespace Go.Proofs.Ytnaoaeapffgojaa
open Go.RowKit

theorem short_post {L : List Int} {w : World} (h : (decP L).2 = 7) : ∀ w', Below w.heap.size w w' → RPost L w (.returned (.tuple #[.agg zeroOb.cells, .int .i64 7])) w' := fun _ hB => ⟨hB, .inl ⟨h, rfl⟩⟩
theorem rright_sml (o : Ob) (c : Co) (w : World) (ho : In w o c) (hsm : Sml o c) :
    Calls Try.prog 15 #[.agg o.cells] w fun e w' => e = .returned (.bool (rightB o c)) ∧ Below w.heap.size w w' := by
  by_cases h0 : o.kind < 1
  · exact rright_lo o c w ho hsm h0
  by_cases h4 : 3 < o.kind
  · exact rright_hi o c w ho hsm h4
  by_cases h1 : o.kind = 1
  · exact rright_1 o c w ho hsm h1
  by_cases h2 : o.kind = 2
  · exact rright_2 o c w ho hsm h2
  exact rright_3 o c w ho hsm (by omega)
theorem gen_at {P : Program} {ops : Array Oper} {Q : Exit → Act → World → Prop} {a : Act} {w : World} {rest : List Oper} {o : Oper} (d : Nat) (_hd : o.dst = some d) (F : World → Prop) (h0 : F w) (h : ∀ W, F W → wpList P ops Q (o :: rest) a W) : wpList P ops Q (o :: rest) a w := h _ h0
theorem ob_bs (o : Ob) (v : Value) : o.cells.setIfInBounds 1 v = Ob.cells { o with bs := v } := by
  simp [Ob.cells, Array.setIfInBounds_append_left]
theorem ob_es (o : Ob) (v : Value) : o.cells.setIfInBounds 2 v = Ob.cells { o with es := v } := by
  simp [Ob.cells, Array.setIfInBounds_append_left]
theorem ob_ps (o : Ob) (v : Value) : o.cells.setIfInBounds 35 v = Ob.cells { o with ps := v } := by
  simp [Ob.cells, Array.setIfInBounds_append_right, arr_size]
theorem ob_num (o : Ob) (x : Int) : o.cells.setIfInBounds 36 (.int .u32 x) = Ob.cells { o with num := x } := by
  simp [Ob.cells, Array.setIfInBounds_append_right, arr_size]
theorem ob_note (o : Ob) (s : ByteArray) : o.cells.setIfInBounds 37 (.string s) = Ob.cells { o with note := s } := by
  simp [Ob.cells, Array.setIfInBounds_append_right, arr_size]
theorem SrcAt.cells {w : World} {k : IntKind} {b off n : Nat} {src : Nat → Int} (h : SrcAt w k (some ⟨b, off, none⟩) n src) : ∀ j, j < n → w.cell? ⟨b, off + j, none⟩ = some (.int k (src j)) := fun j hj => by
  obtain ⟨b', off', e1, e2⟩ := h (by omega)
  injection e1 with e1
  injection e1 with e1 e3
  subst e1 e3
  exact e2 j hj
theorem SrcAt.subIf {w : World} {k : IntKind} {b off n cap : Nat} {src : Nat → Int} (h : SrcAt w k (some ⟨b, off, none⟩) n src) {i m : Nat} (hm : i + m ≤ n) (hc : n ≤ cap) : SrcAt w k (if cap = i then some ⟨b, off, none⟩ else some ⟨b, off + i, none⟩) m (fun j => src (i + j)) := by
  by_cases hi : cap = i
  · rw [if_pos hi]
    exact fun hl => by omega
  · rw [if_neg hi]
    exact h.sub hm
theorem ifs_block {c : Prop} [Decidable c] {b i j : Nat} {a : Addr} (h : (if c then some ⟨b, i, none⟩ else some ⟨b, j, none⟩ : Option Addr) = some a) : a.block = b := by
  split at h <;> (injection h with h; rw [← h])
theorem ifs_some {c : Prop} [Decidable c] {b i j : Nat} (h : (if c then some ⟨b, i, none⟩ else some ⟨b, j, none⟩ : Option Addr) = none) : False := by
  split at h <;> cases h
theorem tk_first {n : Nat} (src : Nat → Int) (hn : 0 < n) : (tk ((List.range n).map src) (0, 0) 1).1 = (1, 0) := by rw [tk_byte src hn]
theorem tree_a {n : Nat} {src : Nat → Int} (hn : 0 < n) (hX : src 0 = 2) (h2 : n < 2) : (decP ((List.range n).map src)).2 = 7 := by
  have hx := decX_src (src := src) hn
  rw [hX] at hx
  unfold decP
  rw [if_neg (by rw [hx]; omega), if_pos hx]
  unfold decE
  rw [tk_first src hn, tk_short src (by omega) (by omega)]
  rfl
theorem tree_n {n x : Nat} {src : Nat → Int} (h2 : 2 ≤ n) (hx : src 1 = (x : Int)) : decE ((List.range n).map src) = tkEnts ((List.range n).map src) x (2, 0) := by
  unfold decE
  rw [tk_first src (by omega), tk_byte src (by omega)]
  simp only [num_one]
  rw [hx, Int.toNat_natCast]
theorem text_seven {L : List Int} {p : Nat × Int} (h : (tkText L p).1.2 = 7) : (tkEnt L p).1.2 = 7 := tkId_err L (by rw [tk_err L h]; exact h)
theorem ent_s1 {n k : Nat} {src : Nat → Int} (hk : n ≤ k) : (tkEnt ((List.range n).map src) (k, 0)).1.2 = 7 := by
  refine text_seven ?_
  unfold tkText
  rw [tk_bad (by rw [len_src]; omega), tk_err _ rfl]
theorem ent_s2 {n k s : Nat} {src : Nat → Int} (hk : k < n) (hs : src k = (s : Int)) (h : n - k - 1 < s + 33) : (tkEnt ((List.range n).map src) (k, 0)).1.2 = 7 := by
  have e1 := tk_byte src hk
  by_cases h1 : n - (k + 1) < s
  · refine text_seven ?_
    unfold tkText
    rw [e1]
    simp only [num_one]
    rw [hs, Int.toNat_natCast, tk_bad (by rw [len_src]; exact h1)]
  · have eT : (tkText ((List.range n).map src) (k, 0)).1 = (k + 1 + s, 0) := by
      unfold tkText
      rw [e1]
      simp only [num_one]
      rw [hs, Int.toNat_natCast, tk_good (by rw [len_src]; omega)]
    have e : (tkEnt ((List.range n).map src) (k, 0)).1 = (tkId ((List.range n).map src) (tk ((List.range n).map src) (tkText ((List.range n).map src) (k, 0)).1 1).1).1 := rfl
    rw [e, eT]
    by_cases h2 : n - (k + 1 + s) < 1
    · rw [tk_bad (by rw [len_src]; exact h2)]
      exact tkId_err _ rfl
    · rw [tk_good (by rw [len_src]; omega)]
      unfold tkId
      rw [tk_bad (by rw [len_src]; omega)]
theorem ent_g {n k s : Nat} {src : Nat → Int} (hs : src k = (s : Int)) (h : k + 1 + s + 33 ≤ n) :
    tkEnt ((List.range n).map src) (k, 0) = ((k + 1 + s + 33, 0), ⟨strL ((List.range s).map fun j => src (k + 1 + j)), src (k + 1 + s) == 1, idL ((List.range 32).map fun j => src (k + 1 + s + 1 + j))⟩) ∧ foldEnt ((List.range n).map src) (k, 0) = decide (src (k + 1 + s) ≤ 1) := by
  have e1 := tk_byte src (show k < n by omega)
  have eT : tkText ((List.range n).map src) (k, 0) = ((k + 1 + s, 0), strL ((List.range s).map fun j => src (k + 1 + j))) := by
    unfold tkText
    rw [e1]
    simp only [num_one]
    rw [hs, Int.toNat_natCast, tk_src src (by omega)]
  have e2 := tk_byte src (show k + 1 + s < n by omega)
  have e3 : tkId ((List.range n).map src) (k + 1 + s + 1, 0) = ((k + 1 + s + 1 + 32, 0), idL ((List.range 32).map fun j => src (k + 1 + s + 1 + j))) := by
    unfold tkId
    rw [tk_src src (by omega)]
  constructor
  · unfold tkEnt
    rw [eT]
    simp only
    rw [e2]
    simp only [num_one]
    rw [e3]
  · unfold foldEnt
    rw [eT]
    simp only
    rw [e2]
    simp only [num_one]
theorem tree_short {L : List Int} {x t k : Nat} (hx : decX L = 2) (hE : decE L = tkEnts L x (2, 0)) (ht : t < x) (hp : (tkEnts L t (2, 0)).1 = (k, 0)) (h : (tkEnt L (k, 0)).1.2 = 7) : (decP L).2 = 7 := by
  unfold decP
  rw [if_neg (by rw [hx]; omega), if_pos hx, hE]
  have h1 : (tkEnts L (t + 1) (2, 0)).1.2 = 7 := by
    simp only [tkEnts]
    rw [hp]
    exact h
  have := ents_stay h1 (x - (t + 1))
  rw [show t + 1 + (x - (t + 1)) = x by omega] at this
  exact this
theorem tkText_name {L : List Int} (hL : ∀ x ∈ L, 0 ≤ x ∧ x ≤ 255) (p : Nat × Int) : (tkText L p).2.size ≤ 255 := by
  unfold tkText
  show (strL _).size ≤ 255
  rw [str_size]
  have h := numOf_len (tk_ok hL p 1) (tk_len L p 1)
  have h1 : numOf (tk L p 1).2 < 256 := h.2
  have h2 := tk_len L (tk L p 1).1 (numOf (tk L p 1).2).toNat
  omega
theorem tkEnts_name {L : List Int} (hL : ∀ x ∈ L, 0 ≤ x ∧ x ≤ 255) (p : Nat × Int) : ∀ n, ∀ e ∈ (tkEnts L n p).2, e.name.size ≤ 255
  | 0, e, he => by simp [tkEnts] at he
  | n + 1, e, he => by
    simp only [tkEnts, List.mem_append, List.mem_singleton] at he
    rcases he with he | rfl
    · exact tkEnts_name hL p n e he
    · exact tkText_name hL _
theorem idL_arr (f : Nat → Int) : arr .u8 32 f = arr .u8 32 (idL ((List.range 32).map f)) := arr_congr fun i hi => by simp [idL, hi]

/-- Where the loop over the entries is: v holds those that were read. -/
def St (w : World) (q : Ob) (v : Value) (es : List Ent) (W : World) : Prop :=
  Below w.heap.size w W ∧ W.heap[w.heap.size]? = some (.cells zeroOb.cells 30 (0, 0)) ∧ W.heap[w.heap.size + 1]? = some (.cells (Ob.cells { q with es := v }) 30 (0, 0)) ∧ OwnE (w.heap.size + 2) W v es
theorem st_next {w wr W6 w7 : World} {q : Ob} {v v' : Value} {es : List Ent} {E : Ent} (h : St w q v es wr) (f6 : Below wr.heap.size wr W6) (hO : OwnE (w.heap.size + 2) w7 v' (es ++ [E])) (hG : W6.grownBy w7 v.ownBlock) :
    w7.heap[w.heap.size + 1]? = some (.cells (Ob.cells { q with es := v }) 30 (0, 0)) ∧ St w q v' (es ++ [E]) (w7.setCell ⟨w.heap.size + 1, 2, none⟩ v') := by
  obtain ⟨s1, s2, s3, s4⟩ := h
  have l2 := lt_of_row s2
  have l3 := lt_of_row s3
  have fW6 : Below w.heap.size w W6 := s1.trans (f6.mono s1.size)
  have hO6 : OwnE (w.heap.size + 2) W6 v es := s4.below f6
  have hsz := f6.size
  have r2 : w7.heap[w.heap.size]? = some (.cells zeroOb.cells 30 (0, 0)) := (hG.block _ (by omega) (fun e => by have := (hO6.lt e.symm).1; omega)).trans ((f6.block _ l2).trans s2)
  have r3 : w7.heap[w.heap.size + 1]? = some (.cells (Ob.cells { q with es := v }) 30 (0, 0)) := (hG.block _ (by omega) (fun e => by have := (hO6.lt e.symm).1; omega)).trans ((f6.block _ l3).trans s3)
  have f7 : Below w.heap.size w w7 := hO6.grown (by omega) (by omega) fW6 hG
  refine ⟨r3, f7.setCell (by show w.heap.size ≤ w.heap.size + 1; omega) _, (heap_setCell_other _ _ _ _ (by show w.heap.size ≠ w.heap.size + 1; omega)).trans r2, ?_, hO.keep fun k hk => heap_setCell_other _ _ _ _ (by have := (hO.lt hk).1; show k ≠ w.heap.size + 1; omega)⟩
  rw [heap_setCell_same _ _ _ _ _ _ r3, ob_es]
theorem below_setCells {B : Nat} {a w : World} (h : Below B a w) {g o : Nat} {vs : List Value} (hB : a.heap.size = B) (hg : B ≤ g) : Below B a (w.setCells g o vs) := by
  have hx := grown_setCells (w := a) (k := g) (o := o) (vs := vs) (g := none) ⟨h.os, h.tape, h.output, h.size, fun k hk _ => h.block k (by omega)⟩ (by omega)
  exact ⟨hx.os, hx.tape, hx.output, hx.size, fun k hk => hx.block k (by omega) (fun e => by cases e)⟩
/-- Bytes as a text, by a conversion. -/
theorem conv_src {w : World} {sp : Option Addr} {len cap : Nat} {src : Nat → Int} (h : SrcAt w .u8 sp len src) : (convert 22 9 (.slice sp len cap)).run Try.prog w = .ok (.string (strL ((List.range len).map src))) w := by
  rw [run_convert_bytes_string w 22 9 5 _ _ _ Try.underlying22 Try.underlying5 Try.underlying9]
  by_cases h0 : len = 0
  · subst h0
    cases sp with
    | none => rfl
    | some a =>
      rw [run_bytesToString w a 0 cap [] (run_loadCells_list (P := Try.prog) w a [] (fun j u hu => by simp at hu)), foldl_push]
      rfl
  · obtain ⟨b, off, rfl, hc⟩ := h (by omega)
    have holds : ∀ j u, (cellsU ((List.range len).map src))[j]? = some u → w.cell? ((⟨b, off, none⟩ : Addr).add j) = some u := fun j u hu => by
      have hj : j < len := by
        by_cases hj : j < len
        · exact hj
        · rw [List.getElem?_eq_none (by rw [cellsU_len]; simp; omega)] at hu; cases hu
      have hu' : u = .int .u8 (src j) := by simpa [cellsU, hj] using hu.symm
      rw [Addr.add_mid, hu']
      exact hc j hj
    have hl := run_loadCells_list (P := Try.prog) w ⟨b, off, none⟩ (cellsU ((List.range len).map src)) holds
    rw [cellsU_len, List.length_map, List.length_range] at hl
    rw [run_bytesToString w _ len cap ((List.range len).map src) hl, foldl_push]
    have e : (ByteArray.empty).data = #[] := rfl
    rw [e]
    simp [strL]
theorem wpList_convS {ops : Array Oper} {Q : Exit → Act → World → Prop} {a : Act} {w : World} {rest : List Oper} {o : Oper} (hgd : o.guard = none) (x : Operand) (ho : o.op = .convert 22 9 x) (sp : Option Addr) (len' cap : Nat) (hx : a.eval x = .slice sp len' cap)
    (len : Nat) (hl : len' = len) (src : Nat → Int) (hs : SrcAt w .u8 sp len src) (nm : ByteArray) (hnm : strL ((List.range len).map src) = nm) (h : wpList Try.prog ops Q rest (a.put o.dst (.string nm)) w) : wpList Try.prog ops Q (o :: rest) a w :=
  wpList_plain hgd fun _ hK => by
    subst hl hnm
    unfold Oper.wp execOp
    simp only [ho, hx, Sem.run_bind, Sem.run_pure, Result.andThen_ok, conv_src hs]
    exact hK _ _ h
theorem build_ent (s : ByteArray) (w : World) : (Instr.build 40 #[(0, .string s)]).run Try.prog w = .ok (.agg (Ent.cells ⟨s, false, fun _ => 0⟩)) w := by kernel_rfl

end Go.Proofs.Ytnaoaeapffgojaa
