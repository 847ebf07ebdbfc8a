/- Steps of a region that draws its order: one byte appended, a text as bytes. No function of the program is walked here. -/
import Derived.Test.YtnaoaeapffgojaaDoorRByA
import Derived.Test.YtnaoaeapffgojaaDoorCopC
import Derived.Laws.IdiomStrings
namespace Go.Proofs.YtnaoaeapffgojaaDoor
open Go.RowKit

theorem own_run {w : World} {v : Value} {L : List Int} {p : Addr} {m c : Nat} {src : Nat → Int} (ty : TypeId) (hown : Own w v L) (hsrc : SrcAt w .u8 (some p) m src) (hlen : L.length + m ≤ 1000000) :
    ∃ v' w', (Builtin.append_ #[22, 22] ty #[v, .slice (some p) m c]).run Tryd.prog w = .ok v' w' ∧ Own w' v' (L ++ (List.range m).map src) ∧ Step w v w' v' := by
  obtain ⟨i0, hi, hz0, hz1, hz2⟩ := info_parts info5
  have hl : (cellsU ((List.range m).map src)).length = m * 1 := by simp [cellsU]
  have hnews : ∀ j u, (cellsU ((List.range m).map src))[j]? = some u → w.cell? (p.add j) = some u := fun j u hu => by
    have hj : j < m := by
      by_cases hj : j < m
      · exact hj
      · rw [List.getElem?_eq_none (by rw [hl]; omega)] at hu; cases hu
    obtain ⟨b, off, e, hcell⟩ := hsrc (by omega)
    injection e with e
    subst e
    have hv' : u = .int .u8 (src j) := by simpa [cellsU, hj] using hu.symm
    rw [Addr.add_mid, hv']; exact hcell j hj
  have h1 : ∀ u ∈ cellsU ((List.range m).map src), u.oneCell' = true := fun u hu => by
    obtain ⟨y, _, rfl⟩ := List.mem_map.1 hu
    rfl
  obtain ⟨v', w', hr, q1, q2, -⟩ := run_append_own (P := Tryd.prog) w 0 22 ty 5 i0 (.int .u8 0) 1 1 Tryd.underlying22 hi hz0 hz1 hz2 rfl (by decide) v L.length (cellsU L) hown p m c (cellsU ((List.range m).map src)) hl hnews h1 (by unfold maxLen; omega) (by omega) (Nat.zero_le _)
  have hb := append_block hown hl hnews h1 hlen hr
  refine ⟨v', w', hr, ?_, ⟨q2, hb.imp id fun e => ⟨_, e, Nat.le_refl _⟩⟩⟩
  unfold Own
  rw [cellsU_app, List.length_append, List.length_map, List.length_range]
  exact q1
theorem op_buildS {P : Program} {Q : Exit → Act → World → Prop} {K : Act → World → Prop} {a : Act} {w w' : World} {o : Oper} {v : Value} (ty : TypeId) (x : Operand) (ho : o.op = .buildSlice ty 1 #[(0, x)]) (u : Value) (hx : a.eval x = u)
    (hr : (Instr.buildSlice ty 1 #[(0, u)]).run P w = .ok v w') (h : K (a.put o.dst v) w') : o.wp P a w K Q := by
  unfold Oper.wp execOp
  simp only [ho, Sem.run_bind, Sem.run_pure, Result.andThen_ok, List.map_toArray, List.map_cons, List.map_nil, hx, hr]
  exact h
theorem bldOne (x : Int) (W : World) : (Instr.buildSlice 22 1 #[(0, .int .u8 x)]).run Tryd.prog W = .ok (.slice (some ⟨W.heap.size, 0, none⟩) 1 1) (W.alloc (.cells #[.int .u8 x] 5)) := by kernel_rfl
theorem op_convert {P : Program} {Q : Exit → Act → World → Prop} {K : Act → World → Prop} {a : Act} {w w' : World} {o : Oper} {v u : Value} (src dst : TypeId) (x : Operand) (ho : o.op = .convert src dst x) (hx : a.eval x = u)
    (hr : (convert src dst u).run P w = .ok v w') (h : K (a.put o.dst v) w') : o.wp P a w K Q := by
  unfold Oper.wp execOp
  simp only [ho, Sem.run_bind, Sem.run_pure, Result.andThen_ok, hx, hr]
  exact h
/-- A text as bytes. -/
theorem text_bytes (s : ByteArray) (W : World) : ∃ cap W', (convert 9 22 (.string s)).run Tryd.prog W = .ok (.slice (some ⟨W.heap.size, 0, none⟩) s.size cap) W' ∧ Below W.heap.size W W' ∧ W.heap.size < W'.heap.size ∧ SrcAt W' .u8 (some ⟨W.heap.size, 0, none⟩) (bytesOf s).length (fun i => (bytesOf s).getD i 0) := by
  refine ⟨_, _, run_bytes_of_string W 9 22 5 s Tryd.underlying9 Tryd.underlying22 Tryd.underlying5, (Below.refl _ _).drew.alloc (by simp) _, by simp, fun hl => ⟨W.heap.size, 0, rfl, fun j hj => ?_⟩⟩
  rw [Nat.zero_add]
  have hrow := heap_alloc_new W.drew (.cells (bytesRow s (grownCap W s.size 0 5)) 5 ((bytesRow s (grownCap W s.size 0 5)).size, (bytesRow s (grownCap W s.size 0 5)).size + 1))
  refine (cell_of_row _ _ _ _ _ _ hrow).trans ?_
  have hj' : j < s.size := by rw [← bytesOf_len]; exact hj
  have hd : j < s.data.size := hj'
  unfold bytesRow
  rw [Array.getElem?_append_left (by simpa using hd)]
  have hx := Array.getElem?_eq_getElem hd
  simp [bytesOf, hx]
theorem SrcAt.blk {w w' : World} {k : IntKind} {g n : Nat} {src : Nat → Int} (h : SrcAt w k (some ⟨g, 0, none⟩) n src) (hb : w'.heap[g]? = w.heap[g]?) : SrcAt w' k (some ⟨g, 0, none⟩) n src := fun hl => by
  obtain ⟨b, off, hs, hc⟩ := h hl
  injection hs with hs
  injection hs with hs1 hs2
  subst hs1 hs2
  exact ⟨g, 0, rfl, fun j hj => (World.cell?_of_block hb).trans (hc j hj)⟩
end Go.Proofs.YtnaoaeapffgojaaDoor
