/- The contract of several, at entries. -/
import Derived.Test.YtnaoaeapffgojaaEntC
namespace Go.Proofs.Ytnaoaeapffgojaa
open Go.RowKit

/-- A new variable whose zero value is not written out. -/
theorem wpList_alloc_any {P : Program} {ops : Array Oper} {Q : Exit → Act → World → Prop} {a : Act} {w : World} {rest : List Oper} {o : Oper} (hgd : o.guard = none) (ty : TypeId) (ho : o.op = .alloc ty) (i : TypeInfo) (z : Value) (hi : P.info? ty = some i) (hz : i.zero = some z)
    (h : wpList P ops Q rest (a.put o.dst (.pointer (some ⟨w.heap.size, 0, none⟩))) (w.alloc (.cells z.cells ty))) : wpList P ops Q (o :: rest) a w :=
  wpList_plain hgd fun _ hK => by
    have hr : (Instr.alloc ty true (.tuple #[])).run P w = .ok (.pointer (some ⟨w.heap.size, 0, none⟩)) (w.alloc (.cells z.cells ty)) := by
      simp [Instr.alloc, zeroValue, typeInfo, hi, hz, newVar, newRow]
    unfold Oper.wp execOp
    simp only [ho, Sem.run_bind, Sem.run_pure, Result.andThen_ok, hr]
    exact hK _ _ h
theorem zeroE : ((Try.prog.info? 78).bind (·.zero)).map (fun z => (z.cells.size, z.cells.toList.all (·.oneCell'))) = some (8670, true) := by kernel_rfl
theorem zeroE' : ∃ i z, Try.prog.info? 78 = some i ∧ i.zero = some z ∧ z.cells.size = 8670 ∧ ∀ (j : Nat) u, z.cells[j]? = some u → u.oneCell' = true := by
  have h := zeroE
  cases hi : Try.prog.info? 78 with
  | none => simp [hi] at h
  | some i =>
    cases hz : i.zero with
    | none => simp [hi, hz] at h
    | some z =>
      have h' : z.cells.size = 8670 ∧ z.cells.toList.all (·.oneCell') = true := by
        simp only [hi, hz, Option.bind_some, Option.map_some, Option.some.injEq, Prod.mk.injEq] at h
        exact h
      exact ⟨i, z, rfl, hz, h'.1, fun j u hu => List.all_eq_true.1 h'.2 u (by rw [← Array.getElem?_toList] at hu; exact List.mem_of_getElem? hu)⟩
theorem infoE : (Try.prog.info? 40).map (fun i => (i.zero, i.size, i.bytes)) = some (some (.agg (Ent.cells ⟨⟨#[]⟩, false, fun _ => 0⟩)), 34, 56) := by kernel_rfl
/-- What a room holds so far. -/
structure Room (w : World) (k : Nat) (ty : TypeId) (N m : Nat) {α : Type} (cs : α → Array Value) (xs : List α) : Prop where
  row : ∃ C : Array Value, w.heap[k]? = some (.cells C ty (0, 0)) ∧ C.size = N ∧ (∀ (j : Nat) u, C[j]? = some u → u.oneCell' = true) ∧ ∀ (i : Nat) x, xs[i]? = some x → ∀ (j : Nat) u, (cs x)[j]? = some u → C[i * m + j]? = some u
theorem Room.keep {w w' : World} {k : Nat} {ty : TypeId} {N m : Nat} {α : Type} {cs : α → Array Value} {xs : List α} (h : Room w k ty N m cs xs) (hb : w'.heap[k]? = w.heap[k]?) : Room w' k ty N m cs xs := by
  obtain ⟨C, h1, h2⟩ := h.row
  exact ⟨C, hb.trans h1, h2⟩
theorem Room.snoc {w : World} {k : Nat} {ty : TypeId} {N m : Nat} {α : Type} {cs : α → Array Value} {xs : List α} (h : Room w k ty N m cs xs) (x : α) (hm : ∀ y, (cs y).size = m) (h1 : ∀ (j : Nat) u, (cs x)[j]? = some u → u.oneCell' = true) (hN : (xs.length + 1) * m ≤ N) :
    Room (w.setCells k (xs.length * m) (cs x).toList) k ty N m cs (xs ++ [x]) := by
  obtain ⟨C, c1, c2, c3, c4⟩ := h.row
  have hcl : (cs x).toList.length = m := by rw [show (cs x).toList.length = (cs x).size from Array.length_toList]; exact hm x
  have hl : xs.length * m + (cs x).toList.length ≤ C.size := by rw [hcl, c2, ← Nat.succ_mul]; exact hN
  refine ⟨setMany C (xs.length * m) (cs x).toList, heap_setCells_row _ _ _ _ c1, by rw [setMany_size, c2], fun j u hu => ?_, fun i y hy j u hu => ?_⟩
  · rw [setMany_get _ _ _ _ hl] at hu
    split at hu
    · exact h1 _ u (by simpa using hu)
    · exact c3 j u hu
  · rw [setMany_get _ _ _ _ hl, hcl]
    have hj : j < m := by
      have := (Array.getElem?_eq_some_iff.1 hu).1
      rwa [hm] at this
    by_cases hi : i < xs.length
    · have hle : (i + 1) * m ≤ xs.length * m := Nat.mul_le_mul_right _ hi
      rw [Nat.succ_mul] at hle
      rw [if_neg (by omega)]
      exact c4 i y (by rw [List.getElem?_append_left hi] at hy; exact hy) j u hu
    · have hi' : i = xs.length := by
        have := (List.getElem?_eq_some_iff.1 hy).1
        simp at this
        omega
      subst hi'
      have e : y = x := by simpa using hy.symm
      subst e
      rw [if_pos ⟨by omega, by omega⟩, show xs.length * m + j - xs.length * m = j by omega, Array.getElem?_toList]
      exact hu

theorem sizeE (w : World) : (sizeOf 40).run Try.prog w = .ok 34 w := by
  obtain ⟨ie, hie, -, hse, -⟩ := info_parts infoE
  simp [sizeOf, typeInfo, hie, hse]
theorem sliceE (k t : Nat) (ht : t ≤ 255) (w : World) : (Instr.sliceAt 78 (.pointer (some ⟨k, 0, none⟩)) none (some (.int .i64 t)) none).run Try.prog w = .ok (.slice (some ⟨k, 0, none⟩) t 255) w := by
  have e1 : Try.prog.arrayLen 78 = 255 := by kernel_rfl
  have e2 : Try.prog.elem 78 = 40 := by kernel_rfl
  rw [run_sliceAt_array_h w 78 ⟨k, 0, none⟩ (by kernel_rfl) .i64 t (by omega) (by rw [e1]; omega), e1, e2, sizeE]
  have e3 : (⟨k, 0, none⟩ : Addr).add (0 * 34) = ⟨k, 0, none⟩ := by rw [Addr.add_mid]
  simp only [Result.andThen_ok, slicedAt, e3, Int.toNat_natCast, Nat.sub_zero, ite_self]
/-- Entries that a Reader steps over. -/
def tkEnts (L : List Int) : Nat → Nat × Int → (Nat × Int) × List Ent
  | 0, p => (p, [])
  | n + 1, p => ((tkEnt L (tkEnts L n p).1).1, (tkEnts L n p).2 ++ [(tkEnt L (tkEnts L n p).1).2])
theorem tkEnts_len (L : List Int) (p : Nat × Int) : ∀ n, (tkEnts L n p).2.length = n
  | 0 => rfl
  | n + 1 => by simp [tkEnts, tkEnts_len L p n]

set_option maxRecDepth 100000 in
set_option maxHeartbeats 2000000 in
theorem severalE_any {B : Nat} (h g : Nat) (L : List Int) (p : Nat × Int) (w : World) (hr : Rd w B g L p) (hh : w.cell? ⟨h, 0, none⟩ = some (.pointer (some ⟨g, 0, none⟩))) (hne : h ≠ g) :
    Calls Try.prog 23 #[.pointer (some ⟨h, 0, none⟩), .func (.func 24) #[.pointer (some ⟨h, 0, none⟩)] #[]] w fun e w' => ∃ sp cap, e = .returned (.slice sp (numOf (tk L p 1).2).toNat cap) ∧ RowsAt w' 34 Ent.cells sp (tkEnts L (numOf (tk L p 1).2).toNat (tk L p 1).1).2 ∧ Rd w' B g L (tkEnts L (numOf (tk L p 1).2).toNat (tk L p 1).1).1 ∧ w.grownBy w' (some g) ∧ (∀ a, sp = some a → w.heap.size ≤ a.block) := by
  have hlt : h < w.heap.size := block_lt_of_cell hh
  have hBw : B ≤ w.heap.size := hr.big
  have hgB : g < B := hr.own
  have hb := numOf_len (tk_ok hr.ok p 1) (tk_len L p 1)
  obtain ⟨i0, z, hi, hz, hsz, hone⟩ := zeroE'
  obtain ⟨x, hx, hx255⟩ : ∃ x : Nat, numOf (tk L p 1).2 = (x : Int) ∧ x ≤ 255 := ⟨(numOf (tk L p 1).2).toNat, by omega, by have : numOf (tk L p 1).2 < 256 := hb.2; omega⟩
  have hxx : (numOf (tk L p 1).2).toNat = x := by rw [hx]; simp
  rw [hxx]
  have HX : Hid _ := hx
  have HZ : Hid _ := hsz
  have HN : Hid _ := hone
  have HI : Hid _ := hi
  have HZZ : Hid _ := hz
  clear hb hx hxx hi hz hsz hone
  go_enter Try.func23, Try.ntmps23
  go_wp2_with (refine wpList_alloc_any (by rfl) 78 (by rfl) i0 z HI.out HZZ.out ?_; refine wpList_gen (fun W => Below w.heap.size w W ∧ W.heap[w.heap.size]? = some (.cells z.cells 78 (0, 0)) ∧ W.cell? ⟨h, 0, none⟩ = some (.pointer (some ⟨g, 0, none⟩))) ⟨(Below.refl _ _).alloc (Nat.le_refl _) _, heap_alloc_new _ _, (((Below.refl _ _).alloc (Nat.le_refl _) _).cell (p := ⟨h, 0, none⟩) hlt).trans hh⟩ ?_; intro W1 hW1; have hh1 := hW1.2.2; have HW1 : Hid _ := hW1; clear hW1 hh)
  refine (u8_any g L p W1 (hr.keep HW1.out.1)).mono ?_
  rintro e w2 ⟨rfl, hR2, hG2⟩
  rw [HX.out]
  generalize hp1 : (tk L p 1).1 = p1 at hR2
  have hz1 := lt_of_row HW1.out.2.1
  have hG : w.grownBy w2 (some g) := ⟨hG2.os.trans HW1.out.1.os, hG2.tape.trans HW1.out.1.tape, hG2.output.trans HW1.out.1.output, Nat.le_trans HW1.out.1.size hG2.size, fun k hk hkg => (hG2.block k (Nat.lt_of_lt_of_le hk HW1.out.1.size) hkg).trans (HW1.out.1.block k hk)⟩
  have hh2 := grown_cell hG2 hh1 hne
  have hRoom : Room w2 w.heap.size 78 8670 34 Ent.cells [] := ⟨z.cells, (hG2.block _ hz1 (fun e => by injection e with e; omega)).trans HW1.out.2.1, HZ.out, HN.out, fun i y hy => by simp at hy⟩
  have HRm : Hid _ := hRoom
  have HG : Hid _ := hG
  have HR2 : Hid _ := hR2
  have HP : Hid _ := hp1
  have hwx : IntKind.i64.wrap (x : Int) = x := by rw [IntKind.wrap_i64]; omega
  clear hR2 hG2 hh1 hRoom hG hr HI HZZ HZ HN HW1 hz1 hp1
  go_wp2
  go_loopw [15] (fun i wr => ∃ t : Nat, t ≤ x ∧ i = .int .i64 t ∧ Rd wr B g L (tkEnts L t p1).1 ∧ w.grownBy wr (some g) ∧ wr.cell? ⟨h, 0, none⟩ = some (.pointer (some ⟨g, 0, none⟩)) ∧ Room wr w.heap.size 78 8670 34 Ent.cells (tkEnts L t p1).2) (fun i _ => x - (intOf i).toNat)
  case atStart => exact ⟨0, Nat.zero_le _, rfl, HR2.out, HG.out, hh2, HRm.out⟩
  case round =>
    obtain ⟨t, ht, rfl, hR, hGr, hhr, hRo⟩ := hrel
    have HRo : Hid _ := hRo
    have HGr : Hid _ := hGr
    clear hh2 HRm HG HR2 hRo hGr
    by_cases hlt' : t < x
    · go_wp2_with fail
      refine (entry_any h g L (tkEnts L t p1).1 wr hR hhr hne).mono ?_
      rintro e w3 ⟨rfl, hR3, hG3⟩
      have hh3 := grown_cell hG3 hhr hne
      obtain ⟨C, c1, c2, c3, c4⟩ := HRo.out.row
      have hz3 := lt_of_row c1
      have hRo3 : Room w3 w.heap.size 78 8670 34 Ent.cells (tkEnts L t p1).2 := HRo.out.keep (hG3.block _ hz3 (fun e => by injection e with e; omega))
      have hlen := tkEnts_len L p1 t
      have hsn := hRo3.snoc (tkEnt L (tkEnts L t p1).1).2 Ent.size (fun j u hu => by have := ent_one (tkEnt L (tkEnts L t p1).1).2; rw [Array.all_eq_true_iff_forall_mem] at this; exact this u (Array.mem_of_getElem? hu)) (by rw [hlen]; omega)
      obtain ⟨C3, d1, d2, d3, d4⟩ := hRo3.row
      rw [hlen] at hsn
      obtain ⟨u0, hcx⟩ : ∃ u, w3.cell? ⟨w.heap.size, 0, none⟩ = some u := ⟨_, (cell_of_row _ _ _ _ _ _ d1).trans (Array.getElem?_eq_getElem (show 0 < C3.size by omega))⟩
      have hGn := grown_setCells (w := w) (k := w.heap.size) (o := t * 34) (vs := (tkEnt L (tkEnts L t p1).1).2.cells.toList) (grown_trans HGr.out hG3) (Nat.le_refl _)
      have hRn : Rd (w3.setCells w.heap.size (t * 34) (tkEnt L (tkEnts L t p1).1).2.cells.toList) B g L (tkEnts L (t + 1) p1).1 := Rd.keepB hR3 ⟨World.os_setCells _ _ _ _, hGn.tape.trans (grown_trans HGr.out hG3).tape.symm, World.output_setCells _ _ _ _, by rw [setCells_size]; exact Nat.le_refl _, fun k hk => World.heap_setCells_other _ _ _ _ (by have := hR3.big; omega) (by omega)⟩
      have hhn : (w3.setCells w.heap.size (t * 34) (tkEnt L (tkEnts L t p1).1).2.cells.toList).cell? ⟨h, 0, none⟩ = some (.pointer (some ⟨g, 0, none⟩)) := (World.cell?_of_block (World.heap_setCells_other _ _ _ _ (block_lt_of_cell hh3) (by simp only; omega))).trans hh3
      have HF : Hid (Rd (w3.setCells w.heap.size (t * 34) (tkEnt L (tkEnts L t p1).1).2.cells.toList) B g L (tkEnts L (t + 1) p1).1 ∧ w.grownBy (w3.setCells w.heap.size (t * 34) (tkEnt L (tkEnts L t p1).1).2.cells.toList) (some g) ∧ (w3.setCells w.heap.size (t * 34) (tkEnt L (tkEnts L t p1).1).2.cells.toList).cell? ⟨h, 0, none⟩ = some (.pointer (some ⟨g, 0, none⟩)) ∧ Room (w3.setCells w.heap.size (t * 34) (tkEnt L (tkEnts L t p1).1).2.cells.toList) w.heap.size 78 8670 34 Ent.cells (tkEnts L (t + 1) p1).2) := ⟨hRn, hGn, hhn, hsn⟩
      have HD1 : Hid _ := d1
      have HD2 : Hid _ := d2
      clear hRn hGn hhn hsn hR3 hG3 hh3 hRo3 c1 c2 c3 c4 d1 d2 d3 d4 hR hhr HRo HGr hz3
      generalize (tkEnt L (tkEnts L t p1).1).2 = E at HF
      go_wp2_with (refine wpList_store_mid (by rfl) 40 (.tmp 21) (.tmp 20) (by rfl) w.heap.size (t * 34) E.cells (by rfl) (by rfl) (there_row HD1.out (by rw [Ent.size, HD2.out]; omega)) (by rw [Ent.size]; kernel_rfl) (ent_one _) ?_; refine wpList_gen (fun W => Rd W B g L (tkEnts L (t + 1) p1).1 ∧ w.grownBy W (some g) ∧ W.cell? ⟨h, 0, none⟩ = some (.pointer (some ⟨g, 0, none⟩)) ∧ Room W w.heap.size 78 8670 34 Ent.cells (tkEnts L (t + 1) p1).2) HF.out ?_; intro W7 hW7; have HW7 : Hid _ := hW7; clear hW7 HF hcx)
      go_roundw
      case rel => exact ⟨t + 1, by omega, by go_num, HW7.out.1, HW7.out.2.1, HW7.out.2.2.1, HW7.out.2.2.2⟩
      case measure => simp [intOf]; omega
    · obtain rfl : t = x := by omega
      obtain ⟨C, c1, c2, c3, c4⟩ := HRo.out.row
      obtain ⟨u0, hcx⟩ : ∃ u, wr.cell? ⟨w.heap.size, 0, none⟩ = some u := ⟨_, (cell_of_row _ _ _ _ _ _ c1).trans (Array.getElem?_eq_getElem (show 0 < C.size by omega))⟩
      obtain ⟨ie, hie, hze, hse, hbe⟩ := info_parts infoE
      have hln : (C.toList.take (t * 34)).length = t * 34 := by rw [List.length_take, show C.toList.length = C.size from Array.length_toList, c2]; omega
      have HLN : Hid _ := hln
      have hnews : Hid (∀ j u, (C.toList.take (t * 34))[j]? = some u → wr.cell? ((⟨w.heap.size, 0, none⟩ : Addr).add j) = some u) := fun j u hu => by
        have hj : j < t * 34 := by
          by_cases hj : j < t * 34
          · exact hj
          · rw [List.getElem?_eq_none (by omega)] at hu; cases hu
        rw [Addr.add_mid, Nat.zero_add, cell_of_row _ _ _ _ _ _ c1]
        rw [List.getElem?_take, if_pos hj, Array.getElem?_toList] at hu
        exact hu
      have hone : Hid (∀ u ∈ C.toList.take (t * 34), u.oneCell' = true) := fun u hu => by
        obtain ⟨j, hj⟩ := List.mem_iff_getElem?.1 (List.mem_of_mem_take hu)
        exact c3 j u (by rw [← Array.getElem?_toList]; exact hj)
      have HC4 : Hid _ := c4
      have HIE : Hid _ := hie
      have HZE : Hid _ := hze
      have HSE : Hid _ := hse
      have HBE : Hid _ := hbe
      have HR : Hid _ := hR
      have hbase := HGr.out.size
      have hsl := sliceE w.heap.size t (by omega)
      clear c1 c3 c4 hie hze hse hbe hln hR hhr HRo
      go_wp2_with (at_builtin; refine wpList_append_own wr (by rfl) (.const (.slice none 0 0)) (.tmp 24) 24 (by rfl) wr.heap.size 40 ie (.agg (Ent.cells ⟨⟨#[]⟩, false, fun _ => 0⟩)) 34 56 Try.underlying24 HIE.out HZE.out HSE.out HBE.out (Ent.size _) (by omega) (.slice none 0 0) 0 [] (by rfl) (World.ownsRow_nil _ _ _ _) ⟨w.heap.size, 0, none⟩ t 255 (C.toList.take (t * 34)) (by rfl) HLN.out hnews.out hone.out (by unfold maxLen; omega) (by omega) (Nat.le_refl _) ?_; intro v9 w9 hO9 hG9 hnil; have HO9 : Hid _ := hO9; have HG9 : Hid _ := hG9; clear hO9 hG9 hnil hcx)
      go_ret
      have hB9 : Below wr.heap.size wr w9 := ⟨HG9.out.os, HG9.out.tape, HG9.out.output, HG9.out.size, fun k hk => HG9.out.block k hk (fun e => by cases e)⟩
      rw [HP.out]
      rw [List.nil_append, Nat.zero_add] at HO9
      have hlen := tkEnts_len L p1 t
      rcases HO9.out.2 with ⟨rfl, h0⟩ | ⟨k, cap, cur, rfl, hk9, h2, -, -, h5, h6⟩
      · refine ⟨none, 0, by rw [h0]; rfl, fun hp => by omega, Rd.keep HR.out hB9, grown_below HGr.out hB9, fun a ha => by cases ha⟩
      · refine ⟨_, cap, rfl, fun _ => ⟨k, 0, rfl, fun i y hy j u hu => ?_⟩, Rd.keep HR.out hB9, grown_below HGr.out hB9, fun a ha => by injection ha with ha; subst ha; exact Nat.le_trans hbase hk9⟩
        have hi : i < t := by have := (List.getElem?_eq_some_iff.1 hy).1; omega
        have hj : j < 34 := by have := (Array.getElem?_eq_some_iff.1 hu).1; rwa [Ent.size] at this
        have hq := HC4.out i y hy j u hu
        rw [Nat.zero_add, cell_of_row _ _ _ _ _ _ h2, ← Array.getElem?_toList]
        have : (cur.toList.take (t * 34))[i * 34 + j]? = (C.toList.take (t * 34))[i * 34 + j]? := by rw [h6]
        rw [List.getElem?_take, List.getElem?_take, if_pos (by omega), if_pos (by omega), Array.getElem?_toList (xs := C), hq] at this
        exact this
end Go.Proofs.Ytnaoaeapffgojaa
