/- An object's bytes; the contract of object.Encode. -/
import Derived.Test.YtgfjjglejlnfbaaGreatDoorBufC
namespace Go.Proofs.YtgfjjglejlnfbaaGreatDoor
open Go.RowKit

/-- A number as n bytes, the highest first. -/
def beBytes (n : Nat) (x : Int) : List Int := (List.range n).map fun i => x / 256 ^ (n - 1 - i) % 256
theorem range_getD (L : List Int) : (List.range L.length).map (fun i => L.getD i 0) = L := by
  apply List.ext_getElem?
  intro i
  by_cases hi : i < L.length
  · simp [hi]
  · simp [hi]
theorem putF_list (L : List Int) (n : Nat) (x : Int) : (List.range (L.length + n)).map (putF (fun i => L.getD i 0) L.length n x n) = L ++ beBytes n x := by
  rw [List.range_add, List.map_append, List.map_map]
  congr 1
  · rw [show (List.range L.length).map (putF (fun i => L.getD i 0) L.length n x n) = (List.range L.length).map (fun i => L.getD i 0) from List.map_congr_left fun i hi => ?_]
    · exact range_getD L
    · unfold putF
      rw [if_pos (List.mem_range.1 hi)]
  · unfold beBytes
    refine List.map_congr_left fun i hi => ?_
    have := List.mem_range.1 hi
    simp only [Function.comp, putF]
    rw [if_neg (by omega), if_pos (by omega), show L.length + n - 1 - (L.length + i) = n - 1 - i by omega]
/-- An object's bytes. -/
def encB (o : Ob) (c : Co) : List Int :=
  if o.kind = 1 then 1 :: beBytes 2 c.nb ++ (List.range c.nb).map c.bf
  else if o.kind = 2 then 2 :: (c.es.length : Int) :: c.es.flatMap entBytes
  else 3 :: idBytes o.tree ++ ((c.ps.length : Int) :: c.ps.flatMap idBytes ++ (beBytes 4 o.num ++ ((o.note.size : Int) :: bytesOf o.note)))

theorem put16_own (v : Value) (L : List Int) (x : Int) (w : World) (h : Own w v L) (hl : L.length ≤ 900000) (h0 : 0 ≤ x) (h1 : x < 65536) :
    Calls Tryz.prog 99 #[v, .int .u16 x] w fun e w' => ∃ v', e = .returned v' ∧ Own w' v' (L ++ beBytes 2 x) ∧ Step w v w' v' := by
  obtain ⟨sp, cap, rfl, hs⟩ := h.src
  refine (put16_any sp L.length cap _ x w hs (by omega) h0 h1).mono ?_
  rintro e w' ⟨rfl, h2, h3⟩
  refine ⟨_, rfl, ?_, Step.of_below h3 rfl (Nat.le_refl _)⟩
  have := own_row h2 (by omega)
  rw [putF_list] at this
  exact this
theorem put32_own (v : Value) (L : List Int) (x : Int) (w : World) (h : Own w v L) (hl : L.length ≤ 900000) (h0 : 0 ≤ x) (h1 : x < 4294967296) :
    Calls Tryz.prog 101 #[v, .int .u32 x] w fun e w' => ∃ v', e = .returned v' ∧ Own w' v' (L ++ beBytes 4 x) ∧ Step w v w' v' := by
  obtain ⟨sp, cap, rfl, hs⟩ := h.src
  refine (put32_any sp L.length cap _ x w hs (by omega) h0 h1).mono ?_
  rintro e w' ⟨rfl, h2, h3⟩
  refine ⟨_, rfl, ?_, Step.of_below h3 rfl (Nat.le_refl _)⟩
  have := own_row h2 (by omega)
  rw [putF_list] at this
  exact this
theorem srcAt_one' {w : World} {c : Int} {t : TypeId} {g : Nat} (hg : g = w.heap.size) : SrcAt (w.alloc (.cells #[.int .u8 c] t)) .u8 (some ⟨g, 0, none⟩) 1 (fun _ => c) := by
  subst hg
  exact srcAt_one
theorem own_block {g n cap k : Nat} (h : (Value.slice (some ⟨g, 0, none⟩) n cap).ownBlock = some k) : g = k := by injection h
theorem own_one {w : World} {c : Int} : Own (w.alloc (.cells #[.int .u8 c] 5)) (.slice (some ⟨w.heap.size, 0, none⟩) 1 1) [c] :=
  ⟨rfl, .inr ⟨w.heap.size, 1, _, rfl, Nat.zero_le _, heap_alloc_new _ _, Nat.le_refl _, by unfold maxLen; omega, rfl, rfl⟩⟩

theorem named_names : ∀ (es : List Ent) (last : ByteArray), namedFrom last es = true → ∀ e ∈ es, nameB e.name = true
  | [], _, _, e, he => by simp at he
  | a :: r, last, h, e, he => by
    simp only [namedFrom, Bool.and_eq_true] at h
    rcases List.mem_cons.1 he with rfl | he
    · exact h.1.1
    · exact named_names r a.name h.2 e he
theorem name_size {s : ByteArray} (h : nameB s = true) : s.size ≤ 24 := by
  simp only [nameB, Bool.and_eq_true, decide_eq_true_eq] at h
  omega

/-- What Encode leaves. -/
def EncPost (o : Ob) (c : Co) (w : World) (e : Ending) (w' : World) : Prop :=
  Below w.heap.size w w' ∧ ((rightB o c = true ∧ ∃ v, e = .returned (.tuple #[v, .int .i64 0]) ∧ Own w' v (encB o c) ∧ ∀ k, v.ownBlock = some k → w.heap.size ≤ k) ∨ (rightB o c = false ∧ e = .returned (.tuple #[.slice none 0 0, .int .i64 150])))

set_option maxRecDepth 100000 in
set_option maxHeartbeats 1000000 in
theorem encode_not (o : Ob) (c : Co) (w : World) (ho : Has w o c) (hr : rightB o c = false) : Calls Tryz.prog 68 #[.agg o.cells] w (EncPost o c w) := by
  go_enter Tryz.func68, Tryz.ntmps68
  go_wp2_with (refine wpList_load_row (by rfl) 65 (.tmp 1) (by rfl) w.heap.size (by rfl) 65 o.cells (0, 0) _ (heap_alloc_new _ _) Tryz.underlying65 rfl (by rw [o.size]; kernel_rfl) ?_)
  have hB0 : Below w.heap.size w (w.alloc (.cells o.cells 65)) := (Below.refl _ _).alloc (Nat.le_refl _) _
  refine (check_any o c _ (ho.below hB0)).mono ?_
  rintro e w1 ⟨rfl, hB1⟩
  have hB : Below w.heap.size w w1 := hB0.trans (hB1.mono (by simp))
  have hc : checkN o c = 150 := by simp [checkN, hr]
  rw [hc]
  clear hc ho hB0 hB1
  go_wp2
  go_ret2
  exact ⟨hB, .inr ⟨hr, rfl⟩⟩

set_option maxRecDepth 100000 in
set_option maxHeartbeats 1000000 in
theorem encode_blob (o : Ob) (c : Co) (w : World) (ho : Has w o c) (hr : rightB o c = true) (h1 : o.kind = 1) : Calls Tryz.prog 68 #[.agg o.cells] w (EncPost o c w) := by
  have hnb : c.nb ≤ 4096 := by
    have := (Bool.and_eq_true_iff.1 hr).2
    simpa [mayB, h1] using this
  have hen : encB o c = (([1] ++ beBytes 2 c.nb) ++ (List.range c.nb).map c.bf) := by simp [encB, h1]
  go_enter Tryz.func68, Tryz.ntmps68
  go_wp2_with (refine wpList_load_row (by rfl) 65 (.tmp 1) (by rfl) w.heap.size (by rfl) 65 o.cells (0, 0) _ (heap_alloc_new _ _) Tryz.underlying65 rfl (by rw [o.size]; kernel_rfl) ?_)
  have hB0 : Below w.heap.size w (w.alloc (.cells o.cells 65)) := (Below.refl _ _).alloc (Nat.le_refl _) _
  refine (check_any o c _ (ho.below hB0)).mono ?_
  rintro e w1 ⟨rfl, hB1⟩
  have hrow : w1.heap[w.heap.size]? = some (.cells o.cells 65 (0, 0)) := (hB1.block _ (by simp)).trans (heap_alloc_new _ _)
  have hB : Below w.heap.size w w1 := hB0.trans (hB1.mono (by simp))
  have hc : checkN o c = 0 := by simp [checkN, hr]
  rw [hc]
  obtain ⟨sp, cap, hob, hsr⟩ := ho.b
  have hbn := ho.bn
  have r0 : w1.cell? ⟨w.heap.size, 0, none⟩ = some (.int .i64 1) := (obRow hrow).c0.trans (by rw [h1])
  have r1 : w1.cell? ⟨w.heap.size, 1, none⟩ = some (.slice sp c.nb cap) := (obRow hrow).c1.trans (by rw [hob])
  have hlt := lt_of_row hrow
  have HR : Hid _ := hrow
  have HSR : Hid _ := hsr.below hB
  have HBN : Hid (sp = none → cap = 0 ∧ c.nb = 0) := fun h => by
    subst h
    refine ⟨hbn _ _ hob, ?_⟩
    by_cases h0 : c.nb = 0
    · exact h0
    · obtain ⟨_, _, q, _⟩ := hsr (by omega)
      cases q
  have HR' : Hid _ := hr
  clear hc ho hB0 hB1 hrow hsr hbn hob hr
  go_wp2_with fail
  refine (put16_own (.slice (some ⟨w1.heap.size, 0, none⟩) 1 1) [1] c.nb _ own_one (by simp) (by omega) (by omega)).mono ?_
  rintro e w2 ⟨v2, rfl, hO2, hS2⟩
  have hB2 : Below w1.heap.size w1 w2 := ((Below.refl _ _).alloc (Nat.le_refl _) _).trans (hS2.below (B := w1.heap.size) (fun k hk => by have := own_block hk; omega) (by simp))
  have r1' : w2.cell? ⟨w.heap.size, 1, none⟩ = some (.slice sp c.nb cap) := (hB2.cell (p := ⟨w.heap.size, 1, none⟩) hlt).trans r1
  have HO2 : Hid _ := hO2
  have HSR2 : Hid _ := SrcAt.below HSR.out hB2
  clear r0 r1 hO2
  go_wp2_with (at_builtin; (refine own_append (by rfl) (.tmp 29) (.tmp 31) (by rfl) v2 ([1] ++ beBytes 2 c.nb) (by rfl) HO2.out sp c.nb cap c.bf (by rfl) HBN.out HSR2.out (by simp [beBytes]; omega) ?_; intro v3 w3 hO3 hS3))
  go_ret2
  have hS : Step (w1.alloc (.cells #[.int .u8 1] 5)) (.slice (some ⟨w1.heap.size, 0, none⟩) 1 1) w3 v3 := hS2.trans hS3
  have hB3 : Below w1.heap.size w1 w3 := ((Below.refl _ _).alloc (Nat.le_refl _) _).trans (hS.below (B := w1.heap.size) (fun k hk => by have := own_block hk; omega) (by simp))
  refine ⟨hB.trans (hB3.mono hB.size), .inl ⟨HR'.out, v3, rfl, ?_, fun k hk => ?_⟩⟩
  · rw [hen]; exact hO3
  · have := hB.size
    rcases hS.block with q | ⟨j, q, hj⟩
    · rw [q] at hk; have := own_block hk; omega
    · rw [q] at hk; injection hk with hk; simp at hj; omega

theorem store_keep {wr : World} {vb : Value} {M : List Int} (hO : Own wr vb M) (z : Obj) (cs : Array Value) : Own ((wr.alloc z).setRow wr.heap.size cs) vb M ∧ Step wr vb ((wr.alloc z).setRow wr.heap.size cs) vb :=
  ⟨Own.step hO fun k hk => by have := Own.lt hO hk; rw [setRow_other _ _ _ _ (by omega), Below.heap_alloc _ _ _ this], Step.setRow cs wr (Step.alloc z) (Nat.le_refl _)⟩

set_option maxRecDepth 100000 in
set_option maxHeartbeats 1000000 in
theorem encode_tree (o : Ob) (c : Co) (w : World) (ho : Has w o c) (hr : rightB o c = true) (h1 : o.kind = 2) : Calls Tryz.prog 68 #[.agg o.cells] w (EncPost o c w) := by
  have hmay : c.es.length ≤ 32 ∧ namedFrom ⟨#[]⟩ c.es = true := by
    have := (Bool.and_eq_true_iff.1 hr).2
    simpa [mayB, h1] using this
  have hnm : ∀ e ∈ c.es, e.name.size ≤ 24 := fun e he => name_size (named_names _ _ hmay.2 e he)
  have hne := hmay.1
  have hen : encB o c = (([2] ++ [(c.es.length : Int)]) ++ c.es.flatMap entBytes) := by simp [encB, h1]
  go_enter Tryz.func68, Tryz.ntmps68
  go_wp2_with (refine wpList_load_row (by rfl) 65 (.tmp 1) (by rfl) w.heap.size (by rfl) 65 o.cells (0, 0) _ (heap_alloc_new _ _) Tryz.underlying65 rfl (by rw [o.size]; kernel_rfl) ?_)
  have hB0 : Below w.heap.size w (w.alloc (.cells o.cells 65)) := (Below.refl _ _).alloc (Nat.le_refl _) _
  refine (check_any o c _ (ho.below hB0)).mono ?_
  rintro e w1 ⟨rfl, hB1⟩
  have hrow : w1.heap[w.heap.size]? = some (.cells o.cells 65 (0, 0)) := (hB1.block _ (by simp)).trans (heap_alloc_new _ _)
  have hB : Below w.heap.size w w1 := hB0.trans (hB1.mono (by simp))
  have hc : checkN o c = 0 := by simp [checkN, hr]
  rw [hc]
  obtain ⟨sp, cap, hob, hsr⟩ := ho.e
  have r0 : w1.cell? ⟨w.heap.size, 0, none⟩ = some (.int .i64 2) := (obRow hrow).c0.trans (by rw [h1])
  have r1 : w1.cell? ⟨w.heap.size, 2, none⟩ = some (.slice sp c.es.length cap) := (obRow hrow).c2.trans (by rw [hob])
  have hlt := lt_of_row hrow
  have HSR : Hid (RowsAt w1 34 Ent.cells sp c.es) := hsr.below hB
  have HR' : Hid _ := hr
  have HEN : Hid _ := hen
  have HNM : Hid _ := hnm
  have hs0 : ∀ wr vb, Step (w1.alloc (.cells #[.int .u8 2] 5)) (.slice (some ⟨w1.heap.size, 0, none⟩) 1 1) wr vb → Below w1.heap.size w1 wr ∧ (∀ k, vb.ownBlock = some k → w1.heap.size ≤ k) := fun wr vb h =>
    ⟨((Below.refl _ _).alloc (Nat.le_refl _) _).trans (h.below (B := w1.heap.size) (fun k hk => by have := own_block hk; omega) (by simp)), fun k hk => by
      rcases h.block with q | ⟨j, q, hj⟩
      · rw [q] at hk; have := own_block hk; omega
      · rw [q] at hk; injection hk with hk; simp at hj; omega⟩
  have HS0 : Hid _ := hs0
  clear hc ho hB0 hB1 hrow hsr hob hr hmay hen hnm hs0
  go_wp2_with (at_builtin; (refine own_append (by rfl) (.tmp 35) (.tmp 40) (by rfl) (.slice (some ⟨w1.heap.size, 0, none⟩) 1 1) [2] (by rfl) (Own.below own_one ((Below.refl _ _).alloc (Nat.le_refl _) _)) (some ⟨w1.heap.size + 1, 0, none⟩) 1 1 _ (by rfl) (by simp) (srcAt_one' (by simp)) (by simp) ?_; intro v2 w2 hO2 hS2; have hS2' := Step.trans (Step.alloc _) hS2; have hB2 := (HS0.out _ _ hS2').1; have r1' : w2.cell? ⟨w.heap.size, 2, none⟩ = some (.slice sp c.es.length cap) := (hB2.cell (p := ⟨w.heap.size, 2, none⟩) hlt).trans r1; clear r1 r0 hS2))
  have hO2' : Hid (Own w2 v2 ([2] ++ [(c.es.length : Int)])) := hO2
  clear hO2 r1' hB2
  go_loopw [5, 45] (fun b i wr => ∃ t : Nat, t ≤ c.es.length ∧ i = .int .i64 t ∧ Own wr b (([2] ++ [(c.es.length : Int)]) ++ (c.es.take t).flatMap entBytes) ∧ ((([2] ++ [(c.es.length : Int)]) ++ (c.es.take t).flatMap entBytes).length ≤ 2 + 58 * t) ∧ Step (w1.alloc (.cells #[.int .u8 2] 5)) (.slice (some ⟨w1.heap.size, 0, none⟩) 1 1) wr b) (fun _ i _ => c.es.length - (intOf i).toNat)
  case atStart => exact ⟨0, Nat.zero_le _, rfl, by simpa using hO2'.out, by simp, hS2'⟩
  case round =>
    obtain ⟨t, ht, rfl, hO, hL, hS⟩ := hrel
    have hOv : Hid _ := hO
    have hSv : Hid _ := hS
    have hBv := (HS0.out _ _ hS).1
    by_cases hlt' : t < c.es.length
    · obtain ⟨b1, o1, rfl, hc1⟩ := HSR.out (by omega)
      have hx : c.es[t]? = some (c.es[t]'hlt') := List.getElem?_eq_getElem hlt'
      have hxm : c.es[t]'hlt' ∈ c.es := List.getElem_mem hlt'
      have htk : c.es.take (t + 1) = c.es.take t ++ [c.es[t]'hlt'] := by simp
      generalize c.es[t]'hlt' = x at hx hxm htk
      have hxn := HNM.out x hxm
      have HE : Hid (∀ j u, x.cells[j]? = some u → wr.cell? ⟨b1, o1 + t * 34 + j, none⟩ = some u) := fun j u hu => (hBv.cell (p := ⟨b1, _, none⟩) (block_lt_of_cell (hc1 t x hx j u hu))).trans (hc1 t x hx j u hu)
      have HTK : Hid _ := htk
      have hxl : (entBytes x).length ≤ 58 := by simp [entBytes, idBytes, bytesOf_len]; omega
      clear hc1 hx hxm htk hO hS
      generalize hM : ([2] ++ [(c.es.length : Int)]) ++ (c.es.take t).flatMap entBytes = M at hOv hL
      have HM : Hid _ := hM
      clear hM
      go_wp2_with (first
        | (refine wpList_load_row (by rfl) 133 (.tmp 7) (by rfl) wr.heap.size (by rfl) 133 x.cells (0, 0) _ HW1.out.2 Tryz.underlying133 rfl (by rw [x.size]; kernel_rfl) ?_)
        | (refine load_mid (by rfl) 133 (.tmp 47) (by rfl) b1 (o1 + t * 34) (by rfl) x.cells _ HE.out Tryz.underlying133 rfl (by rw [x.size]; kernel_rfl) ?_)
        | (refine wpList_store_row (by rfl) 133 (.tmp 7) (.tmp 48) (by rfl) wr.heap.size x.cells (by rfl) (by rfl) 133 _ (heap_alloc_new _ _) (by rw [x.size]; kernel_rfl) (by rw [x.size]; rfl) (ent_one x) ?_; refine wpList_gen (fun W => (Own W u5 M ∧ Step wr u5 W u5) ∧ W.heap[wr.heap.size]? = some (.cells x.cells 133 (0, 0))) ⟨store_keep hOv.out _ _, heap_setRow_same (heap_alloc_new _ _)⟩ ?_; intro W1 hW1; have HW1 : Hid _ := hW1; clear hW1))
      refine (putEntry_any u5 M x W1 HW1.out.1.1 (by omega) (by omega)).mono ?_
      rintro e w3 ⟨v3, rfl, hO3, hS3⟩
      have HO3 : Hid _ := hO3
      have HS3 : Hid _ := hS3
      clear hO3 hS3
      go_wp2
      go_roundw
      case rel =>
        refine ⟨t + 1, by omega, by go_num, ?_, ?_, hSv.out.trans (HW1.out.1.2.trans HS3.out)⟩
        · rw [HTK.out, List.flatMap_append, ← List.append_assoc, HM.out]
          rw [List.flatMap_cons, List.flatMap_nil, List.append_nil]
          exact HO3.out
        · rw [HTK.out, List.flatMap_append, ← List.append_assoc, HM.out]
          simp
          omega
      case measure => simp [intOf]; omega
    · have htl : c.es.take t = c.es := List.take_of_length_le (by omega)
      have HT : Hid _ := htl
      clear htl hO hS
      go_wp2
      go_ret2
      refine ⟨hB.trans (hBv.mono hB.size), .inl ⟨HR'.out, u5, rfl, ?_, fun k hk => ?_⟩⟩
      · have := hOv.out
        rw [HT.out] at this
        rw [HEN.out]
        exact this
      · have := (HS0.out _ _ hSv.out).2 k hk
        have := hB.size
        omega

set_option maxRecDepth 100000 in
set_option maxHeartbeats 1000000 in
theorem encode_commit (o : Ob) (c : Co) (w : World) (ho : Has w o c) (hr : rightB o c = true) (h1 : o.kind = 3) (hnum : 0 ≤ o.num ∧ o.num < 4294967296) : Calls Tryz.prog 68 #[.agg o.cells] w (EncPost o c w) := by
  have hmay : c.ps.length ≤ 2 ∧ o.note.size ≤ 200 := by
    have := (Bool.and_eq_true_iff.1 hr).2
    simpa [mayB, h1] using this
  have hne := hmay.1
  have hno := hmay.2
  have hen : encB o c = ((((([3] ++ idBytes o.tree) ++ [(c.ps.length : Int)]) ++ c.ps.flatMap idBytes) ++ beBytes 4 o.num) ++ (o.note.size : Int) :: bytesOf o.note) := by simp [encB, h1]
  go_enter Tryz.func68, Tryz.ntmps68
  go_wp2_with (refine wpList_load_row (by rfl) 65 (.tmp 1) (by rfl) w.heap.size (by rfl) 65 o.cells (0, 0) _ (heap_alloc_new _ _) Tryz.underlying65 rfl (by rw [o.size]; kernel_rfl) ?_)
  have hB0 : Below w.heap.size w (w.alloc (.cells o.cells 65)) := (Below.refl _ _).alloc (Nat.le_refl _) _
  refine (check_any o c _ (ho.below hB0)).mono ?_
  rintro e w1 ⟨rfl, hB1⟩
  have hrow : w1.heap[w.heap.size]? = some (.cells o.cells 65 (0, 0)) := (hB1.block _ (by simp)).trans (heap_alloc_new _ _)
  have hB : Below w.heap.size w w1 := hB0.trans (hB1.mono (by simp))
  have hc : checkN o c = 0 := by simp [checkN, hr]
  rw [hc]
  obtain ⟨sp, cap, hob, hsr⟩ := ho.p
  have hrw := obRow hrow
  have r0 : w1.cell? ⟨w.heap.size, 0, none⟩ = some (.int .i64 3) := hrw.c0.trans (by rw [h1])
  have r3 : w1.cell? ⟨w.heap.size, 3, none⟩ = some (.int .u8 (o.tree 0)) := hrw.tree 0 (by omega)
  have hlt := lt_of_row hrow
  have HRW : Hid (ObRow w1 w.heap.size 0 o) := hrw
  have HSR : Hid (RowsAt w1 32 (arr .u8 32) sp c.ps) := hsr.below hB
  have HOB : Hid _ := hob
  have HR' : Hid _ := hr
  have HEN : Hid _ := hen
  have hs0 : ∀ wr vb, Step (w1.alloc (.cells #[.int .u8 3] 5)) (.slice (some ⟨w1.heap.size, 0, none⟩) 1 1) wr vb → Below w1.heap.size w1 wr ∧ (∀ k, vb.ownBlock = some k → w1.heap.size ≤ k) := fun wr vb h =>
    ⟨((Below.refl _ _).alloc (Nat.le_refl _) _).trans (h.below (B := w1.heap.size) (fun k hk => by have := own_block hk; omega) (by simp)), fun k hk => by
      rcases h.block with q | ⟨j, q, hj⟩
      · rw [q] at hk; have := own_block hk; omega
      · rw [q] at hk; injection hk with hk; simp at hj; omega⟩
  have HS0 : Hid _ := hs0
  clear hc ho hB0 hB1 hrow hsr hob hr hmay hen hs0 hrw
  go_wp2_with (at_builtin; first
    | (refine own_append (by rfl) (.tmp 55) (.tmp 57) (by rfl) (.slice (some ⟨w1.heap.size, 0, none⟩) 1 1) [3] (by rfl) own_one (some ⟨w.heap.size, 3, none⟩) 32 32 o.tree (by rfl) (by simp) (fun _ => ⟨w.heap.size, 3, rfl, fun j hj => (ObRow.below HRW.out ((Below.refl _ _).alloc (Nat.le_refl _) _)).tree j hj⟩) (by simp) ?_; intro v2 w2 hO2 hS2; have hO2' : Hid (Own w2 v2 ([3] ++ idBytes o.tree)) := hO2; have HRW2 : Hid (ObRow w2 w.heap.size 0 o) := ObRow.below HRW.out (HS0.out _ _ hS2).1; have r1 : w2.cell? ⟨w.heap.size, 35, none⟩ = some (.slice sp c.ps.length cap) := (ObRow.c35 HRW2.out).trans (by rw [HOB.out]); have HS2 : Hid _ := hS2; clear r0 r3 hO2 hS2)
    | (refine own_append (by rfl) (.tmp 59) (.tmp 64) (by rfl) v2 ([3] ++ idBytes o.tree) (by rfl) (Own.below hO2'.out ((Below.refl _ _).alloc (Nat.le_refl _) _)) (some ⟨w2.heap.size, 0, none⟩) 1 1 _ (by rfl) (by simp) srcAt_one (by simp [idBytes]) ?_; intro v3 w3 hO3 hS3; have hO3' : Hid (Own w3 v3 (([3] ++ idBytes o.tree) ++ [(c.ps.length : Int)])) := hO3; have HS3 : Hid (Step (w1.alloc (.cells #[.int .u8 3] 5)) (.slice (some ⟨w1.heap.size, 0, none⟩) 1 1) w3 v3) := Step.trans HS2.out (Step.trans (Step.alloc _) hS3); have r1' : w3.cell? ⟨w.heap.size, 35, none⟩ = some (.slice sp c.ps.length cap) := (ObRow.c35 (ObRow.below HRW.out (HS0.out _ _ HS3.out).1)).trans (by rw [HOB.out]); clear r1 hO3 hS3))
  clear r1'
  go_loopw [5, 69] (fun b i wr => ∃ t : Nat, t ≤ c.ps.length ∧ i = .int .i64 t ∧ Own wr b ((([3] ++ idBytes o.tree) ++ [(c.ps.length : Int)]) ++ (c.ps.take t).flatMap idBytes) ∧ (((([3] ++ idBytes o.tree) ++ [(c.ps.length : Int)]) ++ (c.ps.take t).flatMap idBytes).length ≤ 34 + 32 * t) ∧ Step (w1.alloc (.cells #[.int .u8 3] 5)) (.slice (some ⟨w1.heap.size, 0, none⟩) 1 1) wr b) (fun _ i _ => c.ps.length - (intOf i).toNat)
  case atStart => exact ⟨0, Nat.zero_le _, rfl, by simpa using hO3'.out, by simp [idBytes], HS3.out⟩
  case round =>
    obtain ⟨t, ht, rfl, hO, hL, hS⟩ := hrel
    have hOv : Hid _ := hO
    have hSv : Hid _ := hS
    have hBv := (HS0.out _ _ hS).1
    by_cases hlt' : t < c.ps.length
    · obtain ⟨b1, o1, rfl, hc1⟩ := HSR.out (by omega)
      have hx : c.ps[t]? = some (c.ps[t]'hlt') := List.getElem?_eq_getElem hlt'
      have htk : c.ps.take (t + 1) = c.ps.take t ++ [c.ps[t]'hlt'] := by simp
      generalize c.ps[t]'hlt' = x at hx htk
      have HE : Hid (∀ j u, (arr .u8 32 x)[j]? = some u → wr.cell? ⟨b1, o1 + t * 32 + j, none⟩ = some u) := fun j u hu => (hBv.cell (p := ⟨b1, _, none⟩) (block_lt_of_cell (hc1 t x hx j u hu))).trans (hc1 t x hx j u hu)
      have HTK : Hid _ := htk
      clear hc1 hx htk hO hS
      generalize hM : (([3] ++ idBytes o.tree) ++ [(c.ps.length : Int)]) ++ (c.ps.take t).flatMap idBytes = M at hOv hL
      have HM : Hid _ := hM
      clear hM
      go_wp2_with (first
        | (at_builtin; refine own_append (by rfl) (.tmp 73) (.tmp 74) (by rfl) u5 M (by rfl) HW1.out.1.1 (some ⟨wr.heap.size, 0, none⟩) 32 32 x (by rfl) (by simp) (srcAt_row HW1.out.2 (Nat.le_refl _)) (by omega) ?_; intro v4 w4 hO4 hS4)
        | (refine wpList_store_row (by rfl) 26 (.tmp 9) (.tmp 72) (by rfl) wr.heap.size (arr .u8 32 x) (by rfl) (by rfl) 26 _ (heap_alloc_new _ _) (by rw [arr_size]; kernel_rfl) (by rw [arr_size]; rfl) (arr_one _ _ _) ?_; refine wpList_gen (fun W => (Own W u5 M ∧ Step wr u5 W u5) ∧ W.heap[wr.heap.size]? = some (.cells (arr .u8 32 x) 26 (0, 0))) ⟨store_keep hOv.out _ _, heap_setRow_same (heap_alloc_new _ _)⟩ ?_; intro W1 hW1; have HW1 : Hid _ := hW1; have hcx : W1.cell? ⟨wr.heap.size, 0, none⟩ = some (.int .u8 (x 0)) := row_cell hW1.2 (by omega); clear hW1)
        | (refine load_mid (by rfl) 26 (.tmp 71) (by rfl) b1 (o1 + t * 32) (by rfl) (arr .u8 32 x) _ HE.out Tryz.underlying26 rfl (by rw [arr_size]; kernel_rfl) ?_))
      have HO3 : Hid _ := hO4
      have HS4 : Hid _ := hS4
      clear hO4 hS4
      go_roundw
      case rel =>
        refine ⟨t + 1, by omega, by go_num, ?_, ?_, Step.trans hSv.out (Step.trans HW1.out.1.2 HS4.out)⟩
        · rw [HTK.out, List.flatMap_append, ← List.append_assoc, HM.out, List.flatMap_cons, List.flatMap_nil, List.append_nil]
          exact HO3.out
        · rw [HTK.out, List.flatMap_append, ← List.append_assoc, HM.out]
          simp [idBytes]
          omega
      case measure => simp [intOf]; omega
    · have htl : c.ps.take t = c.ps := List.take_of_length_le (by omega)
      rw [htl] at hOv hL
      have hrw : Hid (ObRow wr w.heap.size 0 o) := ObRow.below HRW.out hBv
      have r5 : wr.cell? ⟨w.heap.size, 36, none⟩ = some (.int .u32 o.num) := ObRow.c36 hrw.out
      clear htl hO hS
      generalize hM : (([3] ++ idBytes o.tree) ++ [(c.ps.length : Int)]) ++ c.ps.flatMap idBytes = M at hOv hL HEN
      clear hM
      go_wp2_with fail
      refine (put32_own u5 M o.num wr hOv.out (by omega) hnum.1 hnum.2).mono ?_
      rintro e w5 ⟨v5, rfl, hO5, hS5⟩
      have HS5 : Hid _ := Step.trans hSv.out hS5
      have r6 : w5.cell? ⟨w.heap.size, 37, none⟩ = some (.string o.note) := (ObRow.c37 (ObRow.below HRW.out (HS0.out _ _ HS5.out).1))
      have HO5 : Hid _ := hO5
      clear r5 hO5 hS5
      go_wp2_with fail
      refine (putText_any v5 (M ++ beBytes 4 o.num) o.note w5 HO5.out (by omega) (by simp [beBytes]; omega)).mono ?_
      rintro e w6 ⟨v6, rfl, hO6, hS6⟩
      have HS6 := Step.trans HS5.out hS6
      have HO6 : Hid _ := hO6
      clear r6 hO6 hS6
      have hB6 := (HS0.out _ _ HS6).1
      have hK6 := (HS0.out _ _ HS6).2
      clear HS6
      go_wp2
      go_ret2
      refine ⟨hB.trans (hB6.mono hB.size), .inl ⟨HR'.out, v6, rfl, ?_, fun k hk => ?_⟩⟩
      · rw [HEN.out]
        exact HO6.out
      · have := hK6 k hk
        have := hB.size
        omega

theorem encode_any (o : Ob) (c : Co) (w : World) (ho : Has w o c) (hnum : 0 ≤ o.num ∧ o.num < 4294967296) : Calls Tryz.prog 68 #[.agg o.cells] w (EncPost o c w) := by
  cases hr : rightB o c with
  | false => exact encode_not o c w ho hr
  | true =>
    by_cases h1 : o.kind = 1
    · exact encode_blob o c w ho hr h1
    by_cases h2 : o.kind = 2
    · exact encode_tree o c w ho hr h2
    by_cases h3 : o.kind = 3
    · exact encode_commit o c w ho hr h3 hnum
    have := (Bool.and_eq_true_iff.1 hr).2
    simp [mayB, h1, h2, h3] at this
end Go.Proofs.YtgfjjglejlnfbaaGreatDoor
