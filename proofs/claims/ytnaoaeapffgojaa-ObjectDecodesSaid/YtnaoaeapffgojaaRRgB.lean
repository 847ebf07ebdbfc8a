/- The contract of the document's Right. -/
import Derived.Test.YtnaoaeapffgojaaRRgL
namespace Go.Proofs.Ytnaoaeapffgojaa
open Go.RowKit


set_option maxRecDepth 100000 in
set_option maxHeartbeats 8000000 in
theorem rright_2 (o : Ob) (c : Co) (w : World) (ho : In w o c) (hsm : Sml o c) (hk : o.kind = 2) :
    Calls Try.prog 15 #[.agg o.cells] w fun e w' => e = .returned (.bool (rightB o c)) ∧ Below w.heap.size w w' := by
  obtain ⟨s1, k1, hob, -⟩ := ho.b
  obtain ⟨s2, k2, hoe, hrows, -⟩ := ho.e
  obtain ⟨s3, k3, hop, -⟩ := ho.p
  have HR : Hid _ := hrows
  have HN : Hid _ := hsm.names
  have a0 := o.cell0
  have a1 := o.cell1
  have a2 := o.cell2
  have a35 := o.cell35
  have a36 := o.cell36
  have a37 := o.cell37
  have HOB : Hid _ := hob
  have HOE : Hid _ := hoe
  have HOP : Hid _ := hop
  rw [hob] at a1
  rw [hoe] at a2
  rw [hop] at a35
  have hb1 := hsm.nb
  have hb2 := hsm.es
  have hb3 := hsm.ps
  have hb4 := hsm.note
  clear hob hoe hop hrows ho hsm
  have heq := equal_id o.tree (fun _ => 0)
  rw [hk] at a0
  by_cases hbz : c.nb = 0
  rotate_left
  · have d4 : decide (0 < (c.nb : Int)) = true := by simp; omega
    have d4e : (c.nb == 0) = false := by simpa using hbz
    go_enter Try.func15, Try.ntmps15
    go_wp2
    go_ret
    exact ⟨ret_bool (by rw [right_two hk, d4e]; rfl), ((Below.refl _ _).alloc (Nat.le_refl _) _).alloc (by simp) _⟩
  rw [hbz] at a1
  cases htr : eqTo o.tree (fun _ => 0) 32 with
  | false =>
    rw [htr] at heq
    go_enter Try.func15, Try.ntmps15
    go_wp2_with (first | (refine load_atg2 26 (.tmp 38) (by rfl) (by rfl) w.heap.size 3 (by rfl) .u8 32 o.tree _ (obRow (heap_alloc2_old _ _ _)).tree Try.underlying26 rfl (by kernel_rfl) ?_) | (refine load_rowg2 26 (.tmp 3) (by rfl) (by rfl) (w.heap.size + 1) (by rfl) 26 (arr .u8 32 fun _ => 0) (0, 0) _ ((heap_alloc2_new _ _ _).trans rfl) Try.underlying26 rfl (by rw [arr_size]; kernel_rfl) ?_))
    go_ret
    exact ⟨ret_bool (by rw [right_two hk, restB, htr]; simp), ((Below.refl _ _).alloc (Nat.le_refl _) _).alloc (by simp) _⟩
  | true =>
    rw [htr] at heq
    by_cases hp : c.ps.length = 0
    rotate_left
    · have d5 : decide (0 < (c.ps.length : Int)) = true := by simp; omega
      have d5e : (c.ps.length == 0) = false := by simpa using hp
      go_enter Try.func15, Try.ntmps15
      go_wp2_with (first | (refine load_atg2 26 (.tmp 38) (by rfl) (by rfl) w.heap.size 3 (by rfl) .u8 32 o.tree _ (obRow (heap_alloc2_old _ _ _)).tree Try.underlying26 rfl (by kernel_rfl) ?_) | (refine load_rowg2 26 (.tmp 3) (by rfl) (by rfl) (w.heap.size + 1) (by rfl) 26 (arr .u8 32 fun _ => 0) (0, 0) _ ((heap_alloc2_new _ _ _).trans rfl) Try.underlying26 rfl (by rw [arr_size]; kernel_rfl) ?_))
      go_ret
      exact ⟨ret_bool (by rw [right_two hk, restB, d5e]; simp), ((Below.refl _ _).alloc (Nat.le_refl _) _).alloc (by simp) _⟩
    rw [hp] at a35
    by_cases hn : o.num = 0
    rotate_left
    · have d6 : (o.num != 0) = true := by simpa using hn
      have d6e : (o.num == 0) = false := by simpa using hn
      go_enter Try.func15, Try.ntmps15
      go_wp2_with (first | (refine load_atg2 26 (.tmp 38) (by rfl) (by rfl) w.heap.size 3 (by rfl) .u8 32 o.tree _ (obRow (heap_alloc2_old _ _ _)).tree Try.underlying26 rfl (by kernel_rfl) ?_) | (refine load_rowg2 26 (.tmp 3) (by rfl) (by rfl) (w.heap.size + 1) (by rfl) 26 (arr .u8 32 fun _ => 0) (0, 0) _ ((heap_alloc2_new _ _ _).trans rfl) Try.underlying26 rfl (by rw [arr_size]; kernel_rfl) ?_))
      go_ret
      exact ⟨ret_bool (by rw [right_two hk, restB, d6e]; simp), ((Below.refl _ _).alloc (Nat.le_refl _) _).alloc (by simp) _⟩
    rw [hn] at a36
    cases hnt : (o.note.toList == []) with
    | false =>
      go_enter Try.func15, Try.ntmps15
      go_wp2_with (first | (refine load_atg2 26 (.tmp 38) (by rfl) (by rfl) w.heap.size 3 (by rfl) .u8 32 o.tree _ (obRow (heap_alloc2_old _ _ _)).tree Try.underlying26 rfl (by kernel_rfl) ?_) | (refine load_rowg2 26 (.tmp 3) (by rfl) (by rfl) (w.heap.size + 1) (by rfl) 26 (arr .u8 32 fun _ => 0) (0, 0) _ ((heap_alloc2_new _ _ _).trans rfl) Try.underlying26 rfl (by rw [arr_size]; kernel_rfl) ?_))
      go_ret
      exact ⟨ret_bool (by rw [right_two hk, restB, hnt]; simp), ((Below.refl _ _).alloc (Nat.le_refl _) _).alloc (by simp) _⟩
    | true =>
      have hn0 : o.note.size = 0 := note_nil (by simpa using hnt)
      have hrest : restB o c = true := by rw [restB, htr, hp, hn, hnt]; rfl
      go_enter Try.func15, Try.ntmps15
      go_wp2_with (first | (refine load_atg2 26 (.tmp 38) (by rfl) (by rfl) w.heap.size 3 (by rfl) .u8 32 o.tree _ (obRow (heap_alloc2_old _ _ _)).tree Try.underlying26 rfl (by kernel_rfl) ?_) | (refine load_rowg2 26 (.tmp 3) (by rfl) (by rfl) (w.heap.size + 1) (by rfl) 26 (arr .u8 32 fun _ => 0) (0, 0) _ ((heap_alloc2_new _ _ _).trans rfl) Try.underlying26 rfl (by rw [arr_size]; kernel_rfl) ?_))
      refine wp_gen (fun W1 => Below w.heap.size w W1 ∧ ObRow W1 w.heap.size 0 o) ⟨((Below.refl _ _).alloc (Nat.le_refl _) _).alloc (by simp) _, obRow (heap_alloc2_old _ _ _)⟩ ?_
      intro W1 ⟨fW, hrow⟩
      clear a0 a1 a2 a35 a36 a37 heq
      have HRW : Hid _ := hrow
      clear hrow
      go_loopw [4] (fun i wr => ∃ t : Nat, t ≤ c.es.length ∧ t ≤ 32 ∧ i = .int .i64 t ∧ Below W1.heap.size W1 wr ∧ namedFrom ⟨#[]⟩ (c.es.take t) = true) (fun i _ => c.es.length - (intOf i).toNat)
      case atStart => exact ⟨0, Nat.zero_le _, by omega, rfl, Below.refl _ _, rfl⟩
      case round =>
        obtain ⟨t, ht, ht2, rfl, hBr, hz⟩ := hrel
        have HZ : Hid _ := hz
        have hrr := HRW.out.below hBr
        have r1 : wr.cell? ⟨w.heap.size, 1, none⟩ = some (.slice s1 c.nb k1) := hrr.c1.trans (by rw [HOB.out])
        have r2 : wr.cell? ⟨w.heap.size, 2, none⟩ = some (.slice s2 c.es.length k2) := hrr.c2.trans (by rw [HOE.out])
        have r35 : wr.cell? ⟨w.heap.size, 35, none⟩ = some (.slice s3 c.ps.length k3) := hrr.c35.trans (by rw [HOP.out])
        have r37 : wr.cell? ⟨w.heap.size, 37, none⟩ = some (.string o.note) := hrr.c37
        clear hz hrr HRW
        by_cases hlt : t < c.es.length
        · obtain ⟨b1, o1, rfl, hc1⟩ := HR.out (by omega)
          have hx : c.es[t]? = some (c.es[t]'hlt) := List.getElem?_eq_getElem hlt
          have hxn := HN.out _ (List.getElem_mem hlt)
          generalize hX : c.es[t]'hlt = x at hx hxn
          have fr : Below w.heap.size w wr := fW.trans (hBr.mono fW.size)
          have rx : wr.cell? ⟨b1, o1 + t * 34, none⟩ = some (.string x.name) := (fr.cell (p := ⟨b1, _, none⟩) (block_lt_of_cell (hc1 t x hx 0 _ x.cell0))).trans (hc1 t x hx 0 _ x.cell0)
          have htk : c.es.take (t + 1) = c.es.take t ++ [x] := by rw [List.take_add_one, hx]; rfl
          have hpre : ∀ m, m ≤ c.es.length → namedFrom ⟨#[]⟩ (c.es.take m) = false → namedFrom ⟨#[]⟩ c.es = false := named_pre c.es ⟨#[]⟩
          have HTK : Hid _ := htk
          have HPRE : Hid _ := hpre
          clear htk hpre r1 r35 r37 hX fr
          by_cases h32 : t = 32
          · subst h32
            have HPX : Hid _ := hx
            clear hx hc1 HR HN
            have ry := True.intro
            let S9 : World → Prop := fun w' => w'.cell? ⟨w.heap.size, 2, none⟩ = some (.slice (some ⟨b1, o1, none⟩) c.es.length k2) ∧ w'.cell? ⟨b1, o1 + 32 * 34, none⟩ = some (.string x.name) ∧ True ∧ Below W1.heap.size W1 w'
            go_wp2
            have hS : S9 wr.drew := ⟨r2, rx, ry, hBr.drew⟩
            refine mv_begin (S := S9) 32 rfl (by kernel_rfl) ?_
            refine mv_rung 0 67 (.int .i64 (32 : Nat)) rfl (by rfl) (by kernel_rfl) (by kernel_rfl) (by kernel_rfl) (fun _ _ _ h => h) (fun w' hq => by obtain ⟨q1, q2, q3, q4⟩ := hq; first | rfl | (go_simp; done) | (go_simp; omega) | (go_simp; intro hh; exfalso; omega)) hS ?_
            simp only [List.setIfInBounds_toArray, List.set_cons_succ, List.set_cons_zero]
            refine mv_rung 1 68 (.bool true) rfl (by rfl) (by kernel_rfl) (by kernel_rfl) (by kernel_rfl) (fun _ _ _ h => h) (fun w' hq => by obtain ⟨q1, q2, q3, q4⟩ := hq; first | rfl | (go_simp; done) | (go_simp; omega) | (go_simp; intro hh; exfalso; omega)) hS ?_
            simp only [List.setIfInBounds_toArray, List.set_cons_succ, List.set_cons_zero]
            refine mv_rung 2 69 (.bool true) rfl (by rfl) (by kernel_rfl) (by kernel_rfl) (by kernel_rfl) (fun _ _ _ h => h) (fun w' hq => by obtain ⟨q1, q2, q3, q4⟩ := hq; first | rfl | (go_simp; done) | (go_simp; omega) | (go_simp; intro hh; exfalso; omega)) hS ?_
            simp only [List.setIfInBounds_toArray, List.set_cons_succ, List.set_cons_zero]
            refine mv_skip 3 70 rfl (by rfl) (by kernel_rfl) (by kernel_rfl) (by kernel_rfl) (fun _ _ _ h => h) hS ?_
            simp only [List.setIfInBounds_toArray, List.set_cons_succ, List.set_cons_zero]
            refine mv_skip 4 71 rfl (by rfl) (by kernel_rfl) (by kernel_rfl) (by kernel_rfl) (fun _ _ _ h => h) hS ?_
            simp only [List.setIfInBounds_toArray, List.set_cons_succ, List.set_cons_zero]
            refine mv_skip 5 72 rfl (by rfl) (by kernel_rfl) (by kernel_rfl) (by kernel_rfl) (fun _ _ _ h => h) hS ?_
            simp only [List.setIfInBounds_toArray, List.set_cons_succ, List.set_cons_zero]
            refine mv_skip 6 73 rfl (by rfl) (by kernel_rfl) (by kernel_rfl) (by kernel_rfl) (fun _ _ _ h => h) hS ?_
            simp only [List.setIfInBounds_toArray, List.set_cons_succ, List.set_cons_zero]
            refine mv_skip 7 74 rfl (by rfl) (by kernel_rfl) (by kernel_rfl) (by kernel_rfl) (fun _ _ _ h => h) hS ?_
            simp only [List.setIfInBounds_toArray, List.set_cons_succ, List.set_cons_zero]
            refine mv_skip 8 75 rfl (by rfl) (by kernel_rfl) (by kernel_rfl) (by kernel_rfl) (fun _ _ _ h => h) hS ?_
            simp only [List.setIfInBounds_toArray, List.set_cons_succ, List.set_cons_zero]
            refine mv_skip 9 76 rfl (by rfl) (by kernel_rfl) (by kernel_rfl) (by kernel_rfl) (fun _ _ _ h => h) hS ?_
            simp only [List.setIfInBounds_toArray, List.set_cons_succ, List.set_cons_zero]
            refine mv_skip 10 77 rfl (by rfl) (by kernel_rfl) (by kernel_rfl) (by kernel_rfl) (fun _ _ _ h => h) hS ?_
            simp only [List.setIfInBounds_toArray, List.set_cons_succ, List.set_cons_zero]
            refine mv_rung 11 78 (.bool true) rfl (by rfl) (by kernel_rfl) (by kernel_rfl) (by kernel_rfl) (fun _ _ _ h => h) (fun w' hq => by obtain ⟨q1, q2, q3, q4⟩ := hq; first | rfl | (go_simp; done) | (go_simp; omega) | (go_simp; intro hh; exfalso; omega)) hS ?_
            simp only [List.setIfInBounds_toArray, List.set_cons_succ, List.set_cons_zero]
            refine mv_rung 12 79 (.bool true) rfl (by rfl) (by kernel_rfl) (by kernel_rfl) (by kernel_rfl) (fun _ _ _ h => h) (fun w' hq => by obtain ⟨q1, q2, q3, q4⟩ := hq; first | rfl | (go_simp; done) | (go_simp; omega) | (go_simp; intro hh; exfalso; omega)) hS ?_
            simp only [List.setIfInBounds_toArray, List.set_cons_succ, List.set_cons_zero]
            refine mv_skip 13 80 rfl (by rfl) (by kernel_rfl) (by kernel_rfl) (by kernel_rfl) (fun _ _ _ h => h) hS ?_
            simp only [List.setIfInBounds_toArray, List.set_cons_succ, List.set_cons_zero]
            refine mv_skip 14 81 rfl (by rfl) (by kernel_rfl) (by kernel_rfl) (by kernel_rfl) (fun _ _ _ h => h) hS ?_
            simp only [List.setIfInBounds_toArray, List.set_cons_succ, List.set_cons_zero]
            refine mv_skip 15 82 rfl (by rfl) (by kernel_rfl) (by kernel_rfl) (by kernel_rfl) (fun _ _ _ h => h) hS ?_
            simp only [List.setIfInBounds_toArray, List.set_cons_succ, List.set_cons_zero]
            refine mv_skip 16 83 rfl (by rfl) (by kernel_rfl) (by kernel_rfl) (by kernel_rfl) (fun _ _ _ h => h) hS ?_
            simp only [List.setIfInBounds_toArray, List.set_cons_succ, List.set_cons_zero]
            refine mv_skip 17 84 rfl (by rfl) (by kernel_rfl) (by kernel_rfl) (by kernel_rfl) (fun _ _ _ h => h) hS ?_
            simp only [List.setIfInBounds_toArray, List.set_cons_succ, List.set_cons_zero]
            refine mv_skip 18 85 rfl (by rfl) (by kernel_rfl) (by kernel_rfl) (by kernel_rfl) (fun _ _ _ h => h) hS ?_
            simp only [List.setIfInBounds_toArray, List.set_cons_succ, List.set_cons_zero]
            refine mv_skip 19 86 rfl (by rfl) (by kernel_rfl) (by kernel_rfl) (by kernel_rfl) (fun _ _ _ h => h) hS ?_
            simp only [List.setIfInBounds_toArray, List.set_cons_succ, List.set_cons_zero]
            refine mv_skip 20 87 rfl (by rfl) (by kernel_rfl) (by kernel_rfl) (by kernel_rfl) (fun _ _ _ h => h) hS ?_
            simp only [List.setIfInBounds_toArray, List.set_cons_succ, List.set_cons_zero]
            refine mv_skip 21 88 rfl (by rfl) (by kernel_rfl) (by kernel_rfl) (by kernel_rfl) (fun _ _ _ h => h) hS ?_
            simp only [List.setIfInBounds_toArray, List.set_cons_succ, List.set_cons_zero]
            refine mv_skip 22 89 rfl (by rfl) (by kernel_rfl) (by kernel_rfl) (by kernel_rfl) (fun _ _ _ h => h) hS ?_
            simp only [List.setIfInBounds_toArray, List.set_cons_succ, List.set_cons_zero]
            refine mv_skip 23 90 rfl (by rfl) (by kernel_rfl) (by kernel_rfl) (by kernel_rfl) (fun _ _ _ h => h) hS ?_
            simp only [List.setIfInBounds_toArray, List.set_cons_succ, List.set_cons_zero]
            refine mv_skip 24 91 rfl (by rfl) (by kernel_rfl) (by kernel_rfl) (by kernel_rfl) (fun _ _ _ h => h) hS ?_
            simp only [List.setIfInBounds_toArray, List.set_cons_succ, List.set_cons_zero]
            refine mv_skip 25 92 rfl (by rfl) (by kernel_rfl) (by kernel_rfl) (by kernel_rfl) (fun _ _ _ h => h) hS ?_
            simp only [List.setIfInBounds_toArray, List.set_cons_succ, List.set_cons_zero]
            refine mv_skip 26 93 rfl (by rfl) (by kernel_rfl) (by kernel_rfl) (by kernel_rfl) (fun _ _ _ h => h) hS ?_
            simp only [List.setIfInBounds_toArray, List.set_cons_succ, List.set_cons_zero]
            refine mv_skip 27 94 rfl (by rfl) (by kernel_rfl) (by kernel_rfl) (by kernel_rfl) (fun _ _ _ h => h) hS ?_
            simp only [List.setIfInBounds_toArray, List.set_cons_succ, List.set_cons_zero]
            refine mv_skip 28 95 rfl (by rfl) (by kernel_rfl) (by kernel_rfl) (by kernel_rfl) (fun _ _ _ h => h) hS ?_
            simp only [List.setIfInBounds_toArray, List.set_cons_succ, List.set_cons_zero]
            refine mv_skip 29 96 rfl (by rfl) (by kernel_rfl) (by kernel_rfl) (by kernel_rfl) (fun _ _ _ h => h) hS ?_
            simp only [List.setIfInBounds_toArray, List.set_cons_succ, List.set_cons_zero]
            refine mv_skip 30 97 rfl (by rfl) (by kernel_rfl) (by kernel_rfl) (by kernel_rfl) (fun _ _ _ h => h) hS ?_
            simp only [List.setIfInBounds_toArray, List.set_cons_succ, List.set_cons_zero]
            refine mv_rung 31 98 (.bool true) rfl (by rfl) (by kernel_rfl) (by kernel_rfl) (by kernel_rfl) (fun _ _ _ h => h) (fun w' hq => by obtain ⟨q1, q2, q3, q4⟩ := hq; first | rfl | (go_simp; done) | (go_simp; omega) | (go_simp; intro hh; exfalso; omega)) hS ?_
            simp only [List.setIfInBounds_toArray, List.set_cons_succ, List.set_cons_zero]
            refine wpAnyH_done (by kernel_rfl) ?_ _
            go_wp2
            go_ret
            refine ⟨ret_bool ?_, fW.trans ((hBr.drew).mono fW.size)⟩
            rw [right_two hk]; have h33 : decide (c.es.length ≤ 32) = false := by simp; omega
            rw [h33]; simp
          have h32e : ((t : Int) == 32) = false := by simp; omega
          cases hnm : nameB x.name with
          | false =>
            have hbad : namedFrom ⟨#[]⟩ c.es = false := HPRE.out (t + 1) (by omega) (by rw [HTK.out, named_last, hnm]; simp)
            have HBAD : Hid _ := hbad
            clear hx hc1 HR HN hbad
            have ry := True.intro
            let S9 : World → Prop := fun w' => w'.cell? ⟨w.heap.size, 2, none⟩ = some (.slice (some ⟨b1, o1, none⟩) c.es.length k2) ∧ w'.cell? ⟨b1, o1 + t * 34, none⟩ = some (.string x.name) ∧ True ∧ Below W1.heap.size W1 w'
            go_wp2
            have hS : S9 wr.drew := ⟨r2, rx, ry, hBr.drew⟩
            refine mv_begin (S := S9) 32 rfl (by kernel_rfl) ?_
            refine mv_rung 0 67 (.int .i64 t) rfl (by rfl) (by kernel_rfl) (by kernel_rfl) (by kernel_rfl) (fun _ _ _ h => h) (fun w' hq => by obtain ⟨q1, q2, q3, q4⟩ := hq; first | rfl | (go_simp; done) | (go_simp; omega) | (go_simp; intro hh; exfalso; omega)) hS ?_
            simp only [List.setIfInBounds_toArray, List.set_cons_succ, List.set_cons_zero]
            refine mv_rung 1 68 (.bool false) rfl (by rfl) (by kernel_rfl) (by kernel_rfl) (by kernel_rfl) (fun _ _ _ h => h) (fun w' hq => by obtain ⟨q1, q2, q3, q4⟩ := hq; first | rfl | (go_simp; done) | (go_simp; omega) | (go_simp; intro hh; exfalso; omega)) hS ?_
            simp only [List.setIfInBounds_toArray, List.set_cons_succ, List.set_cons_zero]
            refine mv_rung 2 69 (.bool false) rfl (by rfl) (by kernel_rfl) (by kernel_rfl) (by kernel_rfl) (fun _ _ _ h => h) (fun w' hq => by obtain ⟨q1, q2, q3, q4⟩ := hq; first | rfl | (go_simp; done) | (go_simp; omega) | (go_simp; intro hh; exfalso; omega)) hS ?_
            simp only [List.setIfInBounds_toArray, List.set_cons_succ, List.set_cons_zero]
            refine mv_rung 3 70 (.pointer (some ⟨w.heap.size, 2, none⟩)) rfl (by rfl) (by kernel_rfl) (by kernel_rfl) (by kernel_rfl) (fun _ _ _ h => h) (fun w' hq => by obtain ⟨q1, q2, q3, q4⟩ := hq; first | rfl | (go_simp; done) | (go_simp; omega) | (go_simp; intro hh; exfalso; omega)) hS ?_
            simp only [List.setIfInBounds_toArray, List.set_cons_succ, List.set_cons_zero]
            refine mv_rung 4 71 (.slice (some ⟨b1, o1, none⟩) c.es.length k2) rfl (by rfl) (by kernel_rfl) (by kernel_rfl) (by kernel_rfl) (fun _ _ _ h => h) (fun w' hq => by obtain ⟨q1, q2, q3, q4⟩ := hq; first | rfl | (go_simp; done) | (go_simp; omega) | (go_simp; intro hh; exfalso; omega)) hS ?_
            simp only [List.setIfInBounds_toArray, List.set_cons_succ, List.set_cons_zero]
            refine mv_rung 5 72 (.int .i64 t) rfl (by rfl) (by kernel_rfl) (by kernel_rfl) (by kernel_rfl) (fun _ _ _ h => h) (fun w' hq => by obtain ⟨q1, q2, q3, q4⟩ := hq; first | rfl | (go_simp; done) | (go_simp; omega) | (go_simp; intro hh; exfalso; omega)) hS ?_
            simp only [List.setIfInBounds_toArray, List.set_cons_succ, List.set_cons_zero]
            refine mv_rung 6 73 (.pointer (some ⟨b1, o1 + t * 34, none⟩)) rfl (by rfl) (by kernel_rfl) (by kernel_rfl) (by kernel_rfl) (fun _ _ _ h => h) (fun w' hq => by obtain ⟨q1, q2, q3, q4⟩ := hq; first | rfl | (go_simp; done) | (go_simp; omega) | (go_simp; intro hh; exfalso; omega)) hS ?_
            simp only [List.setIfInBounds_toArray, List.set_cons_succ, List.set_cons_zero]
            refine mv_rung 7 74 (.pointer (some ⟨b1, o1 + t * 34, none⟩)) rfl (by rfl) (by kernel_rfl) (by kernel_rfl) (by kernel_rfl) (fun _ _ _ h => h) (fun w' hq => by obtain ⟨q1, q2, q3, q4⟩ := hq; first | rfl | (go_simp; done) | (go_simp; omega) | (go_simp; intro hh; exfalso; omega)) hS ?_
            simp only [List.setIfInBounds_toArray, List.set_cons_succ, List.set_cons_zero]
            refine mv_rung 8 75 (.string x.name) rfl (by rfl) (by kernel_rfl) (by kernel_rfl) (by kernel_rfl) (fun _ _ _ h => h) (fun w' hq => by obtain ⟨q1, q2, q3, q4⟩ := hq; first | rfl | (go_simp; done) | (go_simp; omega) | (go_simp; intro hh; exfalso; omega)) hS ?_
            simp only [List.setIfInBounds_toArray, List.set_cons_succ, List.set_cons_zero]
            refine mv_nextg 9 rfl (by rfl) (by kernel_rfl) ?_
            go_simp
            refine (rname_any x.name _ (by omega)).mono ?_
            rintro e wq ⟨rfl, rfl⟩
            rw [hnm]
            refine ⟨hS, ?_⟩
            refine mv_rung 10 77 (.bool true) rfl (by rfl) (by kernel_rfl) (by kernel_rfl) (by kernel_rfl) (fun _ _ _ h => h) (fun w' hq => by obtain ⟨q1, q2, q3, q4⟩ := hq; first | rfl | (go_simp; done) | (go_simp; omega) | (go_simp; intro hh; exfalso; omega)) hS ?_
            simp only [List.setIfInBounds_toArray, List.set_cons_succ, List.set_cons_zero]
            refine mv_rung 11 78 (.bool true) rfl (by rfl) (by kernel_rfl) (by kernel_rfl) (by kernel_rfl) (fun _ _ _ h => h) (fun w' hq => by obtain ⟨q1, q2, q3, q4⟩ := hq; first | rfl | (go_simp; done) | (go_simp; omega) | (go_simp; intro hh; exfalso; omega)) hS ?_
            simp only [List.setIfInBounds_toArray, List.set_cons_succ, List.set_cons_zero]
            refine mv_rung 12 79 (.bool true) rfl (by rfl) (by kernel_rfl) (by kernel_rfl) (by kernel_rfl) (fun _ _ _ h => h) (fun w' hq => by obtain ⟨q1, q2, q3, q4⟩ := hq; first | rfl | (go_simp; done) | (go_simp; omega) | (go_simp; intro hh; exfalso; omega)) hS ?_
            simp only [List.setIfInBounds_toArray, List.set_cons_succ, List.set_cons_zero]
            refine mv_skip 13 80 rfl (by rfl) (by kernel_rfl) (by kernel_rfl) (by kernel_rfl) (fun _ _ _ h => h) hS ?_
            simp only [List.setIfInBounds_toArray, List.set_cons_succ, List.set_cons_zero]
            refine mv_skip 14 81 rfl (by rfl) (by kernel_rfl) (by kernel_rfl) (by kernel_rfl) (fun _ _ _ h => h) hS ?_
            simp only [List.setIfInBounds_toArray, List.set_cons_succ, List.set_cons_zero]
            refine mv_skip 15 82 rfl (by rfl) (by kernel_rfl) (by kernel_rfl) (by kernel_rfl) (fun _ _ _ h => h) hS ?_
            simp only [List.setIfInBounds_toArray, List.set_cons_succ, List.set_cons_zero]
            refine mv_skip 16 83 rfl (by rfl) (by kernel_rfl) (by kernel_rfl) (by kernel_rfl) (fun _ _ _ h => h) hS ?_
            simp only [List.setIfInBounds_toArray, List.set_cons_succ, List.set_cons_zero]
            refine mv_skip 17 84 rfl (by rfl) (by kernel_rfl) (by kernel_rfl) (by kernel_rfl) (fun _ _ _ h => h) hS ?_
            simp only [List.setIfInBounds_toArray, List.set_cons_succ, List.set_cons_zero]
            refine mv_skip 18 85 rfl (by rfl) (by kernel_rfl) (by kernel_rfl) (by kernel_rfl) (fun _ _ _ h => h) hS ?_
            simp only [List.setIfInBounds_toArray, List.set_cons_succ, List.set_cons_zero]
            refine mv_skip 19 86 rfl (by rfl) (by kernel_rfl) (by kernel_rfl) (by kernel_rfl) (fun _ _ _ h => h) hS ?_
            simp only [List.setIfInBounds_toArray, List.set_cons_succ, List.set_cons_zero]
            refine mv_skip 20 87 rfl (by rfl) (by kernel_rfl) (by kernel_rfl) (by kernel_rfl) (fun _ _ _ h => h) hS ?_
            simp only [List.setIfInBounds_toArray, List.set_cons_succ, List.set_cons_zero]
            refine mv_skip 21 88 rfl (by rfl) (by kernel_rfl) (by kernel_rfl) (by kernel_rfl) (fun _ _ _ h => h) hS ?_
            simp only [List.setIfInBounds_toArray, List.set_cons_succ, List.set_cons_zero]
            refine mv_skip 22 89 rfl (by rfl) (by kernel_rfl) (by kernel_rfl) (by kernel_rfl) (fun _ _ _ h => h) hS ?_
            simp only [List.setIfInBounds_toArray, List.set_cons_succ, List.set_cons_zero]
            refine mv_skip 23 90 rfl (by rfl) (by kernel_rfl) (by kernel_rfl) (by kernel_rfl) (fun _ _ _ h => h) hS ?_
            simp only [List.setIfInBounds_toArray, List.set_cons_succ, List.set_cons_zero]
            refine mv_skip 24 91 rfl (by rfl) (by kernel_rfl) (by kernel_rfl) (by kernel_rfl) (fun _ _ _ h => h) hS ?_
            simp only [List.setIfInBounds_toArray, List.set_cons_succ, List.set_cons_zero]
            refine mv_skip 25 92 rfl (by rfl) (by kernel_rfl) (by kernel_rfl) (by kernel_rfl) (fun _ _ _ h => h) hS ?_
            simp only [List.setIfInBounds_toArray, List.set_cons_succ, List.set_cons_zero]
            refine mv_skip 26 93 rfl (by rfl) (by kernel_rfl) (by kernel_rfl) (by kernel_rfl) (fun _ _ _ h => h) hS ?_
            simp only [List.setIfInBounds_toArray, List.set_cons_succ, List.set_cons_zero]
            refine mv_skip 27 94 rfl (by rfl) (by kernel_rfl) (by kernel_rfl) (by kernel_rfl) (fun _ _ _ h => h) hS ?_
            simp only [List.setIfInBounds_toArray, List.set_cons_succ, List.set_cons_zero]
            refine mv_skip 28 95 rfl (by rfl) (by kernel_rfl) (by kernel_rfl) (by kernel_rfl) (fun _ _ _ h => h) hS ?_
            simp only [List.setIfInBounds_toArray, List.set_cons_succ, List.set_cons_zero]
            refine mv_skip 29 96 rfl (by rfl) (by kernel_rfl) (by kernel_rfl) (by kernel_rfl) (fun _ _ _ h => h) hS ?_
            simp only [List.setIfInBounds_toArray, List.set_cons_succ, List.set_cons_zero]
            refine mv_skip 30 97 rfl (by rfl) (by kernel_rfl) (by kernel_rfl) (by kernel_rfl) (fun _ _ _ h => h) hS ?_
            simp only [List.setIfInBounds_toArray, List.set_cons_succ, List.set_cons_zero]
            refine mv_rung 31 98 (.bool true) rfl (by rfl) (by kernel_rfl) (by kernel_rfl) (by kernel_rfl) (fun _ _ _ h => h) (fun w' hq => by obtain ⟨q1, q2, q3, q4⟩ := hq; first | rfl | (go_simp; done) | (go_simp; omega) | (go_simp; intro hh; exfalso; omega)) hS ?_
            simp only [List.setIfInBounds_toArray, List.set_cons_succ, List.set_cons_zero]
            refine wpAnyH_done (by kernel_rfl) ?_ _
            go_wp2
            go_ret
            refine ⟨ret_bool ?_, fW.trans ((hBr.drew).mono fW.size)⟩
            rw [right_two hk, HBAD.out]; simp
          | true =>
            by_cases ht0 : t = 0
            · subst ht0
              have hgo : namedFrom ⟨#[]⟩ (c.es.take (0 + 1)) = true := by rw [HTK.out, named_last, HZ.out, hnm]; simpa using name_first hnm
              have HGO : Hid _ := hgo
              have rx : wr.cell? ⟨b1, o1, none⟩ = some (.string x.name) := by simpa using rx
              clear hx hc1 HR HN hgo
              have ry := True.intro
              let S9 : World → Prop := fun w' => w'.cell? ⟨w.heap.size, 2, none⟩ = some (.slice (some ⟨b1, o1, none⟩) c.es.length k2) ∧ w'.cell? ⟨b1, o1, none⟩ = some (.string x.name) ∧ True ∧ Below W1.heap.size W1 w'
              go_wp2
              have hS : S9 wr.drew := ⟨r2, rx, ry, hBr.drew⟩
              refine mv_begin (S := S9) 32 rfl (by kernel_rfl) ?_
              refine mv_rung 0 67 (.int .i64 (0 : Nat)) rfl (by rfl) (by kernel_rfl) (by kernel_rfl) (by kernel_rfl) (fun _ _ _ h => h) (fun w' hq => by obtain ⟨q1, q2, q3, q4⟩ := hq; first | rfl | (go_simp; done) | (go_simp; omega) | (go_simp; intro hh; exfalso; omega)) hS ?_
              simp only [List.setIfInBounds_toArray, List.set_cons_succ, List.set_cons_zero]
              refine mv_rung 1 68 (.bool false) rfl (by rfl) (by kernel_rfl) (by kernel_rfl) (by kernel_rfl) (fun _ _ _ h => h) (fun w' hq => by obtain ⟨q1, q2, q3, q4⟩ := hq; first | rfl | (go_simp; done) | (go_simp; omega) | (go_simp; intro hh; exfalso; omega)) hS ?_
              simp only [List.setIfInBounds_toArray, List.set_cons_succ, List.set_cons_zero]
              refine mv_rung 2 69 (.bool false) rfl (by rfl) (by kernel_rfl) (by kernel_rfl) (by kernel_rfl) (fun _ _ _ h => h) (fun w' hq => by obtain ⟨q1, q2, q3, q4⟩ := hq; first | rfl | (go_simp; done) | (go_simp; omega) | (go_simp; intro hh; exfalso; omega)) hS ?_
              simp only [List.setIfInBounds_toArray, List.set_cons_succ, List.set_cons_zero]
              refine mv_rung 3 70 (.pointer (some ⟨w.heap.size, 2, none⟩)) rfl (by rfl) (by kernel_rfl) (by kernel_rfl) (by kernel_rfl) (fun _ _ _ h => h) (fun w' hq => by obtain ⟨q1, q2, q3, q4⟩ := hq; first | rfl | (go_simp; done) | (go_simp; omega) | (go_simp; intro hh; exfalso; omega)) hS ?_
              simp only [List.setIfInBounds_toArray, List.set_cons_succ, List.set_cons_zero]
              refine mv_rung 4 71 (.slice (some ⟨b1, o1, none⟩) c.es.length k2) rfl (by rfl) (by kernel_rfl) (by kernel_rfl) (by kernel_rfl) (fun _ _ _ h => h) (fun w' hq => by obtain ⟨q1, q2, q3, q4⟩ := hq; first | rfl | (go_simp; done) | (go_simp; omega) | (go_simp; intro hh; exfalso; omega)) hS ?_
              simp only [List.setIfInBounds_toArray, List.set_cons_succ, List.set_cons_zero]
              refine mv_rung 5 72 (.int .i64 (0 : Nat)) rfl (by rfl) (by kernel_rfl) (by kernel_rfl) (by kernel_rfl) (fun _ _ _ h => h) (fun w' hq => by obtain ⟨q1, q2, q3, q4⟩ := hq; first | rfl | (go_simp; done) | (go_simp; omega) | (go_simp; intro hh; exfalso; omega)) hS ?_
              simp only [List.setIfInBounds_toArray, List.set_cons_succ, List.set_cons_zero]
              refine mv_rung 6 73 (.pointer (some ⟨b1, o1, none⟩)) rfl (by rfl) (by kernel_rfl) (by kernel_rfl) (by kernel_rfl) (fun _ _ _ h => h) (fun w' hq => by obtain ⟨q1, q2, q3, q4⟩ := hq; first | rfl | (go_simp; done) | (go_simp; omega) | (go_simp; intro hh; exfalso; omega)) hS ?_
              simp only [List.setIfInBounds_toArray, List.set_cons_succ, List.set_cons_zero]
              refine mv_rung 7 74 (.pointer (some ⟨b1, o1, none⟩)) rfl (by rfl) (by kernel_rfl) (by kernel_rfl) (by kernel_rfl) (fun _ _ _ h => h) (fun w' hq => by obtain ⟨q1, q2, q3, q4⟩ := hq; first | rfl | (go_simp; done) | (go_simp; omega) | (go_simp; intro hh; exfalso; omega)) hS ?_
              simp only [List.setIfInBounds_toArray, List.set_cons_succ, List.set_cons_zero]
              refine mv_rung 8 75 (.string x.name) rfl (by rfl) (by kernel_rfl) (by kernel_rfl) (by kernel_rfl) (fun _ _ _ h => h) (fun w' hq => by obtain ⟨q1, q2, q3, q4⟩ := hq; first | rfl | (go_simp; done) | (go_simp; omega) | (go_simp; intro hh; exfalso; omega)) hS ?_
              simp only [List.setIfInBounds_toArray, List.set_cons_succ, List.set_cons_zero]
              refine mv_nextg 9 rfl (by rfl) (by kernel_rfl) ?_
              go_simp
              refine (rname_any x.name _ (by omega)).mono ?_
              rintro e wq ⟨rfl, rfl⟩
              rw [hnm]
              refine ⟨hS, ?_⟩
              refine mv_rung 10 77 (.bool false) rfl (by rfl) (by kernel_rfl) (by kernel_rfl) (by kernel_rfl) (fun _ _ _ h => h) (fun w' hq => by obtain ⟨q1, q2, q3, q4⟩ := hq; first | rfl | (go_simp; done) | (go_simp; omega) | (go_simp; intro hh; exfalso; omega)) hS ?_
              simp only [List.setIfInBounds_toArray, List.set_cons_succ, List.set_cons_zero]
              refine mv_rung 11 78 (.bool false) rfl (by rfl) (by kernel_rfl) (by kernel_rfl) (by kernel_rfl) (fun _ _ _ h => h) (fun w' hq => by obtain ⟨q1, q2, q3, q4⟩ := hq; first | rfl | (go_simp; done) | (go_simp; omega) | (go_simp; intro hh; exfalso; omega)) hS ?_
              simp only [List.setIfInBounds_toArray, List.set_cons_succ, List.set_cons_zero]
              refine mv_rung 12 79 (.bool false) rfl (by rfl) (by kernel_rfl) (by kernel_rfl) (by kernel_rfl) (fun _ _ _ h => h) (fun w' hq => by obtain ⟨q1, q2, q3, q4⟩ := hq; first | rfl | (go_simp; done) | (go_simp; omega) | (go_simp; intro hh; exfalso; omega)) hS ?_
              simp only [List.setIfInBounds_toArray, List.set_cons_succ, List.set_cons_zero]
              refine mv_rung 13 80 (.int .i64 (0 : Nat)) rfl (by rfl) (by kernel_rfl) (by kernel_rfl) (by kernel_rfl) (fun _ _ _ h => h) (fun w' hq => by obtain ⟨q1, q2, q3, q4⟩ := hq; first | rfl | (go_simp; done) | (go_simp; omega) | (go_simp; intro hh; exfalso; omega)) hS ?_
              simp only [List.setIfInBounds_toArray, List.set_cons_succ, List.set_cons_zero]
              refine mv_rung 14 81 (.bool false) rfl (by rfl) (by kernel_rfl) (by kernel_rfl) (by kernel_rfl) (fun _ _ _ h => h) (fun w' hq => by obtain ⟨q1, q2, q3, q4⟩ := hq; first | rfl | (go_simp; done) | (go_simp; omega) | (go_simp; intro hh; exfalso; omega)) hS ?_
              simp only [List.setIfInBounds_toArray, List.set_cons_succ, List.set_cons_zero]
              refine mv_rung 15 82 (.bool false) rfl (by rfl) (by kernel_rfl) (by kernel_rfl) (by kernel_rfl) (fun _ _ _ h => h) (fun w' hq => by obtain ⟨q1, q2, q3, q4⟩ := hq; first | rfl | (go_simp; done) | (go_simp; omega) | (go_simp; intro hh; exfalso; omega)) hS ?_
              simp only [List.setIfInBounds_toArray, List.set_cons_succ, List.set_cons_zero]
              refine mv_skip 16 83 rfl (by rfl) (by kernel_rfl) (by kernel_rfl) (by kernel_rfl) (fun _ _ _ h => h) hS ?_
              simp only [List.setIfInBounds_toArray, List.set_cons_succ, List.set_cons_zero]
              refine mv_skip 17 84 rfl (by rfl) (by kernel_rfl) (by kernel_rfl) (by kernel_rfl) (fun _ _ _ h => h) hS ?_
              simp only [List.setIfInBounds_toArray, List.set_cons_succ, List.set_cons_zero]
              refine mv_skip 18 85 rfl (by rfl) (by kernel_rfl) (by kernel_rfl) (by kernel_rfl) (fun _ _ _ h => h) hS ?_
              simp only [List.setIfInBounds_toArray, List.set_cons_succ, List.set_cons_zero]
              refine mv_skip 19 86 rfl (by rfl) (by kernel_rfl) (by kernel_rfl) (by kernel_rfl) (fun _ _ _ h => h) hS ?_
              simp only [List.setIfInBounds_toArray, List.set_cons_succ, List.set_cons_zero]
              refine mv_skip 20 87 rfl (by rfl) (by kernel_rfl) (by kernel_rfl) (by kernel_rfl) (fun _ _ _ h => h) hS ?_
              simp only [List.setIfInBounds_toArray, List.set_cons_succ, List.set_cons_zero]
              refine mv_skip 21 88 rfl (by rfl) (by kernel_rfl) (by kernel_rfl) (by kernel_rfl) (fun _ _ _ h => h) hS ?_
              simp only [List.setIfInBounds_toArray, List.set_cons_succ, List.set_cons_zero]
              refine mv_skip 22 89 rfl (by rfl) (by kernel_rfl) (by kernel_rfl) (by kernel_rfl) (fun _ _ _ h => h) hS ?_
              simp only [List.setIfInBounds_toArray, List.set_cons_succ, List.set_cons_zero]
              refine mv_skip 23 90 rfl (by rfl) (by kernel_rfl) (by kernel_rfl) (by kernel_rfl) (fun _ _ _ h => h) hS ?_
              simp only [List.setIfInBounds_toArray, List.set_cons_succ, List.set_cons_zero]
              refine mv_skip 24 91 rfl (by rfl) (by kernel_rfl) (by kernel_rfl) (by kernel_rfl) (fun _ _ _ h => h) hS ?_
              simp only [List.setIfInBounds_toArray, List.set_cons_succ, List.set_cons_zero]
              refine mv_skip 25 92 rfl (by rfl) (by kernel_rfl) (by kernel_rfl) (by kernel_rfl) (fun _ _ _ h => h) hS ?_
              simp only [List.setIfInBounds_toArray, List.set_cons_succ, List.set_cons_zero]
              refine mv_skip 26 93 rfl (by rfl) (by kernel_rfl) (by kernel_rfl) (by kernel_rfl) (fun _ _ _ h => h) hS ?_
              simp only [List.setIfInBounds_toArray, List.set_cons_succ, List.set_cons_zero]
              refine mv_skip 27 94 rfl (by rfl) (by kernel_rfl) (by kernel_rfl) (by kernel_rfl) (fun _ _ _ h => h) hS ?_
              simp only [List.setIfInBounds_toArray, List.set_cons_succ, List.set_cons_zero]
              refine mv_skip 28 95 rfl (by rfl) (by kernel_rfl) (by kernel_rfl) (by kernel_rfl) (fun _ _ _ h => h) hS ?_
              simp only [List.setIfInBounds_toArray, List.set_cons_succ, List.set_cons_zero]
              refine mv_skip 29 96 rfl (by rfl) (by kernel_rfl) (by kernel_rfl) (by kernel_rfl) (fun _ _ _ h => h) hS ?_
              simp only [List.setIfInBounds_toArray, List.set_cons_succ, List.set_cons_zero]
              refine mv_rung 30 97 (.bool false) rfl (by rfl) (by kernel_rfl) (by kernel_rfl) (by kernel_rfl) (fun _ _ _ h => h) (fun w' hq => by obtain ⟨q1, q2, q3, q4⟩ := hq; first | rfl | (go_simp; done) | (go_simp; omega) | (go_simp; intro hh; exfalso; omega)) hS ?_
              simp only [List.setIfInBounds_toArray, List.set_cons_succ, List.set_cons_zero]
              refine mv_rung 31 98 (.bool false) rfl (by rfl) (by kernel_rfl) (by kernel_rfl) (by kernel_rfl) (fun _ _ _ h => h) (fun w' hq => by obtain ⟨q1, q2, q3, q4⟩ := hq; first | rfl | (go_simp; done) | (go_simp; omega) | (go_simp; intro hh; exfalso; omega)) hS ?_
              simp only [List.setIfInBounds_toArray, List.set_cons_succ, List.set_cons_zero]
              refine wpAnyH_done (by kernel_rfl) ?_ _
              go_wp2
              go_roundw
              case rel => exact ⟨0 + 1, by omega, by omega, by go_num, hBr.drew, HGO.out⟩
              case measure => simp [intOf]; omega
            · have hty : t - 1 < c.es.length := by omega
              have hy : c.es[t - 1]? = some (c.es[t - 1]'hty) := List.getElem?_eq_getElem hty
              have hyn := HN.out _ (List.getElem_mem hty)
              generalize hY : c.es[t - 1]'hty = y at hy hyn
              have fr : Below w.heap.size w wr := fW.trans (hBr.mono fW.size)
              have ry : wr.cell? ⟨b1, o1 + (t - 1) * 34, none⟩ = some (.string y.name) := (fr.cell (p := ⟨b1, _, none⟩) (block_lt_of_cell (hc1 (t - 1) y hy 0 _ y.cell0))).trans (hc1 (t - 1) y hy 0 _ y.cell0)
              have hlast : (c.es.take t).getLast? = some y := by rw [List.getLast?_eq_getElem?, List.length_take, Nat.min_eq_left (by omega), List.getElem?_take, if_pos (by omega)]; exact hy
              have hnx : namedFrom ⟨#[]⟩ (c.es.take (t + 1)) = !(leB x.name y.name) := by rw [HTK.out, named_last, HZ.out, hnm, hlast]; simp
              have HNX : Hid _ := hnx
              have hgt : decide (0 < (t : Int)) = true := by simp; omega
              have hsub : ((t : Int) - 1).toNat = t - 1 := by omega
              have hsubi : IntKind.i64.wrap ((t : Int) - 1) = (t : Int) - 1 := by rw [IntKind.wrap_i64]; omega
              have hcast : ((t - 1 : Nat) : Int) = (t : Int) - 1 := by omega
              clear hx hc1 HR HN hnx hY hy hlast fr
              let S9 : World → Prop := fun w' => w'.cell? ⟨w.heap.size, 2, none⟩ = some (.slice (some ⟨b1, o1, none⟩) c.es.length k2) ∧ w'.cell? ⟨b1, o1 + t * 34, none⟩ = some (.string x.name) ∧ w'.cell? ⟨b1, o1 + (t - 1) * 34, none⟩ = some (.string y.name) ∧ Below W1.heap.size W1 w'
              cases hle : leB x.name y.name with
              | true =>
                have hle' : (Op.bytesLess x.name.toList y.name.toList || (x.name.toList == y.name.toList)) = true := hle
                go_wp2
                have hS : S9 wr.drew := ⟨r2, rx, ry, hBr.drew⟩
                refine mv_begin (S := S9) 32 rfl (by kernel_rfl) ?_
                refine mv_rung 0 67 (.int .i64 t) rfl (by rfl) (by kernel_rfl) (by kernel_rfl) (by kernel_rfl) (fun _ _ _ h => h) (fun w' hq => by obtain ⟨q1, q2, q3, q4⟩ := hq; first | rfl | (go_simp; done) | (go_simp; omega) | (go_simp; intro hh; exfalso; omega)) hS ?_
                simp only [List.setIfInBounds_toArray, List.set_cons_succ, List.set_cons_zero]
                refine mv_rung 1 68 (.bool false) rfl (by rfl) (by kernel_rfl) (by kernel_rfl) (by kernel_rfl) (fun _ _ _ h => h) (fun w' hq => by obtain ⟨q1, q2, q3, q4⟩ := hq; first | rfl | (go_simp; done) | (go_simp; omega) | (go_simp; intro hh; exfalso; omega)) hS ?_
                simp only [List.setIfInBounds_toArray, List.set_cons_succ, List.set_cons_zero]
                refine mv_rung 2 69 (.bool false) rfl (by rfl) (by kernel_rfl) (by kernel_rfl) (by kernel_rfl) (fun _ _ _ h => h) (fun w' hq => by obtain ⟨q1, q2, q3, q4⟩ := hq; first | rfl | (go_simp; done) | (go_simp; omega) | (go_simp; intro hh; exfalso; omega)) hS ?_
                simp only [List.setIfInBounds_toArray, List.set_cons_succ, List.set_cons_zero]
                refine mv_rung 3 70 (.pointer (some ⟨w.heap.size, 2, none⟩)) rfl (by rfl) (by kernel_rfl) (by kernel_rfl) (by kernel_rfl) (fun _ _ _ h => h) (fun w' hq => by obtain ⟨q1, q2, q3, q4⟩ := hq; first | rfl | (go_simp; done) | (go_simp; omega) | (go_simp; intro hh; exfalso; omega)) hS ?_
                simp only [List.setIfInBounds_toArray, List.set_cons_succ, List.set_cons_zero]
                refine mv_rung 4 71 (.slice (some ⟨b1, o1, none⟩) c.es.length k2) rfl (by rfl) (by kernel_rfl) (by kernel_rfl) (by kernel_rfl) (fun _ _ _ h => h) (fun w' hq => by obtain ⟨q1, q2, q3, q4⟩ := hq; first | rfl | (go_simp; done) | (go_simp; omega) | (go_simp; intro hh; exfalso; omega)) hS ?_
                simp only [List.setIfInBounds_toArray, List.set_cons_succ, List.set_cons_zero]
                refine mv_rung 5 72 (.int .i64 t) rfl (by rfl) (by kernel_rfl) (by kernel_rfl) (by kernel_rfl) (fun _ _ _ h => h) (fun w' hq => by obtain ⟨q1, q2, q3, q4⟩ := hq; first | rfl | (go_simp; done) | (go_simp; omega) | (go_simp; intro hh; exfalso; omega)) hS ?_
                simp only [List.setIfInBounds_toArray, List.set_cons_succ, List.set_cons_zero]
                refine mv_rung 6 73 (.pointer (some ⟨b1, o1 + t * 34, none⟩)) rfl (by rfl) (by kernel_rfl) (by kernel_rfl) (by kernel_rfl) (fun _ _ _ h => h) (fun w' hq => by obtain ⟨q1, q2, q3, q4⟩ := hq; first | rfl | (go_simp; done) | (go_simp; omega) | (go_simp; intro hh; exfalso; omega)) hS ?_
                simp only [List.setIfInBounds_toArray, List.set_cons_succ, List.set_cons_zero]
                refine mv_rung 7 74 (.pointer (some ⟨b1, o1 + t * 34, none⟩)) rfl (by rfl) (by kernel_rfl) (by kernel_rfl) (by kernel_rfl) (fun _ _ _ h => h) (fun w' hq => by obtain ⟨q1, q2, q3, q4⟩ := hq; first | rfl | (go_simp; done) | (go_simp; omega) | (go_simp; intro hh; exfalso; omega)) hS ?_
                simp only [List.setIfInBounds_toArray, List.set_cons_succ, List.set_cons_zero]
                refine mv_rung 8 75 (.string x.name) rfl (by rfl) (by kernel_rfl) (by kernel_rfl) (by kernel_rfl) (fun _ _ _ h => h) (fun w' hq => by obtain ⟨q1, q2, q3, q4⟩ := hq; first | rfl | (go_simp; done) | (go_simp; omega) | (go_simp; intro hh; exfalso; omega)) hS ?_
                simp only [List.setIfInBounds_toArray, List.set_cons_succ, List.set_cons_zero]
                refine mv_nextg 9 rfl (by rfl) (by kernel_rfl) ?_
                go_simp
                refine (rname_any x.name _ (by omega)).mono ?_
                rintro e wq ⟨rfl, rfl⟩
                rw [hnm]
                refine ⟨hS, ?_⟩
                refine mv_rung 10 77 (.bool false) rfl (by rfl) (by kernel_rfl) (by kernel_rfl) (by kernel_rfl) (fun _ _ _ h => h) (fun w' hq => by obtain ⟨q1, q2, q3, q4⟩ := hq; first | rfl | (go_simp; done) | (go_simp; omega) | (go_simp; intro hh; exfalso; omega)) hS ?_
                simp only [List.setIfInBounds_toArray, List.set_cons_succ, List.set_cons_zero]
                refine mv_rung 11 78 (.bool false) rfl (by rfl) (by kernel_rfl) (by kernel_rfl) (by kernel_rfl) (fun _ _ _ h => h) (fun w' hq => by obtain ⟨q1, q2, q3, q4⟩ := hq; first | rfl | (go_simp; done) | (go_simp; omega) | (go_simp; intro hh; exfalso; omega)) hS ?_
                simp only [List.setIfInBounds_toArray, List.set_cons_succ, List.set_cons_zero]
                refine mv_rung 12 79 (.bool false) rfl (by rfl) (by kernel_rfl) (by kernel_rfl) (by kernel_rfl) (fun _ _ _ h => h) (fun w' hq => by obtain ⟨q1, q2, q3, q4⟩ := hq; first | rfl | (go_simp; done) | (go_simp; omega) | (go_simp; intro hh; exfalso; omega)) hS ?_
                simp only [List.setIfInBounds_toArray, List.set_cons_succ, List.set_cons_zero]
                refine mv_rung 13 80 (.int .i64 t) rfl (by rfl) (by kernel_rfl) (by kernel_rfl) (by kernel_rfl) (fun _ _ _ h => h) (fun w' hq => by obtain ⟨q1, q2, q3, q4⟩ := hq; first | rfl | (go_simp; done) | (go_simp; omega) | (go_simp; intro hh; exfalso; omega)) hS ?_
                simp only [List.setIfInBounds_toArray, List.set_cons_succ, List.set_cons_zero]
                refine mv_rung 14 81 (.bool true) rfl (by rfl) (by kernel_rfl) (by kernel_rfl) (by kernel_rfl) (fun _ _ _ h => h) (fun w' hq => by obtain ⟨q1, q2, q3, q4⟩ := hq; first | rfl | (go_simp; done) | (go_simp; omega) | (go_simp; intro hh; exfalso; omega)) hS ?_
                simp only [List.setIfInBounds_toArray, List.set_cons_succ, List.set_cons_zero]
                refine mv_rung 15 82 (.bool true) rfl (by rfl) (by kernel_rfl) (by kernel_rfl) (by kernel_rfl) (fun _ _ _ h => h) (fun w' hq => by obtain ⟨q1, q2, q3, q4⟩ := hq; first | rfl | (go_simp; done) | (go_simp; omega) | (go_simp; intro hh; exfalso; omega)) hS ?_
                simp only [List.setIfInBounds_toArray, List.set_cons_succ, List.set_cons_zero]
                refine mv_rung 16 83 (.pointer (some ⟨w.heap.size, 2, none⟩)) rfl (by rfl) (by kernel_rfl) (by kernel_rfl) (by kernel_rfl) (fun _ _ _ h => h) (fun w' hq => by obtain ⟨q1, q2, q3, q4⟩ := hq; first | rfl | (go_simp; done) | (go_simp; omega) | (go_simp; intro hh; exfalso; omega)) hS ?_
                simp only [List.setIfInBounds_toArray, List.set_cons_succ, List.set_cons_zero]
                refine mv_rung 17 84 (.slice (some ⟨b1, o1, none⟩) c.es.length k2) rfl (by rfl) (by kernel_rfl) (by kernel_rfl) (by kernel_rfl) (fun _ _ _ h => h) (fun w' hq => by obtain ⟨q1, q2, q3, q4⟩ := hq; first | rfl | (go_simp; done) | (go_simp; omega) | (go_simp; intro hh; exfalso; omega)) hS ?_
                simp only [List.setIfInBounds_toArray, List.set_cons_succ, List.set_cons_zero]
                refine mv_rung 18 85 (.int .i64 t) rfl (by rfl) (by kernel_rfl) (by kernel_rfl) (by kernel_rfl) (fun _ _ _ h => h) (fun w' hq => by obtain ⟨q1, q2, q3, q4⟩ := hq; first | rfl | (go_simp; done) | (go_simp; omega) | (go_simp; intro hh; exfalso; omega)) hS ?_
                simp only [List.setIfInBounds_toArray, List.set_cons_succ, List.set_cons_zero]
                refine mv_rung 19 86 (.pointer (some ⟨b1, o1 + t * 34, none⟩)) rfl (by rfl) (by kernel_rfl) (by kernel_rfl) (by kernel_rfl) (fun _ _ _ h => h) (fun w' hq => by obtain ⟨q1, q2, q3, q4⟩ := hq; first | rfl | (go_simp; done) | (go_simp; omega) | (go_simp; intro hh; exfalso; omega)) hS ?_
                simp only [List.setIfInBounds_toArray, List.set_cons_succ, List.set_cons_zero]
                refine mv_rung 20 87 (.pointer (some ⟨b1, o1 + t * 34, none⟩)) rfl (by rfl) (by kernel_rfl) (by kernel_rfl) (by kernel_rfl) (fun _ _ _ h => h) (fun w' hq => by obtain ⟨q1, q2, q3, q4⟩ := hq; first | rfl | (go_simp; done) | (go_simp; omega) | (go_simp; intro hh; exfalso; omega)) hS ?_
                simp only [List.setIfInBounds_toArray, List.set_cons_succ, List.set_cons_zero]
                refine mv_rung 21 88 (.string x.name) rfl (by rfl) (by kernel_rfl) (by kernel_rfl) (by kernel_rfl) (fun _ _ _ h => h) (fun w' hq => by obtain ⟨q1, q2, q3, q4⟩ := hq; first | rfl | (go_simp; done) | (go_simp; omega) | (go_simp; intro hh; exfalso; omega)) hS ?_
                simp only [List.setIfInBounds_toArray, List.set_cons_succ, List.set_cons_zero]
                refine mv_rung 22 89 (.pointer (some ⟨w.heap.size, 2, none⟩)) rfl (by rfl) (by kernel_rfl) (by kernel_rfl) (by kernel_rfl) (fun _ _ _ h => h) (fun w' hq => by obtain ⟨q1, q2, q3, q4⟩ := hq; first | rfl | (go_simp; done) | (go_simp; omega) | (go_simp; intro hh; exfalso; omega)) hS ?_
                simp only [List.setIfInBounds_toArray, List.set_cons_succ, List.set_cons_zero]
                refine mv_rung 23 90 (.slice (some ⟨b1, o1, none⟩) c.es.length k2) rfl (by rfl) (by kernel_rfl) (by kernel_rfl) (by kernel_rfl) (fun _ _ _ h => h) (fun w' hq => by obtain ⟨q1, q2, q3, q4⟩ := hq; first | rfl | (go_simp; done) | (go_simp; omega) | (go_simp; intro hh; exfalso; omega)) hS ?_
                simp only [List.setIfInBounds_toArray, List.set_cons_succ, List.set_cons_zero]
                refine mv_rung 24 91 (.int .i64 t) rfl (by rfl) (by kernel_rfl) (by kernel_rfl) (by kernel_rfl) (fun _ _ _ h => h) (fun w' hq => by obtain ⟨q1, q2, q3, q4⟩ := hq; first | rfl | (go_simp; done) | (go_simp; omega) | (go_simp; intro hh; exfalso; omega)) hS ?_
                simp only [List.setIfInBounds_toArray, List.set_cons_succ, List.set_cons_zero]
                refine mv_rung 25 92 (.int .i64 ((t : Int) - 1)) rfl (by rfl) (by kernel_rfl) (by kernel_rfl) (by kernel_rfl) (fun _ _ _ h => h) (fun w' hq => by obtain ⟨q1, q2, q3, q4⟩ := hq; first | rfl | (go_simp; done) | (go_simp; omega) | (go_simp; intro hh; exfalso; omega)) hS ?_
                simp only [List.setIfInBounds_toArray, List.set_cons_succ, List.set_cons_zero]
                refine mv_rung 26 93 (.pointer (some ⟨b1, o1 + (t - 1) * 34, none⟩)) rfl (by rfl) (by kernel_rfl) (by kernel_rfl) (by kernel_rfl) (fun _ _ _ h => h) (fun w' hq => by obtain ⟨q1, q2, q3, q4⟩ := hq; first | rfl | (go_simp; done) | (go_simp; omega) | (go_simp; intro hh; exfalso; omega)) hS ?_
                simp only [List.setIfInBounds_toArray, List.set_cons_succ, List.set_cons_zero]
                refine mv_rung 27 94 (.pointer (some ⟨b1, o1 + (t - 1) * 34, none⟩)) rfl (by rfl) (by kernel_rfl) (by kernel_rfl) (by kernel_rfl) (fun _ _ _ h => h) (fun w' hq => by obtain ⟨q1, q2, q3, q4⟩ := hq; first | rfl | (go_simp; done) | (go_simp; omega) | (go_simp; intro hh; exfalso; omega)) hS ?_
                simp only [List.setIfInBounds_toArray, List.set_cons_succ, List.set_cons_zero]
                refine mv_rung 28 95 (.string y.name) rfl (by rfl) (by kernel_rfl) (by kernel_rfl) (by kernel_rfl) (fun _ _ _ h => h) (fun w' hq => by obtain ⟨q1, q2, q3, q4⟩ := hq; first | rfl | (go_simp; done) | (go_simp; omega) | (go_simp; intro hh; exfalso; omega)) hS ?_
                simp only [List.setIfInBounds_toArray, List.set_cons_succ, List.set_cons_zero]
                refine mv_rung 29 96 (.bool true) rfl (by rfl) (by kernel_rfl) (by kernel_rfl) (by kernel_rfl) (fun _ _ _ h => h) (fun w' hq => by obtain ⟨q1, q2, q3, q4⟩ := hq; first | rfl | (go_simp; done) | (go_simp; omega) | (go_simp; intro hh; exfalso; omega)) hS ?_
                simp only [List.setIfInBounds_toArray, List.set_cons_succ, List.set_cons_zero]
                refine mv_rung 30 97 (.bool true) rfl (by rfl) (by kernel_rfl) (by kernel_rfl) (by kernel_rfl) (fun _ _ _ h => h) (fun w' hq => by obtain ⟨q1, q2, q3, q4⟩ := hq; first | rfl | (go_simp; done) | (go_simp; omega) | (go_simp; intro hh; exfalso; omega)) hS ?_
                simp only [List.setIfInBounds_toArray, List.set_cons_succ, List.set_cons_zero]
                refine mv_rung 31 98 (.bool true) rfl (by rfl) (by kernel_rfl) (by kernel_rfl) (by kernel_rfl) (fun _ _ _ h => h) (fun w' hq => by obtain ⟨q1, q2, q3, q4⟩ := hq; first | rfl | (go_simp; done) | (go_simp; omega) | (go_simp; intro hh; exfalso; omega)) hS ?_
                simp only [List.setIfInBounds_toArray, List.set_cons_succ, List.set_cons_zero]
                refine wpAnyH_done (by kernel_rfl) ?_ _
                have hbad : namedFrom ⟨#[]⟩ c.es = false := HPRE.out (t + 1) (by omega) (by rw [HNX.out, hle]; rfl)
                go_wp2
                go_ret
                refine ⟨ret_bool ?_, fW.trans ((hBr.drew).mono fW.size)⟩
                rw [right_two hk, hbad]; simp
              | false =>
                have hle' : (Op.bytesLess x.name.toList y.name.toList || (x.name.toList == y.name.toList)) = false := hle
                go_wp2
                have hS : S9 wr.drew := ⟨r2, rx, ry, hBr.drew⟩
                refine mv_begin (S := S9) 32 rfl (by kernel_rfl) ?_
                refine mv_rung 0 67 (.int .i64 t) rfl (by rfl) (by kernel_rfl) (by kernel_rfl) (by kernel_rfl) (fun _ _ _ h => h) (fun w' hq => by obtain ⟨q1, q2, q3, q4⟩ := hq; first | rfl | (go_simp; done) | (go_simp; omega) | (go_simp; intro hh; exfalso; omega)) hS ?_
                simp only [List.setIfInBounds_toArray, List.set_cons_succ, List.set_cons_zero]
                refine mv_rung 1 68 (.bool false) rfl (by rfl) (by kernel_rfl) (by kernel_rfl) (by kernel_rfl) (fun _ _ _ h => h) (fun w' hq => by obtain ⟨q1, q2, q3, q4⟩ := hq; first | rfl | (go_simp; done) | (go_simp; omega) | (go_simp; intro hh; exfalso; omega)) hS ?_
                simp only [List.setIfInBounds_toArray, List.set_cons_succ, List.set_cons_zero]
                refine mv_rung 2 69 (.bool false) rfl (by rfl) (by kernel_rfl) (by kernel_rfl) (by kernel_rfl) (fun _ _ _ h => h) (fun w' hq => by obtain ⟨q1, q2, q3, q4⟩ := hq; first | rfl | (go_simp; done) | (go_simp; omega) | (go_simp; intro hh; exfalso; omega)) hS ?_
                simp only [List.setIfInBounds_toArray, List.set_cons_succ, List.set_cons_zero]
                refine mv_rung 3 70 (.pointer (some ⟨w.heap.size, 2, none⟩)) rfl (by rfl) (by kernel_rfl) (by kernel_rfl) (by kernel_rfl) (fun _ _ _ h => h) (fun w' hq => by obtain ⟨q1, q2, q3, q4⟩ := hq; first | rfl | (go_simp; done) | (go_simp; omega) | (go_simp; intro hh; exfalso; omega)) hS ?_
                simp only [List.setIfInBounds_toArray, List.set_cons_succ, List.set_cons_zero]
                refine mv_rung 4 71 (.slice (some ⟨b1, o1, none⟩) c.es.length k2) rfl (by rfl) (by kernel_rfl) (by kernel_rfl) (by kernel_rfl) (fun _ _ _ h => h) (fun w' hq => by obtain ⟨q1, q2, q3, q4⟩ := hq; first | rfl | (go_simp; done) | (go_simp; omega) | (go_simp; intro hh; exfalso; omega)) hS ?_
                simp only [List.setIfInBounds_toArray, List.set_cons_succ, List.set_cons_zero]
                refine mv_rung 5 72 (.int .i64 t) rfl (by rfl) (by kernel_rfl) (by kernel_rfl) (by kernel_rfl) (fun _ _ _ h => h) (fun w' hq => by obtain ⟨q1, q2, q3, q4⟩ := hq; first | rfl | (go_simp; done) | (go_simp; omega) | (go_simp; intro hh; exfalso; omega)) hS ?_
                simp only [List.setIfInBounds_toArray, List.set_cons_succ, List.set_cons_zero]
                refine mv_rung 6 73 (.pointer (some ⟨b1, o1 + t * 34, none⟩)) rfl (by rfl) (by kernel_rfl) (by kernel_rfl) (by kernel_rfl) (fun _ _ _ h => h) (fun w' hq => by obtain ⟨q1, q2, q3, q4⟩ := hq; first | rfl | (go_simp; done) | (go_simp; omega) | (go_simp; intro hh; exfalso; omega)) hS ?_
                simp only [List.setIfInBounds_toArray, List.set_cons_succ, List.set_cons_zero]
                refine mv_rung 7 74 (.pointer (some ⟨b1, o1 + t * 34, none⟩)) rfl (by rfl) (by kernel_rfl) (by kernel_rfl) (by kernel_rfl) (fun _ _ _ h => h) (fun w' hq => by obtain ⟨q1, q2, q3, q4⟩ := hq; first | rfl | (go_simp; done) | (go_simp; omega) | (go_simp; intro hh; exfalso; omega)) hS ?_
                simp only [List.setIfInBounds_toArray, List.set_cons_succ, List.set_cons_zero]
                refine mv_rung 8 75 (.string x.name) rfl (by rfl) (by kernel_rfl) (by kernel_rfl) (by kernel_rfl) (fun _ _ _ h => h) (fun w' hq => by obtain ⟨q1, q2, q3, q4⟩ := hq; first | rfl | (go_simp; done) | (go_simp; omega) | (go_simp; intro hh; exfalso; omega)) hS ?_
                simp only [List.setIfInBounds_toArray, List.set_cons_succ, List.set_cons_zero]
                refine mv_nextg 9 rfl (by rfl) (by kernel_rfl) ?_
                go_simp
                refine (rname_any x.name _ (by omega)).mono ?_
                rintro e wq ⟨rfl, rfl⟩
                rw [hnm]
                refine ⟨hS, ?_⟩
                refine mv_rung 10 77 (.bool false) rfl (by rfl) (by kernel_rfl) (by kernel_rfl) (by kernel_rfl) (fun _ _ _ h => h) (fun w' hq => by obtain ⟨q1, q2, q3, q4⟩ := hq; first | rfl | (go_simp; done) | (go_simp; omega) | (go_simp; intro hh; exfalso; omega)) hS ?_
                simp only [List.setIfInBounds_toArray, List.set_cons_succ, List.set_cons_zero]
                refine mv_rung 11 78 (.bool false) rfl (by rfl) (by kernel_rfl) (by kernel_rfl) (by kernel_rfl) (fun _ _ _ h => h) (fun w' hq => by obtain ⟨q1, q2, q3, q4⟩ := hq; first | rfl | (go_simp; done) | (go_simp; omega) | (go_simp; intro hh; exfalso; omega)) hS ?_
                simp only [List.setIfInBounds_toArray, List.set_cons_succ, List.set_cons_zero]
                refine mv_rung 12 79 (.bool false) rfl (by rfl) (by kernel_rfl) (by kernel_rfl) (by kernel_rfl) (fun _ _ _ h => h) (fun w' hq => by obtain ⟨q1, q2, q3, q4⟩ := hq; first | rfl | (go_simp; done) | (go_simp; omega) | (go_simp; intro hh; exfalso; omega)) hS ?_
                simp only [List.setIfInBounds_toArray, List.set_cons_succ, List.set_cons_zero]
                refine mv_rung 13 80 (.int .i64 t) rfl (by rfl) (by kernel_rfl) (by kernel_rfl) (by kernel_rfl) (fun _ _ _ h => h) (fun w' hq => by obtain ⟨q1, q2, q3, q4⟩ := hq; first | rfl | (go_simp; done) | (go_simp; omega) | (go_simp; intro hh; exfalso; omega)) hS ?_
                simp only [List.setIfInBounds_toArray, List.set_cons_succ, List.set_cons_zero]
                refine mv_rung 14 81 (.bool true) rfl (by rfl) (by kernel_rfl) (by kernel_rfl) (by kernel_rfl) (fun _ _ _ h => h) (fun w' hq => by obtain ⟨q1, q2, q3, q4⟩ := hq; first | rfl | (go_simp; done) | (go_simp; omega) | (go_simp; intro hh; exfalso; omega)) hS ?_
                simp only [List.setIfInBounds_toArray, List.set_cons_succ, List.set_cons_zero]
                refine mv_rung 15 82 (.bool true) rfl (by rfl) (by kernel_rfl) (by kernel_rfl) (by kernel_rfl) (fun _ _ _ h => h) (fun w' hq => by obtain ⟨q1, q2, q3, q4⟩ := hq; first | rfl | (go_simp; done) | (go_simp; omega) | (go_simp; intro hh; exfalso; omega)) hS ?_
                simp only [List.setIfInBounds_toArray, List.set_cons_succ, List.set_cons_zero]
                refine mv_rung 16 83 (.pointer (some ⟨w.heap.size, 2, none⟩)) rfl (by rfl) (by kernel_rfl) (by kernel_rfl) (by kernel_rfl) (fun _ _ _ h => h) (fun w' hq => by obtain ⟨q1, q2, q3, q4⟩ := hq; first | rfl | (go_simp; done) | (go_simp; omega) | (go_simp; intro hh; exfalso; omega)) hS ?_
                simp only [List.setIfInBounds_toArray, List.set_cons_succ, List.set_cons_zero]
                refine mv_rung 17 84 (.slice (some ⟨b1, o1, none⟩) c.es.length k2) rfl (by rfl) (by kernel_rfl) (by kernel_rfl) (by kernel_rfl) (fun _ _ _ h => h) (fun w' hq => by obtain ⟨q1, q2, q3, q4⟩ := hq; first | rfl | (go_simp; done) | (go_simp; omega) | (go_simp; intro hh; exfalso; omega)) hS ?_
                simp only [List.setIfInBounds_toArray, List.set_cons_succ, List.set_cons_zero]
                refine mv_rung 18 85 (.int .i64 t) rfl (by rfl) (by kernel_rfl) (by kernel_rfl) (by kernel_rfl) (fun _ _ _ h => h) (fun w' hq => by obtain ⟨q1, q2, q3, q4⟩ := hq; first | rfl | (go_simp; done) | (go_simp; omega) | (go_simp; intro hh; exfalso; omega)) hS ?_
                simp only [List.setIfInBounds_toArray, List.set_cons_succ, List.set_cons_zero]
                refine mv_rung 19 86 (.pointer (some ⟨b1, o1 + t * 34, none⟩)) rfl (by rfl) (by kernel_rfl) (by kernel_rfl) (by kernel_rfl) (fun _ _ _ h => h) (fun w' hq => by obtain ⟨q1, q2, q3, q4⟩ := hq; first | rfl | (go_simp; done) | (go_simp; omega) | (go_simp; intro hh; exfalso; omega)) hS ?_
                simp only [List.setIfInBounds_toArray, List.set_cons_succ, List.set_cons_zero]
                refine mv_rung 20 87 (.pointer (some ⟨b1, o1 + t * 34, none⟩)) rfl (by rfl) (by kernel_rfl) (by kernel_rfl) (by kernel_rfl) (fun _ _ _ h => h) (fun w' hq => by obtain ⟨q1, q2, q3, q4⟩ := hq; first | rfl | (go_simp; done) | (go_simp; omega) | (go_simp; intro hh; exfalso; omega)) hS ?_
                simp only [List.setIfInBounds_toArray, List.set_cons_succ, List.set_cons_zero]
                refine mv_rung 21 88 (.string x.name) rfl (by rfl) (by kernel_rfl) (by kernel_rfl) (by kernel_rfl) (fun _ _ _ h => h) (fun w' hq => by obtain ⟨q1, q2, q3, q4⟩ := hq; first | rfl | (go_simp; done) | (go_simp; omega) | (go_simp; intro hh; exfalso; omega)) hS ?_
                simp only [List.setIfInBounds_toArray, List.set_cons_succ, List.set_cons_zero]
                refine mv_rung 22 89 (.pointer (some ⟨w.heap.size, 2, none⟩)) rfl (by rfl) (by kernel_rfl) (by kernel_rfl) (by kernel_rfl) (fun _ _ _ h => h) (fun w' hq => by obtain ⟨q1, q2, q3, q4⟩ := hq; first | rfl | (go_simp; done) | (go_simp; omega) | (go_simp; intro hh; exfalso; omega)) hS ?_
                simp only [List.setIfInBounds_toArray, List.set_cons_succ, List.set_cons_zero]
                refine mv_rung 23 90 (.slice (some ⟨b1, o1, none⟩) c.es.length k2) rfl (by rfl) (by kernel_rfl) (by kernel_rfl) (by kernel_rfl) (fun _ _ _ h => h) (fun w' hq => by obtain ⟨q1, q2, q3, q4⟩ := hq; first | rfl | (go_simp; done) | (go_simp; omega) | (go_simp; intro hh; exfalso; omega)) hS ?_
                simp only [List.setIfInBounds_toArray, List.set_cons_succ, List.set_cons_zero]
                refine mv_rung 24 91 (.int .i64 t) rfl (by rfl) (by kernel_rfl) (by kernel_rfl) (by kernel_rfl) (fun _ _ _ h => h) (fun w' hq => by obtain ⟨q1, q2, q3, q4⟩ := hq; first | rfl | (go_simp; done) | (go_simp; omega) | (go_simp; intro hh; exfalso; omega)) hS ?_
                simp only [List.setIfInBounds_toArray, List.set_cons_succ, List.set_cons_zero]
                refine mv_rung 25 92 (.int .i64 ((t : Int) - 1)) rfl (by rfl) (by kernel_rfl) (by kernel_rfl) (by kernel_rfl) (fun _ _ _ h => h) (fun w' hq => by obtain ⟨q1, q2, q3, q4⟩ := hq; first | rfl | (go_simp; done) | (go_simp; omega) | (go_simp; intro hh; exfalso; omega)) hS ?_
                simp only [List.setIfInBounds_toArray, List.set_cons_succ, List.set_cons_zero]
                refine mv_rung 26 93 (.pointer (some ⟨b1, o1 + (t - 1) * 34, none⟩)) rfl (by rfl) (by kernel_rfl) (by kernel_rfl) (by kernel_rfl) (fun _ _ _ h => h) (fun w' hq => by obtain ⟨q1, q2, q3, q4⟩ := hq; first | rfl | (go_simp; done) | (go_simp; omega) | (go_simp; intro hh; exfalso; omega)) hS ?_
                simp only [List.setIfInBounds_toArray, List.set_cons_succ, List.set_cons_zero]
                refine mv_rung 27 94 (.pointer (some ⟨b1, o1 + (t - 1) * 34, none⟩)) rfl (by rfl) (by kernel_rfl) (by kernel_rfl) (by kernel_rfl) (fun _ _ _ h => h) (fun w' hq => by obtain ⟨q1, q2, q3, q4⟩ := hq; first | rfl | (go_simp; done) | (go_simp; omega) | (go_simp; intro hh; exfalso; omega)) hS ?_
                simp only [List.setIfInBounds_toArray, List.set_cons_succ, List.set_cons_zero]
                refine mv_rung 28 95 (.string y.name) rfl (by rfl) (by kernel_rfl) (by kernel_rfl) (by kernel_rfl) (fun _ _ _ h => h) (fun w' hq => by obtain ⟨q1, q2, q3, q4⟩ := hq; first | rfl | (go_simp; done) | (go_simp; omega) | (go_simp; intro hh; exfalso; omega)) hS ?_
                simp only [List.setIfInBounds_toArray, List.set_cons_succ, List.set_cons_zero]
                refine mv_rung 29 96 (.bool false) rfl (by rfl) (by kernel_rfl) (by kernel_rfl) (by kernel_rfl) (fun _ _ _ h => h) (fun w' hq => by obtain ⟨q1, q2, q3, q4⟩ := hq; first | rfl | (go_simp; done) | (go_simp; omega) | (go_simp; intro hh; exfalso; omega)) hS ?_
                simp only [List.setIfInBounds_toArray, List.set_cons_succ, List.set_cons_zero]
                refine mv_rung 30 97 (.bool false) rfl (by rfl) (by kernel_rfl) (by kernel_rfl) (by kernel_rfl) (fun _ _ _ h => h) (fun w' hq => by obtain ⟨q1, q2, q3, q4⟩ := hq; first | rfl | (go_simp; done) | (go_simp; omega) | (go_simp; intro hh; exfalso; omega)) hS ?_
                simp only [List.setIfInBounds_toArray, List.set_cons_succ, List.set_cons_zero]
                refine mv_rung 31 98 (.bool false) rfl (by rfl) (by kernel_rfl) (by kernel_rfl) (by kernel_rfl) (fun _ _ _ h => h) (fun w' hq => by obtain ⟨q1, q2, q3, q4⟩ := hq; first | rfl | (go_simp; done) | (go_simp; omega) | (go_simp; intro hh; exfalso; omega)) hS ?_
                simp only [List.setIfInBounds_toArray, List.set_cons_succ, List.set_cons_zero]
                refine wpAnyH_done (by kernel_rfl) ?_ _
                go_wp2
                go_roundw
                case rel => exact ⟨t + 1, by omega, by omega, by go_num, hBr.drew, by rw [HNX.out, hle]; rfl⟩
                case measure => simp [intOf]; omega
        · clear HR HN
          rw [hp] at r35
          rw [hbz] at r1
          have e4 : decide ((o.note.size : Int) ≤ 200) = true := by simp; omega
          have hall : namedFrom ⟨#[]⟩ c.es = true := by have := HZ.out; rwa [List.take_of_length_le (by omega)] at this
          have h33 : decide (c.es.length ≤ 32) = true := by simp; omega
          go_wp2
          go_ret
          refine ⟨ret_bool ?_, fW.trans (hBr.mono fW.size)⟩
          rw [right_two hk, hbz, hrest, hall, h33]; rfl
end Go.Proofs.Ytnaoaeapffgojaa
