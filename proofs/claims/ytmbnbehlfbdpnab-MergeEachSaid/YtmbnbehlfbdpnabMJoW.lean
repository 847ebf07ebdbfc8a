/- The contract of merge's join, walked. -/
import Derived.Test.YtmbnbehlfbdpnabMApp
namespace Go.Proofs.Ytmbnbehlfbdpnab
open Go.RowKit Go.Shelf
attribute [local go_sem] Oper.semAt_some

/-- May all three be? -/
def right3 (a b c : List Fi) : Bool := repoB a && (repoB b && repoB c)
/-- Files of a size that one goes through. -/
def SlS (w : World) (s : Sl) : Prop := SlAt w s ∧ s.fs.length ≤ 1000000 ∧ FiS s.fs
/-- What join tells. -/
def JoinP (w : World) (x y z : Sl) (e : Ending) (w' : World) : Prop :=
  (if right3 x.fs y.fs z.fs then ∃ vf vc, e = .returned (.tuple #[vf, vc, .int .i64 0]) ∧ OwnF w.heap.size w' vf (joinF (pathsA x.fs y.fs z.fs)) ∧ OwnC w.heap.size w' vc (joinC (pathsA x.fs y.fs z.fs))
    else e = .returned (.tuple #[.slice none 0 0, .slice none 0 0, .int .i64 170])) ∧ Below w.heap.size w w'

set_option maxRecDepth 100000 in
set_option maxHeartbeats 2000000 in
theorem join_in (n : Nat) (hn : 4 ≤ n) (x y z : Sl) (w : World) (hx : SlS w x) (hy : SlS w y) (hz : SlS w z) :
    CallsIn Fence.wide n Try.prog 12 #[.agg (rowV3 x y z)] w (JoinP w x y z) := by
  have h1 : 1 ≤ n := by omega
  have HX : Hid (SlS w x) := hx
  have HY : Hid (SlS w y) := hy
  have HZ : Hid (SlS w z) := hz
  clear hx hy hz
  unfold rowV3
  refine callsIn_of_wp_marks Try.func12 rfl trivial ?_ rfl
  simp only [Try.ntmps12, List.size_toArray, List.length_cons, List.length_nil, Nat.reduceAdd, Nat.reduceSub, Array.replicate_succ, Array.replicate_zero, List.push_toArray, List.append_toArray, List.nil_append, List.cons_append]
  gi_wp2
  refine wpIn_gen (fun W => Below w.heap.size w W ∧ W.heap[w.heap.size]? = some (.cells (rowV3 x y z) 50 (0, 0))) ⟨(Below.refl _ _).alloc (Nat.le_refl _) _, heap_alloc_new _ _⟩ ?_
  intro W0 ⟨hB0, hr0⟩
  gi_loopw [15] (fun i wr => ∃ t : Nat, t ≤ 3 ∧ i = .int .i64 t ∧ Below w.heap.size w wr ∧ wr.heap[w.heap.size]? = some (.cells (rowV3 x y z) 50 (0, 0)) ∧ ∀ (i : Nat) (s : Sl), i < t → [x, y, z][i]? = some s → repoB s.fs = true) (fun i _ => 3 - (intOf i).toNat)
  case atStart => exact ⟨0, Nat.zero_le _, rfl, hB0, hr0, fun i s h => by omega⟩
  case round =>
    obtain ⟨t, ht, rfl, hB, hr, hok⟩ := hrel
    have HOK : Hid _ := hok
    clear hok hB0 hr0
    by_cases hlt : t < 3
    · obtain ⟨s, hs⟩ : ∃ s, [x, y, z][t]? = some s := ⟨_, List.getElem?_eq_getElem (by simpa using hlt)⟩
      have hix : ∀ W0 : World, (Instr.index 50 (.agg #[.slice x.sp x.fs.length x.cap, .slice y.sp y.fs.length y.cap, .slice z.sp z.fs.length z.cap]) (.int .i64 t)).run Try.prog W0 = .ok (.agg #[.slice s.sp s.fs.length s.cap]) W0 := by
        intro W0
        have h3 : t = 0 ∨ t = 1 ∨ t = 2 := by omega
        rcases h3 with rfl | rfl | rfl
        · obtain rfl : x = s := by simpa using hs
          exact idx3a _ _ _ _
        · obtain rfl : y = s := by simpa using hs
          exact idx3b _ _ _ _
        · obtain rfl : z = s := by simpa using hs
          exact idx3c _ _ _ _
      have HSS : Hid (SlS w s) := by
        have h3 : t = 0 ∨ t = 1 ∨ t = 2 := by omega
        rcases h3 with rfl | rfl | rfl
        · obtain rfl : x = s := by simpa using hs
          exact HX.out
        · obtain rfl : y = s := by simpa using hs
          exact HY.out
        · obtain rfl : z = s := by simpa using hs
          exact HZ.out
      have HNO : Hid (repoB s.fs = false → right3 x.fs y.fs z.fs = false) := by
        intro hf
        have h3 : t = 0 ∨ t = 1 ∨ t = 2 := by omega
        unfold right3
        rcases h3 with rfl | rfl | rfl
        · obtain rfl : x = s := by simpa using hs
          rw [hf]; rfl
        · obtain rfl : y = s := by simpa using hs
          rw [hf]; simp
        · obtain rfl : z = s := by simpa using hs
          rw [hf]; simp
      have HS : Hid _ := hs
      clear hs
      have hd : decide ((t : Int) < 3) = true := by simp; omega
      gi_wp2
      refine ⟨trivial, ?_⟩
      have hBa : Below w.heap.size w (wr.alloc (.cells #[.slice s.sp s.fs.length s.cap] 24)) := hB.alloc hB.size _
      refine (callsIn_wide.2 (tcheck_any s.sp s.cap s.fs _ (RowsAt.below HSS.out.1.1 hBa) HSS.out.2.1 HSS.out.2.2)).mono ?_
      rintro e W2 ⟨rfl, hB2⟩
      have hBw : Below w.heap.size w W2 := hBa.trans (hB2.mono hBa.size)
      have hr2 : W2.heap[w.heap.size]? = some (.cells (rowV3 x y z) 50 (0, 0)) := (hB2.block _ (by have := lt_of_row hr; simp; omega)).trans ((Below.heap_alloc _ _ _ (lt_of_row hr)).trans hr)
      clear hBa hB2 hB hr
      cases hrb : repoB s.fs with
      | false =>
        rw [show checkR s.fs = 170 by unfold checkR; rw [hrb]; rfl]
        have hq := HNO.out hrb
        have HQ : Hid _ := hq
        clear hq
        gi_wp2
        refine ⟨.tuple #[.slice none 0 0, .slice none 0 0, .int .i64 170], results_three Try.results12 _ _ _ _ _ rfl rfl rfl, ?_, hBw⟩
        rw [HQ.out]
        rfl
      | true =>
        rw [show checkR s.fs = 0 by unfold checkR; rw [hrb]; rfl]
        have HRB : Hid _ := hrb
        clear hrb
        gi_wp2
        go_roundw
        case rel =>
          refine ⟨t + 1, by omega, by go_num, hBw, hr2, fun i s' hi hs' => ?_⟩
          by_cases hit : i < t
          · exact HOK.out i s' hit hs'
          · obtain rfl : i = t := by omega
            have := HS.out
            rw [this] at hs'
            cases hs'
            exact HRB.out
        case measure => simp [intOf]; omega
    · have hd : decide ((t : Int) < 3) = false := by simp; omega
      have HR3 : Hid (right3 x.fs y.fs z.fs = true) := by
        show right3 x.fs y.fs z.fs = true
        unfold right3
        rw [HOK.out 0 x (by omega) rfl, HOK.out 1 y (by omega) rfl, HOK.out 2 z (by omega) rfl]
        rfl
      have c0 : wr.cell? ⟨w.heap.size, 0, none⟩ = some (.slice x.sp x.fs.length x.cap) := (cell_of_row _ _ _ _ _ _ hr).trans rfl
      have c1 : wr.cell? ⟨w.heap.size, 1, none⟩ = some (.slice y.sp y.fs.length y.cap) := (cell_of_row _ _ _ _ _ _ hr).trans rfl
      have c2 : wr.cell? ⟨w.heap.size, 2, none⟩ = some (.slice z.sp z.fs.length z.cap) := (cell_of_row _ _ _ _ _ _ hr).trans rfl
      have hrl := lt_of_row hr
      clear HOK
      gi_wp2
      refine ⟨trivial, (paths_any (n - 1) x y z _).mono ?_⟩
      rintro e W2 ⟨rfl, rfl⟩
      gi_wp2
      have hB3 : Below w.heap.size w (((wr.alloc (.cells #[.slice none 0 0] 22)).alloc (.cells #[.slice none 0 0] 29)).alloc (.cells (rowV3 x y z) 50)) := ((hB.alloc hB.size _).alloc (by have := hB.size; simp; omega) _).alloc (by have := hB.size; simp; omega) _
      have e1 : (((wr.alloc (.cells #[.slice none 0 0] 22)).alloc (.cells #[.slice none 0 0] 29)).alloc (.cells (rowV3 x y z) 50)).heap[wr.heap.size + 1 + 1]? = some (.cells (rowV3 x y z) 50 (0, 0)) := by
        have := heap_alloc_new ((wr.alloc (.cells #[.slice none 0 0] 22)).alloc (.cells #[.slice none 0 0] 29)) (.cells (rowV3 x y z) 50)
        simp only [World.size_alloc] at this
        exact this
      have e2 : Boxed (((wr.alloc (.cells #[.slice none 0 0] 22)).alloc (.cells #[.slice none 0 0] 29)).alloc (.cells (rowV3 x y z) 50)) (wr.heap.size + 1) 29 (.slice none 0 0) := by
        have := Boxed.new (wr.alloc (.cells #[.slice none 0 0] 22)) 29 (.slice none 0 0)
        rw [World.size_alloc] at this
        exact this.alloc _
      have e3 : Boxed (((wr.alloc (.cells #[.slice none 0 0] 22)).alloc (.cells #[.slice none 0 0] 29)).alloc (.cells (rowV3 x y z) 50)) wr.heap.size 22 (.slice none 0 0) := ((Boxed.new wr 22 (.slice none 0 0)).alloc _).alloc _
      have hN : len3 x.fs y.fs z.fs ≤ 48 := by
        have h3 : right3 x.fs y.fs z.fs = true := HR3.out
        unfold right3 repoB at h3
        simp only [Bool.and_eq_true, decide_eq_true_eq] at h3
        unfold len3
        omega
      have hwl := hB.size
      refine range_goes rfl h1 (gf := 30) (lb := #[.pointer (some ⟨wr.heap.size + 1 + 1, 0, none⟩)]) rfl trivial (enters_of Try.func30 (by kernel_rfl) rfl)
        (paths_gives (n - 1) (by omega) (wr.heap.size + 1 + 1) x y z w HX.out.1 HY.out.1 HZ.out.1) e1 (fun _ A B row hs hg hr => ?_) hB3 (fun _ => rfl)
        (JI w wr.heap.size (wr.heap.size + 1)) (JI.own (by simp; omega)) (JI.stays (by simp; omega)) (fun pre W h => h.2) ⟨⟨_, _, e3, e2, ownF_nil _ _, ownC_nil _ _⟩, hB3⟩
        (fun p a' W => ∃ g, a' = { tmps := #[.agg #[.slice x.sp x.fs.length x.cap, .slice y.sp y.fs.length y.cap, .slice z.sp z.fs.length z.cap], .pointer (some ⟨w.heap.size, 0, none⟩), u2, u3, u4, undef, u6, u7, .pointer (some ⟨wr.heap.size, 0, none⟩), .pointer (some ⟨wr.heap.size + 1, 0, none⟩), .string p.1, .pointer (some ⟨g, 0, none⟩), undef, undef, .agg #[.slice x.sp x.fs.length x.cap, .slice y.sp y.fs.length y.cap, .slice z.sp z.fs.length z.cap], .int .i64 t, .bool false, u17, u18, u19, u20, u21, u22, u23, .agg #[.slice x.sp x.fs.length x.cap, .slice y.sp y.fs.length y.cap, .slice z.sp z.fs.length z.cap], .func (.func 30) #[] #[.pointer (some ⟨wr.heap.size + 1 + 1, 0, none⟩)], .string p.1, .agg #[.string p.2.b.value, .bool p.2.b.there, .string p.2.o.value, .bool p.2.o.there, .string p.2.t.value, .bool p.2.t.there], undef, undef, undef, undef, undef, undef, undef, undef, undef, undef, undef, undef, undef, undef, undef, undef, undef, undef, undef, undef, undef, undef, undef, undef], defers := [] } ∧ W.heap[g]? = some (.cells p.2.cells 68 (0, 0)))
        (fun p a' _ A B row hs hg hr => ?_) ?assign ?body ?done
      · refine (hg.block _ (lt_of_row hs) fun e => ?_).trans hs
        obtain ⟨-, o, ho, hc⟩ := hr _ e.symm
        rw [hs] at ho
        injection ho with ho
        subst ho
        cases hc
      · obtain ⟨g, e, hs⟩ := hs
        refine ⟨g, e, (hg.block _ (lt_of_row hs) fun e => ?_).trans hs⟩
        obtain ⟨-, o, ho, hc⟩ := hr _ e.symm
        rw [hs] at ho
        injection ho with ho
        subst ho
        cases hc
      case assign =>
        intro l pre p W K hI hK
        unfold St3.cells
        gi_wp2
        exact hK _ _ (KeepsOthers.alloc _ _) (KeepsT.grown (World.grownBy_alloc _ _ none) (fun r e => by cases e)) ((JI.own (Nat.le_refl _)).alloc _ hI) ⟨_, rfl, heap_alloc_new _ _⟩
      case body =>
        rintro l pre p a' W ⟨⟨vf, vc, hf, hc, hof, hoc⟩, hb⟩ ⟨g, rfl, hg⟩ hlen
        have hd1 : 1 ≤ n - 1 - 1 := by omega
        have cs : ∀ j u, p.2.cells[j]? = some u → W.cell? ⟨g, j, none⟩ = some u := fun j u hu => (cell_of_row _ _ _ _ _ _ hg).trans hu
        have k0 : W.cell? ⟨g, 0, none⟩ = some (.string p.2.b.value) := cs 0 _ rfl
        have k1 : W.cell? ⟨g, 1, none⟩ = some (.bool p.2.b.there) := cs 1 _ rfl
        have k2 : W.cell? ⟨g, 2, none⟩ = some (.string p.2.o.value) := cs 2 _ rfl
        have k3 : W.cell? ⟨g, 3, none⟩ = some (.bool p.2.o.there) := cs 3 _ rfl
        have k4 : W.cell? ⟨g, 4, none⟩ = some (.string p.2.t.value) := cs 4 _ rfl
        have k5 : W.cell? ⟨g, 5, none⟩ = some (.bool p.2.t.there) := cs 5 _ rfl
        have HOF : Hid (OwnF w.heap.size W vf (joinF pre)) := hof
        have HOC : Hid (OwnC w.heap.size W vc (joinC pre)) := hoc
        clear cs hof hoc
        gi_wp2
        refine ⟨trivial, (CallsIn.inRound l (callsIn_wide.2 (merged_any p.2 W))).mono ?_⟩
        rintro e W1 ⟨he, hB1⟩
        have HFO : Hid (fileOf p = if (mergedR p.2).2 then (if (mergedR p.2).1.there then [⟨p.1, (mergedR p.2).1.value⟩] else []) else []) := rfl
        have HCO : Hid (clashOf p = if (mergedR p.2).2 then [] else [⟨p.1, p.2⟩]) := rfl
        generalize mergedR p.2 = r at he HFO HCO
        obtain ⟨⟨mv, mt⟩, ok⟩ := r
        dsimp only [May.cells] at he HFO HCO
        subst he
        -- what is known of the world behind the text's variable
        have fx : Hid (∀ W2, Below W1.heap.size W1 W2 → KeepsOthers W W2 ∧ KeepsT W W2 ∧ Boxed W2 wr.heap.size 22 vf ∧ Boxed W2 (wr.heap.size + 1) 29 vc ∧ OwnF w.heap.size W2 vf (joinF pre) ∧ OwnC w.heap.size W2 vc (joinC pre) ∧ Below w.heap.size w W2 ∧ W2.heap[g]? = some (.cells p.2.cells 68 (0, 0))) := fun W2 h2 => by
          have h12 : Below W.heap.size W W2 := hB1.trans (h2.mono hB1.size)
          exact ⟨KeepsOthers.of_grownBy (grown_of h12) (fun j o e => by cases e), KeepsT.grown (grown_of h12) (fun r e => by cases e), hf.kept (grown_of h12) (by simp), hc.kept (grown_of h12) (by simp), HOF.out.below h12, HOC.out.below h12, hb.trans (h12.mono hb.size), (h12.block _ (lt_of_row hg)).trans hg⟩
        clear hB1 hf hc HOF HOC hb hg k0 k1 k2 k3 k4 k5
        cases ok with
        | true =>
          have HFO1 : Hid (fileOf p = if mt then [⟨p.1, mv⟩] else []) := HFO.out
          have HCO1 : Hid (clashOf p = []) := HCO.out
          clear HFO HCO
          cases mt with
          | false =>
            have HFO2 : Hid (fileOf p = []) := HFO1.out
            gi_wp2
            obtain ⟨ko, kt, hf, hc, hof, hoc, hb, -⟩ := fx.out _ ((Below.refl _ W1).alloc (Nat.le_refl _) _)
            exact ⟨ko, kt, ⟨vf, vc, hf, hc, by rw [joinF_one, HFO2.out, List.append_nil]; exact hof, by rw [joinC_one, HCO1.out, List.append_nil]; exact hoc⟩, hb⟩
          | true =>
            have HFO2 : Hid (fileOf p = [⟨p.1, mv⟩]) := HFO1.out
            obtain ⟨ko, kt, hf, hc, hof, hoc, hb, -⟩ := fx.out _ ((Below.refl _ W1).alloc (Nat.le_refl _) (.cells #[.string mv, .bool true] 67))
            have hfc := hf.cell
            have hfl := hf.lt
            have hpl := joinF_len pre
            obtain ⟨sp9, k9, cap9, W9, hr9, hc9, hf9, ko9, kt9, hj9⟩ := Kept.file ⟨ko, kt, hf, hc, hof, hoc, hb⟩ p mv 22 (by have := hB.size; omega) (by omega) HFO2.out HCO1.out
            clear ko kt hf hc hof hoc hb
            rw [World.size_alloc] at hr9
            gi_wp2_with (refine listIn_append (by rfl) (.tmp 43) (.tmp 48) 22 (by rfl) (by rfl) (by rfl) hr9 ?_)
        | false =>
          have HFO2 : Hid (fileOf p = []) := HFO.out
          have HCO2 : Hid (clashOf p = [⟨p.1, p.2⟩]) := HCO.out
          clear HFO HCO
          gi_wp2
          obtain ⟨ko, kt, hf, hc, hof, hoc, hb, hg⟩ := fx.out _ ((Below.refl _ W1).alloc (Nat.le_refl _) (.cells #[.string mv, .bool mt] 67))
          generalize W1.alloc (.cells #[.string mv, .bool mt] 67) = W2 at ko kt hf hc hof hoc hb hg ⊢
          have hcc := hc.cell
          have hcf := hc.frozen
          have cs : ∀ j u, p.2.cells[j]? = some u → W2.cell? ⟨g, j, none⟩ = some u := fun j u hu => (cell_of_row _ _ _ _ _ _ hg).trans hu
          have k0 : W2.cell? ⟨g, 0, none⟩ = some (.string p.2.b.value) := cs 0 _ rfl
          have k1 : W2.cell? ⟨g, 1, none⟩ = some (.bool p.2.b.there) := cs 1 _ rfl
          have k2 : W2.cell? ⟨g, 2, none⟩ = some (.string p.2.o.value) := cs 2 _ rfl
          have k3 : W2.cell? ⟨g, 3, none⟩ = some (.bool p.2.o.there) := cs 3 _ rfl
          have k4 : W2.cell? ⟨g, 4, none⟩ = some (.string p.2.t.value) := cs 4 _ rfl
          have k5 : W2.cell? ⟨g, 5, none⟩ = some (.bool p.2.t.there) := cs 5 _ rfl
          have hmx : Try.prog.follows .mixedOrders = true := by kernel_rfl
          have hfw : Fence.wide.fn 20 := trivial
          have hpl := joinC_len pre
          have fin : Hid (∀ W5, Below W2.heap.size W2 W5 → ∃ sp k cap W', (Builtin.append_ #[29, 29] 29 #[vc, .slice (some ⟨W5.heap.size, 0, none⟩) 1 1]).run Try.prog (W5.alloc (.cells (Cl.cells ⟨p.1, p.2⟩) 44)) = .ok (.slice sp k cap) W' ∧ W'.cell? ⟨wr.heap.size + 1, 0, none⟩ = some vc ∧ W'.frozen? ⟨wr.heap.size + 1, 0, none⟩ = false ∧
              KeepsOthers W (W'.setCell ⟨wr.heap.size + 1, 0, none⟩ (.slice sp k cap)) ∧ KeepsT W (W'.setCell ⟨wr.heap.size + 1, 0, none⟩ (.slice sp k cap)) ∧ JI w wr.heap.size (wr.heap.size + 1) (pre ++ [p]) (W'.setCell ⟨wr.heap.size + 1, 0, none⟩ (.slice sp k cap))) := fun W5 h5 =>
            Kept.clash (Kept.below ⟨ko, kt, hf, hc, hof, hoc, hb⟩ h5) p 29 (by have := hB.size; omega) (by omega) HFO2.out HCO2.out
          have hcl := hc.lt
          clear cs hof hoc ko kt hf hc hb hg
          refine wpIn_region_any hmx ?_
          change wpAnyIn _ _ _ _ _ _ _ _ _ (World.drew _)
          refine wpAnyIn_ready (rs := [0, 1, 2]) (by kernel_rfl) (by simp) ?_
          refine AllReadyIn.cons rfl (fun K hK => ?_) ?_
          · go_simp
            refine hK _ _ ?_
            clear hK K
            refine wpAnyIn_ready (rs := [1, 2]) (by kernel_rfl) (by simp) ?_
            refine AllReadyIn.cons rfl (fun K hK => ?_) ?_
            · go_simp
              refine hK _ _ ?_
              clear hK K
              refine wpAnyIn_ready (rs := [2]) (by kernel_rfl) (by simp) ?_
              refine AllReadyIn.cons rfl (fun K hK => ?_) ?_
              · go_simp
                refine hK _ _ ?_
                clear hK K
                refine wpAnyIn_ready (rs := [3]) (by kernel_rfl) (by simp) ?_
                refine AllReadyIn.cons rfl (fun K hK => ?_) ?_
                · go_simp
                  gi_wp2_with (gi_at_call 20; refine (CallsIn.inRound l (callsIn_wide.2 (clash_any p.1 p.2 _))).mono ?_; rintro e W5 ⟨he, hB5⟩; dsimp only [Cl.cells] at he; subst he; have hB5' : Below W2.heap.size W2 W5 := Below.trans (below_drawn' _ 1) hB5; obtain ⟨sp9, k9, cap9, W9, hr9, hc9, hf9, ko9, kt9, hj9⟩ := fin.out W5 hB5'; have hcc5 : W5.cell? ⟨wr.heap.size + 1, 0, none⟩ = some vc := (hB5'.cell (p := ⟨wr.heap.size + 1, 0, none⟩) hcl).trans hcc; have hcl5 : wr.heap.size + 1 < W5.heap.size := Nat.lt_of_lt_of_le hcl hB5'.size)
                  refine wpAnyIn_ready (rs := [4]) (by kernel_rfl) (by simp) ?_
                  refine AllReadyIn.cons rfl (fun K hK => ?_) ?_
                  · go_simp
                    refine hK _ _ ?_
                    clear hK K
                    refine wpAnyIn_ready (rs := [5]) (by kernel_rfl) (by simp) ?_
                    refine AllReadyIn.cons rfl (fun K hK => ?_) ?_
                    · refine anyIn_append (by rfl) (.tmp 35) (.tmp 39) 29 (by rfl) (by rfl) (by rfl) hr9 ?_
                      refine hK _ _ ?_
                      clear hK K
                      refine wpAnyIn_ready (rs := [6]) (by kernel_rfl) (by simp) ?_
                      refine AllReadyIn.cons rfl (fun K hK => ?_) ?_
                      · go_simp
                        refine hK _ _ ?_
                        clear hK K
                        refine wpAnyIn_done (by kernel_rfl) ?_ _
                        exact ⟨rfl, ko9, kt9, hj9⟩
                      exact AllReadyIn.nil
                    exact AllReadyIn.nil
                  exact AllReadyIn.nil
                exact AllReadyIn.nil
              exact AllReadyIn.nil
            refine AllReadyIn.cons rfl (fun K hK => ?_) ?_
            · go_simp
              refine hK _ _ ?_
              clear hK K
              refine wpAnyIn_ready (rs := [1]) (by kernel_rfl) (by simp) ?_
              refine AllReadyIn.cons rfl (fun K hK => ?_) ?_
              · go_simp
                refine hK _ _ ?_
                clear hK K
                refine wpAnyIn_ready (rs := [3]) (by kernel_rfl) (by simp) ?_
                refine AllReadyIn.cons rfl (fun K hK => ?_) ?_
                · go_simp
                  gi_wp2_with (gi_at_call 20; refine (CallsIn.inRound l (callsIn_wide.2 (clash_any p.1 p.2 _))).mono ?_; rintro e W5 ⟨he, hB5⟩; dsimp only [Cl.cells] at he; subst he; have hB5' : Below W2.heap.size W2 W5 := Below.trans (below_drawn' _ 1) hB5; obtain ⟨sp9, k9, cap9, W9, hr9, hc9, hf9, ko9, kt9, hj9⟩ := fin.out W5 hB5'; have hcc5 : W5.cell? ⟨wr.heap.size + 1, 0, none⟩ = some vc := (hB5'.cell (p := ⟨wr.heap.size + 1, 0, none⟩) hcl).trans hcc; have hcl5 : wr.heap.size + 1 < W5.heap.size := Nat.lt_of_lt_of_le hcl hB5'.size)
                  refine wpAnyIn_ready (rs := [4]) (by kernel_rfl) (by simp) ?_
                  refine AllReadyIn.cons rfl (fun K hK => ?_) ?_
                  · go_simp
                    refine hK _ _ ?_
                    clear hK K
                    refine wpAnyIn_ready (rs := [5]) (by kernel_rfl) (by simp) ?_
                    refine AllReadyIn.cons rfl (fun K hK => ?_) ?_
                    · refine anyIn_append (by rfl) (.tmp 35) (.tmp 39) 29 (by rfl) (by rfl) (by rfl) hr9 ?_
                      refine hK _ _ ?_
                      clear hK K
                      refine wpAnyIn_ready (rs := [6]) (by kernel_rfl) (by simp) ?_
                      refine AllReadyIn.cons rfl (fun K hK => ?_) ?_
                      · go_simp
                        refine hK _ _ ?_
                        clear hK K
                        refine wpAnyIn_done (by kernel_rfl) ?_ _
                        exact ⟨rfl, ko9, kt9, hj9⟩
                      exact AllReadyIn.nil
                    exact AllReadyIn.nil
                  exact AllReadyIn.nil
                exact AllReadyIn.nil
              exact AllReadyIn.nil
            exact AllReadyIn.nil
          refine AllReadyIn.cons rfl (fun K hK => ?_) ?_
          · go_simp
            refine hK _ _ ?_
            clear hK K
            refine wpAnyIn_ready (rs := [0, 2]) (by kernel_rfl) (by simp) ?_
            refine AllReadyIn.cons rfl (fun K hK => ?_) ?_
            · go_simp
              refine hK _ _ ?_
              clear hK K
              refine wpAnyIn_ready (rs := [2]) (by kernel_rfl) (by simp) ?_
              refine AllReadyIn.cons rfl (fun K hK => ?_) ?_
              · go_simp
                refine hK _ _ ?_
                clear hK K
                refine wpAnyIn_ready (rs := [3]) (by kernel_rfl) (by simp) ?_
                refine AllReadyIn.cons rfl (fun K hK => ?_) ?_
                · go_simp
                  gi_wp2_with (gi_at_call 20; refine (CallsIn.inRound l (callsIn_wide.2 (clash_any p.1 p.2 _))).mono ?_; rintro e W5 ⟨he, hB5⟩; dsimp only [Cl.cells] at he; subst he; have hB5' : Below W2.heap.size W2 W5 := Below.trans (below_drawn' _ 1) hB5; obtain ⟨sp9, k9, cap9, W9, hr9, hc9, hf9, ko9, kt9, hj9⟩ := fin.out W5 hB5'; have hcc5 : W5.cell? ⟨wr.heap.size + 1, 0, none⟩ = some vc := (hB5'.cell (p := ⟨wr.heap.size + 1, 0, none⟩) hcl).trans hcc; have hcl5 : wr.heap.size + 1 < W5.heap.size := Nat.lt_of_lt_of_le hcl hB5'.size)
                  refine wpAnyIn_ready (rs := [4]) (by kernel_rfl) (by simp) ?_
                  refine AllReadyIn.cons rfl (fun K hK => ?_) ?_
                  · go_simp
                    refine hK _ _ ?_
                    clear hK K
                    refine wpAnyIn_ready (rs := [5]) (by kernel_rfl) (by simp) ?_
                    refine AllReadyIn.cons rfl (fun K hK => ?_) ?_
                    · refine anyIn_append (by rfl) (.tmp 35) (.tmp 39) 29 (by rfl) (by rfl) (by rfl) hr9 ?_
                      refine hK _ _ ?_
                      clear hK K
                      refine wpAnyIn_ready (rs := [6]) (by kernel_rfl) (by simp) ?_
                      refine AllReadyIn.cons rfl (fun K hK => ?_) ?_
                      · go_simp
                        refine hK _ _ ?_
                        clear hK K
                        refine wpAnyIn_done (by kernel_rfl) ?_ _
                        exact ⟨rfl, ko9, kt9, hj9⟩
                      exact AllReadyIn.nil
                    exact AllReadyIn.nil
                  exact AllReadyIn.nil
                exact AllReadyIn.nil
              exact AllReadyIn.nil
            refine AllReadyIn.cons rfl (fun K hK => ?_) ?_
            · go_simp
              refine hK _ _ ?_
              clear hK K
              refine wpAnyIn_ready (rs := [0, 3]) (by kernel_rfl) (by simp) ?_
              refine AllReadyIn.cons rfl (fun K hK => ?_) ?_
              · go_simp
                refine hK _ _ ?_
                clear hK K
                refine wpAnyIn_ready (rs := [3]) (by kernel_rfl) (by simp) ?_
                refine AllReadyIn.cons rfl (fun K hK => ?_) ?_
                · go_simp
                  gi_wp2_with (gi_at_call 20; refine (CallsIn.inRound l (callsIn_wide.2 (clash_any p.1 p.2 _))).mono ?_; rintro e W5 ⟨he, hB5⟩; dsimp only [Cl.cells] at he; subst he; have hB5' : Below W2.heap.size W2 W5 := Below.trans (below_drawn' _ 1) hB5; obtain ⟨sp9, k9, cap9, W9, hr9, hc9, hf9, ko9, kt9, hj9⟩ := fin.out W5 hB5'; have hcc5 : W5.cell? ⟨wr.heap.size + 1, 0, none⟩ = some vc := (hB5'.cell (p := ⟨wr.heap.size + 1, 0, none⟩) hcl).trans hcc; have hcl5 : wr.heap.size + 1 < W5.heap.size := Nat.lt_of_lt_of_le hcl hB5'.size)
                  refine wpAnyIn_ready (rs := [4]) (by kernel_rfl) (by simp) ?_
                  refine AllReadyIn.cons rfl (fun K hK => ?_) ?_
                  · go_simp
                    refine hK _ _ ?_
                    clear hK K
                    refine wpAnyIn_ready (rs := [5]) (by kernel_rfl) (by simp) ?_
                    refine AllReadyIn.cons rfl (fun K hK => ?_) ?_
                    · refine anyIn_append (by rfl) (.tmp 35) (.tmp 39) 29 (by rfl) (by rfl) (by rfl) hr9 ?_
                      refine hK _ _ ?_
                      clear hK K
                      refine wpAnyIn_ready (rs := [6]) (by kernel_rfl) (by simp) ?_
                      refine AllReadyIn.cons rfl (fun K hK => ?_) ?_
                      · go_simp
                        refine hK _ _ ?_
                        clear hK K
                        refine wpAnyIn_done (by kernel_rfl) ?_ _
                        exact ⟨rfl, ko9, kt9, hj9⟩
                      exact AllReadyIn.nil
                    exact AllReadyIn.nil
                  exact AllReadyIn.nil
                exact AllReadyIn.nil
              refine AllReadyIn.cons rfl (fun K hK => ?_) ?_
              · go_simp
                gi_wp2_with (gi_at_call 20; refine (CallsIn.inRound l (callsIn_wide.2 (clash_any p.1 p.2 _))).mono ?_; rintro e W5 ⟨he, hB5⟩; dsimp only [Cl.cells] at he; subst he; have hB5' : Below W2.heap.size W2 W5 := Below.trans (below_drawn' _ 1) hB5; obtain ⟨sp9, k9, cap9, W9, hr9, hc9, hf9, ko9, kt9, hj9⟩ := fin.out W5 hB5'; have hcc5 : W5.cell? ⟨wr.heap.size + 1, 0, none⟩ = some vc := (hB5'.cell (p := ⟨wr.heap.size + 1, 0, none⟩) hcl).trans hcc; have hcl5 : wr.heap.size + 1 < W5.heap.size := Nat.lt_of_lt_of_le hcl hB5'.size)
                refine wpAnyIn_ready (rs := [0, 4]) (by kernel_rfl) (by simp) ?_
                refine AllReadyIn.cons rfl (fun K hK => ?_) ?_
                · go_simp
                  refine hK _ _ ?_
                  clear hK K
                  refine wpAnyIn_ready (rs := [4]) (by kernel_rfl) (by simp) ?_
                  refine AllReadyIn.cons rfl (fun K hK => ?_) ?_
                  · go_simp
                    refine hK _ _ ?_
                    clear hK K
                    refine wpAnyIn_ready (rs := [5]) (by kernel_rfl) (by simp) ?_
                    refine AllReadyIn.cons rfl (fun K hK => ?_) ?_
                    · refine anyIn_append (by rfl) (.tmp 35) (.tmp 39) 29 (by rfl) (by rfl) (by rfl) hr9 ?_
                      refine hK _ _ ?_
                      clear hK K
                      refine wpAnyIn_ready (rs := [6]) (by kernel_rfl) (by simp) ?_
                      refine AllReadyIn.cons rfl (fun K hK => ?_) ?_
                      · go_simp
                        refine hK _ _ ?_
                        clear hK K
                        refine wpAnyIn_done (by kernel_rfl) ?_ _
                        exact ⟨rfl, ko9, kt9, hj9⟩
                      exact AllReadyIn.nil
                    exact AllReadyIn.nil
                  exact AllReadyIn.nil
                refine AllReadyIn.cons rfl (fun K hK => ?_) ?_
                · go_simp
                  refine hK _ _ ?_
                  clear hK K
                  refine wpAnyIn_ready (rs := [0]) (by kernel_rfl) (by simp) ?_
                  refine AllReadyIn.cons rfl (fun K hK => ?_) ?_
                  · go_simp
                    refine hK _ _ ?_
                    clear hK K
                    refine wpAnyIn_ready (rs := [5]) (by kernel_rfl) (by simp) ?_
                    refine AllReadyIn.cons rfl (fun K hK => ?_) ?_
                    · refine anyIn_append (by rfl) (.tmp 35) (.tmp 39) 29 (by rfl) (by rfl) (by rfl) hr9 ?_
                      refine hK _ _ ?_
                      clear hK K
                      refine wpAnyIn_ready (rs := [6]) (by kernel_rfl) (by simp) ?_
                      refine AllReadyIn.cons rfl (fun K hK => ?_) ?_
                      · go_simp
                        refine hK _ _ ?_
                        clear hK K
                        refine wpAnyIn_done (by kernel_rfl) ?_ _
                        exact ⟨rfl, ko9, kt9, hj9⟩
                      exact AllReadyIn.nil
                    exact AllReadyIn.nil
                  exact AllReadyIn.nil
                exact AllReadyIn.nil
              exact AllReadyIn.nil
            exact AllReadyIn.nil
          refine AllReadyIn.cons rfl (fun K hK => ?_) ?_
          · go_simp
            refine hK _ _ ?_
            clear hK K
            refine wpAnyIn_ready (rs := [0, 1]) (by kernel_rfl) (by simp) ?_
            refine AllReadyIn.cons rfl (fun K hK => ?_) ?_
            · go_simp
              refine hK _ _ ?_
              clear hK K
              refine wpAnyIn_ready (rs := [1]) (by kernel_rfl) (by simp) ?_
              refine AllReadyIn.cons rfl (fun K hK => ?_) ?_
              · go_simp
                refine hK _ _ ?_
                clear hK K
                refine wpAnyIn_ready (rs := [3]) (by kernel_rfl) (by simp) ?_
                refine AllReadyIn.cons rfl (fun K hK => ?_) ?_
                · go_simp
                  gi_wp2_with (gi_at_call 20; refine (CallsIn.inRound l (callsIn_wide.2 (clash_any p.1 p.2 _))).mono ?_; rintro e W5 ⟨he, hB5⟩; dsimp only [Cl.cells] at he; subst he; have hB5' : Below W2.heap.size W2 W5 := Below.trans (below_drawn' _ 1) hB5; obtain ⟨sp9, k9, cap9, W9, hr9, hc9, hf9, ko9, kt9, hj9⟩ := fin.out W5 hB5'; have hcc5 : W5.cell? ⟨wr.heap.size + 1, 0, none⟩ = some vc := (hB5'.cell (p := ⟨wr.heap.size + 1, 0, none⟩) hcl).trans hcc; have hcl5 : wr.heap.size + 1 < W5.heap.size := Nat.lt_of_lt_of_le hcl hB5'.size)
                  refine wpAnyIn_ready (rs := [4]) (by kernel_rfl) (by simp) ?_
                  refine AllReadyIn.cons rfl (fun K hK => ?_) ?_
                  · go_simp
                    refine hK _ _ ?_
                    clear hK K
                    refine wpAnyIn_ready (rs := [5]) (by kernel_rfl) (by simp) ?_
                    refine AllReadyIn.cons rfl (fun K hK => ?_) ?_
                    · refine anyIn_append (by rfl) (.tmp 35) (.tmp 39) 29 (by rfl) (by rfl) (by rfl) hr9 ?_
                      refine hK _ _ ?_
                      clear hK K
                      refine wpAnyIn_ready (rs := [6]) (by kernel_rfl) (by simp) ?_
                      refine AllReadyIn.cons rfl (fun K hK => ?_) ?_
                      · go_simp
                        refine hK _ _ ?_
                        clear hK K
                        refine wpAnyIn_done (by kernel_rfl) ?_ _
                        exact ⟨rfl, ko9, kt9, hj9⟩
                      exact AllReadyIn.nil
                    exact AllReadyIn.nil
                  exact AllReadyIn.nil
                exact AllReadyIn.nil
              exact AllReadyIn.nil
            refine AllReadyIn.cons rfl (fun K hK => ?_) ?_
            · go_simp
              refine hK _ _ ?_
              clear hK K
              refine wpAnyIn_ready (rs := [0, 3]) (by kernel_rfl) (by simp) ?_
              refine AllReadyIn.cons rfl (fun K hK => ?_) ?_
              · go_simp
                refine hK _ _ ?_
                clear hK K
                refine wpAnyIn_ready (rs := [3]) (by kernel_rfl) (by simp) ?_
                refine AllReadyIn.cons rfl (fun K hK => ?_) ?_
                · go_simp
                  gi_wp2_with (gi_at_call 20; refine (CallsIn.inRound l (callsIn_wide.2 (clash_any p.1 p.2 _))).mono ?_; rintro e W5 ⟨he, hB5⟩; dsimp only [Cl.cells] at he; subst he; have hB5' : Below W2.heap.size W2 W5 := Below.trans (below_drawn' _ 1) hB5; obtain ⟨sp9, k9, cap9, W9, hr9, hc9, hf9, ko9, kt9, hj9⟩ := fin.out W5 hB5'; have hcc5 : W5.cell? ⟨wr.heap.size + 1, 0, none⟩ = some vc := (hB5'.cell (p := ⟨wr.heap.size + 1, 0, none⟩) hcl).trans hcc; have hcl5 : wr.heap.size + 1 < W5.heap.size := Nat.lt_of_lt_of_le hcl hB5'.size)
                  refine wpAnyIn_ready (rs := [4]) (by kernel_rfl) (by simp) ?_
                  refine AllReadyIn.cons rfl (fun K hK => ?_) ?_
                  · go_simp
                    refine hK _ _ ?_
                    clear hK K
                    refine wpAnyIn_ready (rs := [5]) (by kernel_rfl) (by simp) ?_
                    refine AllReadyIn.cons rfl (fun K hK => ?_) ?_
                    · refine anyIn_append (by rfl) (.tmp 35) (.tmp 39) 29 (by rfl) (by rfl) (by rfl) hr9 ?_
                      refine hK _ _ ?_
                      clear hK K
                      refine wpAnyIn_ready (rs := [6]) (by kernel_rfl) (by simp) ?_
                      refine AllReadyIn.cons rfl (fun K hK => ?_) ?_
                      · go_simp
                        refine hK _ _ ?_
                        clear hK K
                        refine wpAnyIn_done (by kernel_rfl) ?_ _
                        exact ⟨rfl, ko9, kt9, hj9⟩
                      exact AllReadyIn.nil
                    exact AllReadyIn.nil
                  exact AllReadyIn.nil
                exact AllReadyIn.nil
              refine AllReadyIn.cons rfl (fun K hK => ?_) ?_
              · go_simp
                gi_wp2_with (gi_at_call 20; refine (CallsIn.inRound l (callsIn_wide.2 (clash_any p.1 p.2 _))).mono ?_; rintro e W5 ⟨he, hB5⟩; dsimp only [Cl.cells] at he; subst he; have hB5' : Below W2.heap.size W2 W5 := Below.trans (below_drawn' _ 1) hB5; obtain ⟨sp9, k9, cap9, W9, hr9, hc9, hf9, ko9, kt9, hj9⟩ := fin.out W5 hB5'; have hcc5 : W5.cell? ⟨wr.heap.size + 1, 0, none⟩ = some vc := (hB5'.cell (p := ⟨wr.heap.size + 1, 0, none⟩) hcl).trans hcc; have hcl5 : wr.heap.size + 1 < W5.heap.size := Nat.lt_of_lt_of_le hcl hB5'.size)
                refine wpAnyIn_ready (rs := [0, 4]) (by kernel_rfl) (by simp) ?_
                refine AllReadyIn.cons rfl (fun K hK => ?_) ?_
                · go_simp
                  refine hK _ _ ?_
                  clear hK K
                  refine wpAnyIn_ready (rs := [4]) (by kernel_rfl) (by simp) ?_
                  refine AllReadyIn.cons rfl (fun K hK => ?_) ?_
                  · go_simp
                    refine hK _ _ ?_
                    clear hK K
                    refine wpAnyIn_ready (rs := [5]) (by kernel_rfl) (by simp) ?_
                    refine AllReadyIn.cons rfl (fun K hK => ?_) ?_
                    · refine anyIn_append (by rfl) (.tmp 35) (.tmp 39) 29 (by rfl) (by rfl) (by rfl) hr9 ?_
                      refine hK _ _ ?_
                      clear hK K
                      refine wpAnyIn_ready (rs := [6]) (by kernel_rfl) (by simp) ?_
                      refine AllReadyIn.cons rfl (fun K hK => ?_) ?_
                      · go_simp
                        refine hK _ _ ?_
                        clear hK K
                        refine wpAnyIn_done (by kernel_rfl) ?_ _
                        exact ⟨rfl, ko9, kt9, hj9⟩
                      exact AllReadyIn.nil
                    exact AllReadyIn.nil
                  exact AllReadyIn.nil
                refine AllReadyIn.cons rfl (fun K hK => ?_) ?_
                · go_simp
                  refine hK _ _ ?_
                  clear hK K
                  refine wpAnyIn_ready (rs := [0]) (by kernel_rfl) (by simp) ?_
                  refine AllReadyIn.cons rfl (fun K hK => ?_) ?_
                  · go_simp
                    refine hK _ _ ?_
                    clear hK K
                    refine wpAnyIn_ready (rs := [5]) (by kernel_rfl) (by simp) ?_
                    refine AllReadyIn.cons rfl (fun K hK => ?_) ?_
                    · refine anyIn_append (by rfl) (.tmp 35) (.tmp 39) 29 (by rfl) (by rfl) (by rfl) hr9 ?_
                      refine hK _ _ ?_
                      clear hK K
                      refine wpAnyIn_ready (rs := [6]) (by kernel_rfl) (by simp) ?_
                      refine AllReadyIn.cons rfl (fun K hK => ?_) ?_
                      · go_simp
                        refine hK _ _ ?_
                        clear hK K
                        refine wpAnyIn_done (by kernel_rfl) ?_ _
                        exact ⟨rfl, ko9, kt9, hj9⟩
                      exact AllReadyIn.nil
                    exact AllReadyIn.nil
                  exact AllReadyIn.nil
                exact AllReadyIn.nil
              exact AllReadyIn.nil
            exact AllReadyIn.nil
          exact AllReadyIn.nil
      case done =>
        rintro D ys W hD rfl ⟨⟨vf, vc, hf, hc, hof, hoc⟩, hb⟩ hK
        have hfc := hf.cell
        have hcc := hc.cell
        have HOF : Hid (OwnF w.heap.size W vf (joinF (pathsA x.fs y.fs z.fs))) := hof
        have HOC : Hid (OwnC w.heap.size W vc (joinC (pathsA x.fs y.fs z.fs))) := hoc
        clear hof hoc hf hc
        gi_wp2
        gi_region
        gi_wp2
        have hK' : W.drew.heap[D]? = some (.deferred (some [])) := hK
        have hcw : ∀ (k : Nat) cs t, W.heap[k]? = some (.cells cs t (0, 0)) → (W.drew.putObj D (.deferred none)).heap[k]? = W.heap[k]? := fun k cs t hk => by
          rw [World.putObj_heap_other (fun e => by rw [e, hK] at hk; cases hk)]
          rfl
        refine ⟨by simp, .inl ⟨_, _, rfl, run_takeDeferred hK', ?_⟩⟩
        refine ⟨.tuple #[vf, vc, .int .i64 0], results_three Try.results12 _ _ _ _ _ rfl rfl rfl, ?_, (hb.trans (below_drawn' W 1)).trans (belowK_b (w := w) (Nat.le_refl _) _ D _ _ (by simp at hD; omega) hK' rfl rfl)⟩
        rw [if_pos HR3.out]
        refine ⟨vf, vc, rfl, HOF.out.keep fun k hk => ?_, HOC.out.keep fun k hk => ?_⟩
        · obtain ⟨cs, hcs⟩ := HOF.out.row hk
          exact hcw k _ _ hcs
        · obtain ⟨cs, hcs⟩ := HOC.out.row hk
          exact hcw k _ _ hcs
theorem join_any (x y z : Sl) (w : World) (hx : SlS w x) (hy : SlS w y) (hz : SlS w z) : Calls Try.prog 12 #[.agg (rowV3 x y z)] w (JoinP w x y z) :=
  (callsIn_wide (n := 4)).1 (join_in 4 (Nat.le_refl _) x y z w hx hy hz)
end Go.Proofs.Ytmbnbehlfbdpnab
