/- The contract of the document's Cut. -/
/- The contract of the document's Name. -/
/- The contract of the document's Path. -/
/- The contract of the document's Right. -/
/- What the document's Right and tree's Check say is the same. -/
/- What stands at all paths of three repositories, by lists: what the program's walk through three rising lists tells is what the document tells path by path. -/
import Derived.Test.YtmbnbehlfbdpnaaTCut
import Derived.Test.YtmbnbehlfbdpnaaNameC
import Derived.Test.YtmbnbehlfbdpnaaTPth
import Derived.Test.YtmbnbehlfbdpnaaTChk
import Derived.Test.YtmbnbehlfbdpnaaMrgE
namespace Go.Proofs.Ytmbnbehlfbdpnaa
open Go.RowKit

theorem nameL_all : ∀ l : List UInt8, (∀ j : Nat, l[j]? ≠ some 47) → nameL l = l
  | [], _ => rfl
  | b :: l, h => by
    have hb : b ≠ 47 := fun e => h 0 (by simp [e])
    have := nameL_all l fun j => by have := h (j + 1); simpa using this
    simp only [nameL] at this ⊢
    rw [List.takeWhile_cons_of_pos (by simpa using hb), this]
theorem nameL_at : ∀ (l : List UInt8) (t : Nat), (∀ j : Nat, j < t → l[j]? ≠ some 47) → l[t]? = some 47 → nameL l = l.take t
  | [], t, _, h => by simp at h
  | b :: l, 0, _, h => by
    have : b = 47 := by simpa using h
    subst this
    simp [nameL]
  | b :: l, t + 1, h, ht => by
    have hb : b ≠ 47 := fun e => h 0 (by omega) (by simp [e])
    have := nameL_at l t (fun j hj => by have := h (j + 1) (by omega); simpa using this) (by simpa using ht)
    simp only [nameL] at this ⊢
    rw [List.takeWhile_cons_of_pos (by simpa using hb), this]
    rfl
/-- What Cut tells. -/
def CutP (s : ByteArray) (e : Ending) : Prop :=
  (nameL s.data.toList = s.data.toList ∧ e = .returned (.tuple #[.string s, .string ⟨#[]⟩, .bool false])) ∨
  ∃ i, i < s.size ∧ nameL s.data.toList = s.data.toList.take i ∧ e = .returned (.tuple #[.string (s.extract 0 i), .string (s.extract (i + 1) s.size), .bool true])
theorem ba_at {s : ByteArray} {t : Nat} (h : t < s.size) : s.data.toList[t]? = some (s[t]'h) := by
  rw [Array.getElem?_toList, Array.getElem?_eq_getElem (by simpa using h)]
  rfl

set_option maxRecDepth 100000 in
set_option maxHeartbeats 1000000 in
theorem r7cut_any (s : ByteArray) (w : World) (hs : s.size ≤ 100000000) : Calls Try.prog 50 #[.string s] w fun e w' => CutP s e ∧ ∃ n, w' = w.drewN n := by
  go_enter Try.func50, Try.ntmps50
  go_wp2
  go_loopw [5] (fun i wr => ∃ t : Nat, t ≤ s.size ∧ i = .int .i64 t ∧ wr = w ∧ ∀ j, j < t → s.data.toList[j]? ≠ some 47) (fun i _ => s.size - (intOf i).toNat)
  case atStart => exact ⟨0, Nat.zero_le _, rfl, rfl, fun j hj => by omega⟩
  case round =>
    obtain ⟨t, ht, rfl, rfl, hz⟩ := hrel
    have HZ : Hid _ := hz
    clear hz
    by_cases hlt : t < s.size
    · have hd : decide ((t : Int) < s.size) = true := by simp; omega
      have HA : Hid (s.data.toList[t]? = some (s[t]'hlt)) := ba_at hlt
      cases hb : (((s[t]'hlt).toNat : Int) == 47) with
      | false =>
        have HN : Hid (s.data.toList[t]? ≠ some 47) := fun h => by
          rw [HA.out] at h
          injection h with h
          rw [h] at hb
          exact absurd hb (by decide)
        go_wp2
        go_roundw
        case rel =>
          refine ⟨t + 1, by omega, by go_num, trivial, fun j hj => ?_⟩
          by_cases hjt : j < t
          · exact HZ.out j hjt
          · obtain rfl : j = t := by omega
            exact HN.out
        case measure => simp [intOf]; omega
      | true =>
        have HN : Hid (nameL s.data.toList = s.data.toList.take t) := nameL_at _ _ HZ.out (by
          rw [HA.out]
          have h1 : ((s[t]'hlt).toNat : Int) = 47 := by simpa using hb
          have h2 : (s[t]'hlt).toNat = 47 := by omega
          exact congrArg some (UInt8.toNat_inj.1 h2))
        have hi2 : (t : Int) + 1 ≤ s.size := by omega
        go_wp2
        go_region
        go_wp2
        refine bodyPost_ret (v := .tuple #[.string (s.extract 0 t), .string (s.extract (t + 1) s.size), .bool true]) (results_three Try.results50 _ _ _ _ _ rfl rfl rfl) rfl ⟨.inr ⟨t, hlt, HN.out, rfl⟩, 1, rfl⟩
    · have hd : decide ((t : Int) < s.size) = false := by simp; omega
      have HN : Hid (nameL s.data.toList = s.data.toList) := nameL_all _ fun j => by
        by_cases hj : j < t
        · exact HZ.out j hj
        · rw [List.getElem?_eq_none (by rw [Array.length_toList]; show s.size ≤ j; omega)]
          simp
      go_wp2
      refine bodyPost_ret (v := .tuple #[.string s, .string ⟨#[]⟩, .bool false]) (results_three Try.results50 _ _ _ _ _ rfl rfl rfl) rfl ⟨.inl ⟨HN.out, rfl⟩, 0, rfl⟩
end Go.Proofs.Ytmbnbehlfbdpnaa

namespace Go.Proofs.Ytmbnbehlfbdpnaa
open Go.RowKit

set_option maxRecDepth 100000 in
set_option maxHeartbeats 1000000 in
theorem rname_any (s : ByteArray) (w : World) (hs : s.size ≤ 100000000) : Calls Try.prog 51 #[.string s] w fun e w' => e = .returned (.bool (nameB s)) ∧ w' = w := by
  go_enter Try.func51, Try.ntmps51
  go_wp2
  go_loopw [3] (fun i wr => ∃ t : Nat, t ≤ s.size ∧ i = .int .i64 t ∧ wr = w ∧ ∀ j, j < t → ∃ h : j < s.size, plainB (s[j]'h).toNat = true) (fun i _ => s.size - (intOf i).toNat)
  case atStart => exact ⟨0, Nat.zero_le _, rfl, rfl, fun j hj => by omega⟩
  case round =>
    obtain ⟨t, ht, rfl, rfl, hz⟩ := hrel
    have HZ : Hid _ := hz
    clear hz
    by_cases hlt : t < s.size
    · have hx : ∃ x : Int, ((s[t]'hlt).toNat : Int) = x := ⟨_, rfl⟩
      obtain ⟨x, hx⟩ := hx
      cases hp : plainB x with
      | true =>
        have HP : Hid _ := hp
        have hnx : ∀ j, j < t + 1 → ∃ h : j < s.size, plainB (s[j]'h).toNat = true := fun j hj => by
          by_cases h : j < t
          · exact HZ.out j h
          · obtain rfl : j = t := by omega
            exact ⟨hlt, by rw [hx]; exact hp⟩
        have HNX : Hid _ := hnx
        clear hp hnx
        go_wp2
        all_goals first
          | (exact ⟨⟨t + 1, by omega, by simp, trivial, HNX.out⟩, by simp [intOf]; omega⟩)
          | (exfalso; have hp := HP.out; simp only [plainB, Bool.or_eq_true, Bool.and_eq_true, decide_eq_true_eq, beq_iff_eq] at hp; simp_all <;> omega)
      | false =>
        have hN : nameB s = false := by
          have := all_not hlt (by rw [hx]; exact hp)
          simp [nameB, this]
        have HP : Hid _ := hp
        have HN : Hid _ := hN
        clear hp hN
        go_wp2
        all_goals first
          | (go_ret; exact ⟨ret_bool HN.out.symm, rfl⟩)
          | (exfalso; have hp := HP.out; simp only [plainB, Bool.or_eq_false_iff, Bool.and_eq_false_iff, decide_eq_false_iff_not, beq_eq_false_iff_ne] at hp; simp_all <;> omega)
    · have hall : s.data.toList.all (fun c => plainB c.toNat) = true := all_to fun i hi => HZ.out i (by omega)
      have HA : Hid _ := hall
      clear hall
      have hN : nameB s = (decide (1 ≤ s.size) && (decide (s.size ≤ 24) && (!(s.toList == [46]) && !(s.toList == [46, 46])))) := by
        simp only [nameB, HA.out, Bool.true_and, Bool.and_assoc]
      have HN : Hid _ := hN
      have e1 : decide (1 ≤ (s.size : Int)) = decide (1 ≤ s.size) := decide_eq_decide.2 (by omega)
      have e2 : decide ((s.size : Int) ≤ 24) = decide (s.size ≤ 24) := decide_eq_decide.2 (by omega)
      clear hN
      cases h1 : decide (1 ≤ s.size) <;> cases h2 : decide (s.size ≤ 24) <;> cases h3 : (s.toList == [46]) <;> cases h4 : (s.toList == [46, 46]) <;> (rw [h1] at e1; rw [h2] at e2; go_wp2; go_ret; refine ⟨ret_bool ?_, rfl⟩; rw [HN.out, h1, h2, h3, h4]; rfl)
end Go.Proofs.Ytmbnbehlfbdpnaa

namespace Go.Proofs.Ytmbnbehlfbdpnaa
open Go.RowKit

theorem ba_whole (p : ByteArray) : p.extract 0 p.size = p := by
  apply ByteArray.ext
  simp
theorem nm_all {p : ByteArray} {k : Nat} (h : nameL (p.extract k p.size).data.toList = (p.extract k p.size).data.toList) : nm p k = p.extract k p.size := by
  unfold nm
  rw [h]
theorem nm_at {p : ByteArray} {k i : Nat} (h : nameL (p.extract k p.size).data.toList = (p.extract k p.size).data.toList.take i) : nm p k = (p.extract k p.size).extract 0 i := by
  unfold nm
  rw [h]
  generalize p.extract k p.size = q
  apply ByteArray.ext
  apply Array.ext'
  simp
theorem rest_at {p : ByteArray} {k i : Nat} : (p.extract k p.size).extract (i + 1) (p.extract k p.size).size = p.extract (k + (i + 1)) p.size := by
  have hs : (p.extract k p.size).size = p.size - k := by simp
  rw [hs]
  apply ByteArray.ext
  simp only [ByteArray.data_extract]
  rw [Array.extract_extract]
  congr 1
  omega
theorem nN_gt {p : ByteArray} {t : Nat} (h : nst p t ≤ p.size) : t < nN p := by
  by_cases hn : t < nN p
  · exact hn
  · have h1 := nst_mono p (i := nN p) (j := t) (by omega)
    have h2 := nN_end p
    omega
theorem nN_is {p : ByteArray} {t : Nat} (h : nst p t ≤ p.size) (h2 : p.size < nst p (t + 1)) : nN p = t + 1 := by
  have h3 := nN_gt h
  by_cases hn : t + 1 < nN p
  · have := nN_in hn
    omega
  · omega
set_option maxRecDepth 100000 in
set_option maxHeartbeats 1000000 in
theorem r7path_any (p : ByteArray) (w : World) : Calls Try.prog 32 #[.string p] w fun e w' => e = .returned (.bool (pathB p)) ∧ ∃ n, w' = w.drewN n := by
  by_cases hlong : 64 < p.size
  · have hd : decide ((64 : Int) < p.size) = true := by simp; omega
    have hpb : pathB p = false := by unfold pathB; rw [show decide (p.size ≤ 64) = false by simp; omega]; rfl
    rw [hpb]
    go_enter Try.func32, Try.ntmps32
    go_wp2
    go_ret
    exact ⟨rfl, 0, rfl⟩
  · have hd : decide ((64 : Int) < p.size) = false := by simp; omega
    go_enter Try.func32, Try.ntmps32
    go_wp2
    go_loopw [0, 3] (fun q i wr => ∃ t n : Nat, t ≤ 4 ∧ i = .int .i64 t ∧ q = .string (p.extract (nst p t) p.size) ∧ wr = w.drewN n ∧ nst p t ≤ p.size ∧ ∀ x ∈ nTo p t, nameB x.2 = true) (fun _ i _ => 4 - (intOf i).toNat)
    case atStart => exact ⟨0, 0, by omega, rfl, by rw [show nst p 0 = 0 from rfl, ba_whole], rfl, Nat.zero_le _, fun x hx => by simp [nTo] at hx⟩
    case round =>
      obtain ⟨t, n, ht, rfl, rfl, rfl, hk, hz⟩ := hrel
      have HZ : Hid (∀ x ∈ nTo p t, nameB x.2 = true) := hz
      have HK : Hid (nst p t ≤ p.size) := hk
      clear hz hk
      by_cases hlt : t < 4
      · have hd4 : decide ((t : Int) < 4) = true := by simp; omega
        have hqs : (p.extract (nst p t) p.size).size = p.size - nst p t := by simp
        have HRS : Hid (∀ i, i < (p.extract (nst p t) p.size).size → nameL (p.extract (nst p t) p.size).data.toList = (p.extract (nst p t) p.size).data.toList.take i → nm p (nst p t) = (p.extract (nst p t) p.size).extract 0 i ∧ (p.extract (nst p t) p.size).extract (i + 1) (p.extract (nst p t) p.size).size = p.extract (nst p (t + 1)) p.size ∧ nst p (t + 1) ≤ p.size) := fun i hi hn => by
          have h1 := nm_at hn
          have h2 : nst p (t + 1) = nst p t + (i + 1) := by
            show nst p t + ((nm p (nst p t)).size + 1) = _
            rw [h1]
            simp only [ByteArray.size_extract]
            rw [hqs] at hi
            omega
          refine ⟨h1, by rw [h2]; exact rest_at, ?_⟩
          rw [h2]
          have := HK.out
          rw [hqs] at hi
          omega
        have HAL : Hid (nameL (p.extract (nst p t) p.size).data.toList = (p.extract (nst p t) p.size).data.toList → nm p (nst p t) = p.extract (nst p t) p.size ∧ nN p = t + 1) := fun hn => by
          have h1 := nm_all hn
          refine ⟨h1, nN_is HK.out ?_⟩
          show p.size < nst p t + ((nm p (nst p t)).size + 1)
          rw [h1, hqs]
          have := HK.out
          omega
        have HBAD : Hid (nameB (nm p (nst p t)) = false → pathB p = false) := fun hb => by
          have : (nTo p (nN p)).all (fun x => nameB x.2) = false := by
            rw [List.all_eq_false]
            refine ⟨npr p t, ?_, by show ¬ (nameB (nm p (nst p t)) = true); rw [hb]; simp⟩
            unfold nTo
            exact List.mem_map.2 ⟨t, List.mem_range.2 (nN_gt HK.out), rfl⟩
          unfold pathB
          rw [this]
          simp
        have HNX : Hid (nameB (nm p (nst p t)) = true → ∀ x ∈ nTo p (t + 1), nameB x.2 = true) := fun hb x hx => by
          rw [nTo_succ, List.mem_append] at hx
          rcases hx with hx | hx
          · exact HZ.out x hx
          · obtain rfl : x = npr p t := by simpa using hx
            exact hb
        generalize p.extract (nst p t) p.size = q at *
        clear HZ HK
        go_wp2_with fail
        refine (r7cut_any q _ (by omega)).mono ?_
        rintro e W1 ⟨hc, m, rfl⟩
        rcases hc with ⟨hn, rfl⟩ | ⟨i, hi, hn, rfl⟩
        · obtain ⟨h1, h2⟩ := HAL.out hn
          rw [h1] at HBAD HNX
          clear HAL HRS hn h1
          go_wp2_with fail
          refine (rname_any q _ (by omega)).mono ?_
          rintro e W2 ⟨rfl, rfl⟩
          cases hb : nameB q with
          | false =>
            have HB : Hid (pathB p = false) := HBAD.out hb
            clear HBAD HNX hb
            go_wp2
            go_ret
            exact ⟨ret_bool HB.out.symm, n + m, rfl⟩
          | true =>
            have HB : Hid (pathB p = true) := by
              show pathB p = true
              have h3 := HNX.out hb
              unfold pathB
              rw [h2, List.all_eq_true.2 h3]
              simp
              omega
            clear HBAD HNX hb h2
            go_wp2
            go_ret
            exact ⟨ret_bool HB.out.symm, n + m, rfl⟩
        · obtain ⟨h1, h2, h3⟩ := HRS.out i hi hn
          rw [h1] at HBAD HNX
          rw [h2]
          have HH : Hid (nst p (t + 1) ≤ p.size) := h3
          have hq0 : (q.extract 0 i).size ≤ 64 := by simp only [ByteArray.size_extract]; omega
          generalize q.extract 0 i = r at HBAD HNX hq0 ⊢
          clear HAL HRS hn h1 h2 h3 hi
          go_wp2_with fail
          refine (rname_any r _ (by omega)).mono ?_
          rintro e W2 ⟨rfl, rfl⟩
          cases hb : nameB r with
          | false =>
            have HB : Hid (pathB p = false) := HBAD.out hb
            clear HBAD HNX hb
            go_wp2
            go_ret
            exact ⟨ret_bool HB.out.symm, n + m, rfl⟩
          | true =>
            have HB := HNX.out hb
            have HC : Hid _ := HB
            clear HBAD HNX hb HB
            go_wp2
            go_roundw
            case rel => exact ⟨t + 1, n + m, by omega, by go_num, rfl, rfl, HH.out, HC.out⟩
            case measure => simp [intOf]; omega
      · have hd4 : decide ((t : Int) < 4) = false := by simp; omega
        have HB : Hid (pathB p = false) := by
          show pathB p = false
          have := nN_gt HK.out
          unfold pathB
          rw [show decide (nN p ≤ 4) = false by simp; omega]
          simp
        go_wp2
        go_ret
        exact ⟨ret_bool HB.out.symm, n, rfl⟩
end Go.Proofs.Ytmbnbehlfbdpnaa

namespace Go.Proofs.Ytmbnbehlfbdpnaa
open Go.RowKit

/-- One path stands below another one. -/
def preB (p g : ByteArray) : Bool := decide (p.size < g.size) && ((g.extract 0 (p.size + 1)).toList == (p ++ ⟨#[47]⟩).toList)
def prevB (fs : List Fi) (t : Nat) (f : Fi) : Bool := match t with
  | 0 => true
  | k + 1 => Op.bytesLess ((fs.getD k ⟨⟨#[]⟩, ⟨#[]⟩⟩).path).toList f.path.toList
def rgtAt (fs : List Fi) (t : Nat) (f : Fi) : Bool := pathB f.path && (decide (f.text.size ≤ 4096) && (prevB fs t f && !(fs.any fun g => preB f.path g.path)))
def sumT (l : List Fi) : Nat := (l.map fun f => f.text.size).sum
def RightP (fs : List Fi) : Prop := fs.length ≤ 16 ∧ (∀ t f, fs[t]? = some f → rgtAt fs t f = true) ∧ sumT fs ≤ 16384
theorem sumT_take {fs : List Fi} {t : Nat} {f : Fi} (h : fs[t]? = some f) : sumT (fs.take (t + 1)) = sumT (fs.take t) + f.text.size := by
  unfold sumT
  rw [List.take_add_one, h]
  simp
set_option maxRecDepth 100000 in
set_option maxHeartbeats 4000000 in
theorem r7right_raw (sp : Option Addr) (cap : Nat) (fs : List Fi) (w : World) (hr : RowsAt w 2 Fi.cells sp fs) (hsm : FiS fs) :
    Calls Try.prog 18 #[.agg #[.slice sp fs.length cap]] w fun e w' => (∃ b, e = .returned (.bool b) ∧ (b = true ↔ RightP fs)) ∧ Below w.heap.size w w' := by
  have HR : Hid (RowsAt w 2 Fi.cells sp fs) := hr
  have HSM : Hid (FiS fs) := hsm
  have g0 := heap_alloc_new w (.cells #[.slice sp fs.length cap] 24)
  have b0 : Below w.heap.size w (w.alloc (.cells #[.slice sp fs.length cap] 24)) := (Below.refl _ _).alloc (Nat.le_refl _) _
  clear hr hsm
  by_cases hlong : 16 < fs.length
  · have hd : decide ((16 : Int) < fs.length) = true := by simp; omega
    have HN : Hid (¬ RightP fs) := fun h => by have := h.1; omega
    clear hlong g0
    go_enter Try.func18, Try.ntmps18
    go_wp2
    go_ret
    exact ⟨⟨false, rfl, ⟨fun h => by (cases h), fun h => absurd h HN.out⟩⟩, b0⟩
  have hd : decide ((16 : Int) < fs.length) = false := by simp; omega
  go_enter Try.func18, Try.ntmps18
  go_wp2
  generalize w.alloc (.cells #[.slice sp fs.length cap] 24) = W0 at g0 b0 ⊢
  have HW : Hid (∀ W, Below W0.heap.size W0 W → W.cell? ⟨w.heap.size, 0, none⟩ = some (.slice sp fs.length cap) ∧ RowsAt W 2 Fi.cells sp fs ∧ Below w.heap.size w W) := fun W h =>
    have hb := b0.trans (h.mono b0.size)
    ⟨(cell_of_row _ _ _ _ _ _ ((h.block _ (lt_of_row g0)).trans g0)).trans rfl, RowsAt.below HR.out hb, hb⟩
  clear g0 b0
  go_loopw [3, 4] (fun s i wr => ∃ t : Nat, t ≤ fs.length ∧ i = .int .i64 t ∧ s = .int .i64 (sumT (fs.take t)) ∧ sumT (fs.take t) ≤ t * 4096 ∧ Below W0.heap.size W0 wr ∧ ∀ j f, j < t → fs[j]? = some f → rgtAt fs j f = true) (fun _ i _ => fs.length - (intOf i).toNat)
  case atStart => exact ⟨0, Nat.zero_le _, rfl, rfl, by simp [sumT], Below.refl _ _, fun j f hj => by omega⟩
  case round =>
    obtain ⟨t, ht, rfl, rfl, hst, hB, hz⟩ := hrel
    have HZ : Hid (∀ j f, j < t → fs[j]? = some f → rgtAt fs j f = true) := hz
    clear hz
    obtain ⟨k0, hrw, hbw⟩ := HW.out wr hB
    by_cases hlt : t < fs.length
    · have hd2 : decide ((t : Int) < fs.length) = true := by simp; omega
      obtain ⟨b, off, rfl, -⟩ := hrw (by omega)
      obtain ⟨f, hf⟩ : ∃ f, fs[t]? = some f := ⟨_, List.getElem?_eq_getElem hlt⟩
      obtain ⟨c0, c1⟩ := fi_cell hrw hf
      have hfs := HSM.out f (List.mem_of_getElem? hf)
      have HSU : Hid (sumT (fs.take (t + 1)) = sumT (fs.take t) + f.text.size) := sumT_take hf
      have HF : Hid (fs[t]? = some f) := hf
      have HNO : Hid (rgtAt fs t f = false → ¬ RightP fs) := fun h hp => by have := hp.2.1 t f HF.out; rw [h] at this; cases this
      clear hf hrw
      generalize sumT (fs.take t) = sm at *
      go_wp2
      have hwr : Below wr.heap.size wr (wr.alloc (.cells #[.string f.path, .string f.text] 46)) := (Below.refl _ _).alloc (Nat.le_refl _) _
      have g2 := heap_alloc_new wr (.cells #[.string f.path, .string f.text] 46)
      have hB2 : Below W0.heap.size W0 (wr.alloc (.cells #[.string f.path, .string f.text] 46)) := hB.trans (hwr.mono hB.size)
      generalize wr.alloc (.cells #[.string f.path, .string f.text] 46) = W2 at hwr g2 hB2 ⊢
      obtain ⟨k0, hrw, hbw⟩ := HW.out W2 hB2
      have d0 : W2.cell? ⟨wr.heap.size, 0, none⟩ = some (.string f.path) := (cell_of_row _ _ _ _ _ _ g2).trans rfl
      have d1 : W2.cell? ⟨wr.heap.size, 1, none⟩ = some (.string f.text) := (cell_of_row _ _ _ _ _ _ g2).trans rfl
      have HRW : Hid (RowsAt W2 2 Fi.cells (some ⟨b, off, none⟩) fs) := hrw
      clear hrw g2 hwr
      have HFIN : Hid (∀ n, rgtAt fs t f = false → (∃ b, Ending.returned (.bool false) = .returned (.bool b) ∧ (b = true ↔ RightP fs)) ∧ Below w.heap.size w (W2.drewN n)) := fun n h => ⟨⟨false, rfl, ⟨fun h => by (cases h), fun h' => absurd h' (HNO.out h)⟩⟩, hbw.trans (below_drawn' _ _)⟩
      clear hbw hB
      cases hp : pathB f.path with
      | false =>
        have HF1 : Hid (rgtAt fs t f = false) := by show rgtAt fs t f = false; unfold rgtAt; rw [hp]; rfl
        go_quiet ((go_at_call 32; refine Calls.quiet_of (r7path_any _ _)))
        go_wp2
        go_ret
        exact HFIN.out nq HF1.out
      | true =>
        cases htx : decide ((4096 : Int) < f.text.size) with
        | true =>
          have HF1 : Hid (rgtAt fs t f = false) := by
            show rgtAt fs t f = false
            have : decide (f.text.size ≤ 4096) = false := by simp at htx ⊢; omega
            unfold rgtAt
            rw [hp, this]
            rfl
          go_quiet ((go_at_call 32; refine Calls.quiet_of (r7path_any _ _)))
          go_wp2
          go_ret
          exact HFIN.out nq HF1.out
        | false =>
          have htx2 : decide (f.text.size ≤ 4096) = true := by simp at htx ⊢; omega
          have htx3 : f.text.size ≤ 4096 := by simpa using htx2
          cases hpv : prevB fs t f with
          | false =>
            have HF1 : Hid (rgtAt fs t f = false) := by
              show rgtAt fs t f = false
              unfold rgtAt
              rw [hp, htx2, hpv]
              rfl
            have ht0 : 0 < t := by
              cases t with
              | zero => cases hpv
              | succ k => omega
            obtain ⟨pv, hpf⟩ : ∃ pv, fs[t - 1]? = some pv := ⟨_, List.getElem?_eq_getElem (by omega)⟩
            have hls : Op.bytesLess pv.path.toList f.path.toList = false := by
              cases t with
              | zero => omega
              | succ k =>
                have h1 : prevB fs (k + 1) f = Op.bytesLess ((fs.getD k ⟨⟨#[]⟩, ⟨#[]⟩⟩).path).toList f.path.toList := rfl
                rw [Nat.add_sub_cancel] at hpf
                rw [hpv, List.getD_eq_getElem?_getD, hpf] at h1
                exact h1.symm
            obtain ⟨e0, -⟩ := fi_cell HRW.out hpf
            have hd3 : decide ((0 : Int) < t) = true := by simp; omega
            clear hpf hpv
            go_quiet ((go_at_call 32; refine Calls.quiet_of (r7path_any _ _)))
            go_wp2
            go_ret
            exact HFIN.out nq HF1.out
          | true =>
            refine wp_mono (Q := fun e a' W' => e = .normal ∧ ∃ v24 v25 v26 v27 v28 v29 v30 v31 v32 v33 v34 v35 v36 v37 v38 v39 v40 v41 v42 v43 v44 v45 v46 v47 v48 : Value, a' = { tmps := #[Value.agg #[Value.slice (some ⟨b, off, none⟩) fs.length cap], Value.pointer (some ⟨w.heap.size, 0, none⟩), u2, Value.int IntKind.i64 sm, Value.int IntKind.i64 t, Value.pointer (some ⟨wr.heap.size, 0, none⟩), u6, u7, Value.pointer (some ⟨w.heap.size, 0, none⟩), Value.slice (some ⟨b, off, none⟩) fs.length cap, Value.int IntKind.i64 fs.length, Value.bool false, Value.int IntKind.i64 t, Value.pointer (some ⟨w.heap.size, 0, none⟩), Value.slice (some ⟨b, off, none⟩) fs.length cap, Value.int IntKind.i64 fs.length, Value.bool true, u17, u18, Value.pointer (some ⟨w.heap.size, 0, none⟩), Value.slice (some ⟨b, off, none⟩) fs.length cap, Value.int IntKind.i64 t, Value.pointer (some ⟨b, off + t * 2, none⟩), Value.agg #[Value.string f.path, Value.string f.text], v24, v25, v26, v27, v28, v29, v30, v31, v32, v33, v34, v35, v36, v37, v38, v39, v40, v41, v42, v43, v44, v45, v46, v47, v48, Value.bool false, u50, u51, u52, u53, u54, u55, u56, u57, u58, u59, u60, u61, u62, u63, u64, u65, u66, u67, u68, u69, u70, u71, u72, u73, u74, u75, u76, u77, u78, u79, u80, u81, u82, u83, u84, u85, undef, undef], defers := [] } ∧ ∃ n, W' = W2.drewN n) ?_ ?_
            · by_cases ht0 : 0 < t
              case neg =>
                have hd3 : decide (0 < t) = false := by simpa using ht0
                go_quiet ((go_at_call 32; refine Calls.quiet_of (r7path_any _ _)))
                refine ⟨rfl, ?_⟩
                dsimp only
                exact ⟨_, _, _, _, _, _, _, _, _, _, _, _, _, _, _, _, _, _, _, _, _, _, _, _, _, rfl, nq, rfl⟩
              case pos =>
                have hd3 : decide (0 < t) = true := by simpa using ht0
                obtain ⟨pv, hpf⟩ : ∃ pv, fs[t - 1]? = some pv := ⟨_, List.getElem?_eq_getElem (by omega)⟩
                have hls : Op.bytesLess pv.path.toList f.path.toList = true := by
                  cases t with
                  | zero => omega
                  | succ k =>
                    have h1 : prevB fs (k + 1) f = Op.bytesLess ((fs.getD k ⟨⟨#[]⟩, ⟨#[]⟩⟩).path).toList f.path.toList := rfl
                    rw [Nat.add_sub_cancel] at hpf
                    rw [hpv, List.getD_eq_getElem?_getD, hpf] at h1
                    exact h1.symm
                obtain ⟨e0, -⟩ := fi_cell HRW.out hpf
                clear hpf hpv
                go_quiet ((go_at_call 32; refine Calls.quiet_of (r7path_any _ _)))
                refine ⟨rfl, ?_⟩
                dsimp only
                exact ⟨_, _, _, _, _, _, _, _, _, _, _, _, _, _, _, _, _, _, _, _, _, _, _, _, _, rfl, nq, rfl⟩
            rintro e a' W' ⟨rfl, v24, v25, v26, v27, v28, v29, v30, v31, v32, v33, v34, v35, v36, v37, v38, v39, v40, v41, v42, v43, v44, v45, v46, v47, v48, rfl, n3, rfl⟩
            dsimp only
            have HANY : Hid ((fs.any fun g => preB f.path g.path) = false → rgtAt fs t f = true) := fun h => by
              unfold rgtAt
              rw [hp, htx2, hpv, h]
              rfl
            have HBAD : Hid ((fs.any fun g => preB f.path g.path) = true → rgtAt fs t f = false) := fun h => by
              unfold rgtAt
              rw [hp, htx2, hpv, h]
              rfl
            clear hp hpv htx htx2
            go_wp2
            go_loopw [6] (fun i wr => ∃ k n : Nat, k ≤ fs.length ∧ i = .int .i64 k ∧ wr = W2.drewN n ∧ ∀ j g, j < k → fs[j]? = some g → preB f.path g.path = false) (fun i _ => fs.length - (intOf i).toNat)
            case atStart => exact ⟨0, n3, Nat.zero_le _, rfl, rfl, fun j f hj => by omega⟩
            case round =>
              obtain ⟨k, n, hk, rfl, rfl, hz⟩ := hrel
              have HY : Hid (∀ j g, j < k → fs[j]? = some g → preB f.path g.path = false) := hz
              clear hz
              by_cases hlk : k < fs.length
              · have hd5 : decide ((k : Int) < fs.length) = true := by simp; omega
                obtain ⟨g, hg⟩ : ∃ g, fs[k]? = some g := ⟨_, List.getElem?_eq_getElem hlk⟩
                obtain ⟨e0, -⟩ := fi_cell HRW.out hg
                have hgs := HSM.out g (List.mem_of_getElem? hg)
                have HG : Hid (fs[k]? = some g) := hg
                have HPB : Hid (preB f.path g.path = (decide (f.path.size < g.path.size) && ((g.path.extract 0 (f.path.size + 1)).toList == (f.path ++ ⟨#[47]⟩).toList))) := rfl
                have HNX : Hid (preB f.path g.path = false → ∀ j g, j < k + 1 → fs[j]? = some g → preB f.path g.path = false) := fun h j g' hj hg' => by
                  by_cases hjk : j < k
                  · exact HY.out j g' hjk hg'
                  · obtain rfl : j = k := by omega
                    rw [HG.out] at hg'
                    injection hg' with hg'
                    rw [← hg']
                    exact h
                clear hg
                by_cases hsz : f.path.size < g.path.size
                · have hs1 : decide ((f.path.size : Int) < g.path.size) = true := by simp; omega
                  have hs2 : (f.path.size : Int) + 1 ≤ g.path.size := by omega
                  rw [show decide (f.path.size < g.path.size) = true by simpa using hsz, Bool.true_and] at HPB
                  cases heq : ((g.path.extract 0 (f.path.size + 1)).toList == (f.path ++ ⟨#[47]⟩).toList) with
                  | true =>
                    rw [heq] at HPB
                    have HF1 : Hid (rgtAt fs t f = false) := HBAD.out (by
                      rw [List.any_eq_true]
                      exact ⟨g, List.mem_of_getElem? HG.out, HPB.out⟩)
                    go_wp2
                    go_quiet (fail)
                    go_wp2
                    go_ret
                    first | exact HFIN.out (n + nq) HF1.out | exact ⟨⟨false, rfl, ⟨fun h => by (cases h), fun h' => absurd h' (HNO.out HF1.out)⟩⟩, (HFIN.out n HF1.out).2.trans (below_drawn' _ _)⟩
                  | false =>
                    rw [heq] at HPB
                    go_wp2
                    go_quiet (fail)
                    go_wp2
                    go_roundw
                    case rel => exact ⟨k + 1, n + nq, by omega, by go_num, rfl, HNX.out HPB.out⟩
                    case measure => simp [intOf]; omega
                · have hs1 : decide ((f.path.size : Int) < g.path.size) = false := by simp; omega
                  rw [show decide (f.path.size < g.path.size) = false by simpa using hsz, Bool.false_and] at HPB
                  go_wp2
                  go_quiet (fail)
                  go_wp2
                  go_roundw
                  case rel => exact ⟨k + 1, n + nq, by omega, by go_num, rfl, HNX.out HPB.out⟩
                  case measure => simp [intOf]; omega
              · have hd5 : decide ((k : Int) < fs.length) = false := by simp; omega
                have HOK : Hid (rgtAt fs t f = true) := HANY.out (by
                  rw [List.any_eq_false]
                  intro g hg
                  obtain ⟨j, hj⟩ := List.getElem?_of_mem hg
                  rw [HY.out j g (by have := (List.getElem?_eq_some_iff.1 hj).1; omega) hj]
                  simp)
                have HBF : Hid (Below W0.heap.size W0 (W2.drewN n)) := hB2.trans (below_drawn' _ _)
                go_wp2
                go_roundw
                case rel =>
                  refine ⟨t + 1, by omega, by go_num, by rw [HSU.out]; go_num, by rw [HSU.out]; omega, HBF.out, fun j f' hj hf' => ?_⟩
                  by_cases hjt : j < t
                  · exact HZ.out j f' hjt hf'
                  · obtain rfl : j = t := by omega
                    rw [HF.out] at hf'
                    injection hf' with hf'
                    rw [← hf']
                    exact HOK.out
                case measure => simp [intOf]; omega
    · have hd2 : decide ((t : Int) < fs.length) = false := by simp; omega
      obtain rfl : t = fs.length := by omega
      rw [List.take_length] at *
      have HFI : Hid (∀ b, (b = decide ((sumT fs : Int) ≤ 16384)) → (∃ c, Ending.returned (.bool b) = .returned (.bool c) ∧ (c = true ↔ RightP fs)) ∧ Below w.heap.size w wr) := fun b h => ⟨⟨b, rfl, by
        rw [h, decide_eq_true_iff]
        refine ⟨fun h' => ⟨by omega, fun j f hf => HZ.out j f (List.getElem?_eq_some_iff.1 hf).1 hf, by omega⟩, fun h' => by have := h'.2.2; omega⟩⟩, hbw⟩
      clear hrw hst
      generalize sumT fs = sm at *
      go_wp2
      go_ret
      exact HFI.out _ rfl
end Go.Proofs.Ytmbnbehlfbdpnaa

namespace Go.Proofs.Ytmbnbehlfbdpnaa
open Go.RowKit

theorem leB_false {a b : ByteArray} : leB a b = false ↔ Op.bytesLess b.toList a.toList = true := by
  unfold leB
  rw [Bool.or_eq_false_iff, beq_eq_false_iff_ne]
  refine ⟨fun h => less_of_not _ _ h.1 h.2, fun h => ⟨less_asym h, fun e => ?_⟩⟩
  rw [e, less_irrefl] at h
  cases h
/-- The files from one on, behind a path. -/
def ChkP (all : List Fi) : ByteArray → List Fi → Prop
  | _, [] => True
  | la, f :: r => pathB f.path = true ∧ leB f.path la = false ∧ belowB all f.path = false ∧ f.text.size ≤ 4096 ∧ ChkP all f.path r
theorem sumT_cons (f : Fi) (r : List Fi) : sumT (f :: r) = f.text.size + sumT r := by simp [sumT]
theorem chk_iff (all : List Fi) : ∀ (l : List Fi) (la : ByteArray) (sz : Nat), sz ≤ 16384 → (chkFrom all la sz l = true ↔ ChkP all la l ∧ sz + sumT l ≤ 16384)
  | [], la, sz, h => by simp [chkFrom, ChkP, sumT, h]
  | f :: r, la, sz, h => by
    unfold chkFrom ChkP
    rw [sumT_cons]
    simp only [Bool.and_eq_true, Bool.not_eq_true', decide_eq_true_eq]
    constructor
    · rintro ⟨h1, h2, h3, h4, h5, h6⟩
      have := (chk_iff all r f.path (sz + f.text.size) h5).1 h6
      exact ⟨⟨h1, h2, h3, h4, this.1⟩, by omega⟩
    · rintro ⟨⟨h1, h2, h3, h4, h5⟩, h6⟩
      exact ⟨h1, h2, h3, h4, by omega, (chk_iff all r f.path (sz + f.text.size) (by omega)).2 ⟨h5, by omega⟩⟩
def prevP (la : ByteArray) (l : List Fi) (t : Nat) : ByteArray := match t with
  | 0 => la
  | k + 1 => (l.getD k ⟨⟨#[]⟩, ⟨#[]⟩⟩).path
theorem chkP_iff (all : List Fi) : ∀ (l : List Fi) (la : ByteArray), ChkP all la l ↔ ∀ t f, l[t]? = some f → pathB f.path = true ∧ leB f.path (prevP la l t) = false ∧ belowB all f.path = false ∧ f.text.size ≤ 4096
  | [], la => by simp [ChkP]
  | a :: r, la => by
    unfold ChkP
    rw [chkP_iff all r a.path]
    constructor
    · rintro ⟨h1, h2, h3, h4, h5⟩ t f hf
      cases t with
      | zero =>
        obtain rfl : a = f := by simpa using hf
        exact ⟨h1, h2, h3, h4⟩
      | succ k =>
        have := h5 k f (by simpa using hf)
        cases k with
        | zero => exact this
        | succ j => exact this
    · intro h
      obtain ⟨h1, h2, h3, h4⟩ := h 0 a rfl
      refine ⟨h1, h2, h3, h4, fun t f hf => ?_⟩
      have := h (t + 1) f (by simpa using hf)
      cases t with
      | zero => exact this
      | succ j => exact this
/-- A path is not empty. -/
theorem path_ne {p : ByteArray} (h : pathB p = true) : p.toList ≠ [] := fun e => by
  have hp : p = ⟨#[]⟩ := toList_inj (by rw [e, Lib.toList_data])
  subst hp
  exact absurd h (by decide)
theorem less_nil {a : List UInt8} (h : a ≠ []) : Op.bytesLess [] a = true := by
  cases a with
  | nil => exact absurd rfl h
  | cons x r => rfl
theorem rest_data (p : ByteArray) (k : Nat) : (p.extract k p.size).data.toList = p.data.toList.drop k := by
  rw [Lib.extract_data, List.take_of_length_le (by rw [List.length_drop, Lib.size_eq]; exact Nat.le_refl _)]
theorem nst_succ (p : ByteArray) (t : Nat) : nst p (t + 1) = nst p t + (nameL (p.data.toList.drop (nst p t))).length + 1 := by
  show nst p t + ((nm p (nst p t)).size + 1) = _
  unfold nm
  rw [rest_data, Lib.size_eq]
  simp only
  omega
theorem nameL_stop : ∀ (l : List UInt8), (nameL l).length < l.length → l[(nameL l).length]? = some 47
  | [], h => by simp [nameL] at h
  | b :: l, h => by
    by_cases hb : b = 47
    · subst hb
      simp [nameL]
    · have e : nameL (b :: l) = b :: nameL l := by simp [nameL, hb]
      rw [e] at h ⊢
      simp only [List.length_cons, List.getElem?_cons_succ] at h ⊢
      exact nameL_stop l (by omega)
theorem nameL_le : ∀ (l : List UInt8) (j : Nat), l[j]? = some 47 → (nameL l).length ≤ j
  | [], j, h => by simp at h
  | b :: l, j, h => by
    by_cases hb : b = 47
    · subst hb
      simp [nameL]
    · have e : nameL (b :: l) = b :: nameL l := by simp [nameL, hb]
      rw [e]
      cases j with
      | zero => exact absurd (by simpa using h) hb
      | succ j =>
        have := nameL_le l j (by simpa using h)
        simp only [List.length_cons]
        omega
/-- Where a name ends stands a slash; and the other way round. -/
theorem nst_slash {p : ByteArray} {t : Nat} (h : nst p (t + 1) ≤ p.size) : p.data.toList[nst p (t + 1) - 1]? = some 47 := by
  rw [nst_succ] at h ⊢
  have := nameL_stop (p.data.toList.drop (nst p t)) (by rw [List.length_drop, ← Lib.size_eq]; omega)
  rw [List.getElem?_drop] at this
  rw [Nat.add_sub_cancel]
  exact this
theorem nst_up (p : ByteArray) (i : Nat) : ∀ d t, i - nst p t ≤ d → nst p t ≤ i → ∃ s, nst p s ≤ i ∧ i < nst p (s + 1)
  | 0, t, h, ht => ⟨t, ht, by rw [nst_succ]; omega⟩
  | d + 1, t, h, ht => by
    by_cases hlt : i < nst p (t + 1)
    · exact ⟨t, ht, hlt⟩
    · exact nst_up p i d (t + 1) (by have := nst_succ p t; omega) (by omega)
theorem slash_nst {p : ByteArray} {i : Nat} (h : p.data.toList[i]? = some 47) : ∃ t, nst p (t + 1) = i + 1 ∧ t + 1 < nN p := by
  obtain ⟨s, h1, h2⟩ := nst_up p i (i - nst p 0) 0 (Nat.le_refl _) (Nat.zero_le _)
  have h3 := nameL_le (p.data.toList.drop (nst p s)) (i - nst p s) (by rw [List.getElem?_drop, show nst p s + (i - nst p s) = i by omega]; exact h)
  have h4 := nst_succ p s
  have h5 := (List.getElem?_eq_some_iff.1 h).1
  rw [← Lib.size_eq] at h5
  refine ⟨s, by omega, nN_gt (by omega)⟩
theorem trim_slash (l : List UInt8) : Lib.trimSuffix (l ++ [47]) [47] = l := by
  have : Lib.hasSuffix (l ++ [47]) [47] = true := by
    unfold Lib.hasSuffix
    rw [List.isSuffixOf_iff_suffix]
    exact List.suffix_append _ _
  unfold Lib.trimSuffix
  rw [this, if_pos rfl]
  simp
theorem found_iff (fs : List Fi) (q : ByteArray) : (findB fs q).2 = true ↔ ∃ f ∈ fs, f.path = q := by
  unfold findB
  cases h : fs.findIdx? (fiB q) with
  | none =>
    rw [List.findIdx?_eq_none_iff] at h
    refine ⟨fun h' => by (cases h'), fun ⟨f, hf, e⟩ => ?_⟩
    have := h f hf
    unfold fiB at this
    rw [e] at this
    simp at this
  | some i =>
    obtain ⟨hi, h1, -⟩ := List.findIdx?_eq_some_iff_getElem.1 h
    refine ⟨fun _ => ⟨_, List.getElem_mem hi, ?_⟩, fun _ => rfl⟩
    unfold fiB at h1
    exact toList_inj (by simpa using h1)
theorem take_slash {l : List UInt8} {i : Nat} (h : l[i]? = some 47) : l.take (i + 1) = l.take i ++ [47] := by
  rw [List.take_add_one, h]
  rfl
theorem preB_iff (p g : ByteArray) : preB p g = true ↔ g.data.toList.take p.size = p.data.toList ∧ g.data.toList[p.size]? = some 47 := by
  unfold preB
  rw [Bool.and_eq_true, decide_eq_true_eq, beq_iff_eq, Lib.extract_toList, Lib.toList_data]
  simp only [ByteArray.data_append, Array.toList_append, List.drop_zero, Nat.sub_zero]
  constructor
  · rintro ⟨h1, h2⟩
    have hl : p.size = p.data.toList.length := Lib.size_eq p
    obtain ⟨x, hx⟩ : ∃ x, g.data.toList[p.size]? = some x := ⟨_, List.getElem?_eq_getElem (by rw [← Lib.size_eq]; exact h1)⟩
    rw [List.take_add_one, hx] at h2
    have h3 := List.append_inj h2 (by rw [List.length_take, ← Lib.size_eq g, ← hl]; omega)
    refine ⟨h3.1, ?_⟩
    rw [hx]
    have := h3.2
    simpa using this
  · rintro ⟨h1, h2⟩
    refine ⟨by have := (List.getElem?_eq_some_iff.1 h2).1; rw [← Lib.size_eq] at this; exact this, ?_⟩
    rw [take_slash h2, h1]
/-- A file stands where a path has a folder. -/
theorem below_iff {fs : List Fi} (hp : ∀ f ∈ fs, pathB f.path = true) (g : ByteArray) : belowB fs g = true ↔ ∃ f ∈ fs, preB f.path g = true := by
  unfold belowB
  rw [List.any_eq_true]
  constructor
  · rintro ⟨x, hx, hf⟩
    obtain ⟨t, ht, rfl⟩ : ∃ t, t < nN g ∧ npr g t = x := by
      unfold nTo at hx
      obtain ⟨t, h1, h2⟩ := List.mem_map.1 hx
      exact ⟨t, List.mem_range.1 h1, h2⟩
    obtain ⟨f, hff, e⟩ := (found_iff _ _).1 hf
    refine ⟨f, hff, ?_⟩
    have e2 : f.path.data.toList = Lib.trimSuffix (g.data.toList.take (nst g t)) [47] := by
      rw [e]
      unfold trimS npr
      simp only
      rw [Lib.extract_data]
      simp
    cases t with
    | zero =>
      have : f.path.data.toList = [] := by rw [e2]; rfl
      exact absurd (by rw [Lib.toList_data]; exact this) (path_ne (hp f hff))
    | succ s =>
      have h1 := nN_in ht
      have h2 := nst_slash h1
      have h3 : nst g (s + 1) = (nst g (s + 1) - 1) + 1 := by rw [nst_succ]; omega
      rw [h3, take_slash h2, trim_slash] at e2
      have h4 : f.path.size = nst g (s + 1) - 1 := by rw [Lib.size_eq, e2, List.length_take, ← Lib.size_eq]; omega
      rw [preB_iff, h4]
      exact ⟨e2.symm, h2⟩
  · rintro ⟨f, hff, h⟩
    obtain ⟨h1, h2⟩ := (preB_iff _ _).1 h
    obtain ⟨t, h3, h4⟩ := slash_nst h2
    refine ⟨npr g (t + 1), ?_, (found_iff _ _).2 ⟨f, hff, ?_⟩⟩
    · unfold nTo
      exact List.mem_map.2 ⟨t + 1, List.mem_range.2 h4, rfl⟩
    · unfold trimS npr
      simp only
      rw [h3, Lib.extract_data, List.drop_zero, Nat.sub_zero, take_slash h2, trim_slash, h1]
/-- A repository. -/
theorem repo_iff (fs : List Fi) : repoB fs = true ↔ RightP fs := by
  unfold repoB RightP
  rw [Bool.and_eq_true, decide_eq_true_eq, chk_iff fs fs ⟨#[]⟩ 0 (by omega), chkP_iff, Nat.zero_add]
  refine and_congr_right fun _ => and_congr_left fun _ => ?_
  constructor
  · intro h t f hf
    have hp : ∀ f ∈ fs, pathB f.path = true := fun f hf => by
      obtain ⟨j, hj⟩ := List.getElem?_of_mem hf
      exact (h j f hj).1
    obtain ⟨h1, h2, h3, h4⟩ := h t f hf
    unfold rgtAt
    rw [h1, show decide (f.text.size ≤ 4096) = true by simpa using h4]
    have h5 : prevB fs t f = true := by
      cases t with
      | zero => rfl
      | succ k => exact leB_false.1 h2
    rw [h5]
    simp only [Bool.true_and, Bool.not_eq_true']
    rw [List.any_eq_false]
    intro g hg hc
    obtain ⟨j, hj⟩ := List.getElem?_of_mem hg
    have h6 := (h j g hj).2.2.1
    rw [(below_iff hp g.path).2 ⟨f, List.mem_of_getElem? hf, hc⟩] at h6
    cases h6
  · intro h
    have hb : ∀ t f, fs[t]? = some f → pathB f.path = true ∧ f.text.size ≤ 4096 ∧ prevB fs t f = true ∧ (fs.any fun g => preB f.path g.path) = false := fun t f hf => by
      have := h t f hf
      unfold rgtAt at this
      simpa only [Bool.and_eq_true, decide_eq_true_eq, Bool.not_eq_true'] using this
    have hp : ∀ f ∈ fs, pathB f.path = true := fun f hf => by
      obtain ⟨j, hj⟩ := List.getElem?_of_mem hf
      exact (hb j f hj).1
    intro t f hf
    obtain ⟨h1, h2, h3, h4⟩ := hb t f hf
    refine ⟨h1, leB_false.2 ?_, ?_, h2⟩
    · cases t with
      | zero =>
        show Op.bytesLess (ByteArray.toList ⟨#[]⟩) _ = true
        rw [Lib.toList_data ⟨#[]⟩]
        exact less_nil (path_ne h1)
      | succ k => exact h3
    · cases h5 : belowB fs f.path with
      | false => rfl
      | true =>
        obtain ⟨g, hg, hc⟩ := (below_iff hp f.path).1 h5
        obtain ⟨j, hj⟩ := List.getElem?_of_mem hg
        have h6 := (hb j g hj).2.2.2
        rw [List.any_eq_false] at h6
        exact absurd hc (h6 f (List.mem_of_getElem? hf))
theorem r7right_any (sp : Option Addr) (cap : Nat) (fs : List Fi) (w : World) (hr : RowsAt w 2 Fi.cells sp fs) (hsm : FiS fs) :
    Calls Try.prog 18 #[.agg #[.slice sp fs.length cap]] w fun e w' => e = .returned (.bool (repoB fs)) ∧ Below w.heap.size w w' :=
  (r7right_raw sp cap fs w hr hsm).mono fun e w' ⟨⟨b, he, hb⟩, hB⟩ => ⟨by rw [he, show b = repoB fs from Bool.eq_iff_iff.2 (hb.trans (repo_iff fs).symm)], hB⟩
end Go.Proofs.Ytmbnbehlfbdpnaa

namespace Go.Proofs.Ytmbnbehlfbdpnaa
open Go.RowKit

def atM (fs : List Fi) (p : ByteArray) : May := ⟨(findB fs p).1, (findB fs p).2⟩
/-- What stands at a path in three. -/
def atC (a b c : List Fi) (p : ByteArray) : Cl := ⟨p, ⟨atM a p, atM b p, atM c p⟩⟩
def clashB (s : St3) : Bool := !(mayEq s.b s.o || mayEq s.b s.t || mayEq s.o s.t)
def pickM (s : St3) : May := if mayEq s.o s.b then s.t else s.o
/-- The document's clashes and files, path by path. -/
def refC1 (a b c : List Fi) (q : List UInt8) : List Cl := if clashB (atC a b c ⟨q.toArray⟩).s then [atC a b c ⟨q.toArray⟩] else []
def refF1 (a b c : List Fi) (q : List UInt8) : List Fi := mayF ⟨q.toArray⟩ (pickM (atC a b c ⟨q.toArray⟩).s)
abbrev UpF (l : List Fi) : Prop := (pathsOf l).Pairwise LessP

theorem takeL_cons (p : ByteArray) (f : Fi) (r : List Fi) : takeL p (f :: r) = if f.path.toList == p.toList then r else f :: r := rfl
theorem takeM_cons (p : ByteArray) (f : Fi) (r : List Fi) : takeM p (f :: r) = if f.path.toList == p.toList then ⟨f.text, true⟩ else no := rfl
theorem leastS_cons (m : May) (f : Fi) (r : List Fi) : leastS m (f :: r) = if !m.there || Op.bytesLess f.path.toList m.value.toList then ⟨f.path, true⟩ else m := rfl
theorem bytes_data (b : ByteArray) : b.toList = b.data.toList := Lib.toList_data b
theorem ge_trans {x y z : List UInt8} (h1 : Op.bytesLess x y = false) (h2 : Op.bytesLess y z = false) : Op.bytesLess x z = false := by
  cases h : Op.bytesLess x z with
  | false => rfl
  | true =>
    by_cases e : x = y
    · subst e; rw [h] at h2; cases h2
    · have := less_trans _ _ _ (less_of_not _ _ h1 e) h
      rw [this] at h2; cases h2
theorem chk_upF (all : List Fi) : ∀ (fs : List Fi) (last : ByteArray) (sz : Nat), chkFrom all last sz fs = true → UpF fs ∧ ∀ x ∈ pathsOf fs, LessP last.data.toList x
  | [], _, _, _ => ⟨List.Pairwise.nil, fun x hx => by simp [pathsOf] at hx⟩
  | f :: r, last, sz, h => by
    simp only [chkFrom, Bool.and_eq_true, Bool.not_eq_true'] at h
    obtain ⟨-, h1, -, -, -, h2⟩ := h
    have hl := leB_false.1 h1
    rw [bytes_data, bytes_data] at hl
    obtain ⟨hu, hx⟩ := chk_upF all r f.path _ h2
    refine ⟨List.Pairwise.cons hx hu, fun x hm => ?_⟩
    rcases List.mem_cons.1 hm with rfl | hm
    · exact hl
    · exact less_trans _ _ _ hl (hx x hm)
theorem upF_of_repo {fs : List Fi} (h : repoB fs = true) : UpF fs := by
  simp only [repoB, Bool.and_eq_true] at h
  exact (chk_upF _ _ _ _ h.2).1
theorem find_cons (f : Fi) (r : List Fi) (p : ByteArray) : findB (f :: r) p = if f.path.toList == p.toList then (f.text, true) else findB r p := by
  unfold findB
  rw [List.findIdx?_cons]
  unfold fiB
  cases f.path.toList == p.toList with
  | true => rfl
  | false =>
    simp only [Bool.false_eq_true, if_false]
    cases List.findIdx? (fun f => f.path.toList == p.toList) r with
    | none => rfl
    | some i => rfl
theorem atM_cons (f : Fi) (r : List Fi) (p : ByteArray) : atM (f :: r) p = if f.path.toList == p.toList then ⟨f.text, true⟩ else atM r p := by
  unfold atM
  rw [find_cons]
  split <;> rfl
theorem atM_none : ∀ {l : List Fi} {p : ByteArray}, p.data.toList ∉ pathsOf l → atM l p = no
  | [], _, _ => rfl
  | f :: r, p, h => by
    rw [atM_cons, if_neg ?_, atM_none (fun hm => h (List.mem_cons_of_mem _ hm))]
    intro e
    have := eq_of_beq e
    rw [bytes_data, bytes_data] at this
    exact h (this ▸ List.mem_cons_self)
theorem takeM_at {l : List Fi} (hu : UpF l) {p : ByteArray} (hp : ∀ x ∈ pathsOf l, Op.bytesLess x p.data.toList = false) : takeM p l = atM l p := by
  match l, hu, hp with
  | [], _, _ => rfl
  | f :: r, hu, hp =>
    rw [atM_cons]
    rw [takeM_cons]
    split
    · rfl
    · refine (atM_none fun hm => ?_).symm
      have h1 := (List.pairwise_cons.1 hu).1 _ hm
      have h2 := hp f.path.data.toList List.mem_cons_self
      rw [show Op.bytesLess f.path.data.toList p.data.toList = true from h1] at h2
      cases h2
theorem at_take (l : List Fi) {p q : ByteArray} (h : p.data.toList ≠ q.data.toList) : atM (takeL p l) q = atM l q := by
  match l with
  | [] => rfl
  | f :: r =>
    rw [takeL_cons]
    split
    · next e =>
      have e := eq_of_beq e
      rw [bytes_data, bytes_data] at e
      rw [atM_cons, if_neg]
      intro e2
      have e2 := eq_of_beq e2
      rw [bytes_data, bytes_data] at e2
      exact h (e.symm.trans e2)
    · rfl
theorem take_up {l : List Fi} (hu : UpF l) (p : ByteArray) : UpF (takeL p l) := by
  match l, hu with
  | [], h => exact h
  | f :: r, h =>
    rw [takeL_cons]
    split
    · exact (List.pairwise_cons.1 h).2
    · exact h
theorem take_gt {l : List Fi} (hu : UpF l) {p : ByteArray} (hp : ∀ x ∈ pathsOf l, Op.bytesLess x p.data.toList = false) : ∀ x ∈ pathsOf (takeL p l), LessP p.data.toList x := by
  match l, hu, hp with
  | [], _, _ => intro x hx; simp [takeL, pathsOf] at hx
  | f :: r, hu, hp =>
    intro x hx
    rw [takeL_cons] at hx
    have h1 := (List.pairwise_cons.1 hu).1
    split at hx
    · next e =>
      have e := eq_of_beq e
      rw [bytes_data, bytes_data] at e
      rw [← e]
      exact h1 x hx
    · next e =>
      have h2 : LessP p.data.toList f.path.data.toList := less_of_not _ _ (hp f.path.data.toList List.mem_cons_self) (fun e2 => e (by rw [bytes_data, bytes_data, e2]; simp))
      rcases List.mem_cons.1 hx with rfl | hx
      · exact h2
      · exact less_trans _ _ _ h2 (h1 x hx)
theorem take_mem (l : List Fi) (p : ByteArray) (x : List UInt8) : (x ∈ pathsOf (takeL p l) → x ∈ pathsOf l) ∧ (x ∈ pathsOf l → x = p.data.toList ∨ x ∈ pathsOf (takeL p l)) := by
  match l with
  | [] => exact ⟨id, Or.inr⟩
  | f :: r =>
    rw [takeL_cons]
    split
    · next e =>
      have e := eq_of_beq e
      rw [bytes_data, bytes_data] at e
      refine ⟨List.mem_cons_of_mem _, fun h => ?_⟩
      rcases List.mem_cons.1 h with rfl | h
      · exact .inl e
      · exact .inr h
    · exact ⟨id, Or.inr⟩
theorem leastS_ge (m : May) (l : List Fi) (h : (leastS m l).there = true) : (m.there = true → Op.bytesLess m.value.data.toList (leastS m l).value.data.toList = false) ∧ (∀ f r, l = f :: r → Op.bytesLess f.path.data.toList (leastS m l).value.data.toList = false) := by
  match l with
  | [] => exact ⟨fun _ => less_irrefl _, fun f r e => by cases e⟩
  | f :: r =>
    rw [leastS_cons]
    split
    · next hc =>
      refine ⟨fun hm => ?_, fun f' r' e => by cases e; exact less_irrefl _⟩
      rw [hm, Bool.not_true, Bool.false_or, bytes_data, bytes_data] at hc
      exact less_asym hc
    · next hc =>
      simp only [Bool.or_eq_true, Bool.not_eq_true', not_or, Bool.not_eq_false, Bool.not_eq_true] at hc
      refine ⟨fun _ => less_irrefl _, fun f' r' e => ?_⟩
      cases e
      rw [← bytes_data, ← bytes_data]
      exact hc.2
theorem leastS_keeps {m : May} {l : List Fi} (h : m.there = true) : (leastS m l).there = true := by
  cases h2 : (leastS m l).there with
  | true => rfl
  | false => exact absurd (leastS_there h2).2 (by rw [h]; simp)
theorem up_head {l : List Fi} (hu : UpF l) {p : List UInt8} (h : ∀ f r, l = f :: r → Op.bytesLess f.path.data.toList p = false) : ∀ x ∈ pathsOf l, Op.bytesLess x p = false := by
  match l, hu, h with
  | [], _, _ => intro x hx; simp [pathsOf] at hx
  | f :: r, hu, h =>
    intro x hx
    rcases List.mem_cons.1 hx with rfl | hx
    · exact h f r rfl
    · exact ge_trans (less_asym ((List.pairwise_cons.1 hu).1 x hx)) (h f r rfl)
theorem least_ge {a b c : List Fi} (h : (leastR a b c).there = true) : (∀ f r, a = f :: r → Op.bytesLess f.path.data.toList (leastR a b c).value.data.toList = false) ∧ (∀ f r, b = f :: r → Op.bytesLess f.path.data.toList (leastR a b c).value.data.toList = false) ∧ (∀ f r, c = f :: r → Op.bytesLess f.path.data.toList (leastR a b c).value.data.toList = false) := by
  unfold leastR at h ⊢
  have h3 := leastS_ge _ _ h
  refine ⟨fun f r e => ?_, fun f r e => ?_, h3.2⟩
  · have t1 : (leastS no a).there = true := by rw [e]; rfl
    have g1 := leastS_ge _ _ t1
    have t2 := leastS_keeps (l := b) t1
    have g2 := leastS_ge _ _ t2
    exact ge_trans (g1.2 f r e) (ge_trans (g2.1 t1) (h3.1 t2))
  · have t2 : (leastS (leastS no a) b).there = true := by
      cases h2 : (leastS (leastS no a) b).there with
      | true => rfl
      | false => exact absurd (leastS_there h2).1 (by rw [e]; simp)
    have g2 := leastS_ge _ _ t2
    exact ge_trans (g2.2 f r e) (h3.1 t2)
theorem pathsOf_app (a b : List Fi) : pathsOf (a ++ b) = pathsOf a ++ pathsOf b := by simp [pathsOf]
theorem pathsL_at : ∀ (n : Nat) (a b c : List Fi), UpF a → UpF b → UpF c → len3 a b c ≤ n →
    ((pathsL n a b c).map fun p => p.1.data.toList).Pairwise LessP ∧ (∀ x, x ∈ ((pathsL n a b c).map fun p => p.1.data.toList) ↔ x ∈ pathsOf (a ++ b ++ c)) ∧ ∀ p ∈ pathsL n a b c, p.2 = ⟨atM a p.1, atM b p.1, atM c p.1⟩
  | 0, a, b, c, _, _, _, h => by
    unfold len3 at h
    obtain rfl : a = [] := List.length_eq_zero_iff.1 (by omega)
    obtain rfl : b = [] := List.length_eq_zero_iff.1 (by omega)
    obtain rfl : c = [] := List.length_eq_zero_iff.1 (by omega)
    simp [pathsL, pathsOf]
  | n + 1, a, b, c, ha, hb, hc, h => by
    unfold pathsL
    cases ht : (leastR a b c).there with
    | false =>
      obtain ⟨rfl, rfl, rfl⟩ := least_none ht
      simp [pathsOf]
    | true =>
      simp only [if_true]
      have hl := take_less ht
      obtain ⟨ga, gb, gc⟩ := least_ge ht
      have hf := least_from ht
      generalize (leastR a b c).value = p at hl ga gb gc hf ⊢
      have ga := up_head ha ga
      have gb := up_head hb gb
      have gc := up_head hc gc
      obtain ⟨i1, i2, i3⟩ := pathsL_at n (takeL p a) (takeL p b) (takeL p c) (take_up ha p) (take_up hb p) (take_up hc p) (by omega)
      generalize pathsL n (takeL p a) (takeL p b) (takeL p c) = ps at i1 i2 i3
      have hgt : ∀ x ∈ (ps.map fun p => p.1.data.toList), LessP p.data.toList x := fun x hx => by
        have := (i2 x).1 hx
        rw [pathsOf_app, pathsOf_app, List.mem_append, List.mem_append] at this
        rcases this with (h | h) | h
        · exact take_gt ha ga x h
        · exact take_gt hb gb x h
        · exact take_gt hc gc x h
      refine ⟨List.Pairwise.cons hgt i1, fun x => ?_, fun q hq => ?_⟩
      · rw [List.map_cons, List.mem_cons, i2 x]
        simp only [pathsOf_app, List.mem_append]
        have m1 := take_mem a p x
        have m2 := take_mem b p x
        have m3 := take_mem c p x
        constructor
        · rintro (rfl | (h | h) | h)
          · rcases hf with ⟨f, r, rfl, rfl⟩ | ⟨f, r, rfl, rfl⟩ | ⟨f, r, rfl, rfl⟩
            · exact .inl (.inl List.mem_cons_self)
            · exact .inl (.inr List.mem_cons_self)
            · exact .inr List.mem_cons_self
          · exact .inl (.inl (m1.1 h))
          · exact .inl (.inr (m2.1 h))
          · exact .inr (m3.1 h)
        · rintro ((h | h) | h)
          · exact (m1.2 h).imp id fun h => .inl (.inl h)
          · exact (m2.2 h).imp id fun h => .inl (.inr h)
          · exact (m3.2 h).imp id .inr
      · rcases List.mem_cons.1 hq with rfl | hq
        · show stand p a b c = _
          unfold stand
          rw [takeM_at ha ga, takeM_at hb gb, takeM_at hc gc]
        · have hne : p.data.toList ≠ q.1.data.toList := fun e => by
            have := hgt q.1.data.toList (List.mem_map_of_mem hq)
            rw [← e] at this
            have h2 := less_irrefl p.data.toList
            rw [show Op.bytesLess p.data.toList p.data.toList = true from this] at h2
            cases h2
          rw [i3 q hq, at_take a hne, at_take b hne, at_take c hne]
def atP (a b c : List Fi) (q : List UInt8) : Ps := (⟨q.toArray⟩, (atC a b c ⟨q.toArray⟩).s)
theorem pathsA_at {a b c : List Fi} (h : right3 a b c = true) : pathsA a b c = (allPs (a ++ b ++ c)).map (atP a b c) := by
  simp only [right3, Bool.and_eq_true] at h
  obtain ⟨i1, i2, i3⟩ := pathsL_at (len3 a b c) a b c (upF_of_repo h.1) (upF_of_repo h.2.1) (upF_of_repo h.2.2) (Nat.le_refl _)
  obtain ⟨j1, j2⟩ := allPs_up (a ++ b ++ c)
  have e := up_same _ _ i1 j1 fun x => (i2 x).trans (j2 x).symm
  rw [← e, List.map_map]
  show pathsA a b c = (pathsA a b c).map _
  have i3' : ∀ p ∈ pathsA a b c, p.2 = ⟨atM a p.1, atM b p.1, atM c p.1⟩ := i3
  generalize pathsA a b c = ps at i3'
  conv => lhs; rw [← List.map_id ps]
  refine List.map_congr_left fun p hp => ?_
  show p = atP a b c p.1.data.toList
  exact Prod.ext rfl (i3' p hp)
theorem merged_clash (s : St3) : (mergedR s).2 = !(clashB s) ∧ (clashB s = false → (mergedR s).1 = pickM s) := by
  unfold mergedR clashB pickM
  rw [mayEq_comm s.b s.o, mayEq_comm s.b s.t, mayEq_comm s.o s.t]
  cases mayEq s.o s.b <;> cases mayEq s.t s.b <;> cases mayEq s.t s.o <;> simp
theorem clash_of_at (a b c : List Fi) (q : List UInt8) : clashOf (atP a b c q) = refC1 a b c q := by
  unfold clashOf refC1
  rw [(merged_clash (atP a b c q).2).1]
  show (if (!(clashB (atC a b c ⟨q.toArray⟩).s)) = true then _ else _) = _
  cases clashB (atC a b c ⟨q.toArray⟩).s <;> rfl
theorem file_of_at (a b c : List Fi) (q : List UInt8) (h : refC1 a b c q = []) : fileOf (atP a b c q) = refF1 a b c q := by
  have hc : clashB (atC a b c ⟨q.toArray⟩).s = false := by
    cases h2 : clashB (atC a b c ⟨q.toArray⟩).s with
    | false => rfl
    | true => unfold refC1 at h; rw [h2] at h; simp at h
  have h1 := merged_clash (atP a b c q).2
  rw [show clashB (atP a b c q).2 = false from hc] at h1
  have h2 := h1.2 rfl
  unfold fileOf
  rw [h1.1, h2]
  rfl
theorem joinC_ref {a b c : List Fi} (h : right3 a b c = true) : joinC (pathsA a b c) = (allPs (a ++ b ++ c)).flatMap (refC1 a b c) := by
  unfold joinC
  rw [pathsA_at h, List.flatMap_map]
  exact flat_congr fun q _ => clash_of_at a b c q
theorem joinF_ref {a b c : List Fi} (h : right3 a b c = true) (hn : (allPs (a ++ b ++ c)).flatMap (refC1 a b c) = []) : joinF (pathsA a b c) = (allPs (a ++ b ++ c)).flatMap (refF1 a b c) := by
  unfold joinF
  rw [pathsA_at h, List.flatMap_map]
  exact flat_congr fun q hq => file_of_at a b c q (List.flatMap_eq_nil_iff.1 hn q hq)
end Go.Proofs.Ytmbnbehlfbdpnaa
