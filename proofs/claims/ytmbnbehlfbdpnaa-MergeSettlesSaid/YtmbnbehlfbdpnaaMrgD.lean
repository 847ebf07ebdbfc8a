/- The contract of the document's put. -/
/- The contract of the document's Paths. -/
import Derived.Test.YtmbnbehlfbdpnaaMDif
namespace Go.Proofs.Ytmbnbehlfbdpnaa
open Go.RowKit

def ltB (p x : List UInt8) : Bool := Op.bytesLess x p
def gtB (p x : List UInt8) : Bool := !(Op.bytesLess x p || x == p)
/-- A path in its place. -/
def putL (ls : List (List UInt8)) (p : List UInt8) : List (List UInt8) := if ls.any (· == p) then ls else ls.filter (ltB p) ++ [p] ++ ls.filter (gtB p)
theorem OwnS.weak {B C : Nat} {w : World} {v : Value} {xs : List (List UInt8)} (h : OwnS B w v xs) (hc : C ≤ B) : OwnS C w v xs := by
  refine ⟨h.1, ?_⟩
  rcases h.2 with h | ⟨g, cap, cur, h1, h2, h3⟩
  · exact .inl h
  · exact .inr ⟨g, cap, cur, h1, Nat.le_trans hc h2, h3⟩
set_option maxRecDepth 100000 in
set_option maxHeartbeats 4000000 in
theorem r8put_any (B : Nat) (v : Value) (ls : List (List UInt8)) (p : ByteArray) (w : World) (ho : OwnS B w v ls) (hB : B ≤ w.heap.size) (hl : ls.length ≤ 1000) :
    Calls Try.prog 40 #[v, .string p] w fun e w' => (∃ v', e = .returned v' ∧ OwnS B w' v' (putL ls p.data.toList)) ∧ Below w.heap.size w w' := by
  obtain ⟨sq, cq, rfl, hcq⟩ := ho.shape
  have HOW : Hid (OwnS B w (.slice sq ls.length cq) ls) := ho
  have HCQ : Hid (∀ W, Below w.heap.size w W → ∀ i q, ls[i]? = some q → ∃ b, sq = some ⟨b, 0, none⟩ ∧ W.cell? ⟨b, i, none⟩ = some (.string ⟨q.toArray⟩)) := fun W h i q hq => by
    obtain ⟨b, e, hc⟩ := hcq i q hq
    exact ⟨b, e, (h.cell (p := ⟨b, i, none⟩) (block_lt_of_cell hc)).trans hc⟩
  clear ho hcq
  have HLT : Hid (∀ X : ByteArray, ltB p.data.toList X.data.toList = Op.bytesLess X.toList p.toList ∧ (X.data.toList == p.data.toList) = (X.toList == p.toList) ∧ gtB p.data.toList X.data.toList = !(Op.bytesLess X.toList p.toList || X.toList == p.toList)) := fun X => ⟨by unfold ltB; rw [Lib.toList_data, Lib.toList_data], by rw [Lib.toList_data, Lib.toList_data], by unfold gtB; rw [Lib.toList_data, Lib.toList_data]⟩
  have HFIN : Hid (∀ v' W, OwnS w.heap.size W v' (ls.filter (ltB p.data.toList) ++ [p.data.toList] ++ ls.filter (gtB p.data.toList)) → ls.any (· == p.data.toList) = false → Below w.heap.size w W → (fun e w' => (∃ v', e = .returned v' ∧ OwnS B w' v' (putL ls p.data.toList)) ∧ Below w.heap.size w w') (Ending.returned v') W) := fun v' W h1 h2 h3 => ⟨⟨v', rfl, by unfold putL; rw [h2]; exact h1.weak hB⟩, h3⟩
  have HSAM : Hid (∀ W, ls.any (· == p.data.toList) = true → Below w.heap.size w W → (fun e w' => (∃ v', e = .returned v' ∧ OwnS B w' v' (putL ls p.data.toList)) ∧ Below w.heap.size w w') (Ending.returned (.slice sq ls.length cq)) W) := fun W h2 h3 => ⟨⟨_, rfl, by unfold putL; rw [h2]; exact HOW.out.below h3⟩, h3⟩
  clear hB
  generalize hP : p.data.toList = P at *
  go_enter Try.func40, Try.ntmps40
  go_wp2
  go_loopw [5, 12] (fun l i wr => ∃ t : Nat, t ≤ ls.length ∧ i = .int .i64 t ∧ OwnS w.heap.size wr l ((ls.take t).filter (ltB P)) ∧ Below w.heap.size w wr ∧ (ls.take t).any (· == P) = false) (fun _ i _ => ls.length - (intOf i).toNat)
  case atStart => exact ⟨0, Nat.zero_le _, rfl, ownS_nil _ _, Below.refl _ _, rfl⟩
  case round =>
    obtain ⟨t, ht, rfl, hos, hB, hno⟩ := hrel
    have HOS : Hid (OwnS w.heap.size wr _ ((ls.take t).filter (ltB P))) := hos
    have HNO : Hid ((ls.take t).any (· == P) = false) := hno
    clear hos hno
    by_cases hlt : t < ls.length
    · have hd : decide ((t : Int) < ls.length) = true := by simp; omega
      obtain ⟨q, hq⟩ : ∃ q, ls[t]? = some q := ⟨_, List.getElem?_eq_getElem hlt⟩
      obtain ⟨b, rfl, c0⟩ := HCQ.out wr hB t q hq
      obtain ⟨X, hX⟩ : ∃ X : ByteArray, X = ⟨q.toArray⟩ := ⟨_, rfl⟩
      obtain ⟨l1, l2, -⟩ := HLT.out X
      have hqX : X.data.toList = q := by rw [hX]
      rw [← hX] at c0
      rw [hqX] at l1 l2
      have HQ : Hid (ls[t]? = some q) := hq
      have HL1 : Hid _ := l1
      have HQX : Hid (X.data.toList = q) := hqX
      clear hqX hX
      have HST : Hid ((ls.take (t + 1)).filter (ltB P) = (ls.take t).filter (ltB P) ++ (if ltB P q then [q] else [])) := by
        show _ = _
        rw [List.take_add_one, hq, Option.toList_some, List.filter_append]
        congr 1
        simp only [List.filter_cons, List.filter_nil]
      have HST2 : Hid ((ls.take (t + 1)).any (· == P) = ((ls.take t).any (· == P) || (q == P))) := by
        show _ = _
        rw [List.take_add_one, hq, Option.toList_some, List.any_append]
        simp
      have HLN : Hid (((ls.take t).filter (ltB P)).length + 1 ≤ 100000) := by
        show ((ls.take t).filter (ltB P)).length + 1 ≤ 100000
        have := List.length_filter_le (ltB P) (ls.take t)
        rw [List.length_take] at this
        omega
      clear hq l1
      cases h1 : (X.toList == p.toList) with
      | true =>
        have HR := HSAM.out wr (by
          rw [List.any_eq_true]
          exact ⟨q, List.mem_of_getElem? HQ.out, by rw [l2, h1]⟩) hB
        have HRR : Hid _ := HR
        clear HR l2
        go_wp2
        go_ret
        exact HRR.out
      | false =>
        rw [l2, h1, HNO.out] at HST2
        clear l2
        cases h2 : Op.bytesLess X.toList p.toList with
        | true =>
          rw [HL1.out, h2, if_pos rfl] at HST
          have B2 : Below wr.heap.size wr (wr.alloc (.cells #[.string X] 9)) := (Below.refl _ _).alloc (Nat.le_refl _) _
          have g2 := heap_alloc_new wr (.cells #[.string X] 9)
          obtain ⟨v9, W9, hr9, ho9, hg9⟩ := text_run 33 (HOS.out.below B2) g2 HLN.out (Nat.le_trans hB.size B2.size)
          have HB9 : Hid (Below w.heap.size w W9) := OwnS.grown (HOS.out.below B2) (Nat.le_refl _) (Nat.le_trans hB.size B2.size) (hB.trans (B2.mono hB.size)) hg9
          rw [HQX.out] at ho9
          have HO9 : Hid (OwnS w.heap.size W9 v9 _) := ho9
          clear g2 B2 ho9 hg9
          go_wp2_with (refine list_append (by rfl) (.tmp 23) (.tmp 25) 33 (by rfl) (by rfl) (by rfl) hr9 ?_)
          go_roundw
          case rel => exact ⟨t + 1, by omega, by go_num, by rw [HST.out]; exact HO9.out, HB9.out, HST2.out⟩
          case measure => simp [intOf]; omega
        | false =>
          rw [HL1.out, h2, if_neg (by simp), List.append_nil] at HST
          go_wp2
          go_roundw
          case rel => exact ⟨t + 1, by omega, by go_num, by rw [HST.out]; exact HOS.out, hB, HST2.out⟩
          case measure => simp [intOf]; omega
    · have hd : decide ((t : Int) < ls.length) = false := by simp; omega
      obtain rfl : t = ls.length := by omega
      rw [List.take_length] at HOS HNO
      have HLN : Hid ((ls.filter (ltB P)).length + 1 ≤ 100000) := by
        show (ls.filter (ltB P)).length + 1 ≤ 100000
        have := List.length_filter_le (ltB P) ls
        omega
      have B2 : Below wr.heap.size wr (wr.alloc (.cells #[.string p] 9)) := (Below.refl _ _).alloc (Nat.le_refl _) _
      have g2 := heap_alloc_new wr (.cells #[.string p] 9)
      obtain ⟨v9, W9, hr9, ho9, hg9⟩ := text_run 33 (HOS.out.below B2) g2 HLN.out (Nat.le_trans hB.size B2.size)
      have hb9 : Below w.heap.size w W9 := OwnS.grown (HOS.out.below B2) (Nat.le_refl _) (Nat.le_trans hB.size B2.size) (hB.trans (B2.mono hB.size)) hg9
      rw [hP] at ho9
      have HO9 : Hid (OwnS w.heap.size W9 v9 _) := ho9
      clear g2 B2 ho9 hg9 HOS
      go_wp2_with (refine list_append (by rfl) (.tmp 28) (.tmp 30) 33 (by rfl) (by rfl) (by rfl) hr9 ?_)
      have HOS9 : Hid (OwnS w.heap.size W9 v9 (ls.filter (ltB P) ++ [P])) := HO9.out
      clear HO9 hr9 hlt hd ht hB HLN
      go_loopw [5, 34] (fun l i wr => ∃ t : Nat, t ≤ ls.length ∧ i = .int .i64 t ∧ OwnS w.heap.size wr l (ls.filter (ltB P) ++ [P] ++ (ls.take t).filter (gtB P)) ∧ Below w.heap.size w wr) (fun _ i _ => ls.length - (intOf i).toNat)
      case atStart => exact ⟨0, Nat.zero_le _, rfl, by simpa using HOS9.out, hb9⟩
      case round =>
        obtain ⟨t, ht, rfl, hos, hB⟩ := hrel
        have HOS : Hid (OwnS w.heap.size wr _ (ls.filter (ltB P) ++ [P] ++ (ls.take t).filter (gtB P))) := hos
        clear hos
        by_cases hlt : t < ls.length
        · have hd : decide ((t : Int) < ls.length) = true := by simp; omega
          obtain ⟨q, hq⟩ : ∃ q, ls[t]? = some q := ⟨_, List.getElem?_eq_getElem hlt⟩
          obtain ⟨b, rfl, c0⟩ := HCQ.out wr hB t q hq
          obtain ⟨X, hX⟩ : ∃ X : ByteArray, X = ⟨q.toArray⟩ := ⟨_, rfl⟩
          obtain ⟨-, -, l3⟩ := HLT.out X
          have hqX : X.data.toList = q := by rw [hX]
          rw [← hX] at c0
          rw [hqX] at l3
          have HL3 : Hid (gtB P q = !(Op.bytesLess X.toList p.toList || X.toList == p.toList)) := l3
          have HQX : Hid (X.data.toList = q) := hqX
          clear hqX hX
          have HST : Hid ((ls.take (t + 1)).filter (gtB P) = (ls.take t).filter (gtB P) ++ (if gtB P q then [q] else [])) := by
            show _ = _
            rw [List.take_add_one, hq, Option.toList_some, List.filter_append]
            congr 1
            simp only [List.filter_cons, List.filter_nil]
          have HLN : Hid ((ls.filter (ltB P) ++ [P] ++ (ls.take t).filter (gtB P)).length + 1 ≤ 100000) := by
            show (ls.filter (ltB P) ++ [P] ++ (ls.take t).filter (gtB P)).length + 1 ≤ 100000
            have h1 := List.length_filter_le (gtB P) (ls.take t)
            have h2 := List.length_filter_le (ltB P) ls
            rw [List.length_take] at h1
            simp only [List.length_append, List.length_cons, List.length_nil]
            omega
          clear hq l3
          cases h1 : Op.bytesLess X.toList p.toList with
          | true =>
            rw [HL3.out, h1, if_neg (by simp)] at HST
            rw [List.append_nil] at HST
            go_wp2
            go_roundw
            case rel => exact ⟨t + 1, by omega, by go_num, by rw [HST.out]; exact HOS.out, hB⟩
            case measure => simp [intOf]; omega
          | false =>
            cases h2 : (X.toList == p.toList) with
            | true =>
              rw [HL3.out, h1, h2, if_neg (by simp)] at HST
              rw [List.append_nil] at HST
              go_wp2
              go_roundw
              case rel => exact ⟨t + 1, by omega, by go_num, by rw [HST.out]; exact HOS.out, hB⟩
              case measure => simp [intOf]; omega
            | false =>
              rw [HL3.out, h1, h2, if_pos (by rfl)] at HST
              have B2 : Below wr.heap.size wr (wr.alloc (.cells #[.string X] 9)) := (Below.refl _ _).alloc (Nat.le_refl _) _
              have g2 := heap_alloc_new wr (.cells #[.string X] 9)
              obtain ⟨v9, W9, hr9, ho9, hg9⟩ := text_run 33 (HOS.out.below B2) g2 HLN.out (Nat.le_trans hB.size B2.size)
              have HB9 : Hid (Below w.heap.size w W9) := OwnS.grown (HOS.out.below B2) (Nat.le_refl _) (Nat.le_trans hB.size B2.size) (hB.trans (B2.mono hB.size)) hg9
              rw [HQX.out, List.append_assoc, ← HST.out] at ho9
              have HO9 : Hid (OwnS w.heap.size W9 v9 _) := ho9
              clear g2 B2 ho9 hg9
              go_wp2_with (refine list_append (by rfl) (.tmp 41) (.tmp 43) 33 (by rfl) (by rfl) (by rfl) hr9 ?_)
              go_roundw
              case rel => exact ⟨t + 1, by omega, by go_num, HO9.out, HB9.out⟩
              case measure => simp [intOf]; omega
        · have hd : decide ((t : Int) < ls.length) = false := by simp; omega
          obtain rfl : t = ls.length := by omega
          rw [List.take_length] at HOS
          have HR : Hid _ := HFIN.out _ wr HOS.out HNO.out hB
          clear HOS
          go_wp2
          go_ret
          exact HR.out
end Go.Proofs.Ytmbnbehlfbdpnaa

namespace Go.Proofs.Ytmbnbehlfbdpnaa
open Go.RowKit

def addP (acc : List (List UInt8)) (f : Fi) : List (List UInt8) := putL acc f.path.data.toList
/-- All paths, rising, each once. -/
def allPs (fs : List Fi) : List (List UInt8) := fs.foldl addP []
theorem parts_len (p : List UInt8) : ∀ ls : List (List UInt8), (ls.filter (ltB p)).length + (ls.filter (gtB p)).length ≤ ls.length
  | [] => Nat.le_refl _
  | x :: r => by
    have ih := parts_len p r
    have hd : ltB p x = true → gtB p x = false := fun h => by
      unfold ltB at h
      unfold gtB
      rw [h]
      rfl
    simp only [List.filter_cons, List.length_cons]
    cases h1 : ltB p x with
    | true =>
      rw [hd h1]
      simp only [if_true, List.length_cons, Bool.false_eq_true, if_false]
      omega
    | false =>
      cases h2 : gtB p x <;> simp <;> omega
theorem putL_len (ls : List (List UInt8)) (p : List UInt8) : (putL ls p).length ≤ ls.length + 1 := by
  unfold putL
  split
  · omega
  · have := parts_len p ls
    simp only [List.length_append, List.length_cons, List.length_nil]
    omega
theorem addP_len : ∀ (fs : List Fi) (acc : List (List UInt8)), (fs.foldl addP acc).length ≤ acc.length + fs.length
  | [], acc => Nat.le_refl _
  | f :: r, acc => by
    have := addP_len r (addP acc f)
    have h2 : (addP acc f).length ≤ acc.length + 1 := putL_len _ _
    simp only [List.foldl_cons, List.length_cons]
    omega
theorem allPs_len (fs : List Fi) : (allPs fs).length ≤ fs.length := by
  have := addP_len fs []
  simpa [allPs] using this
theorem allPs_app (a b : List Fi) : allPs (a ++ b) = b.foldl addP (allPs a) := by
  unfold allPs
  rw [List.foldl_append]
theorem flatP_le {ps : List Pt} (h : ∀ p ∈ ps, p.fs.length ≤ 18) : (flatP ps).length ≤ ps.length * 18 := by
  unfold flatP
  induction ps with
  | nil => simp
  | cons a r ih =>
    have h1 := h a (List.mem_cons_self ..)
    have h2 := ih fun p hp => h p (List.mem_cons_of_mem _ hp)
    simp only [List.flatMap_cons, List.length_append, List.length_cons]
    omega
set_option maxRecDepth 100000 in
set_option maxHeartbeats 4000000 in
theorem r8paths_any (sp : Option Addr) (cap : Nat) (ps : List Pt) (w : World) (hr : RowsAt w 1 Pt.cells sp ps) (hp : PtsAt w ps) (hl : ps.length ≤ 3) (hfl : ∀ p ∈ ps, p.fs.length ≤ 18) :
    Calls Try.prog 23 #[.slice sp ps.length cap] w fun e w' => (∃ v', e = .returned v' ∧ OwnS w.heap.size w' v' (allPs (flatP ps))) ∧ Below w.heap.size w w' := by
  have HR : Hid (RowsAt w 1 Pt.cells sp ps) := hr
  have HPT : Hid (PtsAt w ps) := hp
  have HFL : Hid (∀ p ∈ ps, p.fs.length ≤ 18) := hfl
  clear hr hp hfl
  go_enter Try.func23, Try.ntmps23
  go_wp2
  go_loopw [3, 10] (fun l i wr => ∃ t : Nat, t ≤ ps.length ∧ i = .int .i64 t ∧ OwnS w.heap.size wr l (allPs (flatP (ps.take t))) ∧ Below w.heap.size w wr) (fun _ i _ => ps.length - (intOf i).toNat)
  case atStart => exact ⟨0, Nat.zero_le _, rfl, ownS_nil _ _, Below.refl _ _⟩
  case round =>
    obtain ⟨t, ht, rfl, hos, hB⟩ := hrel
    have HOS : Hid (OwnS w.heap.size wr _ (allPs (flatP (ps.take t)))) := hos
    clear hos
    by_cases hlt : t < ps.length
    · have hd : decide ((t : Int) < ps.length) = true := by simp; omega
      obtain ⟨b, off, rfl, -⟩ := HR.out (by omega)
      obtain ⟨p, hq⟩ : ∃ p, ps[t]? = some p := ⟨_, List.getElem?_eq_getElem hlt⟩
      have c0 := pt_cell (RowsAt.below HR.out hB) hq
      have HST : Hid (flatP (ps.take (t + 1)) = flatP (ps.take t) ++ p.fs) := flatP_take hq
      have hpf := HFL.out p (List.mem_of_getElem? hq)
      have hpr : ∀ W, Below w.heap.size w W → RowsAt W 2 Fi.cells p.sp p.fs := fun W h => RowsAt.below (HPT.out p (List.mem_of_getElem? hq)).1 h
      have HPR : Hid _ := hpr
      have hap : (allPs (flatP (ps.take t))).length ≤ 54 := by
        have h1 := allPs_len (flatP (ps.take t))
        have h2 := flatP_le (ps := ps.take t) fun q hq' => HFL.out q (List.mem_of_mem_take hq')
        rw [List.length_take] at h2
        omega
      have HAC : Hid (allPs (flatP (ps.take (t + 1))) = p.fs.foldl addP (allPs (flatP (ps.take t)))) := by show _ = _; rw [HST.out, allPs_app]
      clear hq hpr HST
      obtain ⟨psp, pfs, pcap⟩ := p
      dsimp only at *
      generalize allPs (flatP (ps.take t)) = acc at *
      go_wp2
      have B1 : Below wr.heap.size wr (wr.alloc (.cells #[.slice psp pfs.length pcap] 24)) := (Below.refl _ _).alloc (Nat.le_refl _) _
      have hB1 : Below w.heap.size w (wr.alloc (.cells #[.slice psp pfs.length pcap] 24)) := hB.trans (B1.mono hB.size)
      have HO1 : Hid (OwnS w.heap.size (wr.alloc (.cells #[.slice psp pfs.length pcap] 24)) u3 acc) := HOS.out.below B1
      generalize wr.alloc (.cells #[.slice psp pfs.length pcap] 24) = W1 at hB1 HO1 ⊢
      clear HOS B1 hB c0
      go_loopw [3, 17] (fun l i wr => ∃ k : Nat, k ≤ pfs.length ∧ i = .int .i64 k ∧ OwnS w.heap.size wr l ((pfs.take k).foldl addP acc) ∧ Below w.heap.size w wr) (fun _ i _ => pfs.length - (intOf i).toNat)
      case atStart => exact ⟨0, Nat.zero_le _, rfl, HO1.out, hB1⟩
      case round =>
        obtain ⟨k, hk, rfl, hos, hB⟩ := hrel
        have HOS : Hid (OwnS w.heap.size wr _ ((pfs.take k).foldl addP acc)) := hos
        clear hos
        by_cases hlk : k < pfs.length
        · have hd2 : decide ((k : Int) < pfs.length) = true := by simp; omega
          have hrw := HPR.out wr hB
          obtain ⟨b2, off2, rfl, -⟩ := hrw (by omega)
          obtain ⟨f, hf⟩ : ∃ f, pfs[k]? = some f := ⟨_, List.getElem?_eq_getElem hlk⟩
          obtain ⟨c0, c1⟩ := fi_cell hrw hf
          have HSN : Hid ((pfs.take (k + 1)).foldl addP acc = putL ((pfs.take k).foldl addP acc) f.path.data.toList) := by
            show _ = _
            rw [List.take_add_one, hf, Option.toList_some, List.foldl_append]
            rfl
          have HLN : Hid (((pfs.take k).foldl addP acc).length ≤ 1000) := by
            show ((pfs.take k).foldl addP acc).length ≤ 1000
            have := addP_len (pfs.take k) acc
            rw [List.length_take] at this
            omega
          clear hrw hf
          generalize (pfs.take k).foldl addP acc = ls at *
          go_wp2_with fail
          refine calls_gen (fun W2 => Below wr.heap.size wr W2) ((Below.refl _ _).alloc (Nat.le_refl _) _) ?_
          intro W2 b2w
          have hb2 : Below w.heap.size w W2 := hB.trans (b2w.mono hB.size)
          refine (r8put_any w.heap.size _ ls f.path W2 (HOS.out.below b2w) hb2.size HLN.out).mono ?_
          rintro e W3 ⟨⟨v', rfl, ho3⟩, b23⟩
          rw [← HSN.out] at ho3
          have HO3 : Hid (OwnS w.heap.size W3 v' _) := ho3
          have hb3 : Below w.heap.size w W3 := hb2.trans (b23.mono hb2.size)
          clear ho3 b23 b2w c0 c1 HOS
          go_wp2
          go_roundw
          case rel => exact ⟨k + 1, by omega, by go_num, HO3.out, hb3⟩
          case measure => simp [intOf]; omega
        · have hd2 : decide ((k : Int) < pfs.length) = false := by simp; omega
          obtain rfl : k = pfs.length := by omega
          rw [List.take_length, ← HAC.out] at HOS
          go_wp2
          go_roundw
          case rel => exact ⟨t + 1, by omega, by go_num, HOS.out, hB⟩
          case measure => simp [intOf]; omega
    · have hd : decide ((t : Int) < ps.length) = false := by simp; omega
      obtain rfl : t = ps.length := by omega
      rw [List.take_length] at HOS
      go_wp2
      go_ret
      exact ⟨⟨_, rfl, HOS.out⟩, hB⟩
end Go.Proofs.Ytmbnbehlfbdpnaa
