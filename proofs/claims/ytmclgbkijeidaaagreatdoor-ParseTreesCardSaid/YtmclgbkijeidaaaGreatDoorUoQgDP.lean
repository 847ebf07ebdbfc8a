/- For every text and every row of turns the law ParseTrees returns true: of the tree of the text, four nodes of it changed at most, Tokens, Check and Depth agree, and where the tree can be written, its tokens, laid thirty apart, are tokens that may be and are read by the document's reader as the same tree (texts of more than 6000 bytes are let by by the law itself). The turns read afterwards as before. Conditions: the row's own: the listed tables hold what the program's text lays (tied by the card). -/
import Derived.Test.YtmclgbkijeidaaaGreatDoorUoe
import Derived.Test.YtmclgbkijeidaaaGreatDoorUof
namespace Go.Proofs.YtmclgbkijeidaaaGreatDoor
open Go.ChangeShapes Go.WideShapes Go.ChangeAt Go.RowKit Go.Deep
open Go.ChangeMaps (open_string shut_string)
section
variable {H : Type} {enc : TypeId × Value -> H} {W : World} {base : Nat} {spare : Nat -> Bool} {held : Bool} {fuel : Nat} {cs : List Value} {x : DataW H × List MemPlace}
theorem znl : (Tryz.prog.fieldsOf 43).toList.map (fun f => (f.type, f.offset)) = [(3, 0), (3, 1), (3, 2), (9, 3)] := by kernel_rfl
theorem z1c {n : Int} (h : (Lit.int .i64 n).wf = true) : -9223372036854775808 <= n ∧ n <= 9223372036854775807 := by
 simp only [Lit.wf, Bool.and_eq_true, decide_eq_true_eq] at h
 exact h
theorem zs0 (h : DataW.trod enc Tryz.prog W base spare held fuel 43 cs = some x) : ∃ u : TuM, cs = u.cells.toList ∧ u.x.size <= maxLen ∧ -9223372036854775808 <= u.n ∧ u.n <= 9223372036854775807 := by
 obtain ⟨hlen, n, hf⟩ := zn9 (by kernel_rfl) znl h
 obtain ⟨y0, h0⟩ := hf 0 _ _ rfl
 obtain ⟨y1, h1⟩ := hf 1 _ _ rfl
 obtain ⟨y2, h2⟩ := hf 2 _ _ rfl
 obtain ⟨y3, h3⟩ := hf 3 _ _ rfl
 obtain ⟨a, e0, -, -⟩ := DataW.trod_int Tryz.underlying3 h0
 obtain ⟨b, e1, -, -⟩ := DataW.trod_int Tryz.underlying3 h1
 obtain ⟨c, e2, -, hc⟩ := DataW.trod_int Tryz.underlying3 h2
 obtain ⟨s, e3, -, hs⟩ := DataW.trod_string Tryz.underlying9 h3
 have hl : cs.length = 4 := hlen.trans (by kernel_rfl)
 rw [show Tryz.prog.cellsOf 9 = 1 by kernel_rfl] at e3
 rw [show Tryz.prog.cellsOf 3 = 1 by kernel_rfl] at e0 e1 e2
 refine ⟨⟨a, b, c, s⟩, ?_, hs, z1c hc⟩
 have e := zvi (zvi (zvi e0 e1) e2) e3
 rw [List.drop_zero, List.take_of_length_le (by omega)] at e
 rw [e]
 rfl
end
set_option maxRecDepth 100000 in
theorem zql {H : Type} {enc : TypeId × Value -> H} {W : World} {base b0 : Nat} {spare : Nat -> Bool} {held : Bool} {r : Reach} {v : Value} {d : DataW H} {p : List MemPlace}
  (hv : Value.okWide Tryz.prog W r b0 41 v) (h : DataW.Trod enc Tryz.prog W base spare held 41 v d p) : ∃ (sp : Option Addr) (cap : Nat) (xs : List TuM), v = .slice sp xs.length cap ∧ RowsAt W 4 TuM.cells sp xs ∧ (∀ u ∈ xs, u.x.size <= maxLen ∧ -9223372036854775808 <= u.n ∧ u.n <= 9223372036854775807) ∧ xs.length <= cap ∧ cap <= maxLen := by
 obtain ⟨a0, len0, cap0, rfl⟩ := okWide_slice Tryz.underlying41 hv
 obtain ⟨fuel, hf⟩ := h
 obtain ⟨sp, cap, xs, e, hr, hq, hc, hn⟩ := zvh (m := 4) (f := TuM.cells) (Q := fun u => u.x.size <= maxLen ∧ -9223372036854775808 <= u.n ∧ u.n <= 9223372036854775807) Tryz.underlying41 (by kernel_rfl) (by omega) (fun n cs' y hy => zs0 hy) hf
 have e' : Value.slice a0 len0 cap0 = .slice sp xs.length cap := by simpa [Value.cells] using e
 exact ⟨sp, cap, xs, e', hr, hq, hc.1, hc.2⟩
set_option maxRecDepth 100000 in
theorem zmd (os : Os) (started : os.Started) (H : Type) (enc : TypeId × Value -> H) :
  ReturnsInHanded {} Tryz.checked os 5 .any (fun w args => (Rows.parseTreesSpec.pre enc Tryz.prog Tryz.f5 [] false w args ∧ laidMetH Tryz.prog laid4 w) ∧ sizedMet enc Tryz.prog Tryz.f5 (OpenSpec.ofChange Rows.parseTreesSpec) false w args)
   (Rows.parseTreesSpec.post enc Tryz.prog Tryz.f5 false true false false) := by
 refine returnsInHanded_of_change_and (C := Tryz.checked) (X := fun w _ => laidMetH Tryz.prog laid4 w) (fun _ _ _ hh h => h.of_heap hh) own started (by kernel_rfl) Tryz.func5
  (ChangeSpec.witness_shaped (enc := enc) (C := Tryz.checked) (os := os) (X := fun w _ => laidMetH Tryz.prog laid4 w) false (World.doorLaid Tryz.prog 400 os) #[.string ByteArray.empty, .slice none 0 0] 8 rfl (World.shaped_of_RefB (by kernel_rfl) (by kernel_rfl)) (by kernel_rfl) (by kernel_rfl) (by kernel_rfl) (zvj os _)) ?_
 intro W base args ds gs before hval0 hW _ _ hL _
 have hval : ∀ (j : Nat) t v, Tryz.f5.params[j]? = some t -> args[j]? = some v -> Value.okWide Tryz.prog W .any base t v := hval0
 have hW' := hW
 obtain ⟨p, q, hA0, hV, rfl, hfz, hnd⟩ := hW
 have hA : DataW.TrodAll enc Tryz.prog W 0 (fun _ => true) true Tryz.f5.params.toList args.toList ds p := hA0
 rw [Tryz.params5] at hA hval
 obtain ⟨v0, v1, d0, d1, p0, p1, rfl, rfl, rfl, h0, h1⟩ := trodAll_two hA
 obtain ⟨rfl, rfl⟩ := trodVars_none hV
 have lt1 : ∀ x ∈ p1, x.block < W.heap.size := by obtain ⟨m, hm⟩ := h1; exact DataW.trod_lt m _ _ _ hm
 obtain ⟨s, rfl, rfl, rfl, hs⟩ := open_string Tryz.underlying9 (hval 0 9 v0 rfl rfl) h0
 obtain ⟨sp, cap, xs, rfl, hr, hxs, hlc, hcm⟩ := zql (hval 1 41 v1 rfl rfl) h1
 clear hA0 hval0
 refine (zjh s sp cap xs W hr (Nat.le_trans hlc hcm) hxs (zpp hL).1 (zpp hL).2).mono fun e W' ⟨he, bel⟩ => ?_
 subst he
 exact ⟨_, rfl, _, _, _, [], _, [], hW', trodAll_mk1 (shut_bool Tryz.underlying4 _), trodAll_mk2 (shut_string Tryz.underlying9 hs) (Below.trod laidOut (by kernel_rfl) (of_decide_eq_true (by kernel_rfl)) h1 bel lt1), rfl, bel.frame _, fun h => by cases h⟩
theorem zs1 : Rows.ParseTreesSaid :=
 OpenClaim.holds_of_wide 5 Tryz.f5 rfl rfl rfl rfl rfl rfl rfl ⟨rfl, rfl, rfl, rfl, rfl⟩ rfl rfl rfl rfl rfl (by kernel_rfl) Tryz.func5 (by kernel_rfl)
  (of_decide_eq_true (by kernel_rfl)) (by unfold Func.isWrapper; first | (rw [if_pos (by decide +kernel)]; kernel_rfl) | (rw [if_neg (by decide +kernel)]; exact ⟨rfl, rfl⟩))
  (fun os started H enc _ => zmd os started H enc)
theorem trees_card : Rows.ParseTreesCardSaid :=
 Claim7.holds_tied_plain_at .later [] [.data, .data, .data, .widerDeep] true (true, "0a5e87348e3ed928a2576d0c9918d94fef8eb91b37a9ab6641e5350fb1d382e8") true
  zs1 (fun _ h => by cases h) (by kernel_rfl) (fun _ h => by cases h) parseTrees_row_tie rfl ⟨rfl, rfl⟩ (by kernel_rfl) rfl
  (fun f fn hf hfn => by
   obtain rfl : f = 5 := Option.some.inj ((show Tryz.prog.funcNamed "shipwright/shipwrightlaw11.ParseTrees" = some 5 by kernel_rfl).symm.trans hf) |>.symm
   obtain rfl : fn = Tryz.f5 := (Option.some.inj (Tryz.func5.symm.trans hfn)).symm
   exact ⟨by kernel_rfl, fun j t ht => by
    rw [Tryz.params5] at ht
    have hm : t ∈ [9, 41] := by simpa using Array.mem_of_getElem? ht
    have hall : ([9, 41].all fun u => !Tryz.prog.wantsStandIn u) = true := by kernel_rfl
    exact (show Tryz.prog.wantsStandIn t = false by simpa using List.all_eq_true.1 hall t hm)⟩)
  (by kernel_rfl)
#print axioms trees_card
end Go.Proofs.YtmclgbkijeidaaaGreatDoor
