import Derived.Test.YtbadafkfjfbnlaaGreatDoorTbQ
import Derived.Test.YtbadafkfjfbnlaaGreatDoorTbE
import Derived.Lib.ItoaLen
import Derived.Test.YtbadafkfjfbnlaaGreatDoorTbF
import Derived.Test.YtbadafkfjfbnlaaGreatDoorTbN
namespace Go.Proofs.YtbadafkfjfbnlaaGreatDoor
set_option maxRecDepth 100000
set_option maxHeartbeats 4000000
open Go.RowKit
theorem zo7 (t : Tok) (w : World) :
  Calls Tryz.prog 44 #[.agg t.cells] w fun e w' => e = .returned (.bool (chkO [t, enT] != 0)) ∧ Below w.heap.size w w' := by
 unfold Tok.cells
 go_enter Tryz.func44, Tryz.ntmps44
 go_wp2_with fail
 have n1 := heap_alloc_new (w.alloc (.cells #[.int .i64 t.kind, .string t.text, .int .i64 t.pos] 60)) (.cells #[.int .i64 t.kind, .string t.text, .int .i64 t.pos, .int .i64 5, .string ⟨#[59]⟩, .int .i64 0] 60)
 simp only [World.size_alloc] at n1
 have hb : Below w.heap.size w ((w.alloc (.cells #[.int .i64 t.kind, .string t.text, .int .i64 t.pos] 60)).alloc (.cells #[.int .i64 t.kind, .string t.text, .int .i64 t.pos, .int .i64 5, .string ⟨#[59]⟩, .int .i64 0] 60)) := ((Below.refl _ _).alloc (Nat.le_refl _) _).alloc (by simp) _
 have hr : RowsT ((w.alloc (.cells #[.int .i64 t.kind, .string t.text, .int .i64 t.pos] 60)).alloc (.cells #[.int .i64 t.kind, .string t.text, .int .i64 t.pos, .int .i64 5, .string ⟨#[59]⟩, .int .i64 0] 60)) (some ⟨w.heap.size + 1, 0, none⟩) [t, enT] := fun _ => by
  refine ⟨_, 0, rfl, fun i y hy j u hu => ?_⟩
  rw [cell_of_row _ _ _ _ _ _ n1]
  have hi : i < 2 := (List.getElem?_eq_some_iff.1 hy).1
  have hj : j < 3 := by have := (Array.getElem?_eq_some_iff.1 hu).1; rwa [Tok.size] at this
  match i, hi with
  | 0, _ =>
   obtain rfl : t = y := by simpa using hy
   match j, hj with
   | 0, _ => exact hu
   | 1, _ => exact hu
   | 2, _ => exact hu
  | 1, _ =>
   obtain rfl : enT = y := by simpa using hy
   match j, hj with
   | 0, _ => exact hu
   | 1, _ => exact hu
   | 2, _ => exact hu
 refine (zj6 _ 2 [t, enT] _ hr (by simp)).mono ?_
 rintro e W ⟨rfl, b1⟩
 have HB : Hid (Below w.heap.size w W) := hb.trans (b1.mono hb.size)
 obtain ⟨c, hc⟩ : ∃ c, c = chkO [t, enT] := ⟨_, rfl⟩
 rw [<- hc]
 have HC : Hid (c = chkO [t, enT]) := hc
 clear n1 hb hr b1 hc
 go_wp2
 go_ret
 exact ⟨zam (by rw [HC.out]), HB.out⟩
theorem zks (args : Array Value) (W : World) : (callFunc 44 args).run Tryz.prog W = .ok (.enter 44 args) W := by rfl
def wrA (t : Tok) : Bool := chkO [t, enT] != 0
theorem zo8 (sp : Option Addr) (cap : Nat) (ts : List Tok) (w : World) (hr : RowsT w sp ts) (hm : ts.length <= 1000000) :
  Calls Tryz.prog 60 #[.slice sp ts.length cap, .func (.func 44) #[] #[]] w fun e w' => (∃ q : Int, e = .returned (.int .i64 q) ∧ (decide (0 <= q) = ts.any wrA)) ∧ Below w.heap.size w w' := by
 have HR : Hid (RowsT w sp ts) := hr
 have hcf := zks
 clear hr
 go_enter Tryz.func60, Tryz.ntmps60
 go_wp2_with fail
 go_loopw [8] (fun i wr => ∃ q : Nat, q <= ts.length ∧ i = .int .i64 q ∧ Below w.heap.size w wr ∧ (ts.take q).any wrA = false) (fun i _ => ts.length - (intOf i).toNat)
 case atStart => exact ⟨0, Nat.zero_le _, rfl, Below.refl _ _, rfl⟩
 case round =>
  obtain ⟨q, hq, rfl, hb, hn⟩ := hrel
  have HB : Hid (Below w.heap.size w wr) := hb
  have HN : Hid ((ts.take q).any wrA = false) := hn
  clear hb hn
  by_cases hlt : q < ts.length
  ·have hd : decide ((q : Int) < ts.length) = true := by simp; omega
   obtain ⟨t, ht⟩ : ∃ t, ts[q]? = some t := ⟨_, List.getElem?_eq_getElem hlt⟩
   obtain ⟨b, o, hsp, hc⟩ := HR.out.below HB.out (by omega)
   have c0 := hc q t ht 0 _ rfl
   have c1 := hc q t ht 1 _ rfl
   have c2 := hc q t ht 2 _ rfl
   rw [Nat.add_zero] at c0
   have HTK : Hid (ts.take (q + 1) = ts.take q ++ [t]) := by show _ = _; rw [List.take_add_one, ht]; rfl
   have HMT : Hid (t ∈ ts) := List.mem_of_getElem? ht
   have HC := zo7 t wr
   unfold Tok.cells at HC
   have HSP : Hid _ := hsp
   clear ht hc hsp
   rw [HSP.out]
   go_wp2_with fail
   refine HC.mono ?_
   rintro e W ⟨rfl, hb⟩
   have HB2 : Hid (Below w.heap.size w W) := HB.out.trans (hb.mono HB.out.size)
   clear hb HC c0 c1 c2
   have hx : (chkO [t, enT] != 0) = wrA t := rfl
   rw [hx]
   clear hx
   cases hw : wrA t
   ·have HN2 : Hid ((ts.take (q + 1)).any wrA = false) := by show _ = _; rw [HTK.out, List.any_append, HN.out]; simp [hw]
    clear hw
    go_wp2
    exact ⟨⟨q + 1, by omega, by go_num, HB2.out, HN2.out⟩, by simp [intOf]; omega⟩
   ·have HQ : Hid (ts.any wrA = true) := List.any_eq_true.2 ⟨t, HMT.out, hw⟩
    clear hw
    go_wp2
    go_ret
    exact ⟨⟨q, rfl, by rw [HQ.out]; simp⟩, HB2.out⟩
  ·have hd : decide ((q : Int) < ts.length) = false := by simp; omega
   have HQ : Hid (ts.any wrA = false) := by have := HN.out; rw [List.take_of_length_le (by omega)] at this; exact this
   go_wp2
   go_ret
   exact ⟨⟨-1, rfl, by rw [HQ.out]; rfl⟩, HB.out⟩
theorem zf0 (sp : Option Addr) (cap : Nat) (ts : List Tok) (w : World) (hr : RowsT w sp ts) (hm : ts.length <= 1000000) :
  Calls Tryz.prog 43 #[.slice sp ts.length cap, .func (.func 44) #[] #[]] w fun e w' => e = .returned (.bool (ts.any wrA)) ∧ Below w.heap.size w w' := by
 have HC := zo8 sp cap ts w hr hm
 clear hr
 go_enter Tryz.func43, Tryz.ntmps43
 go_wp2_with fail
 refine HC.mono ?_
 rintro e W ⟨⟨q, rfl, hq⟩, hb⟩
 have HB : Hid (Below w.heap.size w W) := hb
 have HQ : Hid (decide (0 <= q) = ts.any wrA) := hq
 clear hb hq HC
 go_wp2
 go_ret
 exact ⟨zam (by rw [<- HQ.out]), HB.out⟩
structure TrW (t : Pt) : Prop where
 n : cntP t <= 2048
 d : dpF (fun _ => 0) 0 0 (layP 0 t) <= 24
 g : GdP t
 a : (wrP t).any wrA = false
 s : ∀ u ∈ wrP t, -1000000000000000000 <= u.pos ∧ u.pos <= 1000000000000000000 ∧ u.text.size <= 100000
 f : ∃ t' p, filO (wrP t) = .ok t' p ∧ eqAll ndEq (layP 0 t') (layP 0 t) = true
theorem EnW.low {w W : World} {nv : Value} {L : List Nd} (h : EnW w nv L) (hb : Below w.heap.size w W) : EnW W nv L := by
 obtain ⟨s, c, N, S, h1, h2, h3⟩ := h.x
 refine ⟨⟨s, c, N, S, h1, h2.below hb, h3.1, fun i m d e1 e2 => ?_⟩, zbx hb.block h.t, h.l⟩
 obtain ⟨a, b, c, e, f⟩ := h3.2 i m d e1 e2
 exact ⟨a, b, c.below hb, e, f⟩
theorem zfi {w : World} {sn : Option Addr} {cn : Nat} {t : Pt} (hP : TabP w) (hE : EnW w (.slice sn (layP 0 t).length cn) (layP 0 t)) (hT : TrW t) :
  Calls Tryz.prog 23 #[.agg #[.slice sn (layP 0 t).length cn]] w fun e w' => ∃ v', e = .returned (.tuple #[v', .int .i64 0]) ∧ OwnT w.heap.size w' v' (wrP t) ∧ Below w.heap.size w w' := by
 have HORD : Hid (∀ W, Below w.heap.size w W -> Calls Tryz.prog 41 #[.agg #[.slice sn (layP 0 t).length cn]] W fun e w' => e = .returned (.bool true) ∧ Below W.heap.size W w') := fun W hb => zhj t (hE.low hb)
 have hbd := ze1 t 0
 have hlc := zb1 t 0
 have HKD : Hid (∀ d ∈ layP 0 t, d.kids.length <= 1000000) := fun d hd => by have := (hbd d hd).2; have := hT.n; omega
 have HDEP : Hid (∀ W, Below w.heap.size w W -> Calls Tryz.prog 40 #[.agg #[.slice sn (layP 0 t).length cn]] W fun e w' => e = .returned (.int .i64 (dpF (fun _ => 0) 0 0 (layP 0 t))) ∧ Below W.heap.size W w') := fun W hb => by
  obtain ⟨s, c, N, S, h1, h2, h3⟩ := (hE.low hb).x
  injection h1 with e1 _ e2
  subst e1 e2
  exact zfh W sn cn N S (layP 0 t) h2 h3 (by have := hT.n; omega) fun d hd => ⟨fun k hk => by have := (hbd d hd).1 k hk; omega, by have := (hbd d hd).2; have := hT.n; omega⟩
 have HWRI : Hid (∀ W, Below w.heap.size w W -> Calls Tryz.prog 42 #[.agg #[.slice sn (layP 0 t).length cn]] W fun e w' => ∃ v', e = .returned v' ∧ OwnT W.heap.size w' v' (wrP t) ∧ Below W.heap.size W w') := fun W hb => zkq t (hP.low hb) (hE.low hb) hT.g (by have := hT.n; omega)
 have HTB : Hid (∀ W, Below w.heap.size w W -> Tabl W) := fun W hb => (hE.low hb).t
 have HE : Hid (∀ W, Below w.heap.size w W -> ∃ N S, RowsAt W 7 NdM.cells sn N ∧ Rep W S N (layP 0 t)) := fun W hb => by
  obtain ⟨s, c, N, S, h1, h2, h3⟩ := (hE.low hb).x
  injection h1 with e1 _ e2
  subst e1 e2
  exact ⟨N, S, h2, h3⟩
 have HT : Hid (TrW t) := hT
 have hn := hT.n
 have hwl := zif t
 have hdd := hT.d
 rw [<- hlc] at hn
 clear hP hE hT hbd
 generalize hnl : (layP 0 t).length = nl at *
 generalize hdp : dpF (fun _ => 0) 0 0 (layP 0 t) = dp at *
 have hd1 : decide (2048 < nl) = false := by simp; omega
 have hd2 : decide (24 < dp) = false := by simp; omega
 have HNL : Hid _ := hnl
 have HWL : Hid _ := hwl
 have HLC : Hid _ := hlc
 clear hnl hdp hwl hlc hdd
 go_enter Tryz.func23, Tryz.ntmps23
 go_wp2_with fail
 have r0 := heap_alloc_new w (.cells #[.slice sn nl cn] 25)
 have b0 : Below w.heap.size w (w.alloc (.cells #[.slice sn nl cn] 25)) := (Below.refl _ _).alloc (Nat.le_refl _) _
 refine (HORD.out _ b0).mono ?_
 rintro e W1 ⟨rfl, b1⟩
 have B1 : Hid (Below w.heap.size w W1) := b0.trans (b1.mono b0.size)
 have R1 : Hid (W1.heap[w.heap.size]? = some (.cells #[.slice sn nl cn] 25 (0, 0))) := (b1.block _ (zab r0)).trans r0
 have c1 : W1.cell? ⟨w.heap.size, 0, none⟩ = some (.slice sn nl cn) := (cell_of_row _ _ 0 _ _ _ R1.out).trans rfl
 clear r0 b0 b1
 go_wp2_with fail
 refine (HDEP.out _ B1.out).mono ?_
 rintro e W2 ⟨rfl, b2⟩
 have B2 : Hid (Below w.heap.size w W2) := B1.out.trans (b2.mono B1.out.size)
 have R2 : Hid (W2.heap[w.heap.size]? = some (.cells #[.slice sn nl cn] 25 (0, 0))) := (b2.block _ (zab R1.out)).trans R1.out
 have c2 : W2.cell? ⟨w.heap.size, 0, none⟩ = some (.slice sn nl cn) := (cell_of_row _ _ 0 _ _ _ R2.out).trans rfl
 clear b2 c1 B1 R1
 go_wp2_with fail
 refine (HWRI.out _ B2.out).mono ?_
 rintro e W3 ⟨v3, rfl, o3, b3⟩
 have B3 : Hid (Below w.heap.size w W3) := B2.out.trans (b3.mono B2.out.size)
 have R3 : Hid (W3.heap[w.heap.size]? = some (.cells #[.slice sn nl cn] 25 (0, 0))) := (b3.block _ (zab R2.out)).trans R2.out
 have O3 : Hid (OwnT w.heap.size W3 v3 (wrP t)) := o3.mono B2.out.size
 obtain ⟨sp, cp, rfl, hrows, -, -, -⟩ := OwnG.rows elT O3.out
 have HRO : Hid (RowsT W3 sp (wrP t)) := hrows
 have HWN : Hid ((wrP t).length <= 100000) := by have := HWL.out; have := HLC.out; show _ <= _; omega
 clear b3 c2 B2 R2 o3 hrows
 go_wp2_with fail
 refine (zf0 sp cp (wrP t) W3 HRO.out (by have := HWN.out; omega)).mono ?_
 rintro e W4 ⟨rfl, b4⟩
 rw [HT.out.a]
 have B4 : Hid (Below w.heap.size w W4) := B3.out.trans (b4.mono B3.out.size)
 have R4 : Hid (W4.heap[w.heap.size]? = some (.cells #[.slice sn nl cn] 25 (0, 0))) := (b4.block _ (zab R3.out)).trans R3.out
 have O4 : Hid (OwnT w.heap.size W4 (.slice sp (wrP t).length cp) (wrP t)) := O3.out.below b4
 have HR4 : Hid (RowsT W4 sp (wrP t)) := HRO.out.below b4
 clear b4 B3 R3 O3 HRO
 go_wp2_with fail
 refine (zje W4 sp cp (wrP t) HWN.out HT.out.s (fun W h => ⟨zeg h HR4.out, zbx h (HTB.out W4 B4.out)⟩)).mono ?_
 rintro e W5 ⟨b5, hrd⟩
 obtain ⟨t', p, hf, heq⟩ := HT.out.f
 rw [hf] at hrd
 obtain ⟨hcn, v5, rfl, ht5⟩ := hrd
 have B5 : Hid (Below w.heap.size w W5) := B4.out.trans (b5.mono B4.out.size)
 have R5 : Hid (W5.heap[w.heap.size]? = some (.cells #[.slice sn nl cn] 25 (0, 0))) := (b5.block _ (zab R4.out)).trans R4.out
 have O5 : Hid (OwnT w.heap.size W5 (.slice sp (wrP t).length cp) (wrP t)) := O4.out.below b5
 have HT5 : Hid (TrAt W4.heap.size W5 v5 (layP 0 t')) := ht5
 have HEQ : Hid (eqAll ndEq (layP 0 t') (layP 0 t) = true) := heq
 have HCN : Hid (cntP t' <= 400000) := hcn
 clear b5 B4 R4 O4 HR4 hf heq ht5 hcn
 have c5 : W5.cell? ⟨w.heap.size, 0, none⟩ = some (.slice sn nl cn) := (cell_of_row _ _ 0 _ _ _ R5.out).trans rfl
 obtain ⟨s5, k5, hv5⟩ : ∃ s5 k5, v5 = .slice s5 (layP 0 t').length k5 := by
  obtain ⟨N, S, h1, h2, -⟩ := HT5.out
  obtain ⟨s, c, e⟩ := OwnG.shape h1
  exact ⟨s, c, by rw [e, h2.1]⟩
 subst hv5
 have hbA : Below W5.heap.size W5 ((W5.alloc (.cells #[.slice s5 (layP 0 t').length k5] 25)).alloc (.cells #[.int .i64 0, .int .i64 0] 28)) := ((Below.refl _ _).alloc (Nat.le_refl _) _).alloc (by simp) _
 have cA : ((W5.alloc (.cells #[.slice s5 (layP 0 t').length k5] 25)).alloc (.cells #[.int .i64 0, .int .i64 0] 28)).cell? ⟨w.heap.size, 0, none⟩ = some (.slice sn nl cn) := (cell_of_row _ _ 0 _ _ _ ((hbA.block _ (zab R5.out)).trans R5.out)).trans rfl
 have HBA : Hid _ := hbA
 clear hbA
 go_wp2_with fail
 have hbw := B5.out.trans (HBA.out.mono B5.out.size)
 obtain ⟨M, T, hM, hMR⟩ := HE.out _ hbw
 obtain ⟨N, S, hO, hNR, hS5⟩ := HT5.out.below HBA.out
 obtain ⟨s6, k6, hs6, hrows6, -, -, -⟩ := OwnG.rows elN hO
 injection hs6 with e1 _ e2
 subst e1 e2
 have HSA := zhe s5 sn k5 cn N M S T (layP 0 t') (layP 0 t) _ hrows6 hNR hM hMR (by rw [zb1]; have := HCN.out; omega) (by rw [HNL.out]; omega) (fun d hd => by have := (ze1 t' 0 d hd).2; have := HCN.out; omega) HKD.out
 rw [HNL.out] at HSA
 have O6 : Hid _ := O5.out.below HBA.out
 have HBW : Hid _ := hbw
 clear hbw hM hMR hO hNR hS5 hrows6 cA c5
 refine HSA.mono ?_
 rintro e W6 ⟨rfl, b6⟩
 rw [HEQ.out]
 have B6 : Hid (Below w.heap.size w W6) := HBW.out.trans (b6.mono HBW.out.size)
 have O7 : Hid (OwnT w.heap.size W6 (.slice sp (wrP t).length cp) (wrP t)) := OwnG.below O6.out b6
 clear b6 O6 HBW HSA HBA
 go_wp2
 go_ret2
 exact ⟨_, rfl, O7.out, B6.out⟩
theorem zii {w : World} {sn : Option Addr} {cn : Nat} {t : Pt} (hP : TabP w) (hE : EnW w (.slice sn (layP 0 t).length cn) (layP 0 t)) (hT : TrW t) (hl : (wrP t).length <= 1024) :
  Calls Tryz.prog 10 #[.agg #[.slice sn (layP 0 t).length cn]] w fun e w' => ∃ v', e = .returned (.tuple #[v', .int .i64 0]) ∧ OwnT w.heap.size w' v' (wrP t) ∧ Below w.heap.size w w' := by
 have HC : Hid (∀ W, Below w.heap.size w W -> Calls Tryz.prog 23 #[.agg #[.slice sn (layP 0 t).length cn]] W fun e w' => ∃ v', e = .returned (.tuple #[v', .int .i64 0]) ∧ OwnT W.heap.size w' v' (wrP t) ∧ Below W.heap.size W w') := fun W hb => zfi (hP.low hb) (hE.low hb) hT
 clear hP hE hT
 generalize (layP 0 t).length = nl at *
 have hd : decide (1024 < (wrP t).length) = false := by simp; omega
 have HO : Hid (∀ (B : Nat) (W : World) (v : Value), OwnT B W v (wrP t) -> ∃ sp cap, v = .slice sp (wrP t).length cap) := fun B W v h => OwnG.shape h
 generalize hwl : (wrP t).length = wl at *
 clear hwl
 go_enter Tryz.func10, Tryz.ntmps10
 go_wp2_with fail
 have b0 : Below w.heap.size w (w.alloc (.cells #[.slice sn nl cn] 25)) := (Below.refl _ _).alloc (Nat.le_refl _) _
 refine (HC.out _ b0).mono ?_
 rintro e W ⟨v', rfl, ho, hb⟩
 obtain ⟨sp, cap, hv⟩ := HO.out _ _ _ ho
 subst hv
 have HB : Hid (Below w.heap.size w W) := b0.trans (hb.mono b0.size)
 have HOW : Hid (OwnT w.heap.size W (.slice sp wl cap) (wrP t)) := OwnG.mono ho b0.size
 clear ho hb b0
 go_wp2
 go_ret2
 exact ⟨_, rfl, HOW.out, HB.out⟩
theorem zzo {w : World} {sn : Option Addr} {cn : Nat} {t : Pt} (hP : TabP w) (hE : EnW w (.slice sn (layP 0 t).length cn) (layP 0 t)) (hT : TrW t) :
  Calls Tryz.prog 9 #[.agg #[.slice sn (layP 0 t).length cn]] w fun e w' => e = .returned (.int .i64 0) ∧ Below w.heap.size w w' := by
 have HC : Hid (∀ W, Below w.heap.size w W -> Calls Tryz.prog 23 #[.agg #[.slice sn (layP 0 t).length cn]] W fun e w' => ∃ v', e = .returned (.tuple #[v', .int .i64 0]) ∧ OwnT W.heap.size w' v' (wrP t) ∧ Below W.heap.size W w') := fun W hb => zfi (hP.low hb) (hE.low hb) hT
 clear hP hE hT
 generalize (layP 0 t).length = nl at *
 go_enter Tryz.func9, Tryz.ntmps9
 go_wp2_with fail
 have b0 : Below w.heap.size w (w.alloc (.cells #[.slice sn nl cn] 25)) := (Below.refl _ _).alloc (Nat.le_refl _) _
 refine (HC.out _ b0).mono ?_
 rintro e W ⟨v', rfl, -, hb⟩
 have HB : Hid (Below w.heap.size w W) := b0.trans (hb.mono b0.size)
 clear hb b0
 go_wp2
 go_ret
 exact ⟨rfl, HB.out⟩
theorem zhk {w : World} {sn : Option Addr} {cn : Nat} {t : Pt} (hP : TabP w) (hE : EnW w (.slice sn (layP 0 t).length cn) (layP 0 t)) (hT : TrW t) (hl : 1024 < (wrP t).length) :
  Calls Tryz.prog 10 #[.agg #[.slice sn (layP 0 t).length cn]] w fun e w' => e = .returned (.tuple #[.slice none 0 0, .int .i64 3]) ∧ Below w.heap.size w w' := by
 have HC : Hid (∀ W, Below w.heap.size w W -> Calls Tryz.prog 23 #[.agg #[.slice sn (layP 0 t).length cn]] W fun e w' => ∃ v', e = .returned (.tuple #[v', .int .i64 0]) ∧ OwnT W.heap.size w' v' (wrP t) ∧ Below W.heap.size W w') := fun W hb => zfi (hP.low hb) (hE.low hb) hT
 clear hP hE hT
 generalize (layP 0 t).length = nl at *
 have hd : decide (1024 < (wrP t).length) = true := by simp; omega
 have HO : Hid (∀ (B : Nat) (W : World) (v : Value), OwnT B W v (wrP t) -> ∃ sp cap, v = .slice sp (wrP t).length cap) := fun B W v h => OwnG.shape h
 generalize hwl : (wrP t).length = wl at *
 clear hwl
 go_enter Tryz.func10, Tryz.ntmps10
 go_wp2_with fail
 have b0 : Below w.heap.size w (w.alloc (.cells #[.slice sn nl cn] 25)) := (Below.refl _ _).alloc (Nat.le_refl _) _
 refine (HC.out _ b0).mono ?_
 rintro e W ⟨v', rfl, ho, hb⟩
 obtain ⟨sp, cap, hv⟩ := HO.out _ _ _ ho
 subst hv
 have HB : Hid (Below w.heap.size w W) := b0.trans (hb.mono b0.size)
 clear ho hb b0
 go_wp2
 go_ret2
 exact ⟨rfl, HB.out⟩
theorem zkt {w : World} {sn : Option Addr} {cn : Nat} {Z : List NdZ} (hE : EnZ w (.slice sn Z.length cn) Z) :
  Calls Tryz.prog 41 #[.agg #[.slice sn Z.length cn]] w fun e w' => e = .returned (.bool (ordZ Z)) ∧ Below w.heap.size w w' := by
 have HV : Hid (∀ W, Vis w sn cn Z.length W 0 -> Calls Tryz.prog 58 #[.int .i64 0, .pointer (some ⟨w.heap.size + 1, 0, none⟩), .pointer (some ⟨w.heap.size, 0, none⟩), .pointer (some ⟨w.heap.size + 1 + 1, 0, none⟩)] W fun e w' => e = .returned (.bool (visZ Z (Z.length + 1) 0 0).isSome) ∧ ∃ q', Vis w sn cn Z.length w' q' ∧ (visZ Z (Z.length + 1) 0 0 = some q' ∨ visZ Z (Z.length + 1) 0 0 = none) ∧ q' <= Z.length) := fun W h =>
  zo6 hE (Z.length + 1) 0 0 W (by omega) (Nat.zero_le _) h
 have HO : Hid (ordZ Z = (visZ Z (Z.length + 1) 0 0 == some Z.length)) := rfl
 have hLl := hE.l
 clear hE
 have hmf : ∀ (fn : Fn) (first cap : Array Value) (w : World), (Instr.makeFunc fn first cap).run Tryz.prog w = .ok (.func fn first cap) w := fun _ _ _ _ => rfl
 have hcf := zfz
 have hsf : ∀ (a : Addr) (fn : Fn) (first cap : Array Value) (W : World), (store a (.func fn first cap)).run Tryz.prog W = stored Tryz.prog W a (.func fn first cap) .plain := fun a fn first cap W => run_store _ W a _ _ rfl
 generalize Z.length = nl at *
 generalize visZ Z (nl + 1) 0 0 = R at *
 generalize ordZ Z = OZ at *
 go_enter Tryz.func41, Tryz.ntmps41
 go_wp2_with fail
 refine zae (fun W => Vis w sn cn nl W 0) ?_ ?_
 ·have n0 := heap_alloc_new w (.cells #[.slice sn nl cn] 25)
  have n1 := heap_alloc_new (w.alloc (.cells #[.slice sn nl cn] 25)) (.cells #[.int .i64 0] 3)
  have n2 := heap_alloc_new ((w.alloc (.cells #[.slice sn nl cn] 25)).alloc (.cells #[.int .i64 0] 3)) (.cells #[.func (.func 58) #[] #[.pointer (some ⟨w.heap.size + 1, 0, none⟩), .pointer (some ⟨w.heap.size, 0, none⟩), .pointer (some ⟨w.heap.size + 1 + 1, 0, none⟩)]] 73)
  simp only [World.size_alloc] at n1 n2
  exact ⟨(((Below.refl _ _).alloc (Nat.le_refl _) _).alloc (by simp) _).alloc (by simp; try omega) _, (Below.heap_alloc _ _ _ (by simp; try omega)).trans ((Below.heap_alloc _ _ _ (by simp)).trans n0), (Below.heap_alloc _ _ _ (by simp)).trans n1, n2⟩
 intro W hW
 refine (HV.out W hW).mono ?_
 rintro e W2 ⟨rfl, q', h2, hor, hq⟩
 have ct : W2.cell? ⟨w.heap.size, 0, none⟩ = some (.slice sn nl cn) := (cell_of_row _ _ 0 _ _ _ h2.t).trans rfl
 have cq : W2.cell? ⟨w.heap.size + 1, 0, none⟩ = some (.int .i64 q') := (cell_of_row _ _ 0 _ _ _ h2.n).trans rfl
 have HB : Hid (Below w.heap.size w W2) := h2.b
 clear hW h2 HV
 cases R with
 | none =>
  have HX : Hid (OZ = false) := by show _ = _; rw [HO.out]; rfl
  simp only [Option.isSome_none]
  clear hor
  go_wp2
  go_ret
  exact ⟨zam (by rw [HX.out]), HB.out⟩
 | some p =>
  have hpe : p = q' := by
   rcases hor with h | h
   ·injection h
   ·cases h
  subst hpe
  have HX : Hid (OZ = (p == nl)) := by
   show _ = _
   rw [HO.out, Bool.eq_iff_iff, beq_iff_eq, beq_iff_eq]
   exact ⟨fun h => by injection h, fun h => by rw [h]⟩
  simp only [Option.isSome_some]
  clear hor
  cases z1 : (p == nl)
  ·have z1' : ((p : Int) == (nl : Int)) = false := by have h0 : ¬ p = nl := (by simpa using z1); simp; omega
   rw [z1] at HX
   go_wp2
   go_ret
   exact ⟨zam (by rw [HX.out]), HB.out⟩
  ·have z1' : ((p : Int) == (nl : Int)) = true := by have h0 : p = nl := (by simpa using z1); simp; omega
   rw [z1] at HX
   go_wp2
   go_ret
   exact ⟨zam (by rw [HX.out]), HB.out⟩
theorem zku (s : ByteArray) (k : Nat) : s.extract 0 k = strU (s.data.toList.take k) := by
 have h : (s.extract 0 k).data.toList = s.data.toList.take k := by
  rw [ByteArray.data_extract, Array.toList_extract]
  simp
 rw [<- h, zix]
theorem zu3 (s : ByteArray) (m : Nat) : s.extract 0 (min (s.size : Int) m).toNat = strU (s.data.toList.take m) := by
 rw [zku]
 congr 1
 by_cases h : s.size <= m
 ·rw [show (min (s.size : Int) m).toNat = s.size by omega, List.take_of_length_le (by simp), List.take_of_length_le (by simpa using h)]
 ·rw [show (min (s.size : Int) m).toNat = m by omega]
theorem zu4 {c : UInt8} (h : c.toNat = 34 ∨ c.toNat = 92) : pairU c = some c := by unfold pairU; rw [if_pos h]
theorem zu5 : ∀ (L acc Q : List UInt8), quoG acc L = some Q -> ∃ E : List UInt8, Q = acc ++ E ++ [34] ∧ E.length <= 2 * L.length ∧ ∀ (a : List UInt8) (i : Nat), unqA a i (E ++ [34]) = some (a ++ L, i + E.length + 1) := by
 intro L
 induction L with
 | nil =>
  intro acc Q h
  simp only [quoG, Option.some.injEq] at h
  refine ⟨[], by rw [List.append_nil]; exact h.symm, by simp, fun a i => ?_⟩
  rw [List.nil_append, zbk, if_pos (by decide), List.append_nil]
  rfl
 | cons c r ih =>
  intro acc Q h
  rw [quoG] at h
  cases hq : quoB c with
  | none => rw [hq] at h; cases h
  | some x =>
   rw [hq] at h
   obtain ⟨E, hE, hl, hu⟩ := ih (acc ++ x) Q h
   refine ⟨x ++ E, by rw [hE]; simp, ?_, fun a i => ?_⟩
   ·have : x.length <= 2 := by
     unfold quoB at hq
     repeat' split at hq
     all_goals first | (injection hq with hq; subst hq; simp) | cases hq
    rw [List.length_append, List.length_cons]
    omega
   ·unfold quoB at hq
    by_cases h1 : c.toNat = 34 ∨ c.toNat = 92
    ·rw [if_pos h1] at hq
     injection hq with hq
     subst hq
     show unqA a i (92 :: c :: (E ++ [34])) = _
     rw [zbk, if_neg (by decide), if_pos (by decide)]
     simp only [zu4 h1]
     rw [hu]
     simp
     omega
    ·rw [if_neg h1] at hq
     by_cases h2 : c.toNat = 10
     ·rw [if_pos h2] at hq
      injection hq with hq
      subst hq
      have hc : c = 10 := UInt8.toNat.inj h2
      show unqA a i (92 :: 110 :: (E ++ [34])) = _
      rw [zbk, if_neg (by decide), if_pos (by decide)]
      have hp : pairU 110 = some 10 := by decide
      simp only [hp]
      rw [hu, hc]
      simp
      omega
     ·rw [if_neg h2] at hq
      by_cases h3 : plnB c.toNat = true
      ·rw [if_pos h3] at hq
       injection hq with hq
       subst hq
       show unqA a i (c :: (E ++ [34])) = _
       rw [zbk, if_neg (by omega), if_neg (by omega), if_pos h3, hu]
       simp
       omega
      ·rw [if_neg h3] at hq
       cases hq
theorem zrc {L Q : List UInt8} (h : quoO L = some Q) : unqO Q = some (L, Q.length) ∧ Q.length <= 2 * L.length + 2 ∧ Q.head? = some 34 := by
 obtain ⟨E, hE, hl, hu⟩ := zu5 L [34] Q h
 have e : Q = 34 :: (E ++ [34]) := by rw [hE]; simp
 refine ⟨?_, by rw [e]; simp; omega, by rw [e]; rfl⟩
 rw [e]
 show (if (34 : UInt8).toNat = 34 then unqA [] 1 (E ++ [34]) else none) = _
 rw [if_pos (by decide), hu]
 simp
 omega
def smT (u : Tok) : Prop := u.pos = 0 ∧ u.text.size <= 100000
def aS (ws : List Tok) : Prop := ∀ u ∈ ws, smT u
theorem zkv : aS [] := fun u hu => by simp at hu
theorem zbp {a b : List Tok} (h : aS a) (h' : aS b) : aS (a ++ b) := fun u hu => (List.mem_append.1 hu).elim (h u) (h' u)
theorem zbu {u : Tok} (h : smT u) : aS [u] := fun v hv => by obtain rfl := List.mem_singleton.1 hv; exact h
theorem zgd {u : Tok} {a : List Tok} (h : smT u) (h' : aS a) : aS (u :: a) := fun v hv => (List.mem_cons.1 hv).elim (fun e => by rw [e]; exact h) (h' v)
theorem zdp {os : List (List Tok)} (h : ∀ o ∈ os, aS o) : aS os.flatten := fun u hu => by
 obtain ⟨o, ho, hu⟩ := List.mem_flatten.1 hu
 exact h o ho u hu
theorem sm_w {k : Int} {x : ByteArray} (h : x.size <= 100000) : smT (tkW k x) := ⟨rfl, h⟩
theorem sm_s (s : List UInt8) (h : s.length <= 100000) : smT (sgT s) := ⟨rfl, by show (strU s).size <= _; rw [zee]; exact h⟩
theorem sm_d (s : List UInt8) (h : s.length <= 100000) : smT (wdT s) := ⟨rfl, by show (strU s).size <= _; rw [zee]; exact h⟩
theorem zz5 : smT enT := ⟨rfl, by decide⟩
theorem zv5 {os : List (List Tok)} (h : ∀ o ∈ os, aS o) : aS (wEnd os) := zdp fun o ho => by
 obtain ⟨q, hq, rfl⟩ := List.mem_map.1 ho
 exact zbp (h q hq) (zbu zz5)
theorem zrd {s : List UInt8} (hs : s.length <= 100000) {os : List (List Tok)} (h : ∀ o ∈ os, aS o) : aS (wPar s os) := by
 cases os with
 | nil => exact zkv
 | cons o r => exact zbp (h o (by simp)) (zdp fun q hq => by
   obtain ⟨z, hz, rfl⟩ := List.mem_map.1 hq
   exact zgd (sm_s s hs) (h z (by simp [hz])))
theorem zng {os : List (List Tok)} (h : ∀ o ∈ os, aS o) : aS (wBrk os) := zbp (zbp (zbu (sm_s _ (by decide))) (zrd (by decide) h)) (zbu (sm_s _ (by decide)))
theorem zv6 {os : List (List Tok)} (h : ∀ o ∈ os, aS o) : aS (wBra os) := zbp (zbp (zbu (sm_s _ (by decide))) (zv5 h)) (zbu (sm_s _ (by decide)))
theorem zl1 {os : List (List Tok)} (n : Nat) (h : ∀ o ∈ os, aS o) : ∀ o ∈ os.take n, aS o := fun o ho => h o (List.mem_of_mem_take ho)
theorem zhl {os : List (List Tok)} (n : Nat) (h : ∀ o ∈ os, aS o) : ∀ o ∈ os.drop n, aS o := fun o ho => h o (List.mem_of_mem_drop ho)
theorem z2n {os : List (List Tok)} (h : ∀ o ∈ os, aS o) : aS (wIf os) := by
 unfold wIf
 refine zbp (zbp (zdp (zl1 2 h)) ?_) (zdp (zhl 2 h))
 split
 ·exact zbu (sm_d _ (by decide))
 ·exact zkv
theorem zkw {k : Int} {x : ByteArray} {hs : List (Int × ByteArray)} {os : List (List Tok)} (i : Nat) (h : ∀ o ∈ os, aS o) : aS (wOpe k x hs os i) := by
 unfold wOpe
 split
 ·rename_i h' o e1 e2
  have ho := h o (List.mem_of_getElem? e2)
  split
  ·exact zng fun q hq => by obtain rfl := List.mem_singleton.1 hq; exact ho
  ·exact ho
 ·exact zkv
theorem zkx {x : ByteArray} (hx : x.size <= 40000) : (quoT x).size <= 100000 := by
 unfold quoT
 split
 ·rename_i q hq
  have := (zrc hq).2.1
  have e : x.data.toList.length = x.size := by simp
  rw [zee]
  omega
 ·decide
theorem zz6 {x : ByteArray} {hs : List (Int × ByteArray)} {os : List (List Tok)} (hx : x.size <= 40000) (h : ∀ o ∈ os, aS o) : aS (wFun x hs os) := by
 unfold wFun
 refine zbp (zbp (zbp (zbp (zbu (sm_d _ (by decide))) ?_) (zbu (sm_w (by omega)))) (zng (zl1 _ (zhl _ h)))) (zdp (zhl _ (zhl _ h)))
 split
 ·exact zng (zl1 _ h)
 ·exact zkv
theorem aS_X {k n : Int} {x : ByteArray} {hs : List (Int × ByteArray)} {os : List (List Tok)} (hx : x.size <= 40000) (hn : -9223372036854775808 <= n ∧ n <= 9223372036854775807) (h : ∀ o ∈ os, aS o) : aS (wrX k x n hs os) := by
 have h1 : smT (nuT n) := ⟨rfl, by show (Lib.itoa n).toArray.size <= _; have := Lib.itoa_length_le n hn.1 hn.2; simp; omega⟩
 have h2 : smT (tkW 3 (quoT x)) := ⟨rfl, zkx hx⟩
 unfold wrX
 repeat' split
 ·exact zbu h1
 ·exact zbu h2
 ·exact zbu (sm_w (by omega))
 ·exact zbp (zbp (zkw 0 h) (zbu (sm_s _ (by decide)))) (zbu (sm_w (by omega)))
 ·exact zbp (zkw 0 h) (zng (zhl _ h))
 ·exact zbp (zbu (sm_w (by omega))) (zkw 0 h)
 ·exact zbp (zbp (zkw 0 h) (zbu (sm_w (by omega)))) (zkw 1 h)
 ·exact zkv
theorem aS_S {k n : Int} {x : ByteArray} {hs : List (Int × ByteArray)} {os : List (List Tok)} (hx : x.size <= 40000) (hn : -9223372036854775808 <= n ∧ n <= 9223372036854775807) (h : ∀ o ∈ os, aS o) : aS (wrS k x n hs os) := by
 unfold wrS
 repeat' split
 ·exact zv6 h
 ·exact zbp (zbu (sm_d _ (by decide))) (z2n h)
 ·exact zbp (zbu (sm_d _ (by decide))) (zdp h)
 ·exact zbp (zbu (sm_d _ (by decide))) (zdp h)
 ·exact zbp (zbp (zbu (sm_w (by omega))) (zbu (sm_s _ (by decide)))) (zdp h)
 ·exact zrd (by decide) h
 ·exact zdp h
 ·exact aS_X hx hn h
theorem aS_K {k n : Int} {x : ByteArray} {hs : List (Int × ByteArray)} {os : List (List Tok)} (hx : x.size <= 40000) (hn : -9223372036854775808 <= n ∧ n <= 9223372036854775807) (h : ∀ o ∈ os, aS o) : aS (wrK k x n hs os) := by
 have h2 : smT (tkW 3 (quoT x)) := ⟨rfl, zkx hx⟩
 have hw : smT (tkW 1 x) := sm_w (by omega)
 unfold wrK
 repeat' split
 ·exact zbp (zbp (zgd (sm_d _ (by decide)) (zbu hw)) (zbu zz5)) (zv5 h)
 ·exact zbp (zbu (sm_d _ (by decide))) (zbu h2)
 ·exact zbp (zbp (zgd (sm_d _ (by decide)) (zbu hw)) (zbu (sm_s _ (by decide)))) (zdp h)
 ·exact zbp (zgd (sm_d _ (by decide)) (zbu hw)) (zrd (by decide) h)
 ·exact zbp (zgd (sm_d _ (by decide)) (zgd hw (zbu (sm_d _ (by decide))))) (zv6 h)
 ·exact zz6 hx h
 ·exact zbp (zbu hw) (zdp h)
 ·exact zbu hw
 ·exact zbp (zbp (zdp h) (zbu (sm_s _ (by decide)))) (zbu hw)
 ·exact aS_S hx hn h
mutual
def GsP : Pt -> Prop | .mk _ x n _ _ _ l => x.size <= 40000 ∧ (-9223372036854775808 <= n ∧ n <= 9223372036854775807) ∧ GsL l
def GsL : List Pt -> Prop | [] => True | t :: r => GsP t ∧ GsL r
end
mutual
theorem zz7 : ∀ t : Pt, GsP t -> aS (wrP t)
 | .mk k x n a f t l, h => by
  rw [GsP] at h
  rw [wrP]
  exact aS_K h.1 h.2.1 (zv7 l h.2.2)
theorem zv7 : ∀ l : List Pt, GsL l -> ∀ o ∈ wrM l, aS o
 | [], _ => fun o ho => by rw [wrM] at ho; simp at ho
 | t :: r, h => fun o ho => by
  rw [GsL] at h
  rw [wrM] at ho
  rcases List.mem_cons.1 ho with rfl | ho
  ·exact zz7 t h.1
  ·exact zv7 r h.2 o ho
theorem zxz : ∀ t : Pt, GsP t -> GdP t
 | .mk k x n a f t l, h => by
  rw [GsP] at h
  rw [GdP]
  exact ⟨by omega, h.2.1, zv8 l h.2.2⟩
theorem zv8 : ∀ l : List Pt, GsL l -> GdL l
 | [], _ => by rw [GdL]; trivial
 | t :: r, h => by
  rw [GsL] at h
  rw [GdL]
  exact ⟨zxz t h.1, zv8 r h.2⟩
end
mutual
theorem zv9 : ∀ (t : Pt) (i : Nat), (∀ d ∈ layP i t, d.text.size <= 40000 ∧ -9223372036854775808 <= d.num ∧ d.num <= 9223372036854775807) -> GsP t
 | .mk k x n a f t l, i, h => by
  rw [layP] at h
  rw [GsP]
  have h0 := h ⟨k, x, n, kidI (i + 1) l, a, f, t⟩ (by simp)
  exact ⟨h0.1, h0.2, zre l (i + 1) fun d hd => h d (by simp [hd])⟩
theorem zre : ∀ (l : List Pt) (i : Nat), (∀ d ∈ layL i l, d.text.size <= 40000 ∧ -9223372036854775808 <= d.num ∧ d.num <= 9223372036854775807) -> GsL l
 | [], _, _ => by rw [GsL]; trivial
 | t :: r, i, h => by
  rw [layL] at h
  rw [GsL]
  exact ⟨zv9 t i fun d hd => h d (by simp [hd]), zre r (i + cntP t) fun d hd => h d (by simp [hd])⟩
end
def SmZ (Z : List NdZ) : Prop := ∀ d ∈ Z, d.text.size <= 40000 ∧ -9223372036854775808 <= d.num ∧ d.num <= 9223372036854775807
theorem zz8 {Z : List NdZ} {t : Pt} (h : SmZ Z) (e : Z = (layP 0 t).map toZ) : GsP t := zv9 t 0 fun d hd => by
 have := h (toZ d) (by rw [e]; exact List.mem_map_of_mem hd)
 exact this
theorem EnZ.enw {w : World} {nv : Value} {Z : List NdZ} {t : Pt} (h : EnZ w nv Z) (e : Z = (layP 0 t).map toZ) (hT : Tabl w) : EnW w nv (layP 0 t) := by
 obtain ⟨sn, cn, N, h1, h2, h3⟩ := h.x
 subst e
 rw [List.length_map] at h1
 exact ⟨⟨sn, cn, N, _, h1, h2, h3.rep⟩, hT, by have := h.l; rw [List.length_map] at this; exact this⟩
theorem zl2 {w : World} {sn : Option Addr} {cn : Nat} {t : Pt} (hP : TabP w) (hE : EnW w (.slice sn (layP 0 t).length cn) (layP 0 t)) (hg : GsP t) (hn0 : cntP t <= 2048) (hT : ¬ TrW t) :
  Calls Tryz.prog 23 #[.agg #[.slice sn (layP 0 t).length cn]] w fun e w' => e = .returned (.tuple #[.slice none 0 0, .int .i64 211]) ∧ Below w.heap.size w w' := by
 have HORD : Hid (∀ W, Below w.heap.size w W -> Calls Tryz.prog 41 #[.agg #[.slice sn (layP 0 t).length cn]] W fun e w' => e = .returned (.bool true) ∧ Below W.heap.size W w') := fun W hb => zhj t (hE.low hb)
 have hbd := ze1 t 0
 have hlc := zb1 t 0
 have HKD : Hid (∀ d ∈ layP 0 t, d.kids.length <= 1000000) := fun d hd => by have := (hbd d hd).2; have := hn0; omega
 have HDEP : Hid (∀ W, Below w.heap.size w W -> Calls Tryz.prog 40 #[.agg #[.slice sn (layP 0 t).length cn]] W fun e w' => e = .returned (.int .i64 (dpF (fun _ => 0) 0 0 (layP 0 t))) ∧ Below W.heap.size W w') := fun W hb => by
  obtain ⟨s, c, N, S, h1, h2, h3⟩ := (hE.low hb).x
  injection h1 with e1 _ e2
  subst e1 e2
  exact zfh W sn cn N S (layP 0 t) h2 h3 (by have := hn0; omega) fun d hd => ⟨fun k hk => by have := (hbd d hd).1 k hk; omega, by have := (hbd d hd).2; have := hn0; omega⟩
 have HWRI : Hid (∀ W, Below w.heap.size w W -> Calls Tryz.prog 42 #[.agg #[.slice sn (layP 0 t).length cn]] W fun e w' => ∃ v', e = .returned v' ∧ OwnT W.heap.size w' v' (wrP t) ∧ Below W.heap.size W w') := fun W hb => zkq t (hP.low hb) (hE.low hb) (zxz t hg) (by have := hn0; omega)
 have HTB : Hid (∀ W, Below w.heap.size w W -> Tabl W) := fun W hb => (hE.low hb).t
 have HE : Hid (∀ W, Below w.heap.size w W -> ∃ N S, RowsAt W 7 NdM.cells sn N ∧ Rep W S N (layP 0 t)) := fun W hb => by
  obtain ⟨s, c, N, S, h1, h2, h3⟩ := (hE.low hb).x
  injection h1 with e1 _ e2
  subst e1 e2
  exact ⟨N, S, h2, h3⟩
 have HTS : Hid (∀ u ∈ wrP t, -1000000000000000000 <= u.pos ∧ u.pos <= 1000000000000000000 ∧ u.text.size <= 100000) := fun u hu => by
  have := zz7 t hg u hu
  rw [this.1]
  exact ⟨by decide, by decide, this.2⟩
 have HNT : Hid (dpF (fun _ => 0) 0 0 (layP 0 t) <= 24 -> (wrP t).any wrA = false -> ∀ t' p, filO (wrP t) = .ok t' p -> eqAll ndEq (layP 0 t') (layP 0 t) = false) := fun h1 h2 t' p h3 => by
  cases he : eqAll ndEq (layP 0 t') (layP 0 t) with
  | false => rfl
  | true => exact absurd ⟨hn0, h1, zxz t hg, h2, HTS.out, t', p, h3, he⟩ hT
 have hwl := zif t
 have hn : (layP 0 t).length <= 2048 := by rw [hlc]; exact hn0
 have hpos : 0 < (layP 0 t).length := by rw [hlc]; exact zdu t
 have HNE : Hid (eqAll ndEq ([] : List Nd) (layP 0 t) = false) := by
  show _ = _
  cases hL : layP 0 t with
  | nil => rw [hL] at hpos; simp at hpos
  | cons a r => rfl
 clear hP hE hT hbd hg
 generalize hnl : (layP 0 t).length = nl at *
 generalize hdp : dpF (fun _ => 0) 0 0 (layP 0 t) = dp at *
 have hd1 : decide (2048 < nl) = false := by simp; omega
 have HNL : Hid _ := hnl
 have HWL : Hid _ := hwl
 have HLC : Hid _ := hlc
 clear hnl hdp hwl hlc
 go_enter Tryz.func23, Tryz.ntmps23
 go_wp2_with fail
 have r0 := heap_alloc_new w (.cells #[.slice sn nl cn] 25)
 have b0 : Below w.heap.size w (w.alloc (.cells #[.slice sn nl cn] 25)) := (Below.refl _ _).alloc (Nat.le_refl _) _
 refine (HORD.out _ b0).mono ?_
 rintro e W1 ⟨rfl, b1⟩
 have B1 : Hid (Below w.heap.size w W1) := b0.trans (b1.mono b0.size)
 have R1 : Hid (W1.heap[w.heap.size]? = some (.cells #[.slice sn nl cn] 25 (0, 0))) := (b1.block _ (zab r0)).trans r0
 have c1 : W1.cell? ⟨w.heap.size, 0, none⟩ = some (.slice sn nl cn) := (cell_of_row _ _ 0 _ _ _ R1.out).trans rfl
 clear r0 b0 b1
 go_wp2_with fail
 refine (HDEP.out _ B1.out).mono ?_
 rintro e W2 ⟨rfl, b2⟩
 have B2 : Hid (Below w.heap.size w W2) := B1.out.trans (b2.mono B1.out.size)
 have R2 : Hid (W2.heap[w.heap.size]? = some (.cells #[.slice sn nl cn] 25 (0, 0))) := (b2.block _ (zab R1.out)).trans R1.out
 have c2 : W2.cell? ⟨w.heap.size, 0, none⟩ = some (.slice sn nl cn) := (cell_of_row _ _ 0 _ _ _ R2.out).trans rfl
 clear b2 c1 B1 R1
 cases hd2 : decide (24 < dp)
 rotate_left
 focus (
  go_wp2
  go_ret2
  exact ⟨rfl, B2.out⟩)
 have HD2 : Hid (dp <= 24) := by show _ <= _; have := of_decide_eq_false hd2; omega
 go_wp2_with fail
 refine (HWRI.out _ B2.out).mono ?_
 rintro e W3 ⟨v3, rfl, o3, b3⟩
 have B3 : Hid (Below w.heap.size w W3) := B2.out.trans (b3.mono B2.out.size)
 have R3 : Hid (W3.heap[w.heap.size]? = some (.cells #[.slice sn nl cn] 25 (0, 0))) := (b3.block _ (zab R2.out)).trans R2.out
 have O3 : Hid (OwnT w.heap.size W3 v3 (wrP t)) := o3.mono B2.out.size
 obtain ⟨sp, cp, rfl, hrows, -, -, -⟩ := OwnG.rows elT O3.out
 have HRO : Hid (RowsT W3 sp (wrP t)) := hrows
 have HWN : Hid ((wrP t).length <= 100000) := by have := HWL.out; have := HLC.out; show _ <= _; omega
 clear b3 c2 B2 R2 o3 hrows
 go_wp2_with fail
 refine (zf0 sp cp (wrP t) W3 HRO.out (by have := HWN.out; omega)).mono ?_
 rintro e W4 ⟨rfl, b4⟩
 have B4 : Hid (Below w.heap.size w W4) := B3.out.trans (b4.mono B3.out.size)
 have R4 : Hid (W4.heap[w.heap.size]? = some (.cells #[.slice sn nl cn] 25 (0, 0))) := (b4.block _ (zab R3.out)).trans R3.out
 have O4 : Hid (OwnT w.heap.size W4 (.slice sp (wrP t).length cp) (wrP t)) := O3.out.below b4
 have HR4 : Hid (RowsT W4 sp (wrP t)) := HRO.out.below b4
 clear b4 B3 R3 O3 HRO
 cases hwa : (wrP t).any wrA
 rotate_left
 focus (
  go_wp2
  go_ret2
  exact ⟨rfl, B4.out⟩)
 have HWA : Hid ((wrP t).any wrA = false) := hwa
 clear hwa
 go_wp2_with fail
 refine (zje W4 sp cp (wrP t) HWN.out HTS.out (fun W h => ⟨zeg h HR4.out, zbx h (HTB.out W4 B4.out)⟩)).mono ?_
 rintro e W5 ⟨b5, hrd⟩
 have B5 : Hid (Below w.heap.size w W5) := B4.out.trans (b5.mono B4.out.size)
 have R5 : Hid (W5.heap[w.heap.size]? = some (.cells #[.slice sn nl cn] 25 (0, 0))) := (b5.block _ (zab R4.out)).trans R4.out
 have main : ∃ (s5 : Option Addr) (k5 : Nat) (K : List Nd) (er pe : Int), e = .returned (.tuple #[.agg #[.slice s5 K.length k5], .agg #[.int .i64 er, .int .i64 pe]]) ∧ eqAll ndEq K (layP 0 t) = false ∧ K.length <= 1000000 ∧ (∀ d ∈ K, d.kids.length <= 1000000) ∧ ∀ W, Below W5.heap.size W5 W -> ∃ N S, RowsAt W 7 NdM.cells s5 N ∧ Rep W S N K := by
  cases hf : filO (wrP t) with
  | out => rw [hf] at hrd; exact hrd.elim
  | bad s =>
   rw [hf] at hrd
   have hrd' : e = .returned (.tuple #[.agg #[.slice none 0 0], .agg (wroC s)]) := hrd
   exact ⟨none, 0, [], 210, s, hrd', HNE.out, by simp, fun d hd => by simp at hd, fun W _ => ⟨[], fun _ => False, fun hl => by simp at hl, rfl, fun i m d h1 _ => by simp at h1⟩⟩
  | ok t' p =>
   rw [hf] at hrd
   obtain ⟨hcn, v5, he, ht5⟩ := hrd
   obtain ⟨s5, k5, hv5⟩ : ∃ s5 k5, v5 = .slice s5 (layP 0 t').length k5 := by
    obtain ⟨N, S, h1, h2, -⟩ := ht5
    obtain ⟨s, c, e⟩ := OwnG.shape h1
    exact ⟨s, c, by rw [e, h2.1]⟩
   subst hv5
   refine ⟨s5, k5, layP 0 t', 0, 0, he, HNT.out HD2.out HWA.out t' p hf, by rw [zb1]; omega, fun d hd => by have := (ze1 t' 0 d hd).2; omega, fun W hb => ?_⟩
   obtain ⟨N, S, hO, hNR, hS5⟩ := ht5.below hb
   obtain ⟨s6, k6, hs6, hrows6, -, -, -⟩ := OwnG.rows elN hO
   injection hs6 with e1 _ e2
   subst e1 e2
   exact ⟨N, S, hrows6, hNR⟩
 obtain ⟨s5, k5, K, er, pe, rfl, hne, hK1, hK2, hK3⟩ := main
 have HNQ : Hid _ := hne
 have HK2 : Hid _ := hK2
 have HK3 : Hid _ := hK3
 clear b5 hrd hne hK2 hK3 B4 R4 O4 HR4
 generalize hkl : K.length = kl at *
 have HKL : Hid _ := hkl
 clear hkl
 have hbA : Below W5.heap.size W5 ((W5.alloc (.cells #[.slice s5 kl k5] 25)).alloc (.cells #[.int .i64 er, .int .i64 pe] 28)) := ((Below.refl _ _).alloc (Nat.le_refl _) _).alloc (by simp) _
 have c5 : W5.cell? ⟨w.heap.size, 0, none⟩ = some (.slice sn nl cn) := (cell_of_row _ _ 0 _ _ _ R5.out).trans rfl
 have cA : ((W5.alloc (.cells #[.slice s5 kl k5] 25)).alloc (.cells #[.int .i64 er, .int .i64 pe] 28)).cell? ⟨w.heap.size, 0, none⟩ = some (.slice sn nl cn) := (cell_of_row _ _ 0 _ _ _ ((hbA.block _ (zab R5.out)).trans R5.out)).trans rfl
 have HBA : Hid _ := hbA
 clear hbA
 go_wp2_with fail
 have hbw := B5.out.trans (HBA.out.mono B5.out.size)
 obtain ⟨M, T, hM, hMR⟩ := HE.out _ hbw
 obtain ⟨N, S, hN, hNR⟩ := HK3.out _ HBA.out
 have HSA := zhe s5 sn k5 cn N M S T K (layP 0 t) _ hN hNR hM hMR (by rw [HKL.out]; exact hK1) (by rw [HNL.out]; omega) HK2.out HKD.out
 rw [HNL.out, HKL.out] at HSA
 have HBW : Hid _ := hbw
 clear hbw hM hMR hN hNR cA c5
 refine HSA.mono ?_
 rintro e W6 ⟨rfl, b6⟩
 rw [HNQ.out]
 have B6 : Hid (Below w.heap.size w W6) := HBW.out.trans (b6.mono HBW.out.size)
 clear b6 HBW HSA HBA
 go_wp2
 go_ret2
 exact ⟨rfl, B6.out⟩
theorem zl3 {w : World} {sn : Option Addr} {cn : Nat} {Z : List NdZ} (hT : Tabl w) (hP : TabP w) (hE : EnZ w (.slice sn Z.length cn) Z) (hs : SmZ Z) (hb : ∀ t, Z = (layP 0 t).map toZ -> ¬ TrW t) :
  Calls Tryz.prog 23 #[.agg #[.slice sn Z.length cn]] w fun e w' => e = .returned (.tuple #[.slice none 0 0, .int .i64 211]) ∧ Below w.heap.size w w' := by
 have hl := hE.l
 by_cases h1 : 2048 < Z.length
 ·have hd1 : decide (2048 < (Z.length : Int)) = true := by simp; omega
  have hd1' : decide (2048 < Z.length) = true := by simp; omega
  have HB : Hid (Below w.heap.size w (w.alloc (.cells #[.slice sn Z.length cn] 25))) := (Below.refl _ _).alloc (Nat.le_refl _) _
  clear hT hP hE hs hb
  go_enter Tryz.func23, Tryz.ntmps23
  go_wp2
  go_ret2
  exact ⟨rfl, HB.out⟩
 cases ho : ordZ Z with
 | true =>
  obtain ⟨t, ht⟩ := zu2 ho
  have e : Z.length = (layP 0 t).length := by rw [ht, List.length_map]
  have hE2 := hE.enw ht hT
  rw [e] at hE2 h1 ⊢
  exact zl2 hP hE2 (zz8 hs ht) (by rw [zb1] at h1; omega) (hb t ht)
 | false =>
  have hd1' : decide (2048 < Z.length) = false := by simp; omega
  have hb0 : Below w.heap.size w (w.alloc (.cells #[.slice sn Z.length cn] 25)) := (Below.refl _ _).alloc (Nat.le_refl _) _
  have HC := zkt (hE.below hb0)
  have HB : Hid _ := hb0
  rw [ho] at HC
  clear hT hP hE hs hb ho hb0
  generalize Z.length = nl at *
  go_enter Tryz.func23, Tryz.ntmps23
  go_wp2_with fail
  refine HC.mono ?_
  rintro e W1 ⟨rfl, b1⟩
  have HB1 : Hid (Below w.heap.size w W1) := HB.out.trans (b1.mono HB.out.size)
  clear b1 HC
  go_wp2
  go_ret2
  exact ⟨rfl, HB1.out⟩
theorem zo9 {w : World} {sn : Option Addr} {cn : Nat} {Z : List NdZ} (hT : Tabl w) (hP : TabP w) (hE : EnZ w (.slice sn Z.length cn) Z) (hs : SmZ Z) (hb : ∀ t, Z = (layP 0 t).map toZ -> ¬ TrW t) :
  Calls Tryz.prog 10 #[.agg #[.slice sn Z.length cn]] w fun e w' => e = .returned (.tuple #[.slice none 0 0, .int .i64 211]) ∧ Below w.heap.size w w' := by
 have hb0 : Below w.heap.size w (w.alloc (.cells #[.slice sn Z.length cn] 25)) := (Below.refl _ _).alloc (Nat.le_refl _) _
 have HC := zl3 (zbx hb0.block hT) (hP.low hb0) (hE.below hb0) hs hb
 have HB0 : Hid _ := hb0
 clear hT hP hE hs hb hb0
 generalize Z.length = nl at *
 go_enter Tryz.func10, Tryz.ntmps10
 go_wp2_with fail
 refine HC.mono ?_
 rintro e W1 ⟨rfl, b1⟩
 have HB1 : Hid (Below w.heap.size w W1) := HB0.out.trans (b1.mono HB0.out.size)
 clear b1 HC
 go_wp2
 go_ret2
 exact ⟨rfl, HB1.out⟩
theorem zky {t : Tok} (h : alnB t = true) : t.text.size <= 4096 := by
 unfold alnB lexO at h
 have e : t.text.size = t.text.data.toList.length := by simp
 by_cases h4 : 4096 < t.text.data.toList.length
 ·rw [if_pos h4] at h
  cases h
 ·omega
theorem zu6 (R : List UInt8) : ∀ (m : Nat) (L acc : List UInt8) (i : Nat) (v : List UInt8 × Nat), L.length <= m -> unqA acc i L = some v -> unqA acc i (L ++ R) = some v := by
 intro m
 induction m with
 | zero =>
  intro L acc i v hm h
  have : L = [] := List.eq_nil_of_length_eq_zero (by omega)
  subst this
  rw [unqA] at h
  cases h
 | succ m ih =>
  intro L acc i v hm h
  cases L with
  | nil => rw [unqA] at h; cases h
  | cons c r =>
   rw [List.length_cons] at hm
   rw [zbk] at h
   rw [List.cons_append, zbk]
   by_cases h1 : c.toNat = 34
   ·rw [if_pos h1] at h ⊢
    exact h
   ·rw [if_neg h1] at h ⊢
    by_cases h2 : c.toNat = 92
    ·rw [if_pos h2] at h ⊢
     cases r with
     | nil => cases h
     | cons d r' =>
      rw [List.length_cons] at hm
      simp only [List.cons_append]
      cases hp : pairU d with
      | none => simp only [hp] at h; cases h
      | some x =>
       simp only [hp] at h ⊢
       exact ih r' _ _ _ (by omega) h
    ·rw [if_neg h2] at h ⊢
     cases hp : plnB c.toNat with
     | false => rw [hp] at h; simp at h
     | true =>
      rw [hp] at h
      simp only [if_true] at h ⊢
      exact ih r _ _ _ (by omega) h
theorem zx0 {L : List UInt8} : ∀ (f p : Nat) (ts : List Tok), ∀ x ∈ (lexG L f p ts).1, x ∈ ts ∨ x.text.data.toList.length <= L.length - p := by
 intro f
 induction f with
 | zero => exact fun p ts x hx => .inl hx
 | succ f ih =>
  intro p ts x hx
  obtain ⟨k, n, e, hl⟩ : ∃ k n e, lookR (L.drop p) (clo (lastT ts)) = (k, n, e) := ⟨_, _, _, rfl⟩
  by_cases h1 : p < L.length ∨ clo (lastT ts) = true
  ·by_cases he : e = 0
   ·subst he
    by_cases hk : k = 0
    ·subst hk
     rw [zdg h1 hl] at hx
     rcases ih _ _ x hx with h | h
     ·exact .inl h
     ·exact .inr (by omega)
    ·by_cases ht : ts.length = 1024
     ·rw [zdw h1 hl hk ht] at hx
      simp at hx
     ·rw [zcv h1 hl hk ht] at hx
      rcases ih _ _ x hx with h | h
      ·rcases List.mem_append.1 h with h | h
       ·exact .inl h
       ·rw [List.mem_singleton] at h
        subst h
        refine .inr ?_
        show ((L.drop p).take n).length <= _
        rw [List.length_take, List.length_drop]
        omega
      ·exact .inr (by omega)
   ·rw [zd6 h1 hl he] at hx
    simp at hx
  ·rw [lexG, if_neg h1] at hx
   exact .inl hx
theorem zx1 {L : List UInt8} : ∀ (f p : Nat) (ts : List Tok), (lexG L f p ts).1 = [] ∨ ∃ z, (lexG L f p ts).1 = ts ++ z := by
 intro f
 induction f with
 | zero => exact fun p ts => .inr ⟨[], by rw [List.append_nil]; rfl⟩
 | succ f ih =>
  intro p ts
  obtain ⟨k, n, e, hl⟩ : ∃ k n e, lookR (L.drop p) (clo (lastT ts)) = (k, n, e) := ⟨_, _, _, rfl⟩
  by_cases h1 : p < L.length ∨ clo (lastT ts) = true
  ·by_cases he : e = 0
   ·subst he
    by_cases hk : k = 0
    ·subst hk
     rw [zdg h1 hl]
     exact ih _ _
    ·by_cases ht : ts.length = 1024
     ·rw [zdw h1 hl hk ht]
      exact .inl rfl
     ·rw [zcv h1 hl hk ht]
      rcases ih (p + n) (ts ++ [⟨k, strU ((L.drop p).take n), p⟩]) with h | ⟨z, h⟩
      ·exact .inl h
      ·exact .inr ⟨_, by rw [h, List.append_assoc]⟩
   ·rw [zd6 h1 hl he]
    exact .inl rfl
  ·rw [lexG, if_neg h1]
   exact .inr ⟨[], by rw [List.append_nil]⟩
theorem znh {t : Tok} (h : alnB t = true) : lookR t.text.data.toList false = (t.kind, t.text.data.toList.length, 0) ∧ t.kind ≠ 0 ∧ t.text.data.toList ≠ [] := by
 have h4 := zky h
 have e4 : t.text.size = t.text.data.toList.length := by simp
 unfold alnB lexO at h
 generalize hLe : t.text.data.toList = L at h e4 ⊢
 rw [if_neg (by omega)] at h
 by_cases h0 : 0 < L.length
 ·obtain ⟨k, n, e, hl⟩ : ∃ k n e, lookR (L.drop 0) (clo (lastT [])) = (k, n, e) := ⟨_, _, _, rfl⟩
  have hl' : lookR L false = (k, n, e) := hl
  by_cases he : e = 0
  ·subst he
   have hs := zc3 hl' (fun e => by rw [e] at h0; simp at h0)
   by_cases hk : k = 0
   ·subst hk
    rw [zdg (.inl h0) hl] at h
    exfalso
    have hx := zx0 (L := L) (2 * L.length) (0 + n) []
    cases hr : (lexG L (2 * L.length) (0 + n) []).1 with
    | nil => rw [hr] at h; cases h
    | cons x xs =>
     rw [hr] at h hx
     have h5 := hx x (by simp)
     simp only [tkEq, Bool.and_eq_true, beq_iff_eq] at h
     rw [ByteArray.toList_eq, ByteArray.toList_eq, hLe] at h
     rw [h.2] at h5
     rcases h5 with h5 | h5
     ·simp at h5
     ·rcases hs.2 with h6 | h6
      ·omega
      ·exact absurd h6.1 (by decide)
   ·rw [zcv (.inl h0) hl hk (by simp)] at h
    rcases zx1 (L := L) (2 * L.length) (0 + n) ([] ++ [⟨k, strU ((L.drop 0).take n), ((0 : Nat) : Int)⟩]) with h5 | ⟨z, h5⟩
    ·rw [h5] at h; cases h
    ·rw [h5] at h
     simp only [List.nil_append, List.cons_append, tkEq, Bool.and_eq_true, beq_iff_eq] at h
     rw [zby, ByteArray.toList_eq, hLe, List.drop_zero] at h
     have h6 := congrArg List.length h.2
     rw [List.length_take] at h6
     have hn : n = L.length := by omega
     rw [hl', hn, h.1]
     refine ⟨rfl, ?_, fun e => by rw [e] at h0; simp at h0⟩
     rw [<- h.1]
     exact hk
  ·rw [zd6 (.inl h0) hl he] at h
   cases h
 ·rw [ze6 h0 rfl] at h
  cases h
theorem zni {t : Tok} (h : bareB t = true) : clo t = false ∧ t.kind = 5 ∧ t.text.toList = [] := by
 unfold bareB at h
 rw [Bool.and_eq_true, beq_iff_eq, List.isEmpty_iff] at h
 refine ⟨?_, h.1, h.2⟩
 unfold clo
 rw [h.1]
 rfl
theorem zz9 {a b : Tok} (h : tkEq a b = true) : clo a = clo b := by
 unfold tkEq at h
 rw [Bool.and_eq_true, beq_iff_eq, beq_iff_eq] at h
 unfold clo
 rw [h.1, h.2]
theorem znj {L S : List UInt8} {p : Nat} {c : UInt8} (h : L.drop p = c :: S) : L.drop (p + 1) = S ∧ p < L.length := by
 refine ⟨by rw [<- List.drop_drop, h]; rfl, ?_⟩
 by_cases hp : p < L.length
 ·exact hp
 ·rw [List.drop_eq_nil_of_le (by omega)] at h; cases h
inductive Pe where
 | t (x : Tok)
 | w (c : UInt8)
 | e
def Pe.bs : Pe -> List UInt8 | .t x => x.text.data.toList | .w c => [c] | .e => [10]
def Pe.tk : Pe -> List Tok | .t x => [x] | .w _ => [] | .e => [enT]
def rn (l : List Pe) : List UInt8 := (l.map Pe.bs).flatten
def tks (l : List Pe) : List Tok := (l.map Pe.tk).flatten
theorem zrf : rn [] = [] := rfl
theorem zd0 (a : Pe) (l : List Pe) : rn (a :: l) = a.bs ++ rn l := by simp [rn]
theorem zac (a b : List Pe) : rn (a ++ b) = rn a ++ rn b := by simp [rn]
theorem zc9 (a : Pe) (l : List Pe) : tks (a :: l) = a.tk ++ tks l := by simp [tks]
theorem zdq (a b : List Pe) : tks (a ++ b) = tks a ++ tks b := by simp [tks]
theorem zu7 (os : List (List Pe)) : tks os.flatten = (os.map tks).flatten := by
 induction os with
 | nil => rfl
 | cons a r ih => rw [List.flatten_cons, zdq, ih]; rfl
def sp : Pe := .w 32
def fe : Pe := .w 10
def wd (s : List UInt8) : Pe := .t (wdT s)
def sg (s : List UInt8) : Pe := .t (sgT s)
def tb (d : Nat) : List Pe := List.replicate d (.w 9)
def pPar (s : List Pe) (os : List (List Pe)) : List Pe := match os with | [] => [] | o :: r => o ++ (r.map (s ++ ·)).flatten
def pBeh (s : List Pe) (os : List (List Pe)) : List Pe := (os.map (s ++ ·)).flatten
def pBrk (os : List (List Pe)) : List Pe := [sg [40]] ++ pPar [sg [44], sp] os ++ [sg [41]]
def pLin (d : Nat) (os : List (List Pe)) : List Pe := (os.map fun o => tb d ++ o ++ [.e]).flatten
def pBra (d : Nat) (os : List (List Pe)) : List Pe := [sg [123], fe] ++ pLin (d + 1) os ++ tb d ++ [sg [125]]
def rowQ (x : ByteArray) : Int :=
 if x.data.toList == [124, 124] then 1 else if x.data.toList == [38, 38] then 2
 else if (x.data.toList == [61, 61]) || (x.data.toList == [33, 61]) || (x.data.toList == [60]) || (x.data.toList == [60, 61]) || (x.data.toList == [62]) || (x.data.toList == [62, 61]) then 3
 else if (x.data.toList == [43]) || (x.data.toList == [45]) then 4 else 5
def nedQ (k : Int) (x : ByteArray) (h : Int × ByteArray) (i : Nat) : Bool :=
 if k = 26 then h.1 == 27 else if k = 27 then (h.1 == 27) && (decide (rowQ h.2 < rowQ x) || ((rowQ h.2 == rowQ x) && (decide (0 < i) || (rowQ h.2 == 3))))
 else (h.1 == 26) || (h.1 == 27)
def pOpe (k : Int) (x : ByteArray) (hs : List (Int × ByteArray)) (os : List (List Pe)) (i : Nat) : List Pe :=
 match hs[i]?, os[i]? with
 | some h, some o => if nedQ k x h i then pBrk [o] else o
 | _, _ => []
def pOne (os : List (List Pe)) : List Pe := os.headD []
def pFiK (d : Nat) : Bool -> List (Int × ByteArray) -> List (List Pe) -> List Pe
 | fst, h :: hs, o :: os => (if fst || h.1 != 2 then [fe] else []) ++ (tb d ++ o ++ [.e]) ++ pFiK d false hs os
 | _, _, _ => []
def pFun (x : ByteArray) (hs : List (Int × ByteArray)) (os : List (List Pe)) : List Pe :=
 [wd [102, 117, 110, 99], sp] ++ (if 0 < cutN 8 hs then pBrk (os.take (cutN 8 hs)) ++ [sp] else []) ++ [.t (tkW 1 x)] ++ pBrk ((os.drop (cutN 8 hs)).take (cutN 9 (hs.drop (cutN 8 hs)))) ++ pBeh [sp] ((os.drop (cutN 8 hs)).drop (cutN 9 (hs.drop (cutN 8 hs))))
def prX (k : Int) (x : ByteArray) (n : Int) (hs : List (Int × ByteArray)) (os : List (List Pe)) : List Pe :=
 if k = 20 then [.t (nuT n)] else if k = 21 then [.t (tkW 3 (quoT x))] else if k = 22 ∨ k = 23 then [.t (tkW 1 x)]
 else if k = 24 then pOpe k x hs os 0 ++ [sg [46], .t (tkW 1 x)] else if k = 25 then pOpe k x hs os 0 ++ pBrk (os.drop 1)
 else if k = 26 then [.t (tkW 4 x)] ++ pOpe k x hs os 0 else if k = 27 then pOpe k x hs os 0 ++ [sp, .t (tkW 4 x), sp] ++ pOpe k x hs os 1 else []
def prS (d : Nat) (k : Int) (x : ByteArray) (n : Int) (hs : List (Int × ByteArray)) (os : List (List Pe)) : List Pe :=
 if k = 13 then pBra d os else if k = 14 then [wd [105, 102], sp] ++ pPar [sp] (os.take 2) ++ pBeh [sp, wd [101, 108, 115, 101], sp] (os.drop 2) else if k = 15 then [wd [102, 111, 114], sp] ++ pPar [sp] os
 else if k = 16 then [wd [114, 101, 116, 117, 114, 110]] ++ pBeh [sp] os else if k = 17 then [.t (tkW 1 x), sp, sg [58, 61], sp] ++ pOne os
 else if k = 18 then pPar [sp, sg [61], sp] os else if k = 19 then pOne os else prX k x n hs os
def prK (d : Nat) (k : Int) (x : ByteArray) (n : Int) (hs : List (Int × ByteArray)) (os : List (List Pe)) : List Pe :=
 if k = 1 then [wd [112, 97, 99, 107, 97, 103, 101], sp, .t (tkW 1 x), .e] ++ pFiK d true hs os else if k = 2 then [wd [105, 109, 112, 111, 114, 116], sp, .t (tkW 3 (quoT x))]
 else if k = 3 then [wd [99, 111, 110, 115, 116], sp, .t (tkW 1 x), sp, sg [61], sp] ++ pOne os else if k = 4 then [wd [118, 97, 114], sp, .t (tkW 1 x), sp] ++ pPar [sp, sg [61], sp] os
 else if k = 5 then [wd [116, 121, 112, 101], sp, .t (tkW 1 x), sp, wd [115, 116, 114, 117, 99, 116], sp] ++ pBra d os else if k = 7 then pFun x hs os
 else if k = 6 ∨ k = 8 ∨ k = 9 then [.t (tkW 1 x), sp] ++ pOne os else if k = 10 ∨ k = 11 then [.t (tkW 1 x)]
 else if k = 12 then pOne os ++ [sg [46], .t (tkW 1 x)] else prS d k x n hs os
def kdD (k : Int) (d : Nat) : Nat := if k = 13 ∨ k = 5 then d + 1 else d
mutual
def prP (d : Nat) : Pt -> List Pe | .mk k x n _ _ _ l => prK d k x n (l.map hdP) (prM (kdD k d) l)
def prM (d : Nat) : List Pt -> List (List Pe) | [] => [] | t :: r => prP d t :: prM d r
end
theorem zb8 (d : Nat) : ∀ l : List Pt, prM d l = l.map (prP d)
 | [] => by rw [prM]; rfl
 | t :: r => by rw [prM, zb8 d r]; rfl
def ndK (k : Int) : Nat := if k = 14 ∨ k = 27 then 2 else if k = 3 ∨ k = 6 ∨ k = 8 ∨ k = 9 ∨ k = 12 ∨ k = 17 ∨ k = 19 ∨ k = 24 ∨ k = 25 ∨ k = 26 then 1 else 0
mutual
def arP : Pt -> Prop | .mk k x n _ _ _ l => ndK k <= l.length ∧ (x.size <= 100000 ∧ -9223372036854775808 <= n ∧ n <= 9223372036854775807) ∧ arL l
def arL : List Pt -> Prop | [] => True | t :: r => arP t ∧ arL r
end
end Go.Proofs.YtbadafkfjfbnlaaGreatDoor
