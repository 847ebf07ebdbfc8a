import Derived.Test.YtmclgbkijeidaaaGreatDoorUnW
import Derived.Deep.DeepCutAuto
import Derived.Deep.Cut
import Derived.Deep.CutRange
import Derived.Deep.CutBlock
namespace Go.Proofs.YtmclgbkijeidaaaGreatDoor
set_option maxRecDepth 100000
set_option maxHeartbeats 4000000
open Go.RowKit
section
variable {T:Nat}{w W0 W W':World}{g:Nat}{st:Option Addr}{cap:Nat}{ts:List Tok}{s s':Qs}
theorem zhd {n:Nat}{r:Qv × Qs}(hE:ExQ T g st cap ts (dns ts n))(hB:BlQ T g st cap ts n)(hC:BrQ T g st cap ts n)(hR:QdS T w g st cap ts s)(hX:(dns ts (n+1)).stmt s=some r):Calls Tryz.prog 129 #[.pointer (some ⟨g,0,none⟩)] w (QoP T w g st cap ts r):=by
 have HF:=hid (zb9 hR);have hfe:=hR.few;have hle:=hR.le;clear hR;have HE:=hid hE;have HB:=hid hB;have HC:=hid hC;clear hE hB hC;rw[zlz] at hX;have HX:=hid hX;clear hX
 go_enter Tryz.func129,Tryz.ntmps129
 go_wp2_with fail
 refine zaf (fun W=>Fr T w W W g st cap ts s) HF.out ?_;intro W0 hF;clear HF;have HF:=hid hF;clear hF;refine(zbe HF.out.hR).mono ?_;rintro e W1 ⟨rfl,b1⟩;obtain⟨t1,ht⟩:∃ t,nxQ ts s.p=t:=⟨_,rfl⟩;rw[ht];have HNX1:=hid ht;have HZ1:=hid (ht ▸ HF.out.hR.sz)
 try rw[ht] at HX
 have HF3:=hid (HF.out.low b1);clear ht b1 HF;obtain⟨W4,hst4,b4,f4,l4⟩:=zdg HF3.out t1;have Ht4t:=hid l4;have HF6:=hid (f4);clear b4 f4 l4 HF3
 go_wp2_with fail
 clear hst4;refine(zar ⟨#[123]⟩ HF6.out.hR).mono ?_;rintro e W7 ⟨rfl,b7⟩;obtain⟨i7,hi⟩:∃ b,isQ ts s.p ⟨#[123]⟩=b:=⟨_,rfl⟩;rw[hi];have HIS:=hid hi
 try rw[hi] at HX
 have Ht8t:=hid (Ht4t.out.low b7);have HF9:=hid (HF6.out.low b7);clear hi b7 HF6 Ht4t
 cases i7
 ·skip
  replace HX:=hid (if_f HX.out (fun h=>by cases h))
  go_wp2_with fail
  refine(zar ⟨#[118,97,114]⟩ HF9.out.hR).mono ?_;rintro e W10 ⟨rfl,b10⟩;obtain⟨i10,hi⟩:∃ b,isQ ts s.p ⟨#[118,97,114]⟩=b:=⟨_,rfl⟩;rw[hi];have HIS:=hid hi
  try rw[hi] at HX
  have Ht11t:=hid (Ht8t.out.low b10);have HF12:=hid (HF9.out.low b10);clear hi b10 HF9 Ht8t
  cases i10
  ·skip
   replace HX:=hid (if_f HX.out (fun h=>by cases h))
   go_wp2_with fail
   refine(zar ⟨#[105,102]⟩ HF12.out.hR).mono ?_;rintro e W13 ⟨rfl,b13⟩;obtain⟨i13,hi⟩:∃ b,isQ ts s.p ⟨#[105,102]⟩=b:=⟨_,rfl⟩;rw[hi];have HIS:=hid hi
   try rw[hi] at HX
   have Ht14t:=hid (Ht11t.out.low b13);have HF15:=hid (HF12.out.low b13);clear hi b13 HF12 Ht11t
   cases i13
   ·skip
    replace HX:=hid (if_f HX.out (fun h=>by cases h))
    go_wp2_with fail
    refine(zar ⟨#[102,111,114]⟩ HF15.out.hR).mono ?_;rintro e W16 ⟨rfl,b16⟩;obtain⟨i16,hi⟩:∃ b,isQ ts s.p ⟨#[102,111,114]⟩=b:=⟨_,rfl⟩;rw[hi];have HIS:=hid hi
    try rw[hi] at HX
    have Ht17t:=hid (Ht14t.out.low b16);have HF18:=hid (HF15.out.low b16);clear hi b16 HF15 Ht14t
    cases i16
    ·skip
     replace HX:=hid (if_f HX.out (fun h=>by cases h))
     go_wp2_with fail
     refine(zar ⟨#[114,101,116,117,114,110]⟩ HF18.out.hR).mono ?_;rintro e W19 ⟨rfl,b19⟩;obtain⟨i19,hi⟩:∃ b,isQ ts s.p ⟨#[114,101,116,117,114,110]⟩=b:=⟨_,rfl⟩;rw[hi];have HIS:=hid hi
     try rw[hi] at HX
     have Ht20t:=hid (Ht17t.out.low b19);have HF21:=hid (HF18.out.low b19);clear hi b19 HF18 Ht17t
     cases i19
     ·skip
      replace HX:=hid (if_f HX.out (fun h=>by cases h))
      go_upto_region 18 with fail
      obtain⟨bb,hbb⟩:∃ b,(((t1.kind == 1) && !kepB t1.text) && (decide (s.p+1<ts.length) && (((nxT ts (s.p+1)).kind == 4) && isT ts (s.p+1) [58,61])))=b:=⟨_,rfl⟩;rw[hbb] at HX;have HCB:=hid hbb;clear hbb
      go_cut [116] (fun vb wc=>vb=.bool bb∧Fr T w W0 wc g st cap ts s∧Tl W0 wc (W1.heap.size) t1)
      case first=>
       clear HX;have hd22:Below W19.heap.size W19 W19.drew:=(Below.refl _ _).drew;have HD:=hid (HF21.out.low hd22);have HT:=hid (Ht20t.out.low hd22);have HS0:=hid (zqi HT.out HD.out.hR);clear hd22 HF21 Ht20t;refine zbg (S:=fun W'=>Hid (R18 W' g st cap ts s (W1.heap.size) t1)) 52 rfl (by kernel_rfl) ?_;refine zaj 0 65 (.pointer (some ⟨W1.heap.size,0,none⟩)) rfl (by rfl) (by kernel_rfl) (by kernel_rfl) (by kernel_rfl) (fun _ _ _ h=>h) (fun w' hw'=>by obtain⟨t0,t1,c0,c1,nx⟩:=hw'.out;first|rfl|(go_simp;done) | (go_simp;rw[IntKind.wrap_i64];omega)) HS0 ?_;simp only[sI,sS,sZ];refine zaj 1 66 (.int .i64 t1.kind) rfl (by rfl) (by kernel_rfl) (by kernel_rfl) (by kernel_rfl) (fun _ _ _ h=>h) (fun w' hw'=>by obtain⟨t0,t1,c0,c1,nx⟩:=hw'.out;first|rfl|(go_simp;done) | (go_simp;rw[IntKind.wrap_i64];omega)) HS0 ?_;simp only[sI,sS,sZ];obtain⟨k1,hk1⟩:∃ b,(t1.kind == 1)=b:=⟨_,rfl⟩;rw[hk1] at HCB
       cases k1
       ·skip
        refine zaj 2 67 (.bool false) rfl (by rfl) (by kernel_rfl) (by kernel_rfl) (by kernel_rfl) (fun _ _ _ h=>h) (fun w' hw'=>by obtain⟨t0,t1,c0,c1,nx⟩:=hw'.out;first|rfl|(go_simp;done) | (go_simp;rw[IntKind.wrap_i64];omega)) HS0 ?_;simp only[sI,sS,sZ];refine zaj 3 68 (.bool false) rfl (by rfl) (by kernel_rfl) (by kernel_rfl) (by kernel_rfl) (fun _ _ _ h=>h) (fun w' hw'=>by obtain⟨t0,t1,c0,c1,nx⟩:=hw'.out;first|rfl|(go_simp;done) | (go_simp;rw[IntKind.wrap_i64];omega)) HS0 ?_;simp only[sI,sS,sZ];clear hk1;refine zah 4 69 rfl (by rfl) (by kernel_rfl) (by kernel_rfl) (by kernel_rfl) (fun _ _ _ h=>h) HS0 ?_;simp only[sI,sS,sZ];refine zah 5 70 rfl (by rfl) (by kernel_rfl) (by kernel_rfl) (by kernel_rfl) (fun _ _ _ h=>h) HS0 ?_;simp only[sI,sS,sZ];refine zah 6 71 rfl (by rfl) (by kernel_rfl) (by kernel_rfl) (by kernel_rfl) (fun _ _ _ h=>h) HS0 ?_;simp only[sI,sS,sZ];refine zah 7 72 rfl (by rfl) (by kernel_rfl) (by kernel_rfl) (by kernel_rfl) (fun _ _ _ h=>h) HS0 ?_;simp only[sI,sS,sZ];refine zaj 8 73 (.bool false) rfl (by rfl) (by kernel_rfl) (by kernel_rfl) (by kernel_rfl) (fun _ _ _ h=>h) (fun w' hw'=>by obtain⟨t0,t1,c0,c1,nx⟩:=hw'.out;first|rfl|(go_simp;done) | (go_simp;rw[IntKind.wrap_i64];omega)) HS0 ?_;simp only[sI,sS,sZ];refine zaj 9 74 (.bool false) rfl (by rfl) (by kernel_rfl) (by kernel_rfl) (by kernel_rfl) (fun _ _ _ h=>h) (fun w' hw'=>by obtain⟨t0,t1,c0,c1,nx⟩:=hw'.out;first|rfl|(go_simp;done) | (go_simp;rw[IntKind.wrap_i64];omega)) HS0 ?_;simp only[sI,sS,sZ];refine zah 10 75 rfl (by rfl) (by kernel_rfl) (by kernel_rfl) (by kernel_rfl) (fun _ _ _ h=>h) HS0 ?_;simp only[sI,sS,sZ];refine zah 11 76 rfl (by rfl) (by kernel_rfl) (by kernel_rfl) (by kernel_rfl) (fun _ _ _ h=>h) HS0 ?_;simp only[sI,sS,sZ];refine zah 12 77 rfl (by rfl) (by kernel_rfl) (by kernel_rfl) (by kernel_rfl) (fun _ _ _ h=>h) HS0 ?_;simp only[sI,sS,sZ];refine zah 13 78 rfl (by rfl) (by kernel_rfl) (by kernel_rfl) (by kernel_rfl) (fun _ _ _ h=>h) HS0 ?_;simp only[sI,sS,sZ];refine zah 14 79 rfl (by rfl) (by kernel_rfl) (by kernel_rfl) (by kernel_rfl) (fun _ _ _ h=>h) HS0 ?_
        simp only[sI,sS,sZ];refine zah 15 80 rfl (by rfl) (by kernel_rfl) (by kernel_rfl) (by kernel_rfl) (fun _ _ _ h=>h) HS0 ?_;simp only[sI,sS,sZ];refine zah 16 81 rfl (by rfl) (by kernel_rfl) (by kernel_rfl) (by kernel_rfl) (fun _ _ _ h=>h) HS0 ?_;simp only[sI,sS,sZ];refine zah 17 82 rfl (by rfl) (by kernel_rfl) (by kernel_rfl) (by kernel_rfl) (fun _ _ _ h=>h) HS0 ?_;simp only[sI,sS,sZ];refine zah 18 83 rfl (by rfl) (by kernel_rfl) (by kernel_rfl) (by kernel_rfl) (fun _ _ _ h=>h) HS0 ?_;simp only[sI,sS,sZ];refine zah 19 84 rfl (by rfl) (by kernel_rfl) (by kernel_rfl) (by kernel_rfl) (fun _ _ _ h=>h) HS0 ?_;simp only[sI,sS,sZ];refine zah 20 85 rfl (by rfl) (by kernel_rfl) (by kernel_rfl) (by kernel_rfl) (fun _ _ _ h=>h) HS0 ?_;simp only[sI,sS,sZ];refine zaj 21 86 (.bool false) rfl (by rfl) (by kernel_rfl) (by kernel_rfl) (by kernel_rfl) (fun _ _ _ h=>h) (fun w' hw'=>by obtain⟨t0,t1,c0,c1,nx⟩:=hw'.out;first|rfl|(go_simp;done) | (go_simp;rw[IntKind.wrap_i64];omega)) HS0 ?_;simp only[sI,sS,sZ];refine zaj 22 87 (.bool false) rfl (by rfl) (by kernel_rfl) (by kernel_rfl) (by kernel_rfl) (fun _ _ _ h=>h) (fun w' hw'=>by obtain⟨t0,t1,c0,c1,nx⟩:=hw'.out;first|rfl|(go_simp;done) | (go_simp;rw[IntKind.wrap_i64];omega)) HS0 ?_;simp only[sI,sS,sZ];refine zah 23 88 rfl (by rfl) (by kernel_rfl) (by kernel_rfl) (by kernel_rfl) (fun _ _ _ h=>h) HS0 ?_;simp only[sI,sS,sZ];refine zah 24 89 rfl (by rfl) (by kernel_rfl) (by kernel_rfl) (by kernel_rfl) (fun _ _ _ h=>h) HS0 ?_;simp only[sI,sS,sZ];refine zah 25 90 rfl (by rfl) (by kernel_rfl) (by kernel_rfl) (by kernel_rfl) (fun _ _ _ h=>h) HS0 ?_;simp only[sI,sS,sZ];refine zah 26 91 rfl (by rfl) (by kernel_rfl) (by kernel_rfl) (by kernel_rfl) (fun _ _ _ h=>h) HS0 ?_;simp only[sI,sS,sZ];refine zah 27 92 rfl (by rfl) (by kernel_rfl) (by kernel_rfl) (by kernel_rfl) (fun _ _ _ h=>h) HS0 ?_;simp only[sI,sS,sZ];refine zah 28 93 rfl (by rfl) (by kernel_rfl) (by kernel_rfl) (by kernel_rfl) (fun _ _ _ h=>h) HS0 ?_;simp only[sI,sS,sZ];refine zah 29 94 rfl (by rfl) (by kernel_rfl) (by kernel_rfl) (by kernel_rfl) (fun _ _ _ h=>h) HS0 ?_
        simp only[sI,sS,sZ];refine zah 30 95 rfl (by rfl) (by kernel_rfl) (by kernel_rfl) (by kernel_rfl) (fun _ _ _ h=>h) HS0 ?_;simp only[sI,sS,sZ];refine zah 31 96 rfl (by rfl) (by kernel_rfl) (by kernel_rfl) (by kernel_rfl) (fun _ _ _ h=>h) HS0 ?_;simp only[sI,sS,sZ];refine zah 32 97 rfl (by rfl) (by kernel_rfl) (by kernel_rfl) (by kernel_rfl) (fun _ _ _ h=>h) HS0 ?_;simp only[sI,sS,sZ];refine zah 33 98 rfl (by rfl) (by kernel_rfl) (by kernel_rfl) (by kernel_rfl) (fun _ _ _ h=>h) HS0 ?_;simp only[sI,sS,sZ];refine zah 34 99 rfl (by rfl) (by kernel_rfl) (by kernel_rfl) (by kernel_rfl) (fun _ _ _ h=>h) HS0 ?_;simp only[sI,sS,sZ];refine zah 35 100 rfl (by rfl) (by kernel_rfl) (by kernel_rfl) (by kernel_rfl) (fun _ _ _ h=>h) HS0 ?_;simp only[sI,sS,sZ];refine zaj 36 101 (.bool false) rfl (by rfl) (by kernel_rfl) (by kernel_rfl) (by kernel_rfl) (fun _ _ _ h=>h) (fun w' hw'=>by obtain⟨t0,t1,c0,c1,nx⟩:=hw'.out;first|rfl|(go_simp;done) | (go_simp;rw[IntKind.wrap_i64];omega)) HS0 ?_;simp only[sI,sS,sZ];refine zaj 37 102 (.bool false) rfl (by rfl) (by kernel_rfl) (by kernel_rfl) (by kernel_rfl) (fun _ _ _ h=>h) (fun w' hw'=>by obtain⟨t0,t1,c0,c1,nx⟩:=hw'.out;first|rfl|(go_simp;done) | (go_simp;rw[IntKind.wrap_i64];omega)) HS0 ?_;simp only[sI,sS,sZ];refine zah 38 103 rfl (by rfl) (by kernel_rfl) (by kernel_rfl) (by kernel_rfl) (fun _ _ _ h=>h) HS0 ?_;simp only[sI,sS,sZ];refine zah 39 104 rfl (by rfl) (by kernel_rfl) (by kernel_rfl) (by kernel_rfl) (fun _ _ _ h=>h) HS0 ?_;simp only[sI,sS,sZ];refine zah 40 105 rfl (by rfl) (by kernel_rfl) (by kernel_rfl) (by kernel_rfl) (fun _ _ _ h=>h) HS0 ?_;simp only[sI,sS,sZ];refine zah 41 106 rfl (by rfl) (by kernel_rfl) (by kernel_rfl) (by kernel_rfl) (fun _ _ _ h=>h) HS0 ?_;simp only[sI,sS,sZ];refine zah 42 107 rfl (by rfl) (by kernel_rfl) (by kernel_rfl) (by kernel_rfl) (fun _ _ _ h=>h) HS0 ?_;simp only[sI,sS,sZ];refine zah 43 108 rfl (by rfl) (by kernel_rfl) (by kernel_rfl) (by kernel_rfl) (fun _ _ _ h=>h) HS0 ?_;simp only[sI,sS,sZ];refine zah 44 109 rfl (by rfl) (by kernel_rfl) (by kernel_rfl) (by kernel_rfl) (fun _ _ _ h=>h) HS0 ?_
        simp only[sI,sS,sZ];refine zah 45 110 rfl (by rfl) (by kernel_rfl) (by kernel_rfl) (by kernel_rfl) (fun _ _ _ h=>h) HS0 ?_;simp only[sI,sS,sZ];refine zah 46 111 rfl (by rfl) (by kernel_rfl) (by kernel_rfl) (by kernel_rfl) (fun _ _ _ h=>h) HS0 ?_;simp only[sI,sS,sZ];refine zah 47 112 rfl (by rfl) (by kernel_rfl) (by kernel_rfl) (by kernel_rfl) (fun _ _ _ h=>h) HS0 ?_;simp only[sI,sS,sZ];refine zah 48 113 rfl (by rfl) (by kernel_rfl) (by kernel_rfl) (by kernel_rfl) (fun _ _ _ h=>h) HS0 ?_;simp only[sI,sS,sZ];refine zah 49 114 rfl (by rfl) (by kernel_rfl) (by kernel_rfl) (by kernel_rfl) (fun _ _ _ h=>h) HS0 ?_;simp only[sI,sS,sZ];refine zah 50 115 rfl (by rfl) (by kernel_rfl) (by kernel_rfl) (by kernel_rfl) (fun _ _ _ h=>h) HS0 ?_;simp only[sI,sS,sZ];refine zaj 51 116 (.bool false) rfl (by rfl) (by kernel_rfl) (by kernel_rfl) (by kernel_rfl) (fun _ _ _ h=>h) (fun w' hw'=>by obtain⟨t0,t1,c0,c1,nx⟩:=hw'.out;first|rfl|(go_simp;done) | (go_simp;rw[IntKind.wrap_i64];omega)) HS0 ?_;simp only[sI,sS,sZ];refine wpAnyH_done (by kernel_rfl) ?_ _
        go_wp2
        go_meet
        case rel=>exact⟨by rw[<-HCB.out];rfl,HD.out,HT.out⟩
       ·skip
        refine zaj 2 67 (.bool true) rfl (by rfl) (by kernel_rfl) (by kernel_rfl) (by kernel_rfl) (fun _ _ _ h=>h) (fun w' hw'=>by obtain⟨t0,t1,c0,c1,nx⟩:=hw'.out;first|rfl|(go_simp;done) | (go_simp;rw[IntKind.wrap_i64];omega)) HS0 ?_;simp only[sI,sS,sZ];refine zaj 3 68 (.bool true) rfl (by rfl) (by kernel_rfl) (by kernel_rfl) (by kernel_rfl) (fun _ _ _ h=>h) (fun w' hw'=>by obtain⟨t0,t1,c0,c1,nx⟩:=hw'.out;first|rfl|(go_simp;done) | (go_simp;rw[IntKind.wrap_i64];omega)) HS0 ?_;simp only[sI,sS,sZ];clear hk1;refine zaj 4 69 (.pointer (some ⟨W1.heap.size,1,none⟩)) rfl (by rfl) (by kernel_rfl) (by kernel_rfl) (by kernel_rfl) (fun _ _ _ h=>h) (fun w' hw'=>by obtain⟨t0,t1,c0,c1,nx⟩:=hw'.out;first|rfl|(go_simp;done) | (go_simp;rw[IntKind.wrap_i64];omega)) HS0 ?_;simp only[sI,sS,sZ];refine zaj 5 70 (.string t1.text) rfl (by rfl) (by kernel_rfl) (by kernel_rfl) (by kernel_rfl) (fun _ _ _ h=>h) (fun w' hw'=>by obtain⟨t0,t1,c0,c1,nx⟩:=hw'.out;first|rfl|(go_simp;done) | (go_simp;rw[IntKind.wrap_i64];omega)) HS0 ?_;simp only[sI,sS,sZ];refine zo2 6 rfl (by rfl) (by kernel_rfl) ?_
        go_simp
        refine(zey t1.text W19.drew).mono ?_;rintro e W23 ⟨rfl,b23⟩;have HD2:=hid (HD.out.low b23);have HT2:=hid (HT.out.low b23);have HS2:=hid (zqi HT2.out HD2.out.hR);clear b23 HD HT HS0;refine⟨HS2,?_⟩;obtain⟨kb,hkb⟩:∃ b,kepB t1.text=b:=⟨_,rfl⟩;rw[hkb];rw[hkb] at HCB
        try simp only[Act.put,List.setIfInBounds_toArray,List.set_cons_succ,List.set_cons_zero]
        clear hkb
        cases kb
        ·skip
         refine zaj 7 72 (.bool true) rfl (by rfl) (by kernel_rfl) (by kernel_rfl) (by kernel_rfl) (fun _ _ _ h=>h) (fun w' hw'=>by obtain⟨t0,t1,c0,c1,nx⟩:=hw'.out;first|rfl|(go_simp;done) | (go_simp;rw[IntKind.wrap_i64];omega)) HS2 ?_;simp only[sI,sS,sZ];refine zaj 8 73 (.bool true) rfl (by rfl) (by kernel_rfl) (by kernel_rfl) (by kernel_rfl) (fun _ _ _ h=>h) (fun w' hw'=>by obtain⟨t0,t1,c0,c1,nx⟩:=hw'.out;first|rfl|(go_simp;done) | (go_simp;rw[IntKind.wrap_i64];omega)) HS2 ?_;simp only[sI,sS,sZ];refine zaj 9 74 (.bool true) rfl (by rfl) (by kernel_rfl) (by kernel_rfl) (by kernel_rfl) (fun _ _ _ h=>h) (fun w' hw'=>by obtain⟨t0,t1,c0,c1,nx⟩:=hw'.out;first|rfl|(go_simp;done) | (go_simp;rw[IntKind.wrap_i64];omega)) HS2 ?_;simp only[sI,sS,sZ];refine zaj 10 75 (.pointer (some ⟨g,0,none⟩)) rfl (by rfl) (by kernel_rfl) (by kernel_rfl) (by kernel_rfl) (fun _ _ _ h=>h) (fun w' hw'=>by obtain⟨t0,t1,c0,c1,nx⟩:=hw'.out;first|rfl|(go_simp;done) | (go_simp;rw[IntKind.wrap_i64];omega)) HS2 ?_;simp only[sI,sS,sZ];refine zaj 11 76 (.pointer (some ⟨g,0,none⟩)) rfl (by rfl) (by kernel_rfl) (by kernel_rfl) (by kernel_rfl) (fun _ _ _ h=>h) (fun w' hw'=>by obtain⟨t0,t1,c0,c1,nx⟩:=hw'.out;first|rfl|(go_simp;done) | (go_simp;rw[IntKind.wrap_i64];omega)) HS2 ?_;simp only[sI,sS,sZ];refine zaj 12 77 (.pointer (some ⟨g,1,none⟩)) rfl (by rfl) (by kernel_rfl) (by kernel_rfl) (by kernel_rfl) (fun _ _ _ h=>h) (fun w' hw'=>by obtain⟨t0,t1,c0,c1,nx⟩:=hw'.out;first|rfl|(go_simp;done) | (go_simp;rw[IntKind.wrap_i64];omega)) HS2 ?_;simp only[sI,sS,sZ];refine zaj 13 78 (.int .i64 s.p) rfl (by rfl) (by kernel_rfl) (by kernel_rfl) (by kernel_rfl) (fun _ _ _ h=>h) (fun w' hw'=>by obtain⟨t0,t1,c0,c1,nx⟩:=hw'.out;first|rfl|(go_simp;done) | (go_simp;rw[IntKind.wrap_i64];omega)) HS2 ?_;simp only[sI,sS,sZ];refine zaj 14 79 (.int .i64 ((s.p:Int)+1)) rfl (by rfl) (by kernel_rfl) (by kernel_rfl) (by kernel_rfl) (fun _ _ _ h=>h) (fun w' hw'=>by obtain⟨t0,t1,c0,c1,nx⟩:=hw'.out;first|rfl|(go_simp;done) | (go_simp;rw[IntKind.wrap_i64];omega)) HS2 ?_
         simp only[sI,sS,sZ];refine zaj 15 80 (.pointer (some ⟨g,0,none⟩)) rfl (by rfl) (by kernel_rfl) (by kernel_rfl) (by kernel_rfl) (fun _ _ _ h=>h) (fun w' hw'=>by obtain⟨t0,t1,c0,c1,nx⟩:=hw'.out;first|rfl|(go_simp;done) | (go_simp;rw[IntKind.wrap_i64];omega)) HS2 ?_;simp only[sI,sS,sZ];refine zaj 16 81 (.pointer (some ⟨g,0,none⟩)) rfl (by rfl) (by kernel_rfl) (by kernel_rfl) (by kernel_rfl) (fun _ _ _ h=>h) (fun w' hw'=>by obtain⟨t0,t1,c0,c1,nx⟩:=hw'.out;first|rfl|(go_simp;done) | (go_simp;rw[IntKind.wrap_i64];omega)) HS2 ?_;simp only[sI,sS,sZ];refine zaj 17 82 (.pointer (some ⟨g,0,none⟩)) rfl (by rfl) (by kernel_rfl) (by kernel_rfl) (by kernel_rfl) (fun _ _ _ h=>h) (fun w' hw'=>by obtain⟨t0,t1,c0,c1,nx⟩:=hw'.out;first|rfl|(go_simp;done) | (go_simp;rw[IntKind.wrap_i64];omega)) HS2 ?_;simp only[sI,sS,sZ];refine zaj 18 83 (.slice st ts.length cap) rfl (by rfl) (by kernel_rfl) (by kernel_rfl) (by kernel_rfl) (fun _ _ _ h=>h) (fun w' hw'=>by obtain⟨t0,t1,c0,c1,nx⟩:=hw'.out;first|rfl|(go_simp;done) | (go_simp;rw[IntKind.wrap_i64];omega)) HS2 ?_;simp only[sI,sS,sZ];refine zaj 19 84 (.int .i64 ts.length) rfl (by rfl) (by kernel_rfl) (by kernel_rfl) (by kernel_rfl) (fun _ _ _ h=>h) (fun w' hw'=>by obtain⟨t0,t1,c0,c1,nx⟩:=hw'.out;first|rfl|(go_simp;done) | (go_simp;rw[IntKind.wrap_i64];omega)) HS2 ?_;simp only[sI,sS,sZ];obtain⟨ql,hql⟩:∃ b,decide (s.p+1<ts.length)=b:=⟨_,rfl⟩;have hqe:decide (((s.p:Int)+1)<ts.length)=ql:=by rw[<-hql];exact decide_eq_decide.mpr (by omega)
         have HQL:=hid hql;rw[hql] at HCB;clear hql
         cases ql
         ·skip
          refine zaj 20 85 (.bool false) rfl (by rfl) (by kernel_rfl) (by kernel_rfl) (by kernel_rfl) (fun _ _ _ h=>h) (fun w' hw'=>by obtain⟨t0,t1,c0,c1,nx⟩:=hw'.out;first|rfl|(go_simp;done) | (go_simp;rw[IntKind.wrap_i64];omega)) HS2 ?_;simp only[sI,sS,sZ];refine zaj 21 86 (.bool false) rfl (by rfl) (by kernel_rfl) (by kernel_rfl) (by kernel_rfl) (fun _ _ _ h=>h) (fun w' hw'=>by obtain⟨t0,t1,c0,c1,nx⟩:=hw'.out;first|rfl|(go_simp;done) | (go_simp;rw[IntKind.wrap_i64];omega)) HS2 ?_;simp only[sI,sS,sZ];refine zaj 22 87 (.bool false) rfl (by rfl) (by kernel_rfl) (by kernel_rfl) (by kernel_rfl) (fun _ _ _ h=>h) (fun w' hw'=>by obtain⟨t0,t1,c0,c1,nx⟩:=hw'.out;first|rfl|(go_simp;done) | (go_simp;rw[IntKind.wrap_i64];omega)) HS2 ?_;simp only[sI,sS,sZ];clear hqe;refine zah 23 88 rfl (by rfl) (by kernel_rfl) (by kernel_rfl) (by kernel_rfl) (fun _ _ _ h=>h) HS2 ?_;simp only[sI,sS,sZ];refine zah 24 89 rfl (by rfl) (by kernel_rfl) (by kernel_rfl) (by kernel_rfl) (fun _ _ _ h=>h) HS2 ?_;simp only[sI,sS,sZ];refine zah 25 90 rfl (by rfl) (by kernel_rfl) (by kernel_rfl) (by kernel_rfl) (fun _ _ _ h=>h) HS2 ?_;simp only[sI,sS,sZ];refine zah 26 91 rfl (by rfl) (by kernel_rfl) (by kernel_rfl) (by kernel_rfl) (fun _ _ _ h=>h) HS2 ?_;simp only[sI,sS,sZ];refine zah 27 92 rfl (by rfl) (by kernel_rfl) (by kernel_rfl) (by kernel_rfl) (fun _ _ _ h=>h) HS2 ?_;simp only[sI,sS,sZ];refine zah 28 93 rfl (by rfl) (by kernel_rfl) (by kernel_rfl) (by kernel_rfl) (fun _ _ _ h=>h) HS2 ?_;simp only[sI,sS,sZ];refine zah 29 94 rfl (by rfl) (by kernel_rfl) (by kernel_rfl) (by kernel_rfl) (fun _ _ _ h=>h) HS2 ?_;simp only[sI,sS,sZ];refine zah 30 95 rfl (by rfl) (by kernel_rfl) (by kernel_rfl) (by kernel_rfl) (fun _ _ _ h=>h) HS2 ?_;simp only[sI,sS,sZ];refine zah 31 96 rfl (by rfl) (by kernel_rfl) (by kernel_rfl) (by kernel_rfl) (fun _ _ _ h=>h) HS2 ?_;simp only[sI,sS,sZ];refine zah 32 97 rfl (by rfl) (by kernel_rfl) (by kernel_rfl) (by kernel_rfl) (fun _ _ _ h=>h) HS2 ?_;simp only[sI,sS,sZ];refine zah 33 98 rfl (by rfl) (by kernel_rfl) (by kernel_rfl) (by kernel_rfl) (fun _ _ _ h=>h) HS2 ?_
          simp only[sI,sS,sZ];refine zah 34 99 rfl (by rfl) (by kernel_rfl) (by kernel_rfl) (by kernel_rfl) (fun _ _ _ h=>h) HS2 ?_;simp only[sI,sS,sZ];refine zah 35 100 rfl (by rfl) (by kernel_rfl) (by kernel_rfl) (by kernel_rfl) (fun _ _ _ h=>h) HS2 ?_;simp only[sI,sS,sZ];refine zaj 36 101 (.bool false) rfl (by rfl) (by kernel_rfl) (by kernel_rfl) (by kernel_rfl) (fun _ _ _ h=>h) (fun w' hw'=>by obtain⟨t0,t1,c0,c1,nx⟩:=hw'.out;first|rfl|(go_simp;done) | (go_simp;rw[IntKind.wrap_i64];omega)) HS2 ?_;simp only[sI,sS,sZ];refine zaj 37 102 (.bool false) rfl (by rfl) (by kernel_rfl) (by kernel_rfl) (by kernel_rfl) (fun _ _ _ h=>h) (fun w' hw'=>by obtain⟨t0,t1,c0,c1,nx⟩:=hw'.out;first|rfl|(go_simp;done) | (go_simp;rw[IntKind.wrap_i64];omega)) HS2 ?_;simp only[sI,sS,sZ];refine zah 38 103 rfl (by rfl) (by kernel_rfl) (by kernel_rfl) (by kernel_rfl) (fun _ _ _ h=>h) HS2 ?_;simp only[sI,sS,sZ];refine zah 39 104 rfl (by rfl) (by kernel_rfl) (by kernel_rfl) (by kernel_rfl) (fun _ _ _ h=>h) HS2 ?_;simp only[sI,sS,sZ];refine zah 40 105 rfl (by rfl) (by kernel_rfl) (by kernel_rfl) (by kernel_rfl) (fun _ _ _ h=>h) HS2 ?_;simp only[sI,sS,sZ];refine zah 41 106 rfl (by rfl) (by kernel_rfl) (by kernel_rfl) (by kernel_rfl) (fun _ _ _ h=>h) HS2 ?_;simp only[sI,sS,sZ];refine zah 42 107 rfl (by rfl) (by kernel_rfl) (by kernel_rfl) (by kernel_rfl) (fun _ _ _ h=>h) HS2 ?_;simp only[sI,sS,sZ];refine zah 43 108 rfl (by rfl) (by kernel_rfl) (by kernel_rfl) (by kernel_rfl) (fun _ _ _ h=>h) HS2 ?_;simp only[sI,sS,sZ];refine zah 44 109 rfl (by rfl) (by kernel_rfl) (by kernel_rfl) (by kernel_rfl) (fun _ _ _ h=>h) HS2 ?_;simp only[sI,sS,sZ];refine zah 45 110 rfl (by rfl) (by kernel_rfl) (by kernel_rfl) (by kernel_rfl) (fun _ _ _ h=>h) HS2 ?_;simp only[sI,sS,sZ];refine zah 46 111 rfl (by rfl) (by kernel_rfl) (by kernel_rfl) (by kernel_rfl) (fun _ _ _ h=>h) HS2 ?_;simp only[sI,sS,sZ];refine zah 47 112 rfl (by rfl) (by kernel_rfl) (by kernel_rfl) (by kernel_rfl) (fun _ _ _ h=>h) HS2 ?_;simp only[sI,sS,sZ]
          refine zah 48 113 rfl (by rfl) (by kernel_rfl) (by kernel_rfl) (by kernel_rfl) (fun _ _ _ h=>h) HS2 ?_;simp only[sI,sS,sZ];refine zah 49 114 rfl (by rfl) (by kernel_rfl) (by kernel_rfl) (by kernel_rfl) (fun _ _ _ h=>h) HS2 ?_;simp only[sI,sS,sZ];refine zah 50 115 rfl (by rfl) (by kernel_rfl) (by kernel_rfl) (by kernel_rfl) (fun _ _ _ h=>h) HS2 ?_;simp only[sI,sS,sZ];refine zaj 51 116 (.bool false) rfl (by rfl) (by kernel_rfl) (by kernel_rfl) (by kernel_rfl) (fun _ _ _ h=>h) (fun w' hw'=>by obtain⟨t0,t1,c0,c1,nx⟩:=hw'.out;first|rfl|(go_simp;done) | (go_simp;rw[IntKind.wrap_i64];omega)) HS2 ?_;simp only[sI,sS,sZ];refine wpAnyH_done (by kernel_rfl) ?_ _
          go_wp2
          go_meet
          case rel=>exact⟨by rw[<-HCB.out];rfl,HD2.out,HT2.out⟩
         ·skip
          refine zaj 20 85 (.bool true) rfl (by rfl) (by kernel_rfl) (by kernel_rfl) (by kernel_rfl) (fun _ _ _ h=>h) (fun w' hw'=>by obtain⟨t0,t1,c0,c1,nx⟩:=hw'.out;first|rfl|(go_simp;done) | (go_simp;rw[IntKind.wrap_i64];omega)) HS2 ?_;simp only[sI,sS,sZ];refine zaj 21 86 (.bool true) rfl (by rfl) (by kernel_rfl) (by kernel_rfl) (by kernel_rfl) (fun _ _ _ h=>h) (fun w' hw'=>by obtain⟨t0,t1,c0,c1,nx⟩:=hw'.out;first|rfl|(go_simp;done) | (go_simp;rw[IntKind.wrap_i64];omega)) HS2 ?_;simp only[sI,sS,sZ];refine zaj 22 87 (.bool true) rfl (by rfl) (by kernel_rfl) (by kernel_rfl) (by kernel_rfl) (fun _ _ _ h=>h) (fun w' hw'=>by obtain⟨t0,t1,c0,c1,nx⟩:=hw'.out;first|rfl|(go_simp;done) | (go_simp;rw[IntKind.wrap_i64];omega)) HS2 ?_;simp only[sI,sS,sZ];clear hqe;have hql:=of_decide_eq_true HQL.out;obtain⟨tb,tof,tst,-⟩:=HD2.out.hR.tok hql;subst tst;have HLQ:=hid hql;clear hql HQL;refine zaj 23 88 (.pointer (some ⟨g,0,none⟩)) rfl (by rfl) (by kernel_rfl) (by kernel_rfl) (by kernel_rfl) (fun _ _ _ h=>h) (fun w' hw'=>by obtain⟨t0,t1,c0,c1,nx⟩:=hw'.out;first|rfl|(go_simp;done) | (go_simp;rw[IntKind.wrap_i64];omega)) HS2 ?_;simp only[sI,sS,sZ];refine zaj 24 89 (.pointer (some ⟨g,0,none⟩)) rfl (by rfl) (by kernel_rfl) (by kernel_rfl) (by kernel_rfl) (fun _ _ _ h=>h) (fun w' hw'=>by obtain⟨t0,t1,c0,c1,nx⟩:=hw'.out;first|rfl|(go_simp;done) | (go_simp;rw[IntKind.wrap_i64];omega)) HS2 ?_;simp only[sI,sS,sZ];refine zaj 25 90 (.pointer (some ⟨g,0,none⟩)) rfl (by rfl) (by kernel_rfl) (by kernel_rfl) (by kernel_rfl) (fun _ _ _ h=>h) (fun w' hw'=>by obtain⟨t0,t1,c0,c1,nx⟩:=hw'.out;first|rfl|(go_simp;done) | (go_simp;rw[IntKind.wrap_i64];omega)) HS2 ?_;simp only[sI,sS,sZ];refine zaj 26 91 (.slice (some ⟨tb,tof,none⟩) ts.length cap) rfl (by rfl) (by kernel_rfl) (by kernel_rfl) (by kernel_rfl) (fun _ _ _ h=>h) (fun w' hw'=>by obtain⟨t0,t1,c0,c1,nx⟩:=hw'.out;first|rfl|(go_simp;done) | (go_simp;rw[IntKind.wrap_i64];omega)) HS2 ?_;simp only[sI,sS,sZ];refine zaj 27 92 (.pointer (some ⟨g,0,none⟩)) rfl (by rfl) (by kernel_rfl) (by kernel_rfl) (by kernel_rfl) (fun _ _ _ h=>h) (fun w' hw'=>by obtain⟨t0,t1,c0,c1,nx⟩:=hw'.out;first|rfl|(go_simp;done) | (go_simp;rw[IntKind.wrap_i64];omega)) HS2 ?_
          simp only[sI,sS,sZ];refine zaj 28 93 (.pointer (some ⟨g,0,none⟩)) rfl (by rfl) (by kernel_rfl) (by kernel_rfl) (by kernel_rfl) (fun _ _ _ h=>h) (fun w' hw'=>by obtain⟨t0,t1,c0,c1,nx⟩:=hw'.out;first|rfl|(go_simp;done) | (go_simp;rw[IntKind.wrap_i64];omega)) HS2 ?_;simp only[sI,sS,sZ];refine zaj 29 94 (.pointer (some ⟨g,1,none⟩)) rfl (by rfl) (by kernel_rfl) (by kernel_rfl) (by kernel_rfl) (fun _ _ _ h=>h) (fun w' hw'=>by obtain⟨t0,t1,c0,c1,nx⟩:=hw'.out;first|rfl|(go_simp;done) | (go_simp;rw[IntKind.wrap_i64];omega)) HS2 ?_;simp only[sI,sS,sZ];refine zaj 30 95 (.int .i64 s.p) rfl (by rfl) (by kernel_rfl) (by kernel_rfl) (by kernel_rfl) (fun _ _ _ h=>h) (fun w' hw'=>by obtain⟨t0,t1,c0,c1,nx⟩:=hw'.out;first|rfl|(go_simp;done) | (go_simp;rw[IntKind.wrap_i64];omega)) HS2 ?_;simp only[sI,sS,sZ];refine zaj 31 96 (.int .i64 ((s.p:Int)+1)) rfl (by rfl) (by kernel_rfl) (by kernel_rfl) (by kernel_rfl) (fun _ _ _ h=>h) (fun w' hw'=>by obtain⟨t0,t1,c0,c1,nx⟩:=hw'.out;first|rfl|(go_simp;done) | (go_simp;rw[IntKind.wrap_i64];omega)) HS2 ?_;simp only[sI,sS,sZ];refine zaj 32 97 (.pointer (some ⟨tb,tof+(s.p+1) * 3,none⟩)) rfl (by rfl) (by kernel_rfl) (by kernel_rfl) (by kernel_rfl) (fun _ _ _ h=>h) (fun w' hw'=>by obtain⟨t0,t1,c0,c1,nx⟩:=hw'.out;have hql:=HLQ.out;first|rfl|(go_simp;done) | (go_simp;omega)) HS2 ?_;simp only[sI,sS,sZ];refine zaj 33 98 (.pointer (some ⟨tb,tof+(s.p+1) * 3,none⟩)) rfl (by rfl) (by kernel_rfl) (by kernel_rfl) (by kernel_rfl) (fun _ _ _ h=>h) (fun w' hw'=>by obtain⟨t0,t1,c0,c1,nx⟩:=hw'.out;first|rfl|(go_simp;done) | (go_simp;rw[IntKind.wrap_i64];omega)) HS2 ?_;simp only[sI,sS,sZ];refine zaj 34 99 (.int .i64 (nxT ts (s.p+1)).kind) rfl (by rfl) (by kernel_rfl) (by kernel_rfl) (by kernel_rfl) (fun _ _ _ h=>h) (fun w' hw'=>by obtain⟨t0,t1,c0,c1,nx⟩:=hw'.out;obtain⟨n1,n2⟩:=nx HLQ.out _ _ rfl;first|rfl|(go_simp;done)) HS2 ?_;simp only[sI,sS,sZ];obtain⟨k4,hk4⟩:∃ b,((nxT ts (s.p+1)).kind == 4)=b:=⟨_,rfl⟩;rw[hk4] at HCB
          cases k4
          ·skip
           refine zaj 35 100 (.bool false) rfl (by rfl) (by kernel_rfl) (by kernel_rfl) (by kernel_rfl) (fun _ _ _ h=>h) (fun w' hw'=>by obtain⟨t0,t1,c0,c1,nx⟩:=hw'.out;first|rfl|(go_simp;done) | (go_simp;rw[IntKind.wrap_i64];omega)) HS2 ?_;simp only[sI,sS,sZ];refine zaj 36 101 (.bool false) rfl (by rfl) (by kernel_rfl) (by kernel_rfl) (by kernel_rfl) (fun _ _ _ h=>h) (fun w' hw'=>by obtain⟨t0,t1,c0,c1,nx⟩:=hw'.out;first|rfl|(go_simp;done) | (go_simp;rw[IntKind.wrap_i64];omega)) HS2 ?_;simp only[sI,sS,sZ];refine zaj 37 102 (.bool false) rfl (by rfl) (by kernel_rfl) (by kernel_rfl) (by kernel_rfl) (fun _ _ _ h=>h) (fun w' hw'=>by obtain⟨t0,t1,c0,c1,nx⟩:=hw'.out;first|rfl|(go_simp;done) | (go_simp;rw[IntKind.wrap_i64];omega)) HS2 ?_;simp only[sI,sS,sZ];clear hk4;refine zah 38 103 rfl (by rfl) (by kernel_rfl) (by kernel_rfl) (by kernel_rfl) (fun _ _ _ h=>h) HS2 ?_;simp only[sI,sS,sZ];refine zah 39 104 rfl (by rfl) (by kernel_rfl) (by kernel_rfl) (by kernel_rfl) (fun _ _ _ h=>h) HS2 ?_;simp only[sI,sS,sZ];refine zah 40 105 rfl (by rfl) (by kernel_rfl) (by kernel_rfl) (by kernel_rfl) (fun _ _ _ h=>h) HS2 ?_;simp only[sI,sS,sZ];refine zah 41 106 rfl (by rfl) (by kernel_rfl) (by kernel_rfl) (by kernel_rfl) (fun _ _ _ h=>h) HS2 ?_;simp only[sI,sS,sZ];refine zah 42 107 rfl (by rfl) (by kernel_rfl) (by kernel_rfl) (by kernel_rfl) (fun _ _ _ h=>h) HS2 ?_;simp only[sI,sS,sZ];refine zah 43 108 rfl (by rfl) (by kernel_rfl) (by kernel_rfl) (by kernel_rfl) (fun _ _ _ h=>h) HS2 ?_;simp only[sI,sS,sZ];refine zah 44 109 rfl (by rfl) (by kernel_rfl) (by kernel_rfl) (by kernel_rfl) (fun _ _ _ h=>h) HS2 ?_;simp only[sI,sS,sZ];refine zah 45 110 rfl (by rfl) (by kernel_rfl) (by kernel_rfl) (by kernel_rfl) (fun _ _ _ h=>h) HS2 ?_;simp only[sI,sS,sZ];refine zah 46 111 rfl (by rfl) (by kernel_rfl) (by kernel_rfl) (by kernel_rfl) (fun _ _ _ h=>h) HS2 ?_;simp only[sI,sS,sZ];refine zah 47 112 rfl (by rfl) (by kernel_rfl) (by kernel_rfl) (by kernel_rfl) (fun _ _ _ h=>h) HS2 ?_;simp only[sI,sS,sZ]
           refine zah 48 113 rfl (by rfl) (by kernel_rfl) (by kernel_rfl) (by kernel_rfl) (fun _ _ _ h=>h) HS2 ?_;simp only[sI,sS,sZ];refine zah 49 114 rfl (by rfl) (by kernel_rfl) (by kernel_rfl) (by kernel_rfl) (fun _ _ _ h=>h) HS2 ?_;simp only[sI,sS,sZ];refine zah 50 115 rfl (by rfl) (by kernel_rfl) (by kernel_rfl) (by kernel_rfl) (fun _ _ _ h=>h) HS2 ?_;simp only[sI,sS,sZ];refine zaj 51 116 (.bool false) rfl (by rfl) (by kernel_rfl) (by kernel_rfl) (by kernel_rfl) (fun _ _ _ h=>h) (fun w' hw'=>by obtain⟨t0,t1,c0,c1,nx⟩:=hw'.out;first|rfl|(go_simp;done) | (go_simp;rw[IntKind.wrap_i64];omega)) HS2 ?_;simp only[sI,sS,sZ];refine wpAnyH_done (by kernel_rfl) ?_ _
           go_wp2
           go_meet
           case rel=>exact⟨by rw[<-HCB.out];rfl,HD2.out,HT2.out⟩
          ·skip
           refine zaj 35 100 (.bool true) rfl (by rfl) (by kernel_rfl) (by kernel_rfl) (by kernel_rfl) (fun _ _ _ h=>h) (fun w' hw'=>by obtain⟨t0,t1,c0,c1,nx⟩:=hw'.out;first|rfl|(go_simp;done) | (go_simp;rw[IntKind.wrap_i64];omega)) HS2 ?_;simp only[sI,sS,sZ];refine zaj 36 101 (.bool true) rfl (by rfl) (by kernel_rfl) (by kernel_rfl) (by kernel_rfl) (fun _ _ _ h=>h) (fun w' hw'=>by obtain⟨t0,t1,c0,c1,nx⟩:=hw'.out;first|rfl|(go_simp;done) | (go_simp;rw[IntKind.wrap_i64];omega)) HS2 ?_;simp only[sI,sS,sZ];refine zaj 37 102 (.bool true) rfl (by rfl) (by kernel_rfl) (by kernel_rfl) (by kernel_rfl) (fun _ _ _ h=>h) (fun w' hw'=>by obtain⟨t0,t1,c0,c1,nx⟩:=hw'.out;first|rfl|(go_simp;done) | (go_simp;rw[IntKind.wrap_i64];omega)) HS2 ?_;simp only[sI,sS,sZ];clear hk4;refine zaj 38 103 (.pointer (some ⟨g,0,none⟩)) rfl (by rfl) (by kernel_rfl) (by kernel_rfl) (by kernel_rfl) (fun _ _ _ h=>h) (fun w' hw'=>by obtain⟨t0,t1,c0,c1,nx⟩:=hw'.out;first|rfl|(go_simp;done) | (go_simp;rw[IntKind.wrap_i64];omega)) HS2 ?_;simp only[sI,sS,sZ];refine zaj 39 104 (.pointer (some ⟨g,0,none⟩)) rfl (by rfl) (by kernel_rfl) (by kernel_rfl) (by kernel_rfl) (fun _ _ _ h=>h) (fun w' hw'=>by obtain⟨t0,t1,c0,c1,nx⟩:=hw'.out;first|rfl|(go_simp;done) | (go_simp;rw[IntKind.wrap_i64];omega)) HS2 ?_;simp only[sI,sS,sZ];refine zaj 40 105 (.pointer (some ⟨g,0,none⟩)) rfl (by rfl) (by kernel_rfl) (by kernel_rfl) (by kernel_rfl) (fun _ _ _ h=>h) (fun w' hw'=>by obtain⟨t0,t1,c0,c1,nx⟩:=hw'.out;first|rfl|(go_simp;done) | (go_simp;rw[IntKind.wrap_i64];omega)) HS2 ?_;simp only[sI,sS,sZ];refine zaj 41 106 (.slice (some ⟨tb,tof,none⟩) ts.length cap) rfl (by rfl) (by kernel_rfl) (by kernel_rfl) (by kernel_rfl) (fun _ _ _ h=>h) (fun w' hw'=>by obtain⟨t0,t1,c0,c1,nx⟩:=hw'.out;first|rfl|(go_simp;done) | (go_simp;rw[IntKind.wrap_i64];omega)) HS2 ?_;simp only[sI,sS,sZ];refine zaj 42 107 (.pointer (some ⟨g,0,none⟩)) rfl (by rfl) (by kernel_rfl) (by kernel_rfl) (by kernel_rfl) (fun _ _ _ h=>h) (fun w' hw'=>by obtain⟨t0,t1,c0,c1,nx⟩:=hw'.out;first|rfl|(go_simp;done) | (go_simp;rw[IntKind.wrap_i64];omega)) HS2 ?_
           simp only[sI,sS,sZ];refine zaj 43 108 (.pointer (some ⟨g,0,none⟩)) rfl (by rfl) (by kernel_rfl) (by kernel_rfl) (by kernel_rfl) (fun _ _ _ h=>h) (fun w' hw'=>by obtain⟨t0,t1,c0,c1,nx⟩:=hw'.out;first|rfl|(go_simp;done) | (go_simp;rw[IntKind.wrap_i64];omega)) HS2 ?_;simp only[sI,sS,sZ];refine zaj 44 109 (.pointer (some ⟨g,1,none⟩)) rfl (by rfl) (by kernel_rfl) (by kernel_rfl) (by kernel_rfl) (fun _ _ _ h=>h) (fun w' hw'=>by obtain⟨t0,t1,c0,c1,nx⟩:=hw'.out;first|rfl|(go_simp;done) | (go_simp;rw[IntKind.wrap_i64];omega)) HS2 ?_;simp only[sI,sS,sZ];refine zaj 45 110 (.int .i64 s.p) rfl (by rfl) (by kernel_rfl) (by kernel_rfl) (by kernel_rfl) (fun _ _ _ h=>h) (fun w' hw'=>by obtain⟨t0,t1,c0,c1,nx⟩:=hw'.out;first|rfl|(go_simp;done) | (go_simp;rw[IntKind.wrap_i64];omega)) HS2 ?_;simp only[sI,sS,sZ];refine zaj 46 111 (.int .i64 ((s.p:Int)+1)) rfl (by rfl) (by kernel_rfl) (by kernel_rfl) (by kernel_rfl) (fun _ _ _ h=>h) (fun w' hw'=>by obtain⟨t0,t1,c0,c1,nx⟩:=hw'.out;first|rfl|(go_simp;done) | (go_simp;rw[IntKind.wrap_i64];omega)) HS2 ?_;simp only[sI,sS,sZ];refine zaj 47 112 (.pointer (some ⟨tb,tof+(s.p+1) * 3,none⟩)) rfl (by rfl) (by kernel_rfl) (by kernel_rfl) (by kernel_rfl) (fun _ _ _ h=>h) (fun w' hw'=>by obtain⟨t0,t1,c0,c1,nx⟩:=hw'.out;have hql:=HLQ.out;first|rfl|(go_simp;done) | (go_simp;omega)) HS2 ?_;simp only[sI,sS,sZ];refine zaj 48 113 (.pointer (some ⟨tb,tof+(s.p+1) * 3+1,none⟩)) rfl (by rfl) (by kernel_rfl) (by kernel_rfl) (by kernel_rfl) (fun _ _ _ h=>h) (fun w' hw'=>by obtain⟨t0,t1,c0,c1,nx⟩:=hw'.out;first|rfl|(go_simp;done) | (go_simp;rw[IntKind.wrap_i64];omega)) HS2 ?_;simp only[sI,sS,sZ];refine zaj 49 114 (.string (nxT ts (s.p+1)).text) rfl (by rfl) (by kernel_rfl) (by kernel_rfl) (by kernel_rfl) (fun _ _ _ h=>h) (fun w' hw'=>by obtain⟨t0,t1,c0,c1,nx⟩:=hw'.out;obtain⟨n1,n2⟩:=nx HLQ.out _ _ rfl;first|rfl|(go_simp;done)) HS2 ?_;simp only[sI,sS,sZ];obtain⟨kx,hkx⟩:∃ b,isT ts (s.p+1) [58,61]=b:=⟨_,rfl⟩;rw[hkx] at HCB;have hkx2:((nxT ts (s.p+1)).text.toList == [58,61])=kx:=by rw[<-hkx,zsr,ByteArray.toList_eq]
           clear hkx
           cases kx
           ·skip
            refine zaj 50 115 (.bool false) rfl (by rfl) (by kernel_rfl) (by kernel_rfl) (by kernel_rfl) (fun _ _ _ h=>h) (fun w' hw'=>by obtain⟨t0,t1,c0,c1,nx⟩:=hw'.out;first|rfl|(go_simp;done) | (go_simp;rw[IntKind.wrap_i64];omega)) HS2 ?_;simp only[sI,sS,sZ];clear hkx2;refine zaj 51 116 (.bool false) rfl (by rfl) (by kernel_rfl) (by kernel_rfl) (by kernel_rfl) (fun _ _ _ h=>h) (fun w' hw'=>by obtain⟨t0,t1,c0,c1,nx⟩:=hw'.out;first|rfl|(go_simp;done) | (go_simp;rw[IntKind.wrap_i64];omega)) HS2 ?_;simp only[sI,sS,sZ];refine wpAnyH_done (by kernel_rfl) ?_ _
            go_wp2
            go_meet
            case rel=>exact⟨by rw[<-HCB.out];rfl,HD2.out,HT2.out⟩
           ·skip
            refine zaj 50 115 (.bool true) rfl (by rfl) (by kernel_rfl) (by kernel_rfl) (by kernel_rfl) (fun _ _ _ h=>h) (fun w' hw'=>by obtain⟨t0,t1,c0,c1,nx⟩:=hw'.out;first|rfl|(go_simp;done) | (go_simp;rw[IntKind.wrap_i64];omega)) HS2 ?_;simp only[sI,sS,sZ];clear hkx2;refine zaj 51 116 (.bool true) rfl (by rfl) (by kernel_rfl) (by kernel_rfl) (by kernel_rfl) (fun _ _ _ h=>h) (fun w' hw'=>by obtain⟨t0,t1,c0,c1,nx⟩:=hw'.out;first|rfl|(go_simp;done) | (go_simp;rw[IntKind.wrap_i64];omega)) HS2 ?_;simp only[sI,sS,sZ];refine wpAnyH_done (by kernel_rfl) ?_ _
            go_wp2
            go_meet
            case rel=>exact⟨by rw[<-HCB.out];rfl,HD2.out,HT2.out⟩
        ·skip
         refine zaj 7 72 (.bool false) rfl (by rfl) (by kernel_rfl) (by kernel_rfl) (by kernel_rfl) (fun _ _ _ h=>h) (fun w' hw'=>by obtain⟨t0,t1,c0,c1,nx⟩:=hw'.out;first|rfl|(go_simp;done) | (go_simp;rw[IntKind.wrap_i64];omega)) HS2 ?_;simp only[sI,sS,sZ];refine zaj 8 73 (.bool false) rfl (by rfl) (by kernel_rfl) (by kernel_rfl) (by kernel_rfl) (fun _ _ _ h=>h) (fun w' hw'=>by obtain⟨t0,t1,c0,c1,nx⟩:=hw'.out;first|rfl|(go_simp;done) | (go_simp;rw[IntKind.wrap_i64];omega)) HS2 ?_;simp only[sI,sS,sZ];refine zaj 9 74 (.bool false) rfl (by rfl) (by kernel_rfl) (by kernel_rfl) (by kernel_rfl) (fun _ _ _ h=>h) (fun w' hw'=>by obtain⟨t0,t1,c0,c1,nx⟩:=hw'.out;first|rfl|(go_simp;done) | (go_simp;rw[IntKind.wrap_i64];omega)) HS2 ?_;simp only[sI,sS,sZ];refine zah 10 75 rfl (by rfl) (by kernel_rfl) (by kernel_rfl) (by kernel_rfl) (fun _ _ _ h=>h) HS2 ?_;simp only[sI,sS,sZ];refine zah 11 76 rfl (by rfl) (by kernel_rfl) (by kernel_rfl) (by kernel_rfl) (fun _ _ _ h=>h) HS2 ?_;simp only[sI,sS,sZ];refine zah 12 77 rfl (by rfl) (by kernel_rfl) (by kernel_rfl) (by kernel_rfl) (fun _ _ _ h=>h) HS2 ?_;simp only[sI,sS,sZ];refine zah 13 78 rfl (by rfl) (by kernel_rfl) (by kernel_rfl) (by kernel_rfl) (fun _ _ _ h=>h) HS2 ?_;simp only[sI,sS,sZ];refine zah 14 79 rfl (by rfl) (by kernel_rfl) (by kernel_rfl) (by kernel_rfl) (fun _ _ _ h=>h) HS2 ?_;simp only[sI,sS,sZ];refine zah 15 80 rfl (by rfl) (by kernel_rfl) (by kernel_rfl) (by kernel_rfl) (fun _ _ _ h=>h) HS2 ?_;simp only[sI,sS,sZ];refine zah 16 81 rfl (by rfl) (by kernel_rfl) (by kernel_rfl) (by kernel_rfl) (fun _ _ _ h=>h) HS2 ?_;simp only[sI,sS,sZ];refine zah 17 82 rfl (by rfl) (by kernel_rfl) (by kernel_rfl) (by kernel_rfl) (fun _ _ _ h=>h) HS2 ?_;simp only[sI,sS,sZ];refine zah 18 83 rfl (by rfl) (by kernel_rfl) (by kernel_rfl) (by kernel_rfl) (fun _ _ _ h=>h) HS2 ?_;simp only[sI,sS,sZ];refine zah 19 84 rfl (by rfl) (by kernel_rfl) (by kernel_rfl) (by kernel_rfl) (fun _ _ _ h=>h) HS2 ?_;simp only[sI,sS,sZ];refine zah 20 85 rfl (by rfl) (by kernel_rfl) (by kernel_rfl) (by kernel_rfl) (fun _ _ _ h=>h) HS2 ?_
         simp only[sI,sS,sZ];refine zaj 21 86 (.bool false) rfl (by rfl) (by kernel_rfl) (by kernel_rfl) (by kernel_rfl) (fun _ _ _ h=>h) (fun w' hw'=>by obtain⟨t0,t1,c0,c1,nx⟩:=hw'.out;first|rfl|(go_simp;done) | (go_simp;rw[IntKind.wrap_i64];omega)) HS2 ?_;simp only[sI,sS,sZ];refine zaj 22 87 (.bool false) rfl (by rfl) (by kernel_rfl) (by kernel_rfl) (by kernel_rfl) (fun _ _ _ h=>h) (fun w' hw'=>by obtain⟨t0,t1,c0,c1,nx⟩:=hw'.out;first|rfl|(go_simp;done) | (go_simp;rw[IntKind.wrap_i64];omega)) HS2 ?_;simp only[sI,sS,sZ];refine zah 23 88 rfl (by rfl) (by kernel_rfl) (by kernel_rfl) (by kernel_rfl) (fun _ _ _ h=>h) HS2 ?_;simp only[sI,sS,sZ];refine zah 24 89 rfl (by rfl) (by kernel_rfl) (by kernel_rfl) (by kernel_rfl) (fun _ _ _ h=>h) HS2 ?_;simp only[sI,sS,sZ];refine zah 25 90 rfl (by rfl) (by kernel_rfl) (by kernel_rfl) (by kernel_rfl) (fun _ _ _ h=>h) HS2 ?_;simp only[sI,sS,sZ];refine zah 26 91 rfl (by rfl) (by kernel_rfl) (by kernel_rfl) (by kernel_rfl) (fun _ _ _ h=>h) HS2 ?_;simp only[sI,sS,sZ];refine zah 27 92 rfl (by rfl) (by kernel_rfl) (by kernel_rfl) (by kernel_rfl) (fun _ _ _ h=>h) HS2 ?_;simp only[sI,sS,sZ];refine zah 28 93 rfl (by rfl) (by kernel_rfl) (by kernel_rfl) (by kernel_rfl) (fun _ _ _ h=>h) HS2 ?_;simp only[sI,sS,sZ];refine zah 29 94 rfl (by rfl) (by kernel_rfl) (by kernel_rfl) (by kernel_rfl) (fun _ _ _ h=>h) HS2 ?_;simp only[sI,sS,sZ];refine zah 30 95 rfl (by rfl) (by kernel_rfl) (by kernel_rfl) (by kernel_rfl) (fun _ _ _ h=>h) HS2 ?_;simp only[sI,sS,sZ];refine zah 31 96 rfl (by rfl) (by kernel_rfl) (by kernel_rfl) (by kernel_rfl) (fun _ _ _ h=>h) HS2 ?_;simp only[sI,sS,sZ];refine zah 32 97 rfl (by rfl) (by kernel_rfl) (by kernel_rfl) (by kernel_rfl) (fun _ _ _ h=>h) HS2 ?_;simp only[sI,sS,sZ];refine zah 33 98 rfl (by rfl) (by kernel_rfl) (by kernel_rfl) (by kernel_rfl) (fun _ _ _ h=>h) HS2 ?_;simp only[sI,sS,sZ];refine zah 34 99 rfl (by rfl) (by kernel_rfl) (by kernel_rfl) (by kernel_rfl) (fun _ _ _ h=>h) HS2 ?_;simp only[sI,sS,sZ];refine zah 35 100 rfl (by rfl) (by kernel_rfl) (by kernel_rfl) (by kernel_rfl) (fun _ _ _ h=>h) HS2 ?_
         simp only[sI,sS,sZ];refine zaj 36 101 (.bool false) rfl (by rfl) (by kernel_rfl) (by kernel_rfl) (by kernel_rfl) (fun _ _ _ h=>h) (fun w' hw'=>by obtain⟨t0,t1,c0,c1,nx⟩:=hw'.out;first|rfl|(go_simp;done) | (go_simp;rw[IntKind.wrap_i64];omega)) HS2 ?_;simp only[sI,sS,sZ];refine zaj 37 102 (.bool false) rfl (by rfl) (by kernel_rfl) (by kernel_rfl) (by kernel_rfl) (fun _ _ _ h=>h) (fun w' hw'=>by obtain⟨t0,t1,c0,c1,nx⟩:=hw'.out;first|rfl|(go_simp;done) | (go_simp;rw[IntKind.wrap_i64];omega)) HS2 ?_;simp only[sI,sS,sZ];refine zah 38 103 rfl (by rfl) (by kernel_rfl) (by kernel_rfl) (by kernel_rfl) (fun _ _ _ h=>h) HS2 ?_;simp only[sI,sS,sZ];refine zah 39 104 rfl (by rfl) (by kernel_rfl) (by kernel_rfl) (by kernel_rfl) (fun _ _ _ h=>h) HS2 ?_;simp only[sI,sS,sZ];refine zah 40 105 rfl (by rfl) (by kernel_rfl) (by kernel_rfl) (by kernel_rfl) (fun _ _ _ h=>h) HS2 ?_;simp only[sI,sS,sZ];refine zah 41 106 rfl (by rfl) (by kernel_rfl) (by kernel_rfl) (by kernel_rfl) (fun _ _ _ h=>h) HS2 ?_;simp only[sI,sS,sZ];refine zah 42 107 rfl (by rfl) (by kernel_rfl) (by kernel_rfl) (by kernel_rfl) (fun _ _ _ h=>h) HS2 ?_;simp only[sI,sS,sZ];refine zah 43 108 rfl (by rfl) (by kernel_rfl) (by kernel_rfl) (by kernel_rfl) (fun _ _ _ h=>h) HS2 ?_;simp only[sI,sS,sZ];refine zah 44 109 rfl (by rfl) (by kernel_rfl) (by kernel_rfl) (by kernel_rfl) (fun _ _ _ h=>h) HS2 ?_;simp only[sI,sS,sZ];refine zah 45 110 rfl (by rfl) (by kernel_rfl) (by kernel_rfl) (by kernel_rfl) (fun _ _ _ h=>h) HS2 ?_;simp only[sI,sS,sZ];refine zah 46 111 rfl (by rfl) (by kernel_rfl) (by kernel_rfl) (by kernel_rfl) (fun _ _ _ h=>h) HS2 ?_;simp only[sI,sS,sZ];refine zah 47 112 rfl (by rfl) (by kernel_rfl) (by kernel_rfl) (by kernel_rfl) (fun _ _ _ h=>h) HS2 ?_;simp only[sI,sS,sZ];refine zah 48 113 rfl (by rfl) (by kernel_rfl) (by kernel_rfl) (by kernel_rfl) (fun _ _ _ h=>h) HS2 ?_;simp only[sI,sS,sZ];refine zah 49 114 rfl (by rfl) (by kernel_rfl) (by kernel_rfl) (by kernel_rfl) (fun _ _ _ h=>h) HS2 ?_;simp only[sI,sS,sZ]
         refine zah 50 115 rfl (by rfl) (by kernel_rfl) (by kernel_rfl) (by kernel_rfl) (fun _ _ _ h=>h) HS2 ?_;simp only[sI,sS,sZ];refine zaj 51 116 (.bool false) rfl (by rfl) (by kernel_rfl) (by kernel_rfl) (by kernel_rfl) (fun _ _ _ h=>h) (fun w' hw'=>by obtain⟨t0,t1,c0,c1,nx⟩:=hw'.out;first|rfl|(go_simp;done) | (go_simp;rw[IntKind.wrap_i64];omega)) HS2 ?_;simp only[sI,sS,sZ];refine wpAnyH_done (by kernel_rfl) ?_ _
         go_wp2
         go_meet
         case rel=>exact⟨by rw[<-HCB.out];rfl,HD2.out,HT2.out⟩
      case rest=>
       obtain⟨rfl,hfl,htl⟩:=hcut;have HFC:=hid hfl;have HTC:=hid htl;clear hfl htl HCB HF21 Ht20t
       cases bb
       ·skip
        replace HX:=hid (if_f HX.out (fun h=>by cases h))
        have hX:=HX.out;unfold simD at hX
        dsimp only[tak] at hX
        replace HX:=hid hX
        clear hX
        try rw[HNX1.out] at HX
        obtain⟨c24a,c24b,c24c⟩:=HTC.out.cells
        go_wp2_with fail
        clear c24a c24b c24c;refine(zat 19 t1 ⟨#[]⟩ wc).mono ?_;rintro e W25 ⟨rfl,b25⟩;have Ht26t:=hid (HTC.out.low b25);have HF27:=hid (HFC.out.low b25);clear b25 HFC HTC;clear Ht26t;obtain⟨W28,hst28,b28,f28,l28⟩:=zc2 (z:=w.heap.size) HF27.out (zaa HF27.out.hZ) 19 t1 ⟨#[]⟩;have Hp28p:=hid l28;have hn28:=b28.size;have HF30:=hid (f28);clear b28 f28 l28 HF27
        go_wp2_with fail
        clear hst28;rcases hk31:(dns ts n).row 1 s with _|⟨v31,s31⟩
        ·exact absurd HX.out (by rw[hk31];intro h;cases h)
        rw[hk31] at HX
        try simp only[Option.bind_some] at HX
        refine(((fun hk=>HE.out _ _ _ hk HF30.out.hR) hk31)).mono ?_;rintro e W31 ⟨e31,rfl,q31,g31,r31⟩;have HV31:=hid q31;have hb31p:=Hp28p.out.lt;have Hp32p:=hid (Hp28p.out.grow HF30.out.gB g31);have hs31:=g31.size;have HF33:=hid (HF30.out.call g31 r31);have hl31:=HF30.out.size;clear hk31 q31 g31 r31 HF30 Hp28p;obtain⟨c34,f34,W34,hw34,g34,q34,b34,o34⟩:=zdy HF33.out Hp32p.out (v:=v31) (e:=e31) (S:=(fun j=>W28.heap.size<=j∧j<W31.heap.size)) HV31.out (fun j hj=>by have:=Hp32p.out.lt;have:=HF33.out.s0;exact⟨by omega,hj.2,by omega,by omega⟩);have Hp34p:=hid q34;have HF35:=hid (g34);obtain⟨e0,e1,e2,e3,e4,e5,e6,e7,e8,e9⟩:=e31
        dsimp only[Qe.cells,paQ] at c34 f34 hw34
        try unfold Qe.cells paQ
        clear HV31 g34 q34 b34 o34 HF33 Hp32p
        go_wp2_with fail
        clear c34 f34 hw34;refine(zar ⟨#[61]⟩ HF35.out.hR).mono ?_;rintro e W36 ⟨rfl,b36⟩;obtain⟨i36,hi⟩:∃ b,isQ ts s31.p ⟨#[61]⟩=b:=⟨_,rfl⟩;rw[hi];have HIS:=hid hi
        try rw[hi] at HX
        have Hp37p:=hid (Hp34p.out.below b36);have HF38:=hid (HF35.out.low b36);clear hi b36 HF35 Hp34p
        cases i36
        ·skip
         replace HX:=hid (if_f HX.out (fun h=>by cases h))
         obtain⟨r39a,r39b,r39c,r39d,r39e,r39f,r39g,r39h,r39i,r39z⟩:=row9 Hp37p.out.row
         go_wp2_with fail
         clear r39a r39b r39c r39d r39e r39f r39g r39h r39i r39z;obtain⟨sp40,ln40,cp40,hv40,hd40⟩:=za7 HF38.out Hp37p.out;injection hv40 with u1 u2 u3;subst u1 u2 u3;refine hd40.mono ?_;rintro e W40 ⟨e40,rfl,b40,f40,q40⟩;have HV40:=hid q40;have HF42:=hid (f40);clear hd40 b40 f40 q40 HF38 Hp37p;obtain⟨W43,hst43,hr43,hp43⟩:=za5 HF42.out (v:=(⟨19,⟨#[]⟩,0,t1.pos,t1.pos,behI ts s31.p,t1.pos,[v31.pt]⟩:Qv)) ⟨HV40.out.is.keep (fun j hj=>⟨hj.1,hj.2.1⟩) fun _ _=>rfl,HV40.out.bg⟩;have HP:=hid hp43;have HRR:=hid hr43;clear hp43 hr43
         go_wp2
         have hx:=Option.some.inj HX.out;exact zan Tryz.results129 rfl HRR.out (hx ▸ HP.out)
        ·skip
         replace HX:=hid (if_t HX.out (by first|rfl|trivial))
         go_wp2_with fail
         refine(zag ⟨#[61]⟩ HF38.out.hR).mono ?_;rintro e W44 ⟨rfl,g44,r44⟩;obtain⟨t44,ht⟩:∃ t,takT ts ⟨#[61]⟩ s31=t:=⟨_,rfl⟩;obtain⟨s44,hs⟩:∃ s2,takS ts ⟨#[61]⟩ s31=s2:=⟨_,rfl⟩;rw[show takT ts ⟨#[61]⟩ ⟨s31.p,s31.bad⟩=t44 from ht];have q44:QdS T W44 g st cap ts s44:=hs ▸ r44;have HT44:Hid (LtQ s31 s44):=hid (hs ▸ zal _ _)
         try rw[ht] at HX
         try rw[hs] at HX
         have Hp45p:=hid (Hp37p.out.grow HF38.out.gB g44);have HF46:=hid (HF38.out.call g44 q44);clear ht hs r44 q44 g44 HF38 Hp37p;obtain⟨r47a,r47b,r47c,r47d,r47e,r47f,r47g,r47h,r47i,r47z⟩:=row9 Hp45p.out.row;obtain⟨W48,hw48,b48,o48,r48⟩:∃ W2,(W44.setCell ⟨W25.heap.size,0,none⟩ (.int .i64 18))=W2∧Below (W25.heap.size) W44 W2∧(∀ j,j≠W25.heap.size->j<W44.heap.size->W2.heap[j]?=W44.heap[j]?)∧W2.heap[W25.heap.size]?=some (.cells (paQ 18 ⟨#[]⟩ 0 t1.pos t1.pos 0 t1.pos (.slice (some ⟨W31.heap.size,0,none⟩) 1 1)) 63 (0,0)) :=
          ⟨_,rfl,((Below.refl _ _).setCell (p:=⟨W25.heap.size,0,none⟩) (Nat.le_refl _) _),fun j hj _=>(heap_setCell_other _ _ _ _ hj).trans (rfl),heap_setCell_same _ _ 0 _ _ _ (Hp45p.out.row)⟩
         obtain⟨f48,q48⟩:=zhz HF46.out Hp45p.out W48 b48 o48 18 ⟨#[]⟩ 0 t1.pos t1.pos 0 t1.pos r48;have Hp48p:=hid q48;have HF49:=hid (f48);clear f48 q48 b48 o48 r48 HF46 Hp45p
         go_wp2_with (fail)
         clear r47a r47b r47c r47d r47e r47f r47g r47h r47i r47z hw48;rcases hk50:(dns ts n).row 1 s44 with _|⟨v50,s50⟩
         ·exact absurd HX.out (by rw[hk50];intro h;cases h)
         rw[hk50] at HX;simp only[Option.bind_some] at HX;have HFr2:=hid HF49.out;have hd50:Below W48.heap.size W48 W48.drew:=(Below.refl _ _).drew;have HD50:=hid (HF49.out.low hd50);have HE50:=hid (Hp48p.out.below hd50);have HK50:=hid (fun (h:QdS T W48.drew g st cap ts s44)=>(fun hk=>HE.out W48.drew _ _ hk h) hk50);clear hk50 hd50 HF49 Hp48p;have c850:W48.drew.cell? ⟨W25.heap.size,8,none⟩=some (.slice (some ⟨W31.heap.size,0,none⟩) 1 1):=(cell_of_row _ _ 8 _ _ _ HE50.out.row).trans rfl;apply zby (fun y0 y1 y2 y3 y4 y5 y6 y7 y8 y9 Wy sp sn sc Wz=>Fr T w W0 Wz g st cap ts s50∧Qk W0.heap.size (w.heap.size) Wz (W25.heap.size) 18 ⟨#[]⟩ 0 t1.pos t1.pos 0 t1.pos (.slice sp sn sc) ([v31.pt]++[v50.pt])∧W48.drew.grownBy Wy (some g)∧((w.heap.size)≠W25.heap.size->Wz.heap[w.heap.size]?=Wy.heap[w.heap.size]?)∧Wy.heap.size<=Wz.heap.size)
         rotate_left
         ·intro hc;refine zbg (S:=fun _=>Hid True) 8 rfl (by kernel_rfl) ?_;refine zao 0 143 (.pointer (some ⟨W25.heap.size,8,none⟩)) rfl (by kernel_rfl) (by kernel_rfl) (by kernel_rfl) (fun _ _ _ h=>h) (fun w' _=>by first|rfl|(go_simp;done) | (go_simp;rw[IntKind.wrap_i64];omega)) (hid trivial) ?_;simp only[sI,sS,sZ];refine zao 2 145 (.pointer (some ⟨g,0,none⟩)) rfl (by kernel_rfl) (by kernel_rfl) (by kernel_rfl) (fun _ _ _ h=>h) (fun w' _=>by first|rfl|(go_simp;done) | (go_simp;rw[IntKind.wrap_i64];omega)) (hid trivial) ?_;simp only[sI,sS,sZ];refine wpAnyH_all (rs:=[1,3]) (by kernel_rfl) (by simp) fun i hi=>?_;simp only[List.mem_cons,List.not_mem_nil,or_false] at hi;rcases hi with rfl|rfl
          ·skip
           refine zam rfl rfl ?_
           go_simp
           refine⟨hid trivial,?_⟩;refine zac 3 rfl (by kernel_rfl) ?_
           go_simp
           refine(HK50.out HD50.out.hR).mono ?_;rintro e W50 ⟨⟨y0,y1,y2,y3,y4,y5,y6,y7,y8,y9⟩,rfl,q50,g50,r50⟩;obtain⟨c50,d50,v2,w1,Wz,ha,ce,cf,cw,f50,k50,z50,hsz⟩:=zbt HD50.out HE50.out (by simp) g50 r50 q50;obtain⟨sp2,sn2,sc2,hv2⟩:=k50.sl;subst hv2;have HFIN:=hid (hc y0 y1 y2 y3 y4 y5 y6 y7 y8 y9 W50 sp2 sn2 sc2 Wz ⟨f50,k50,g50,z50,hsz⟩)
           dsimp only[Qe.cells,paQ] at c50 d50 ha ce cf cw
           unfold Qe.cells paQ;clear f50 k50 z50 q50 g50 r50 hsz;refine⟨hid trivial,?_⟩;refine zac 4 rfl (by kernel_rfl) ?_
           go_simp
           refine⟨hid trivial,?_⟩;refine zac 5 rfl (by kernel_rfl) ?_;refine zak (.tmp 144) (.tmp 147) 61 rfl rfl rfl ha ?_;refine⟨hid trivial,?_⟩;simp only[Act.put,List.setIfInBounds_toArray,List.set_cons_succ,List.set_cons_zero];refine zao 6 149 (.pointer (some ⟨W25.heap.size,8,none⟩)) rfl (by kernel_rfl) (by kernel_rfl) (by kernel_rfl) (fun _ _ _ h=>h) (fun w' _=>by first|rfl|(go_simp;done) | (go_simp;rw[IntKind.wrap_i64];omega)) (hid trivial) ?_;simp only[sI,sS,sZ];refine zac 7 rfl (by kernel_rfl) ?_
           go_simp
           refine⟨hid trivial,?_⟩;refine wpAnyH_done (by kernel_rfl) ?_ _;exact HFIN.out
          ·skip
           refine zam rfl rfl ?_
           go_simp
           refine(HK50.out HD50.out.hR).mono ?_;rintro e W50 ⟨⟨y0,y1,y2,y3,y4,y5,y6,y7,y8,y9⟩,rfl,q50,g50,r50⟩;obtain⟨c50,d50,v2,w1,Wz,ha,ce,cf,cw,f50,k50,z50,hsz⟩:=zbt HD50.out HE50.out (by simp) g50 r50 q50;obtain⟨sp2,sn2,sc2,hv2⟩:=k50.sl;subst hv2;have HFIN:=hid (hc y0 y1 y2 y3 y4 y5 y6 y7 y8 y9 W50 sp2 sn2 sc2 Wz ⟨f50,k50,g50,z50,hsz⟩)
           dsimp only[Qe.cells,paQ] at c50 d50 ha ce cf cw
           unfold Qe.cells paQ;clear f50 k50 z50 q50 g50 r50 hsz;refine⟨hid trivial,?_⟩;refine wpAnyH_all (rs:=[1,4]) (by kernel_rfl) (by simp) fun i hi=>?_;simp only[List.mem_cons,List.not_mem_nil,or_false] at hi;rcases hi with rfl|rfl
           ·skip
            refine zam rfl rfl ?_
            go_simp
            refine⟨hid trivial,?_⟩;refine zac 4 rfl (by kernel_rfl) ?_
            go_simp
            refine⟨hid trivial,?_⟩;refine zac 5 rfl (by kernel_rfl) ?_;refine zak (.tmp 144) (.tmp 147) 61 rfl rfl rfl ha ?_;refine⟨hid trivial,?_⟩;simp only[Act.put,List.setIfInBounds_toArray,List.set_cons_succ,List.set_cons_zero];refine zao 6 149 (.pointer (some ⟨W25.heap.size,8,none⟩)) rfl (by kernel_rfl) (by kernel_rfl) (by kernel_rfl) (fun _ _ _ h=>h) (fun w' _=>by first|rfl|(go_simp;done) | (go_simp;rw[IntKind.wrap_i64];omega)) (hid trivial) ?_;simp only[sI,sS,sZ];refine zac 7 rfl (by kernel_rfl) ?_
            go_simp
            refine⟨hid trivial,?_⟩;refine wpAnyH_done (by kernel_rfl) ?_ _;exact HFIN.out
           ·skip
            refine zam rfl rfl ?_
            go_simp
            refine⟨hid trivial,?_⟩;refine zac 1 rfl (by kernel_rfl) ?_
            go_simp
            refine⟨hid trivial,?_⟩;refine zac 5 rfl (by kernel_rfl) ?_;refine zak (.tmp 144) (.tmp 147) 61 rfl rfl rfl ha ?_;refine⟨hid trivial,?_⟩;simp only[Act.put,List.setIfInBounds_toArray,List.set_cons_succ,List.set_cons_zero];refine zao 6 149 (.pointer (some ⟨W25.heap.size,8,none⟩)) rfl (by kernel_rfl) (by kernel_rfl) (by kernel_rfl) (fun _ _ _ h=>h) (fun w' _=>by first|rfl|(go_simp;done) | (go_simp;rw[IntKind.wrap_i64];omega)) (hid trivial) ?_;simp only[sI,sS,sZ];refine zac 7 rfl (by kernel_rfl) ?_
            go_simp
            refine⟨hid trivial,?_⟩;refine wpAnyH_done (by kernel_rfl) ?_ _;exact HFIN.out
         intro y0 y1 y2 y3 y4 y5 y6 y7 y8 y9 W50 sp51 sn51 sc51 W51 hF51;obtain⟨f51,k51,g51,z51,y51⟩:=hF51;have Hp51p:=hid k51;have HG51:=hid g51;have HZ51:=hid z51;have HF52:=hid (f51);clear f51 k51 g51 z51 HD50 HE50 c850 HK50 HFr2;obtain⟨r53a,r53b,r53c,r53d,r53e,r53f,r53g,r53h,r53i,r53z⟩:=row9 Hp51p.out.row
         go_wp2_with fail
         clear r53a r53b r53c r53d r53e r53f r53g r53h r53i r53z;obtain⟨sp54,ln54,cp54,hv54,hd54⟩:=za7 HF52.out Hp51p.out;injection hv54 with u1 u2 u3;subst u1 u2 u3;refine hd54.mono ?_;rintro e W54 ⟨e54,rfl,b54,f54,q54⟩;have HV54:=hid q54;have HF56:=hid (f54);clear hd54 b54 f54 q54 HF52 Hp51p;obtain⟨W57,hst57,hr57,hp57⟩:=za5 HF56.out (v:=(⟨18,⟨#[]⟩,0,t1.pos,t1.pos,behI ts s50.p,t1.pos,([v31.pt]++[v50.pt])⟩:Qv)) ⟨HV54.out.is.keep (fun j hj=>⟨hj.1,hj.2.1⟩) fun _ _=>rfl,HV54.out.bg⟩;have HP:=hid hp57;have HRR:=hid hr57;clear hp57 hr57
         go_wp2
         have hx:=Option.some.inj HX.out;exact zan Tryz.results129 rfl HRR.out (hx ▸ HP.out)
       ·skip
        replace HX:=hid (if_t HX.out (by first|rfl|trivial))
        have hX:=HX.out;unfold shoD at hX
        dsimp only[tak] at hX
        replace HX:=hid hX
        clear hX
        try rw[HNX1.out] at HX
        go_upto_region 19 with fail
        obtain⟨t19,ht19⟩:∃ t,takT ts ⟨#[110,97,109,101]⟩ s=t:=⟨_,rfl⟩;obtain⟨s19,hs19⟩:∃ s2,takS ts ⟨#[110,97,109,101]⟩ s=s2:=⟨_,rfl⟩;rw[ht19] at HX;rw[hs19] at HX;have HT19:=hid ht19;have HS19:=hid hs19;clear ht19 hs19
        go_cut [6] (fun v6 wd=>∃ b6:Nat,v6=.pointer (some ⟨b6,0,none⟩)∧Fr T w W0 wd g st cap ts s19∧Tq W0 wd b6 (⟨17,t1.text,0,t19.pos,t19.pos,0,t19.pos,none,0,0⟩:Qe))
        case first=>
         clear HX;have hd58:Below wc.heap.size wc wc.drew:=(Below.refl _ _).drew;have HD:=hid (HFC.out.low hd58);have HT:=hid (HTC.out.low hd58);have HS0:=hid (hid HT.out.cells.2.1);clear hd58 HFC HTC;refine zbg (S:=fun W'=>Hid (W'.cell? ⟨W1.heap.size,1,none⟩=some (.string t1.text))) 7 rfl (by kernel_rfl) ?_;refine zao 0 117 (.pointer (some ⟨g,0,none⟩)) rfl (by kernel_rfl) (by kernel_rfl) (by kernel_rfl) (fun _ _ _ h=>h) (fun w' hw'=>by have hc:=hw'.out;first|rfl|(go_simp;done)) HS0.out ?_;simp only[sI,sS,sZ];refine zao 2 119 (.pointer (some ⟨W1.heap.size,1,none⟩)) rfl (by kernel_rfl) (by kernel_rfl) (by kernel_rfl) (fun _ _ _ h=>h) (fun w' hw'=>by have hc:=hw'.out;first|rfl|(go_simp;done)) HS0.out ?_;simp only[sI,sS,sZ];refine zao 3 120 (.string t1.text) rfl (by kernel_rfl) (by kernel_rfl) (by kernel_rfl) (fun _ _ _ h=>h) (fun w' hw'=>by have hc:=hw'.out;first|rfl|(go_simp;done)) HS0.out ?_;simp only[sI,sS,sZ];generalize hWd:wc.drew=Wd at HD HT HS0 ⊢;clear hWd;refine wpAnyH_all (rs:=[1,5]) (by kernel_rfl) (by simp) fun i hi=>?_;simp only[List.mem_cons,List.not_mem_nil,or_false] at hi;rcases hi with rfl|rfl
         ·skip
          refine zam rfl rfl ?_
          go_simp
          refine(zag ⟨#[110,97,109,101]⟩ HD.out.hR).mono ?_;rintro e Wk ⟨rfl,gk,rk⟩;rw[show takT ts ⟨#[110,97,109,101]⟩ ⟨s.p,s.bad⟩=t19 from HT19.out];have qk:QdS T Wk g st cap ts s19:=HS19.out ▸ rk;have HFk:=hid (HD.out.call gk qk);have HTk:=hid (HT.out.call HD.out.gB gk);have HS1:=hid (hid HTk.out.cells.2.1);clear gk rk qk;refine⟨HS1.out,?_⟩
          try simp only[Act.put,List.setIfInBounds_toArray,List.set_cons_succ,List.set_cons_zero]
          refine wpAnyH_all (rs:=[4,5]) (by kernel_rfl) (by simp) fun i hi=>?_;simp only[List.mem_cons,List.not_mem_nil,or_false] at hi;rcases hi with rfl|rfl
          ·skip
           refine zam rfl rfl ?_
           go_simp
           refine(zat 17 t19 t1.text Wk).mono ?_;rintro e Wp ⟨rfl,bp⟩;have HFp:=hid (HFk.out.low bp);have HTp:=hid (HTk.out.low bp);have HS2:=hid (hid HTp.out.cells.2.1);clear bp;refine⟨HS2.out,?_⟩
           try simp only[Act.put,List.setIfInBounds_toArray,List.set_cons_succ,List.set_cons_zero]
           have ba:Below Wp.heap.size Wp (Wp.alloc (.cells #[.int .i64 0,.string ⟨#[]⟩,.int .i64 0,.slice none 0 0,.int .i64 0,.int .i64 0,.int .i64 0,.int .i64 0,.slice none 0 0] 63)):=(Below.refl _ _).alloc (Nat.le_refl _) _;have HFa:=hid (HFp.out.low ba);have HTa:=hid (HTp.out.low ba);have HS3:=hid (hid HTa.out.cells.2.1);have HQa:Hid (Tq W0 (Wp.alloc (.cells #[.int .i64 0,.string ⟨#[]⟩,.int .i64 0,.slice none 0 0,.int .i64 0,.int .i64 0,.int .i64 0,.int .i64 0,.slice none 0 0] 63)) Wp.heap.size ⟨0,⟨#[]⟩,0,0,0,0,0,none,0,0⟩):=hid ⟨HFp.out.size,heap_alloc_new _ _⟩;clear ba;refine zac 5 rfl (by kernel_rfl) ?_
           go_simp
           refine⟨HS3.out,?_⟩
           try simp only[Act.put,List.setIfInBounds_toArray,List.set_cons_succ,List.set_cons_zero]
           generalize hWa:Wp.alloc (.cells #[.int .i64 0,.string ⟨#[]⟩,.int .i64 0,.slice none 0 0,.int .i64 0,.int .i64 0,.int .i64 0,.int .i64 0,.slice none 0 0] 63)=Wa at HFa HTa HS3 HQa ⊢;clear hWa;have br:Below (Wp.heap.size) Wa (Wa.setRow (Wp.heap.size) (begE 17 t19 t1.text).cells):=zai (Below.refl _ _) (Nat.le_refl _) _;have HFr:=hid (HFa.out.on (br.mono HQa.out.hB));have HRW:=hid (zad (cs:=(begE 17 t19 t1.text).cells) HQa.out.row);have hne:=zge HTa.out HQa.out.row;have HS4:Hid (Hid ((Wa.setRow (Wp.heap.size) (begE 17 t19 t1.text).cells).cell? ⟨W1.heap.size,1,none⟩=some (.string t1.text))):=hid (hid ((cell_of_row _ _ 1 _ _ _ ((setRow_other _ _ _ _ hne).trans HTa.out.row)).trans rfl));clear br hne;refine zec 6 63 (.tmp 6) (.tmp 121) rfl (by kernel_rfl) (Wp.heap.size) 63 (begE 17 t19 t1.text).cells _ rfl rfl HQa.out.row (by kernel_rfl) rfl (begE 17 t19 t1.text).one HS4.out ?_;refine wpAnyH_done (by kernel_rfl) ?_ _
           go_wp2
           go_meet
           case rel=>exact⟨_,rfl,HFr.out,⟨HQa.out.hB,HRW.out⟩⟩
          ·skip
           have ba:Below Wk.heap.size Wk (Wk.alloc (.cells #[.int .i64 0,.string ⟨#[]⟩,.int .i64 0,.slice none 0 0,.int .i64 0,.int .i64 0,.int .i64 0,.int .i64 0,.slice none 0 0] 63)):=(Below.refl _ _).alloc (Nat.le_refl _) _;have HFa:=hid (HFk.out.low ba);have HTa:=hid (HTk.out.low ba);have HS3:=hid (hid HTa.out.cells.2.1);have HQa:Hid (Tq W0 (Wk.alloc (.cells #[.int .i64 0,.string ⟨#[]⟩,.int .i64 0,.slice none 0 0,.int .i64 0,.int .i64 0,.int .i64 0,.int .i64 0,.slice none 0 0] 63)) Wk.heap.size ⟨0,⟨#[]⟩,0,0,0,0,0,none,0,0⟩):=hid ⟨HFk.out.size,heap_alloc_new _ _⟩;clear ba;refine zam rfl rfl ?_
           go_simp
           refine⟨HS3.out,?_⟩
           try simp only[Act.put,List.setIfInBounds_toArray,List.set_cons_succ,List.set_cons_zero]
           generalize hWa:Wk.alloc (.cells #[.int .i64 0,.string ⟨#[]⟩,.int .i64 0,.slice none 0 0,.int .i64 0,.int .i64 0,.int .i64 0,.int .i64 0,.slice none 0 0] 63)=Wa at HFa HTa HS3 HQa ⊢;clear hWa;refine zac 4 rfl (by kernel_rfl) ?_
           go_simp
           refine(zat 17 t19 t1.text Wa).mono ?_;rintro e Wp ⟨rfl,bp⟩;have HFp:=hid (HFa.out.low bp);have HTp:=hid (HTa.out.low bp);have HS2:=hid (hid HTp.out.cells.2.1);have HQp:=hid (HQa.out.low bp);clear bp;refine⟨HS2.out,?_⟩
           try simp only[Act.put,List.setIfInBounds_toArray,List.set_cons_succ,List.set_cons_zero]
           have br:Below (Wk.heap.size) Wp (Wp.setRow (Wk.heap.size) (begE 17 t19 t1.text).cells):=zai (Below.refl _ _) (Nat.le_refl _) _;have HFr:=hid (HFp.out.on (br.mono HQp.out.hB));have HRW:=hid (zad (cs:=(begE 17 t19 t1.text).cells) HQp.out.row);have hne:=zge HTp.out HQp.out.row;have HS4:Hid (Hid ((Wp.setRow (Wk.heap.size) (begE 17 t19 t1.text).cells).cell? ⟨W1.heap.size,1,none⟩=some (.string t1.text))):=hid (hid ((cell_of_row _ _ 1 _ _ _ ((setRow_other _ _ _ _ hne).trans HTp.out.row)).trans rfl));clear br hne;refine zec 6 63 (.tmp 6) (.tmp 121) rfl (by kernel_rfl) (Wk.heap.size) 63 (begE 17 t19 t1.text).cells _ rfl rfl HQp.out.row (by kernel_rfl) rfl (begE 17 t19 t1.text).one HS4.out ?_;refine wpAnyH_done (by kernel_rfl) ?_ _
           go_wp2
           go_meet
           case rel=>exact⟨_,rfl,HFr.out,⟨HQp.out.hB,HRW.out⟩⟩
         ·skip
          have ba:Below Wd.heap.size Wd (Wd.alloc (.cells #[.int .i64 0,.string ⟨#[]⟩,.int .i64 0,.slice none 0 0,.int .i64 0,.int .i64 0,.int .i64 0,.int .i64 0,.slice none 0 0] 63)):=(Below.refl _ _).alloc (Nat.le_refl _) _;have HFa:=hid (HD.out.low ba);have HTa:=hid (HT.out.low ba);have HS3:=hid (hid HTa.out.cells.2.1);have HQa:Hid (Tq W0 (Wd.alloc (.cells #[.int .i64 0,.string ⟨#[]⟩,.int .i64 0,.slice none 0 0,.int .i64 0,.int .i64 0,.int .i64 0,.int .i64 0,.slice none 0 0] 63)) Wd.heap.size ⟨0,⟨#[]⟩,0,0,0,0,0,none,0,0⟩):=hid ⟨HD.out.size,heap_alloc_new _ _⟩;clear ba;refine zam rfl rfl ?_
          go_simp
          refine⟨HS3.out,?_⟩
          try simp only[Act.put,List.setIfInBounds_toArray,List.set_cons_succ,List.set_cons_zero]
          generalize hWa:Wd.alloc (.cells #[.int .i64 0,.string ⟨#[]⟩,.int .i64 0,.slice none 0 0,.int .i64 0,.int .i64 0,.int .i64 0,.int .i64 0,.slice none 0 0] 63)=Wa at HFa HTa HS3 HQa ⊢;clear hWa;refine zac 1 rfl (by kernel_rfl) ?_
          go_simp
          refine(zag ⟨#[110,97,109,101]⟩ HFa.out.hR).mono ?_;rintro e Wk ⟨rfl,gk,rk⟩;rw[show takT ts ⟨#[110,97,109,101]⟩ ⟨s.p,s.bad⟩=t19 from HT19.out];have qk:QdS T Wk g st cap ts s19:=HS19.out ▸ rk;have HFk:=hid (HFa.out.call gk qk);have HTk:=hid (HTa.out.call HFa.out.gB gk);have HS1:=hid (hid HTk.out.cells.2.1);have HQk:=hid (HQa.out.call HFa.out.gB gk);clear gk rk qk;refine⟨HS1.out,?_⟩
          try simp only[Act.put,List.setIfInBounds_toArray,List.set_cons_succ,List.set_cons_zero]
          refine zac 4 rfl (by kernel_rfl) ?_
          go_simp
          refine(zat 17 t19 t1.text Wk).mono ?_;rintro e Wp ⟨rfl,bp⟩;have HFp:=hid (HFk.out.low bp);have HTp:=hid (HTk.out.low bp);have HS2:=hid (hid HTp.out.cells.2.1);have HQp:=hid (HQk.out.low bp);clear bp;refine⟨HS2.out,?_⟩
          try simp only[Act.put,List.setIfInBounds_toArray,List.set_cons_succ,List.set_cons_zero]
          have br:Below (Wd.heap.size) Wp (Wp.setRow (Wd.heap.size) (begE 17 t19 t1.text).cells):=zai (Below.refl _ _) (Nat.le_refl _) _;have HFr:=hid (HFp.out.on (br.mono HQp.out.hB));have HRW:=hid (zad (cs:=(begE 17 t19 t1.text).cells) HQp.out.row);have hne:=zge HTp.out HQp.out.row;have HS4:Hid (Hid ((Wp.setRow (Wd.heap.size) (begE 17 t19 t1.text).cells).cell? ⟨W1.heap.size,1,none⟩=some (.string t1.text))):=hid (hid ((cell_of_row _ _ 1 _ _ _ ((setRow_other _ _ _ _ hne).trans HTp.out.row)).trans rfl));clear br hne;refine zec 6 63 (.tmp 6) (.tmp 121) rfl (by kernel_rfl) (Wd.heap.size) 63 (begE 17 t19 t1.text).cells _ rfl rfl HQp.out.row (by kernel_rfl) rfl (begE 17 t19 t1.text).one HS4.out ?_;refine wpAnyH_done (by kernel_rfl) ?_ _
          go_wp2
          go_meet
          case rel=>exact⟨_,rfl,HFr.out,⟨HQp.out.hB,HRW.out⟩⟩
        case rest=>
         obtain⟨b6,rfl,hfl,htl⟩:=hcut;have HFD:=hid hfl;have HTD:=hid htl;clear hfl htl HT19 HS19 HFC HTC;have Hp59p:=hid (HTD.out.qk (z:=w.heap.size) (zaa HFD.out.hZ));clear HTD
         go_wp2_with fail
         refine(zag ⟨#[58,61]⟩ HFD.out.hR).mono ?_;rintro e W60 ⟨rfl,g60,r60⟩;obtain⟨t60,ht⟩:∃ t,takT ts ⟨#[58,61]⟩ s19=t:=⟨_,rfl⟩;obtain⟨s60,hs⟩:∃ s2,takS ts ⟨#[58,61]⟩ s19=s2:=⟨_,rfl⟩;rw[show takT ts ⟨#[58,61]⟩ ⟨s19.p,s19.bad⟩=t60 from ht];have q60:QdS T W60 g st cap ts s60:=hs ▸ r60;have HT60:Hid (LtQ s19 s60):=hid (hs ▸ zal _ _)
         try rw[ht] at HX
         try rw[hs] at HX
         have Hp61p:=hid (Hp59p.out.grow HFD.out.gB g60);have HF62:=hid (HFD.out.call g60 q60);clear ht hs r60 q60 g60 HFD Hp59p
         go_wp2_with fail
         rcases hk63:(dns ts n).row 1 s60 with _|⟨v63,s63⟩
         ·exact absurd HX.out (by rw[hk63];intro h;cases h)
         rw[hk63] at HX
         try simp only[Option.bind_some] at HX
         refine(((fun hk=>HE.out _ _ _ hk HF62.out.hR) hk63)).mono ?_;rintro e W63 ⟨e63,rfl,q63,g63,r63⟩;have HV63:=hid q63;have hb63p:=Hp61p.out.lt;have Hp64p:=hid (Hp61p.out.grow HF62.out.gB g63);have hs63:=g63.size;have HF65:=hid (HF62.out.call g63 r63);have hl63:=HF62.out.size;clear hk63 q63 g63 r63 HF62 Hp61p;obtain⟨c66,f66,W66,hw66,g66,q66,b66,o66⟩:=zdy HF65.out Hp64p.out (v:=v63) (e:=e63) (S:=(fun j=>W60.heap.size<=j∧j<W63.heap.size)) HV63.out (fun j hj=>by have:=Hp64p.out.lt;have:=HF65.out.s0;exact⟨by omega,hj.2,by omega,by omega⟩);have Hp66p:=hid q66;have HF67:=hid (g66);obtain⟨e0,e1,e2,e3,e4,e5,e6,e7,e8,e9⟩:=e63
         dsimp only[Qe.cells,paQ] at c66 f66 hw66
         try unfold Qe.cells paQ
         clear HV63 g66 q66 b66 o66 HF65 Hp64p;obtain⟨r68a,r68b,r68c,r68d,r68e,r68f,r68g,r68h,r68i,r68z⟩:=row9 Hp66p.out.row
         go_wp2_with fail
         clear c66 f66 hw66 r68a r68b r68c r68d r68e r68f r68g r68h r68i r68z;obtain⟨sp69,ln69,cp69,hv69,hd69⟩:=za7 HF67.out Hp66p.out;injection hv69 with u1 u2 u3;subst u1 u2 u3;refine hd69.mono ?_;rintro e W69 ⟨e69,rfl,b69,f69,q69⟩;have HV69:=hid q69;have HF71:=hid (f69);clear hd69 b69 f69 q69 HF67 Hp66p;obtain⟨W72,hst72,hr72,hp72⟩:=za5 HF71.out (v:=(⟨17,t1.text,0,t19.pos,t19.pos,behI ts s63.p,t19.pos,[v63.pt]⟩:Qv)) ⟨HV69.out.is.keep (fun j hj=>⟨hj.1,hj.2.1⟩) fun _ _=>rfl,HV69.out.bg⟩;have HP:=hid hp72;have HRR:=hid hr72;clear hp72 hr72
         go_wp2
         have hx:=Option.some.inj HX.out;exact zan Tryz.results129 rfl HRR.out (hx ▸ HP.out)
     ·skip
      replace HX:=hid (if_t HX.out (by first|rfl|trivial))
      clear Ht20t;have hX:=HX.out;unfold resD at hX
      dsimp only[tak] at hX
      replace HX:=hid hX
      clear hX
      go_wp2_with fail
      refine(zag ⟨#[114,101,116,117,114,110]⟩ HF21.out.hR).mono ?_;rintro e W73 ⟨rfl,g73,r73⟩;obtain⟨t73,ht⟩:∃ t,takT ts ⟨#[114,101,116,117,114,110]⟩ s=t:=⟨_,rfl⟩;obtain⟨s73,hs⟩:∃ s2,takS ts ⟨#[114,101,116,117,114,110]⟩ s=s2:=⟨_,rfl⟩;rw[show takT ts ⟨#[114,101,116,117,114,110]⟩ ⟨s.p,s.bad⟩=t73 from ht];have q73:QdS T W73 g st cap ts s73:=hs ▸ r73;have HT73:Hid (LtQ s s73):=hid (hs ▸ zal _ _)
      try rw[ht] at HX
      try rw[hs] at HX
      have HF75:=hid (HF21.out.call g73 q73);clear ht hs r73 q73 g73 HF21
      go_wp2_with fail
      refine(zat 16 t73 ⟨#[]⟩ W73).mono ?_;rintro e W76 ⟨rfl,b76⟩;have HF78:=hid (HF75.out.low b76);clear b76 HF75;obtain⟨W79,hst79,b79,f79,l79⟩:=zc2 (z:=w.heap.size) HF78.out (zaa HF78.out.hZ) 16 t73 ⟨#[]⟩;have Hp79p:=hid l79;have hn79:=b79.size;have HF81:=hid (f79);clear b79 f79 l79 HF78
      go_wp2_with fail
      clear hst79;refine(zbe HF81.out.hR).mono ?_;rintro e W82 ⟨rfl,b82⟩;obtain⟨t82,ht⟩:∃ t,nxQ ts s73.p=t:=⟨_,rfl⟩;rw[ht];have HNX82:=hid ht;have HZ82:=hid (ht ▸ HF81.out.hR.sz)
      try rw[ht] at HX
      have Hp83p:=hid (Hp79p.out.below b82);have HF84:=hid (HF81.out.low b82);clear ht b82 HF81 Hp79p;have hfd:∀ (a b c:Value) (W:World),(Instr.field 38 (.agg #[a,b,c]) 0).run Tryz.prog W=.ok a W:=fun _ _ _ _=>rfl
      try unfold Tok.cells
      obtain⟨kb,hkb⟩:∃ b,(t82.kind != 5)=b:=⟨_,rfl⟩;have hk2:(!(t82.kind == 5))=kb:=hkb;rw[hkb] at HX
      cases kb
      ·skip
       replace HX:=hid (if_f HX.out (fun h=>by cases h))
       obtain⟨r85a,r85b,r85c,r85d,r85e,r85f,r85g,r85h,r85i,r85z⟩:=row9 Hp83p.out.row
       go_wp2_with fail
       clear hkb hk2 hfd r85a r85b r85c r85d r85e r85f r85g r85h r85i r85z;obtain⟨sp86,ln86,cp86,hv86,hd86⟩:=za7 HF84.out Hp83p.out;injection hv86 with u1 u2 u3;subst u1 u2 u3;refine hd86.mono ?_;rintro e W86 ⟨e86,rfl,b86,f86,q86⟩;have HV86:=hid q86;have HF88:=hid (f86);clear hd86 b86 f86 q86 HF84 Hp83p;obtain⟨W89,hst89,hr89,hp89⟩:=za5 HF88.out (v:=(⟨16,⟨#[]⟩,0,t73.pos,t73.pos,behI ts s73.p,t73.pos,[]⟩:Qv)) ⟨HV86.out.is.keep (fun j hj=>⟨hj.1,hj.2.1⟩) fun _ _=>rfl,HV86.out.bg⟩;have HP:=hid hp89;have HRR:=hid hr89;clear hp89 hr89
       go_wp2
       have hx:=Option.some.inj HX.out;exact zan Tryz.results129 rfl HRR.out (hx ▸ HP.out)
      ·skip
       go_wp2_with fail
       clear hkb hk2 hfd;refine(zar ⟨#[125]⟩ HF84.out.hR).mono ?_;rintro e W90 ⟨rfl,b90⟩;obtain⟨i90,hi⟩:∃ b,isQ ts s73.p ⟨#[125]⟩=b:=⟨_,rfl⟩;rw[hi];have HIS:=hid hi
       try rw[hi] at HX
       have Hp91p:=hid (Hp83p.out.below b90);have HF92:=hid (HF84.out.low b90);clear hi b90 HF84 Hp83p
       cases i90
       ·skip
        replace HX:=hid (if_t HX.out (by first|rfl|trivial))
        go_wp2_with fail
        rcases hk93:(dns ts n).row 1 s73 with _|⟨v93,s93⟩
        ·exact absurd HX.out (by rw[hk93];intro h;cases h)
        rw[hk93] at HX
        try simp only[Option.bind_some] at HX
        refine(((fun hk=>HE.out _ _ _ hk HF92.out.hR) hk93)).mono ?_;rintro e W93 ⟨e93,rfl,q93,g93,r93⟩;have HV93:=hid q93;have hb93p:=Hp91p.out.lt;have Hp94p:=hid (Hp91p.out.grow HF92.out.gB g93);have hs93:=g93.size;have HF95:=hid (HF92.out.call g93 r93);have hl93:=HF92.out.size;clear hk93 q93 g93 r93 HF92 Hp91p;obtain⟨c96,f96,W96,hw96,g96,q96,b96,o96⟩:=zdy HF95.out Hp94p.out (v:=v93) (e:=e93) (S:=(fun j=>W90.heap.size<=j∧j<W93.heap.size)) HV93.out (fun j hj=>by have:=Hp94p.out.lt;have:=HF95.out.s0;exact⟨by omega,hj.2,by omega,by omega⟩);have Hp96p:=hid q96;have HF97:=hid (g96);obtain⟨e0,e1,e2,e3,e4,e5,e6,e7,e8,e9⟩:=e93
        dsimp only[Qe.cells,paQ] at c96 f96 hw96
        try unfold Qe.cells paQ
        clear HV93 g96 q96 b96 o96 HF95 Hp94p;obtain⟨r98a,r98b,r98c,r98d,r98e,r98f,r98g,r98h,r98i,r98z⟩:=row9 Hp96p.out.row
        go_wp2_with fail
        clear c96 f96 hw96 r98a r98b r98c r98d r98e r98f r98g r98h r98i r98z;obtain⟨sp99,ln99,cp99,hv99,hd99⟩:=za7 HF97.out Hp96p.out;injection hv99 with u1 u2 u3;subst u1 u2 u3;refine hd99.mono ?_;rintro e W99 ⟨e99,rfl,b99,f99,q99⟩;have HV99:=hid q99;have HF101:=hid (f99);clear hd99 b99 f99 q99 HF97 Hp96p;obtain⟨W102,hst102,hr102,hp102⟩:=za5 HF101.out (v:=(⟨16,⟨#[]⟩,0,t73.pos,t73.pos,behI ts s93.p,t73.pos,[v93.pt]⟩:Qv)) ⟨HV99.out.is.keep (fun j hj=>⟨hj.1,hj.2.1⟩) fun _ _=>rfl,HV99.out.bg⟩;have HP:=hid hp102;have HRR:=hid hr102;clear hp102 hr102
        go_wp2
        have hx:=Option.some.inj HX.out;exact zan Tryz.results129 rfl HRR.out (hx ▸ HP.out)
       ·skip
        replace HX:=hid (if_f HX.out (fun h=>by cases h))
        obtain⟨r103a,r103b,r103c,r103d,r103e,r103f,r103g,r103h,r103i,r103z⟩:=row9 Hp91p.out.row
        go_wp2_with fail
        clear r103a r103b r103c r103d r103e r103f r103g r103h r103i r103z;obtain⟨sp104,ln104,cp104,hv104,hd104⟩:=za7 HF92.out Hp91p.out;injection hv104 with u1 u2 u3;subst u1 u2 u3;refine hd104.mono ?_;rintro e W104 ⟨e104,rfl,b104,f104,q104⟩;have HV104:=hid q104;have HF106:=hid (f104);clear hd104 b104 f104 q104 HF92 Hp91p;obtain⟨W107,hst107,hr107,hp107⟩:=za5 HF106.out (v:=(⟨16,⟨#[]⟩,0,t73.pos,t73.pos,behI ts s73.p,t73.pos,[]⟩:Qv)) ⟨HV104.out.is.keep (fun j hj=>⟨hj.1,hj.2.1⟩) fun _ _=>rfl,HV104.out.bg⟩;have HP:=hid hp107;have HRR:=hid hr107;clear hp107 hr107
        go_wp2
        have hx:=Option.some.inj HX.out;exact zan Tryz.results129 rfl HRR.out (hx ▸ HP.out)
    ·skip
     replace HX:=hid (if_t HX.out (by first|rfl|trivial))
     clear Ht17t;have hX:=HX.out;unfold looD at hX
     dsimp only[tak] at hX
     replace HX:=hid hX
     clear hX
     go_wp2_with fail
     refine(zag ⟨#[102,111,114]⟩ HF18.out.hR).mono ?_;rintro e W108 ⟨rfl,g108,r108⟩;obtain⟨t108,ht⟩:∃ t,takT ts ⟨#[102,111,114]⟩ s=t:=⟨_,rfl⟩;obtain⟨s108,hs⟩:∃ s2,takS ts ⟨#[102,111,114]⟩ s=s2:=⟨_,rfl⟩;rw[show takT ts ⟨#[102,111,114]⟩ ⟨s.p,s.bad⟩=t108 from ht];have q108:QdS T W108 g st cap ts s108:=hs ▸ r108;have HT108:Hid (LtQ s s108):=hid (hs ▸ zal _ _)
     try rw[ht] at HX
     try rw[hs] at HX
     have HF110:=hid (HF18.out.call g108 q108);clear ht hs r108 q108 g108 HF18
     go_wp2_with fail
     refine(zat 15 t108 ⟨#[]⟩ W108).mono ?_;rintro e W111 ⟨rfl,b111⟩;have HF113:=hid (HF110.out.low b111);clear b111 HF110;obtain⟨W114,hst114,b114,f114,l114⟩:=zc2 (z:=w.heap.size) HF113.out (zaa HF113.out.hZ) 15 t108 ⟨#[]⟩;have Hp114p:=hid l114;have hn114:=b114.size;have HF116:=hid (f114);clear b114 f114 l114 HF113
     go_wp2_with (fail)
     clear hst114;rcases hk117:(dns ts n).row 1 s108 with _|⟨v117,s117⟩
     ·exact absurd HX.out (by rw[hk117];intro h;cases h)
     rw[hk117] at HX;simp only[Option.bind_some] at HX;have HFr2:=hid HF116.out;have hd117:Below W114.heap.size W114 W114.drew:=(Below.refl _ _).drew;have HD117:=hid (HF116.out.low hd117);have HE117:=hid (Hp114p.out.below hd117);have HK117:=hid (fun (h:QdS T W114.drew g st cap ts s108)=>(fun hk=>HE.out W114.drew _ _ hk h) hk117);clear hk117 hd117 HF116 Hp114p;have c8117:W114.drew.cell? ⟨W111.heap.size,8,none⟩=some (.slice none 0 0):=(cell_of_row _ _ 8 _ _ _ HE117.out.row).trans rfl;apply zby (fun y0 y1 y2 y3 y4 y5 y6 y7 y8 y9 Wy sp sn sc Wz=>Fr T w W0 Wz g st cap ts s117∧Qk W0.heap.size (w.heap.size) Wz (W111.heap.size) 15 ⟨#[]⟩ 0 t108.pos t108.pos 0 t108.pos (.slice sp sn sc) ([]++[v117.pt])∧W114.drew.grownBy Wy (some g)∧((w.heap.size)≠W111.heap.size->Wz.heap[w.heap.size]?=Wy.heap[w.heap.size]?)∧Wy.heap.size<=Wz.heap.size)
     rotate_left
     ·intro hc;refine zbg (S:=fun _=>Hid True) 8 rfl (by kernel_rfl) ?_;refine zao 0 27 (.pointer (some ⟨W111.heap.size,8,none⟩)) rfl (by kernel_rfl) (by kernel_rfl) (by kernel_rfl) (fun _ _ _ h=>h) (fun w' _=>by first|rfl|(go_simp;done) | (go_simp;rw[IntKind.wrap_i64];omega)) (hid trivial) ?_;simp only[sI,sS,sZ];refine zao 2 29 (.pointer (some ⟨g,0,none⟩)) rfl (by kernel_rfl) (by kernel_rfl) (by kernel_rfl) (fun _ _ _ h=>h) (fun w' _=>by first|rfl|(go_simp;done) | (go_simp;rw[IntKind.wrap_i64];omega)) (hid trivial) ?_;simp only[sI,sS,sZ];refine wpAnyH_all (rs:=[1,3]) (by kernel_rfl) (by simp) fun i hi=>?_;simp only[List.mem_cons,List.not_mem_nil,or_false] at hi;rcases hi with rfl|rfl
      ·skip
       refine zam rfl rfl ?_
       go_simp
       refine⟨hid trivial,?_⟩;refine zac 3 rfl (by kernel_rfl) ?_
       go_simp
       refine(HK117.out HD117.out.hR).mono ?_;rintro e W117 ⟨⟨y0,y1,y2,y3,y4,y5,y6,y7,y8,y9⟩,rfl,q117,g117,r117⟩;obtain⟨c117,d117,v2,w1,Wz,ha,ce,cf,cw,f117,k117,z117,hsz⟩:=zbt HD117.out HE117.out (by simp) g117 r117 q117;obtain⟨sp2,sn2,sc2,hv2⟩:=k117.sl;subst hv2;have HFIN:=hid (hc y0 y1 y2 y3 y4 y5 y6 y7 y8 y9 W117 sp2 sn2 sc2 Wz ⟨f117,k117,g117,z117,hsz⟩)
       dsimp only[Qe.cells,paQ] at c117 d117 ha ce cf cw
       unfold Qe.cells paQ;clear f117 k117 z117 q117 g117 r117 hsz;refine⟨hid trivial,?_⟩;refine zac 4 rfl (by kernel_rfl) ?_
       go_simp
       refine⟨hid trivial,?_⟩;refine zac 5 rfl (by kernel_rfl) ?_;refine zak (.tmp 28) (.tmp 31) 61 rfl rfl rfl ha ?_;refine⟨hid trivial,?_⟩;simp only[Act.put,List.setIfInBounds_toArray,List.set_cons_succ,List.set_cons_zero];refine zao 6 33 (.pointer (some ⟨W111.heap.size,8,none⟩)) rfl (by kernel_rfl) (by kernel_rfl) (by kernel_rfl) (fun _ _ _ h=>h) (fun w' _=>by first|rfl|(go_simp;done) | (go_simp;rw[IntKind.wrap_i64];omega)) (hid trivial) ?_;simp only[sI,sS,sZ];refine zac 7 rfl (by kernel_rfl) ?_
       go_simp
       refine⟨hid trivial,?_⟩;refine wpAnyH_done (by kernel_rfl) ?_ _;exact HFIN.out
      ·skip
       refine zam rfl rfl ?_
       go_simp
       refine(HK117.out HD117.out.hR).mono ?_;rintro e W117 ⟨⟨y0,y1,y2,y3,y4,y5,y6,y7,y8,y9⟩,rfl,q117,g117,r117⟩;obtain⟨c117,d117,v2,w1,Wz,ha,ce,cf,cw,f117,k117,z117,hsz⟩:=zbt HD117.out HE117.out (by simp) g117 r117 q117;obtain⟨sp2,sn2,sc2,hv2⟩:=k117.sl;subst hv2;have HFIN:=hid (hc y0 y1 y2 y3 y4 y5 y6 y7 y8 y9 W117 sp2 sn2 sc2 Wz ⟨f117,k117,g117,z117,hsz⟩)
       dsimp only[Qe.cells,paQ] at c117 d117 ha ce cf cw
       unfold Qe.cells paQ;clear f117 k117 z117 q117 g117 r117 hsz;refine⟨hid trivial,?_⟩;refine wpAnyH_all (rs:=[1,4]) (by kernel_rfl) (by simp) fun i hi=>?_;simp only[List.mem_cons,List.not_mem_nil,or_false] at hi;rcases hi with rfl|rfl
       ·skip
        refine zam rfl rfl ?_
        go_simp
        refine⟨hid trivial,?_⟩;refine zac 4 rfl (by kernel_rfl) ?_
        go_simp
        refine⟨hid trivial,?_⟩;refine zac 5 rfl (by kernel_rfl) ?_;refine zak (.tmp 28) (.tmp 31) 61 rfl rfl rfl ha ?_;refine⟨hid trivial,?_⟩;simp only[Act.put,List.setIfInBounds_toArray,List.set_cons_succ,List.set_cons_zero];refine zao 6 33 (.pointer (some ⟨W111.heap.size,8,none⟩)) rfl (by kernel_rfl) (by kernel_rfl) (by kernel_rfl) (fun _ _ _ h=>h) (fun w' _=>by first|rfl|(go_simp;done) | (go_simp;rw[IntKind.wrap_i64];omega)) (hid trivial) ?_;simp only[sI,sS,sZ];refine zac 7 rfl (by kernel_rfl) ?_
        go_simp
        refine⟨hid trivial,?_⟩;refine wpAnyH_done (by kernel_rfl) ?_ _;exact HFIN.out
       ·skip
        refine zam rfl rfl ?_
        go_simp
        refine⟨hid trivial,?_⟩;refine zac 1 rfl (by kernel_rfl) ?_
        go_simp
        refine⟨hid trivial,?_⟩;refine zac 5 rfl (by kernel_rfl) ?_;refine zak (.tmp 28) (.tmp 31) 61 rfl rfl rfl ha ?_;refine⟨hid trivial,?_⟩;simp only[Act.put,List.setIfInBounds_toArray,List.set_cons_succ,List.set_cons_zero];refine zao 6 33 (.pointer (some ⟨W111.heap.size,8,none⟩)) rfl (by kernel_rfl) (by kernel_rfl) (by kernel_rfl) (fun _ _ _ h=>h) (fun w' _=>by first|rfl|(go_simp;done) | (go_simp;rw[IntKind.wrap_i64];omega)) (hid trivial) ?_;simp only[sI,sS,sZ];refine zac 7 rfl (by kernel_rfl) ?_
        go_simp
        refine⟨hid trivial,?_⟩;refine wpAnyH_done (by kernel_rfl) ?_ _;exact HFIN.out
     intro y0 y1 y2 y3 y4 y5 y6 y7 y8 y9 W117 sp118 sn118 sc118 W118 hF118;obtain⟨f118,k118,g118,z118,y118⟩:=hF118;have Hp118p:=hid k118;have HG118:=hid g118;have HZ118:=hid z118;have HF119:=hid (f118);clear f118 k118 g118 z118 HD117 HE117 c8117 HK117 HFr2
     go_wp2_with (fail)
     rcases hk120:bloD ts (dns ts n) s117 with _|⟨v120,s120⟩
     ·exact absurd HX.out (by rw[hk120];intro h;cases h)
     rw[hk120] at HX;simp only[Option.bind_some] at HX;have HFr2:=hid HF119.out;have hd120:Below W118.heap.size W118 W118.drew:=(Below.refl _ _).drew;have HD120:=hid (HF119.out.low hd120);have HE120:=hid (Hp118p.out.below hd120);have HK120:=hid (fun (h:QdS T W118.drew g st cap ts s117)=>(fun hk=>HB.out W118.drew _ _ hk h) hk120);clear hk120 hd120 HF119 Hp118p;have c8120:W118.drew.cell? ⟨W111.heap.size,8,none⟩=some (.slice sp118 sn118 sc118):=(cell_of_row _ _ 8 _ _ _ HE120.out.row).trans rfl;apply zby (fun y0 y1 y2 y3 y4 y5 y6 y7 y8 y9 Wy sp sn sc Wz=>Fr T w W0 Wz g st cap ts s120∧Qk W0.heap.size (w.heap.size) Wz (W111.heap.size) 15 ⟨#[]⟩ 0 t108.pos t108.pos 0 t108.pos (.slice sp sn sc) (([]++[v117.pt])++[v120.pt])∧W118.drew.grownBy Wy (some g)∧((w.heap.size)≠W111.heap.size->Wz.heap[w.heap.size]?=Wy.heap[w.heap.size]?)∧Wy.heap.size<=Wz.heap.size)
     rotate_left
     ·intro hc;refine zbg (S:=fun _=>Hid True) 8 rfl (by kernel_rfl) ?_;refine zao 0 34 (.pointer (some ⟨W111.heap.size,8,none⟩)) rfl (by kernel_rfl) (by kernel_rfl) (by kernel_rfl) (fun _ _ _ h=>h) (fun w' _=>by first|rfl|(go_simp;done) | (go_simp;rw[IntKind.wrap_i64];omega)) (hid trivial) ?_;simp only[sI,sS,sZ];refine zao 2 36 (.pointer (some ⟨g,0,none⟩)) rfl (by kernel_rfl) (by kernel_rfl) (by kernel_rfl) (fun _ _ _ h=>h) (fun w' _=>by first|rfl|(go_simp;done) | (go_simp;rw[IntKind.wrap_i64];omega)) (hid trivial) ?_;simp only[sI,sS,sZ];refine wpAnyH_all (rs:=[1,3]) (by kernel_rfl) (by simp) fun i hi=>?_;simp only[List.mem_cons,List.not_mem_nil,or_false] at hi;rcases hi with rfl|rfl
      ·skip
       refine zam rfl rfl ?_
       go_simp
       refine⟨hid trivial,?_⟩;refine zac 3 rfl (by kernel_rfl) ?_
       go_simp
       refine(HK120.out HD120.out.hR).mono ?_;rintro e W120 ⟨⟨y0,y1,y2,y3,y4,y5,y6,y7,y8,y9⟩,rfl,q120,g120,r120⟩;obtain⟨c120,d120,v2,w1,Wz,ha,ce,cf,cw,f120,k120,z120,hsz⟩:=zbt HD120.out HE120.out (by simp) g120 r120 q120;obtain⟨sp2,sn2,sc2,hv2⟩:=k120.sl;subst hv2;have HFIN:=hid (hc y0 y1 y2 y3 y4 y5 y6 y7 y8 y9 W120 sp2 sn2 sc2 Wz ⟨f120,k120,g120,z120,hsz⟩)
       dsimp only[Qe.cells,paQ] at c120 d120 ha ce cf cw
       unfold Qe.cells paQ;clear f120 k120 z120 q120 g120 r120 hsz;refine⟨hid trivial,?_⟩;refine zac 4 rfl (by kernel_rfl) ?_
       go_simp
       refine⟨hid trivial,?_⟩;refine zac 5 rfl (by kernel_rfl) ?_;refine zak (.tmp 35) (.tmp 38) 61 rfl rfl rfl ha ?_;refine⟨hid trivial,?_⟩;simp only[Act.put,List.setIfInBounds_toArray,List.set_cons_succ,List.set_cons_zero];refine zao 6 40 (.pointer (some ⟨W111.heap.size,8,none⟩)) rfl (by kernel_rfl) (by kernel_rfl) (by kernel_rfl) (fun _ _ _ h=>h) (fun w' _=>by first|rfl|(go_simp;done) | (go_simp;rw[IntKind.wrap_i64];omega)) (hid trivial) ?_;simp only[sI,sS,sZ];refine zac 7 rfl (by kernel_rfl) ?_
       go_simp
       refine⟨hid trivial,?_⟩;refine wpAnyH_done (by kernel_rfl) ?_ _;exact HFIN.out
      ·skip
       refine zam rfl rfl ?_
       go_simp
       refine(HK120.out HD120.out.hR).mono ?_;rintro e W120 ⟨⟨y0,y1,y2,y3,y4,y5,y6,y7,y8,y9⟩,rfl,q120,g120,r120⟩;obtain⟨c120,d120,v2,w1,Wz,ha,ce,cf,cw,f120,k120,z120,hsz⟩:=zbt HD120.out HE120.out (by simp) g120 r120 q120;obtain⟨sp2,sn2,sc2,hv2⟩:=k120.sl;subst hv2;have HFIN:=hid (hc y0 y1 y2 y3 y4 y5 y6 y7 y8 y9 W120 sp2 sn2 sc2 Wz ⟨f120,k120,g120,z120,hsz⟩)
       dsimp only[Qe.cells,paQ] at c120 d120 ha ce cf cw
       unfold Qe.cells paQ;clear f120 k120 z120 q120 g120 r120 hsz;refine⟨hid trivial,?_⟩;refine wpAnyH_all (rs:=[1,4]) (by kernel_rfl) (by simp) fun i hi=>?_;simp only[List.mem_cons,List.not_mem_nil,or_false] at hi;rcases hi with rfl|rfl
       ·skip
        refine zam rfl rfl ?_
        go_simp
        refine⟨hid trivial,?_⟩;refine zac 4 rfl (by kernel_rfl) ?_
        go_simp
        refine⟨hid trivial,?_⟩;refine zac 5 rfl (by kernel_rfl) ?_;refine zak (.tmp 35) (.tmp 38) 61 rfl rfl rfl ha ?_;refine⟨hid trivial,?_⟩;simp only[Act.put,List.setIfInBounds_toArray,List.set_cons_succ,List.set_cons_zero];refine zao 6 40 (.pointer (some ⟨W111.heap.size,8,none⟩)) rfl (by kernel_rfl) (by kernel_rfl) (by kernel_rfl) (fun _ _ _ h=>h) (fun w' _=>by first|rfl|(go_simp;done) | (go_simp;rw[IntKind.wrap_i64];omega)) (hid trivial) ?_;simp only[sI,sS,sZ];refine zac 7 rfl (by kernel_rfl) ?_
        go_simp
        refine⟨hid trivial,?_⟩;refine wpAnyH_done (by kernel_rfl) ?_ _;exact HFIN.out
       ·skip
        refine zam rfl rfl ?_
        go_simp
        refine⟨hid trivial,?_⟩;refine zac 1 rfl (by kernel_rfl) ?_
        go_simp
        refine⟨hid trivial,?_⟩;refine zac 5 rfl (by kernel_rfl) ?_;refine zak (.tmp 35) (.tmp 38) 61 rfl rfl rfl ha ?_;refine⟨hid trivial,?_⟩;simp only[Act.put,List.setIfInBounds_toArray,List.set_cons_succ,List.set_cons_zero];refine zao 6 40 (.pointer (some ⟨W111.heap.size,8,none⟩)) rfl (by kernel_rfl) (by kernel_rfl) (by kernel_rfl) (fun _ _ _ h=>h) (fun w' _=>by first|rfl|(go_simp;done) | (go_simp;rw[IntKind.wrap_i64];omega)) (hid trivial) ?_;simp only[sI,sS,sZ];refine zac 7 rfl (by kernel_rfl) ?_
        go_simp
        refine⟨hid trivial,?_⟩;refine wpAnyH_done (by kernel_rfl) ?_ _;exact HFIN.out
     intro y0 y1 y2 y3 y4 y5 y6 y7 y8 y9 W120 sp121 sn121 sc121 W121 hF121;obtain⟨f121,k121,g121,z121,y121⟩:=hF121;have Hp121p:=hid k121;have HG121:=hid g121;have HZ121:=hid z121;have HF122:=hid (f121);clear f121 k121 g121 z121 HD120 HE120 c8120 HK120 HFr2;obtain⟨r123a,r123b,r123c,r123d,r123e,r123f,r123g,r123h,r123i,r123z⟩:=row9 Hp121p.out.row
     go_wp2_with fail
     clear r123a r123b r123c r123d r123e r123f r123g r123h r123i r123z;obtain⟨sp124,ln124,cp124,hv124,hd124⟩:=za7 HF122.out Hp121p.out;injection hv124 with u1 u2 u3;subst u1 u2 u3;refine hd124.mono ?_;rintro e W124 ⟨e124,rfl,b124,f124,q124⟩;have HV124:=hid q124;have HF126:=hid (f124);clear hd124 b124 f124 q124 HF122 Hp121p;obtain⟨W127,hst127,hr127,hp127⟩:=za5 HF126.out (v:=(⟨15,⟨#[]⟩,0,t108.pos,t108.pos,behI ts s120.p,t108.pos,(([]++[v117.pt])++[v120.pt])⟩:Qv)) ⟨HV124.out.is.keep (fun j hj=>⟨hj.1,hj.2.1⟩) fun _ _=>rfl,HV124.out.bg⟩;have HP:=hid hp127;have HRR:=hid hr127;clear hp127 hr127
     go_wp2
     have hx:=Option.some.inj HX.out;exact zan Tryz.results129 rfl HRR.out (hx ▸ HP.out)
   ·skip
    replace HX:=hid (if_t HX.out (by first|rfl|trivial))
    clear Ht14t
    go_wp2_with fail
    rcases hk128:(dns ts n).bran s with _|⟨v128,s128⟩
    ·exact absurd HX.out (by rw[hk128];intro h;cases h)
    rw[hk128] at HX
    try simp only[Option.bind_some] at HX
    refine(((fun hk=>HC.out _ _ _ hk HF15.out.hR) hk128)).mono ?_;rintro e W128 ⟨e128,rfl,q128,g128,r128⟩;have HV128:=hid q128;have hs128:=g128.size;have HF130:=hid (HF15.out.call g128 r128);have hl128:=HF15.out.size;clear hk128 q128 g128 r128 HF15;obtain⟨W131,hst131,hr131,hp131⟩:=za5 HF130.out (v:=v128) ⟨HV128.out.is.keep (fun j hj=>⟨by omega,hj.2⟩) fun _ _=>rfl,HV128.out.bg⟩;have HP:=hid hp131;have HRR:=hid hr131;clear hp131 hr131
    go_wp2
    have hx:=Option.some.inj HX.out;exact zan Tryz.results129 rfl HRR.out (hx ▸ HP.out)
  ·skip
   replace HX:=hid (if_t HX.out (by first|rfl|trivial))
   clear Ht11t
   go_wp2_with fail
   rcases hk132:varD ts (dns ts n) s with _|⟨v132,s132⟩
   ·exact absurd HX.out (by rw[hk132];intro h;cases h)
   rw[hk132] at HX
   try simp only[Option.bind_some] at HX
   refine(((fun hk=>ze8 HE.out HF12.out.hR hk) hk132)).mono ?_;rintro e W132 ⟨e132,rfl,q132,g132,r132⟩;have HV132:=hid q132;have hs132:=g132.size;have HF134:=hid (HF12.out.call g132 r132);have hl132:=HF12.out.size;clear hk132 q132 g132 r132 HF12;obtain⟨W135,hst135,hr135,hp135⟩:=za5 HF134.out (v:=v132) ⟨HV132.out.is.keep (fun j hj=>⟨by omega,hj.2⟩) fun _ _=>rfl,HV132.out.bg⟩;have HP:=hid hp135;have HRR:=hid hr135;clear hp135 hr135
   go_wp2
   have hx:=Option.some.inj HX.out;exact zan Tryz.results129 rfl HRR.out (hx ▸ HP.out)
 ·skip
  replace HX:=hid (if_t HX.out (by first|rfl|trivial))
  clear Ht8t
  go_wp2_with fail
  rcases hk136:bloD ts (dns ts n) s with _|⟨v136,s136⟩
  ·exact absurd HX.out (by rw[hk136];intro h;cases h)
  rw[hk136] at HX
  try simp only[Option.bind_some] at HX
  refine(((fun hk=>HB.out _ _ _ hk HF9.out.hR) hk136)).mono ?_;rintro e W136 ⟨e136,rfl,q136,g136,r136⟩;have HV136:=hid q136;have hs136:=g136.size;have HF138:=hid (HF9.out.call g136 r136);have hl136:=HF9.out.size;clear hk136 q136 g136 r136 HF9;obtain⟨W139,hst139,hr139,hp139⟩:=za5 HF138.out (v:=v136) ⟨HV136.out.is.keep (fun j hj=>⟨by omega,hj.2⟩) fun _ _=>rfl,HV136.out.bg⟩;have HP:=hid hp139;have HRR:=hid hr139;clear hp139 hr139
  go_wp2
  have hx:=Option.some.inj HX.out;exact zan Tryz.results129 rfl HRR.out (hx ▸ HP.out)
end
end Go.Proofs.YtmclgbkijeidaaaGreatDoor
