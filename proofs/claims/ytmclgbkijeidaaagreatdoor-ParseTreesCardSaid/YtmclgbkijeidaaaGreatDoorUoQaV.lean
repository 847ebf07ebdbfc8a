import Derived.Test.YtmclgbkijeidaaaGreatDoorUoc
import Derived.Deep.DeepCutAuto
import Derived.Deep.Cut
import Derived.Deep.CutRange
import Derived.Deep.CutBlock
namespace Go.Proofs.YtmclgbkijeidaaaGreatDoor
set_option maxRecDepth 100000
set_option maxHeartbeats 4000000
open Go.RowKit
section
variable {T:Nat}{w W0 W W':World}{g:Nat}{st:Option Addr}{cap:Nat}{ts:List Tok}{s s':Qs}
theorem zit {n:Nat}{r:Qv × Qs}(hE:ExQ T g st cap ts (dns ts n))(hB:BlQ T g st cap ts n)(hC:BrQ T g st cap ts n)(hR:QdS T w g st cap ts s)(hX:(dns ts (n+1)).stmt s=some r):Calls Tryz.prog 129 #[.pointer (some ⟨g,0,none⟩)] w (QoP T w g st cap ts r):=by
 have HF:=J (zcu hR);have jT:=hR.few;have jc:=hR.le;clear hR;have HE:=J hE;have HB:=J hB;have HC:=J hC;clear hE hB hC;rw[zq3] at hX;have D:=J hX;clear hX
 go_enter Tryz.func129,Tryz.ntmps129
 go_wp2_with fail
 refine zag (fun W=>Fr T w W W g st cap ts s) HF.out ?_;intro W0 hF;clear HF;have HF:=J hF;clear hF;refine(zbk HF.out.hR).mono ?_;rintro e W1 ⟨rfl,b1⟩;obtain⟨C,N⟩:∃ t,nxQ ts s.p=t:=⟨_,rfl⟩;rw[N];have ey:=J N;have iW:=J (N ▸ HF.out.hR.sz)
 try rw[N] at D
 have eG:=J (HF.out.low b1);clear N b1 HF;obtain⟨W4,fU,b4,f4,l4⟩:=zea eG C;have er:=J l4;have cc:=J (f4);clear b4 f4 l4 eG
 go_wp2_with fail
 clear fU;refine(zas ⟨#[123]⟩ cc.out.hR).mono ?_;rintro e W7 ⟨rfl,b7⟩;obtain⟨i7,K⟩:∃ b,isQ ts s.p ⟨#[123]⟩=b:=⟨_,rfl⟩;rw[K];have aL:=J K
 try rw[K] at D
 have cx:=J (er.out.low b7);have aA:=J (cc.out.low b7);clear K b7 cc er
 cases i7
 ·skip
  replace D:=J (if_f D (fun h=>by cases h))
  go_wp2_with fail
  refine(zas ⟨#[118,97,114]⟩ aA.out.hR).mono ?_;rintro e jH ⟨rfl,b5⟩;obtain⟨g1,K⟩:∃ b,isQ ts s.p ⟨#[118,97,114]⟩=b:=⟨_,rfl⟩;rw[K];have aL:=J K
  try rw[K] at D
  have bL:=J (cx.out.low b5);have aF:=J (aA.out.low b5);clear K b5 aA cx
  cases g1
  ·skip
   replace D:=J (if_f D (fun h=>by cases h))
   go_wp2_with fail
   refine(zas ⟨#[105,102]⟩ aF.out.hR).mono ?_;rintro e jA ⟨rfl,cu⟩;obtain⟨f8,K⟩:∃ b,isQ ts s.p ⟨#[105,102]⟩=b:=⟨_,rfl⟩;rw[K];have aL:=J K
   try rw[K] at D
   have bV:=J (bL.out.low cu);have aG:=J (aF.out.low cu);clear K cu aF bL
   cases f8
   ·skip
    replace D:=J (if_f D (fun h=>by cases h))
    go_wp2_with fail
    refine(zas ⟨#[102,111,114]⟩ aG.out.hR).mono ?_;rintro e iC ⟨rfl,cL⟩;obtain⟨gO,K⟩:∃ b,isQ ts s.p ⟨#[102,111,114]⟩=b:=⟨_,rfl⟩;rw[K];have aL:=J K
    try rw[K] at D
    have co:=J (bV.out.low cL);have aP:=J (aG.out.low cL);clear K cL aG bV
    cases gO
    ·skip
     replace D:=J (if_f D (fun h=>by cases h))
     go_wp2_with fail
     refine(zas ⟨#[114,101,116,117,114,110]⟩ aP.out.hR).mono ?_;rintro e bF ⟨rfl,cp⟩;obtain⟨gY,K⟩:∃ b,isQ ts s.p ⟨#[114,101,116,117,114,110]⟩=b:=⟨_,rfl⟩;rw[K];have aL:=J K
     try rw[K] at D
     have bA:=J (co.out.low cp);have aN:=J (aP.out.low cp);clear K cp aP co
     cases gY
     ·skip
      replace D:=J (if_f D (fun h=>by cases h))
      go_upto_region 18 with fail
      obtain⟨bb,bR⟩:∃ b,(((C.kind == 1) && !kepB C.text) && (decide (s.p+1<ts.length) && (((nxT ts (s.p+1)).kind == 4) && isT ts (s.p+1) [58,61])))=b:=⟨_,rfl⟩;rw[bR] at D;have ah:=J bR;clear bR
      go_cut [116] (fun vb wc=>vb=.bool bb∧Fr T w W0 wc g st cap ts s∧Tl W0 wc (W1.heap.size) C)
      case first=>
       clear D;have bQ:Below bF.heap.size bF bF.drew:=(Yb _ _).drew;have HD:=J (aN.out.low bQ);have HT:=J (bA.out.low bQ);have I:=J (zym HT HD.out.hR);clear bQ aN bA;refine zbc (S:=fun W'=>Hid (R18 W' g st cap ts s (W1.heap.size) C)) 52 rfl (by kernel_rfl) ?_;refine zaj 0 65 (.pointer (some ⟨W1.heap.size,0,none⟩)) rfl (by rfl) (by kernel_rfl) (fun _ _ _ h=>h) (fun w' y=>by obtain⟨F,C,c0,c1,E⟩:=y.out;first|rfl|(go_simp;done) | (go_simp;rw[Yi];omega)) I ?_;simp only[sI,sS,sZ];refine zaj 1 66 (.int .i64 C.kind) rfl (by rfl) (by kernel_rfl) (fun _ _ _ h=>h) (fun w' y=>by obtain⟨F,C,c0,c1,E⟩:=y.out;first|rfl|(go_simp;done) | (go_simp;rw[Yi];omega)) I ?_;simp only[sI,sS,sZ];obtain⟨k1,cE⟩:∃ b,(C.kind == 1)=b:=⟨_,rfl⟩;rw[cE] at ah
       cases k1
       ·skip
        refine zaj 2 67 (.bool false) rfl (by rfl) (by kernel_rfl) (fun _ _ _ h=>h) (fun w' y=>by obtain⟨F,C,c0,c1,E⟩:=y.out;first|rfl|(go_simp;done) | (go_simp;rw[Yi];omega)) I ?_;simp only[sI,sS,sZ];refine zaj 3 68 (.bool false) rfl (by rfl) (by kernel_rfl) (fun _ _ _ h=>h) (fun w' y=>by obtain⟨F,C,c0,c1,E⟩:=y.out;first|rfl|(go_simp;done) | (go_simp;rw[Yi];omega)) I ?_;simp only[sI,sS,sZ];clear cE;refine zai 4 69 rfl (by rfl) (by kernel_rfl) (fun _ _ _ h=>h) I ?_;simp only[sI,sS,sZ];refine zai 5 70 rfl (by rfl) (by kernel_rfl) (fun _ _ _ h=>h) I ?_;simp only[sI,sS,sZ];refine zai 6 71 rfl (by rfl) (by kernel_rfl) (fun _ _ _ h=>h) I ?_;simp only[sI,sS,sZ];refine zai 7 72 rfl (by rfl) (by kernel_rfl) (fun _ _ _ h=>h) I ?_;simp only[sI,sS,sZ];refine zaj 8 73 (.bool false) rfl (by rfl) (by kernel_rfl) (fun _ _ _ h=>h) (fun w' y=>by obtain⟨F,C,c0,c1,E⟩:=y.out;first|rfl|(go_simp;done) | (go_simp;rw[Yi];omega)) I ?_;simp only[sI,sS,sZ];refine zaj 9 74 (.bool false) rfl (by rfl) (by kernel_rfl) (fun _ _ _ h=>h) (fun w' y=>by obtain⟨F,C,c0,c1,E⟩:=y.out;first|rfl|(go_simp;done) | (go_simp;rw[Yi];omega)) I ?_;simp only[sI,sS,sZ];refine zai 10 75 rfl (by rfl) (by kernel_rfl) (fun _ _ _ h=>h) I ?_;simp only[sI,sS,sZ];refine zai 11 76 rfl (by rfl) (by kernel_rfl) (fun _ _ _ h=>h) I ?_;simp only[sI,sS,sZ];refine zai 12 77 rfl (by rfl) (by kernel_rfl) (fun _ _ _ h=>h) I ?_;simp only[sI,sS,sZ];refine zai 13 78 rfl (by rfl) (by kernel_rfl) (fun _ _ _ h=>h) I ?_;simp only[sI,sS,sZ];refine zai 14 79 rfl (by rfl) (by kernel_rfl) (fun _ _ _ h=>h) I ?_
        simp only[sI,sS,sZ];refine zai 15 80 rfl (by rfl) (by kernel_rfl) (fun _ _ _ h=>h) I ?_;simp only[sI,sS,sZ];refine zai 16 81 rfl (by rfl) (by kernel_rfl) (fun _ _ _ h=>h) I ?_;simp only[sI,sS,sZ];refine zai 17 82 rfl (by rfl) (by kernel_rfl) (fun _ _ _ h=>h) I ?_;simp only[sI,sS,sZ];refine zai 18 83 rfl (by rfl) (by kernel_rfl) (fun _ _ _ h=>h) I ?_;simp only[sI,sS,sZ];refine zai 19 84 rfl (by rfl) (by kernel_rfl) (fun _ _ _ h=>h) I ?_;simp only[sI,sS,sZ];refine zai 20 85 rfl (by rfl) (by kernel_rfl) (fun _ _ _ h=>h) I ?_;simp only[sI,sS,sZ];refine zaj 21 86 (.bool false) rfl (by rfl) (by kernel_rfl) (fun _ _ _ h=>h) (fun w' y=>by obtain⟨F,C,c0,c1,E⟩:=y.out;first|rfl|(go_simp;done) | (go_simp;rw[Yi];omega)) I ?_;simp only[sI,sS,sZ];refine zaj 22 87 (.bool false) rfl (by rfl) (by kernel_rfl) (fun _ _ _ h=>h) (fun w' y=>by obtain⟨F,C,c0,c1,E⟩:=y.out;first|rfl|(go_simp;done) | (go_simp;rw[Yi];omega)) I ?_;simp only[sI,sS,sZ];refine zai 23 88 rfl (by rfl) (by kernel_rfl) (fun _ _ _ h=>h) I ?_;simp only[sI,sS,sZ];refine zai 24 89 rfl (by rfl) (by kernel_rfl) (fun _ _ _ h=>h) I ?_;simp only[sI,sS,sZ];refine zai 25 90 rfl (by rfl) (by kernel_rfl) (fun _ _ _ h=>h) I ?_;simp only[sI,sS,sZ];refine zai 26 91 rfl (by rfl) (by kernel_rfl) (fun _ _ _ h=>h) I ?_;simp only[sI,sS,sZ];refine zai 27 92 rfl (by rfl) (by kernel_rfl) (fun _ _ _ h=>h) I ?_;simp only[sI,sS,sZ];refine zai 28 93 rfl (by rfl) (by kernel_rfl) (fun _ _ _ h=>h) I ?_;simp only[sI,sS,sZ];refine zai 29 94 rfl (by rfl) (by kernel_rfl) (fun _ _ _ h=>h) I ?_
        simp only[sI,sS,sZ];refine zai 30 95 rfl (by rfl) (by kernel_rfl) (fun _ _ _ h=>h) I ?_;simp only[sI,sS,sZ];refine zai 31 96 rfl (by rfl) (by kernel_rfl) (fun _ _ _ h=>h) I ?_;simp only[sI,sS,sZ];refine zai 32 97 rfl (by rfl) (by kernel_rfl) (fun _ _ _ h=>h) I ?_;simp only[sI,sS,sZ];refine zai 33 98 rfl (by rfl) (by kernel_rfl) (fun _ _ _ h=>h) I ?_;simp only[sI,sS,sZ];refine zai 34 99 rfl (by rfl) (by kernel_rfl) (fun _ _ _ h=>h) I ?_;simp only[sI,sS,sZ];refine zai 35 100 rfl (by rfl) (by kernel_rfl) (fun _ _ _ h=>h) I ?_;simp only[sI,sS,sZ];refine zaj 36 101 (.bool false) rfl (by rfl) (by kernel_rfl) (fun _ _ _ h=>h) (fun w' y=>by obtain⟨F,C,c0,c1,E⟩:=y.out;first|rfl|(go_simp;done) | (go_simp;rw[Yi];omega)) I ?_;simp only[sI,sS,sZ];refine zaj 37 102 (.bool false) rfl (by rfl) (by kernel_rfl) (fun _ _ _ h=>h) (fun w' y=>by obtain⟨F,C,c0,c1,E⟩:=y.out;first|rfl|(go_simp;done) | (go_simp;rw[Yi];omega)) I ?_;simp only[sI,sS,sZ];refine zai 38 103 rfl (by rfl) (by kernel_rfl) (fun _ _ _ h=>h) I ?_;simp only[sI,sS,sZ];refine zai 39 104 rfl (by rfl) (by kernel_rfl) (fun _ _ _ h=>h) I ?_;simp only[sI,sS,sZ];refine zai 40 105 rfl (by rfl) (by kernel_rfl) (fun _ _ _ h=>h) I ?_;simp only[sI,sS,sZ];refine zai 41 106 rfl (by rfl) (by kernel_rfl) (fun _ _ _ h=>h) I ?_;simp only[sI,sS,sZ];refine zai 42 107 rfl (by rfl) (by kernel_rfl) (fun _ _ _ h=>h) I ?_;simp only[sI,sS,sZ];refine zai 43 108 rfl (by rfl) (by kernel_rfl) (fun _ _ _ h=>h) I ?_;simp only[sI,sS,sZ];refine zai 44 109 rfl (by rfl) (by kernel_rfl) (fun _ _ _ h=>h) I ?_
        simp only[sI,sS,sZ];refine zai 45 110 rfl (by rfl) (by kernel_rfl) (fun _ _ _ h=>h) I ?_;simp only[sI,sS,sZ];refine zai 46 111 rfl (by rfl) (by kernel_rfl) (fun _ _ _ h=>h) I ?_;simp only[sI,sS,sZ];refine zai 47 112 rfl (by rfl) (by kernel_rfl) (fun _ _ _ h=>h) I ?_;simp only[sI,sS,sZ];refine zai 48 113 rfl (by rfl) (by kernel_rfl) (fun _ _ _ h=>h) I ?_;simp only[sI,sS,sZ];refine zai 49 114 rfl (by rfl) (by kernel_rfl) (fun _ _ _ h=>h) I ?_;simp only[sI,sS,sZ];refine zai 50 115 rfl (by rfl) (by kernel_rfl) (fun _ _ _ h=>h) I ?_;simp only[sI,sS,sZ];refine zaj 51 116 (.bool false) rfl (by rfl) (by kernel_rfl) (fun _ _ _ h=>h) (fun w' y=>by obtain⟨F,C,c0,c1,E⟩:=y.out;first|rfl|(go_simp;done) | (go_simp;rw[Yi];omega)) I ?_;simp only[sI,sS,sZ];refine wpAnyH_done (by kernel_rfl) ?_ _
        go_wp2
        go_meet
        case rel=>exact⟨by rw[<-ah.out];rfl,HD.out,HT.out⟩
       ·skip
        refine zaj 2 67 (.bool true) rfl (by rfl) (by kernel_rfl) (fun _ _ _ h=>h) (fun w' y=>by obtain⟨F,C,c0,c1,E⟩:=y.out;first|rfl|(go_simp;done) | (go_simp;rw[Yi];omega)) I ?_;simp only[sI,sS,sZ];refine zaj 3 68 (.bool true) rfl (by rfl) (by kernel_rfl) (fun _ _ _ h=>h) (fun w' y=>by obtain⟨F,C,c0,c1,E⟩:=y.out;first|rfl|(go_simp;done) | (go_simp;rw[Yi];omega)) I ?_;simp only[sI,sS,sZ];clear cE;refine zaj 4 69 (.pointer (some ⟨W1.heap.size,1,none⟩)) rfl (by rfl) (by kernel_rfl) (fun _ _ _ h=>h) (fun w' y=>by obtain⟨F,C,c0,c1,E⟩:=y.out;first|rfl|(go_simp;done) | (go_simp;rw[Yi];omega)) I ?_;simp only[sI,sS,sZ];refine zaj 5 70 (.string C.text) rfl (by rfl) (by kernel_rfl) (fun _ _ _ h=>h) (fun w' y=>by obtain⟨F,C,c0,c1,E⟩:=y.out;first|rfl|(go_simp;done) | (go_simp;rw[Yi];omega)) I ?_;simp only[sI,sS,sZ];refine zh4 6 rfl (by rfl) (by kernel_rfl) ?_
        go_simp
        refine(zhs C.text bF.drew).mono ?_;rintro e je ⟨rfl,ct⟩;have aB:=J (HD.out.low ct);have aK:=J (HT.out.low ct);have A:=J (zym aK aB.out.hR);clear ct HD HT I;refine⟨A,?_⟩;obtain⟨kb,ax⟩:∃ b,kepB C.text=b:=⟨_,rfl⟩;rw[ax];rw[ax] at ah
        try simp only[Act.put,sI,sS,sZ]
        clear ax
        cases kb
        ·skip
         refine zaj 7 72 (.bool true) rfl (by rfl) (by kernel_rfl) (fun _ _ _ h=>h) (fun w' y=>by obtain⟨F,C,c0,c1,E⟩:=y.out;first|rfl|(go_simp;done) | (go_simp;rw[Yi];omega)) A ?_;simp only[sI,sS,sZ];refine zaj 8 73 (.bool true) rfl (by rfl) (by kernel_rfl) (fun _ _ _ h=>h) (fun w' y=>by obtain⟨F,C,c0,c1,E⟩:=y.out;first|rfl|(go_simp;done) | (go_simp;rw[Yi];omega)) A ?_;simp only[sI,sS,sZ];refine zaj 9 74 (.bool true) rfl (by rfl) (by kernel_rfl) (fun _ _ _ h=>h) (fun w' y=>by obtain⟨F,C,c0,c1,E⟩:=y.out;first|rfl|(go_simp;done) | (go_simp;rw[Yi];omega)) A ?_;simp only[sI,sS,sZ];refine zaj 10 75 (.pointer (some ⟨g,0,none⟩)) rfl (by rfl) (by kernel_rfl) (fun _ _ _ h=>h) (fun w' y=>by obtain⟨F,C,c0,c1,E⟩:=y.out;first|rfl|(go_simp;done) | (go_simp;rw[Yi];omega)) A ?_;simp only[sI,sS,sZ];refine zaj 11 76 (.pointer (some ⟨g,0,none⟩)) rfl (by rfl) (by kernel_rfl) (fun _ _ _ h=>h) (fun w' y=>by obtain⟨F,C,c0,c1,E⟩:=y.out;first|rfl|(go_simp;done) | (go_simp;rw[Yi];omega)) A ?_;simp only[sI,sS,sZ];refine zaj 12 77 (.pointer (some ⟨g,1,none⟩)) rfl (by rfl) (by kernel_rfl) (fun _ _ _ h=>h) (fun w' y=>by obtain⟨F,C,c0,c1,E⟩:=y.out;first|rfl|(go_simp;done) | (go_simp;rw[Yi];omega)) A ?_;simp only[sI,sS,sZ];refine zaj 13 78 (.int .i64 s.p) rfl (by rfl) (by kernel_rfl) (fun _ _ _ h=>h) (fun w' y=>by obtain⟨F,C,c0,c1,E⟩:=y.out;first|rfl|(go_simp;done) | (go_simp;rw[Yi];omega)) A ?_;simp only[sI,sS,sZ];refine zaj 14 79 (.int .i64 ((s.p:Int)+1)) rfl (by rfl) (by kernel_rfl) (fun _ _ _ h=>h) (fun w' y=>by obtain⟨F,C,c0,c1,E⟩:=y.out;first|rfl|(go_simp;done) | (go_simp;rw[Yi];omega)) A ?_
         simp only[sI,sS,sZ];refine zaj 15 80 (.pointer (some ⟨g,0,none⟩)) rfl (by rfl) (by kernel_rfl) (fun _ _ _ h=>h) (fun w' y=>by obtain⟨F,C,c0,c1,E⟩:=y.out;first|rfl|(go_simp;done) | (go_simp;rw[Yi];omega)) A ?_;simp only[sI,sS,sZ];refine zaj 16 81 (.pointer (some ⟨g,0,none⟩)) rfl (by rfl) (by kernel_rfl) (fun _ _ _ h=>h) (fun w' y=>by obtain⟨F,C,c0,c1,E⟩:=y.out;first|rfl|(go_simp;done) | (go_simp;rw[Yi];omega)) A ?_;simp only[sI,sS,sZ];refine zaj 17 82 (.pointer (some ⟨g,0,none⟩)) rfl (by rfl) (by kernel_rfl) (fun _ _ _ h=>h) (fun w' y=>by obtain⟨F,C,c0,c1,E⟩:=y.out;first|rfl|(go_simp;done) | (go_simp;rw[Yi];omega)) A ?_;simp only[sI,sS,sZ];refine zaj 18 83 (.slice st ts.length cap) rfl (by rfl) (by kernel_rfl) (fun _ _ _ h=>h) (fun w' y=>by obtain⟨F,C,c0,c1,E⟩:=y.out;first|rfl|(go_simp;done) | (go_simp;rw[Yi];omega)) A ?_;simp only[sI,sS,sZ];refine zaj 19 84 (.int .i64 ts.length) rfl (by rfl) (by kernel_rfl) (fun _ _ _ h=>h) (fun w' y=>by obtain⟨F,C,c0,c1,E⟩:=y.out;first|rfl|(go_simp;done) | (go_simp;rw[Yi];omega)) A ?_;simp only[sI,sS,sZ];obtain⟨ql,aq⟩:∃ b,decide (s.p+1<ts.length)=b:=⟨_,rfl⟩;have dI:decide (((s.p:Int)+1)<ts.length)=ql:=by rw[<-aq];exact decide_eq_decide.mpr (by omega)
         have fv:=J aq;rw[aq] at ah;clear aq
         cases ql
         ·skip
          refine zaj 20 85 (.bool false) rfl (by rfl) (by kernel_rfl) (fun _ _ _ h=>h) (fun w' y=>by obtain⟨F,C,c0,c1,E⟩:=y.out;first|rfl|(go_simp;done) | (go_simp;rw[Yi];omega)) A ?_;simp only[sI,sS,sZ];refine zaj 21 86 (.bool false) rfl (by rfl) (by kernel_rfl) (fun _ _ _ h=>h) (fun w' y=>by obtain⟨F,C,c0,c1,E⟩:=y.out;first|rfl|(go_simp;done) | (go_simp;rw[Yi];omega)) A ?_;simp only[sI,sS,sZ];refine zaj 22 87 (.bool false) rfl (by rfl) (by kernel_rfl) (fun _ _ _ h=>h) (fun w' y=>by obtain⟨F,C,c0,c1,E⟩:=y.out;first|rfl|(go_simp;done) | (go_simp;rw[Yi];omega)) A ?_;simp only[sI,sS,sZ];clear dI;refine zai 23 88 rfl (by rfl) (by kernel_rfl) (fun _ _ _ h=>h) A ?_;simp only[sI,sS,sZ];refine zai 24 89 rfl (by rfl) (by kernel_rfl) (fun _ _ _ h=>h) A ?_;simp only[sI,sS,sZ];refine zai 25 90 rfl (by rfl) (by kernel_rfl) (fun _ _ _ h=>h) A ?_;simp only[sI,sS,sZ];refine zai 26 91 rfl (by rfl) (by kernel_rfl) (fun _ _ _ h=>h) A ?_;simp only[sI,sS,sZ];refine zai 27 92 rfl (by rfl) (by kernel_rfl) (fun _ _ _ h=>h) A ?_;simp only[sI,sS,sZ];refine zai 28 93 rfl (by rfl) (by kernel_rfl) (fun _ _ _ h=>h) A ?_;simp only[sI,sS,sZ];refine zai 29 94 rfl (by rfl) (by kernel_rfl) (fun _ _ _ h=>h) A ?_;simp only[sI,sS,sZ];refine zai 30 95 rfl (by rfl) (by kernel_rfl) (fun _ _ _ h=>h) A ?_;simp only[sI,sS,sZ];refine zai 31 96 rfl (by rfl) (by kernel_rfl) (fun _ _ _ h=>h) A ?_;simp only[sI,sS,sZ];refine zai 32 97 rfl (by rfl) (by kernel_rfl) (fun _ _ _ h=>h) A ?_;simp only[sI,sS,sZ];refine zai 33 98 rfl (by rfl) (by kernel_rfl) (fun _ _ _ h=>h) A ?_
          simp only[sI,sS,sZ];refine zai 34 99 rfl (by rfl) (by kernel_rfl) (fun _ _ _ h=>h) A ?_;simp only[sI,sS,sZ];refine zai 35 100 rfl (by rfl) (by kernel_rfl) (fun _ _ _ h=>h) A ?_;simp only[sI,sS,sZ];refine zaj 36 101 (.bool false) rfl (by rfl) (by kernel_rfl) (fun _ _ _ h=>h) (fun w' y=>by obtain⟨F,C,c0,c1,E⟩:=y.out;first|rfl|(go_simp;done) | (go_simp;rw[Yi];omega)) A ?_;simp only[sI,sS,sZ];refine zaj 37 102 (.bool false) rfl (by rfl) (by kernel_rfl) (fun _ _ _ h=>h) (fun w' y=>by obtain⟨F,C,c0,c1,E⟩:=y.out;first|rfl|(go_simp;done) | (go_simp;rw[Yi];omega)) A ?_;simp only[sI,sS,sZ];refine zai 38 103 rfl (by rfl) (by kernel_rfl) (fun _ _ _ h=>h) A ?_;simp only[sI,sS,sZ];refine zai 39 104 rfl (by rfl) (by kernel_rfl) (fun _ _ _ h=>h) A ?_;simp only[sI,sS,sZ];refine zai 40 105 rfl (by rfl) (by kernel_rfl) (fun _ _ _ h=>h) A ?_;simp only[sI,sS,sZ];refine zai 41 106 rfl (by rfl) (by kernel_rfl) (fun _ _ _ h=>h) A ?_;simp only[sI,sS,sZ];refine zai 42 107 rfl (by rfl) (by kernel_rfl) (fun _ _ _ h=>h) A ?_;simp only[sI,sS,sZ];refine zai 43 108 rfl (by rfl) (by kernel_rfl) (fun _ _ _ h=>h) A ?_;simp only[sI,sS,sZ];refine zai 44 109 rfl (by rfl) (by kernel_rfl) (fun _ _ _ h=>h) A ?_;simp only[sI,sS,sZ];refine zai 45 110 rfl (by rfl) (by kernel_rfl) (fun _ _ _ h=>h) A ?_;simp only[sI,sS,sZ];refine zai 46 111 rfl (by rfl) (by kernel_rfl) (fun _ _ _ h=>h) A ?_;simp only[sI,sS,sZ];refine zai 47 112 rfl (by rfl) (by kernel_rfl) (fun _ _ _ h=>h) A ?_;simp only[sI,sS,sZ]
          refine zai 48 113 rfl (by rfl) (by kernel_rfl) (fun _ _ _ h=>h) A ?_;simp only[sI,sS,sZ];refine zai 49 114 rfl (by rfl) (by kernel_rfl) (fun _ _ _ h=>h) A ?_;simp only[sI,sS,sZ];refine zai 50 115 rfl (by rfl) (by kernel_rfl) (fun _ _ _ h=>h) A ?_;simp only[sI,sS,sZ];refine zaj 51 116 (.bool false) rfl (by rfl) (by kernel_rfl) (fun _ _ _ h=>h) (fun w' y=>by obtain⟨F,C,c0,c1,E⟩:=y.out;first|rfl|(go_simp;done) | (go_simp;rw[Yi];omega)) A ?_;simp only[sI,sS,sZ];refine wpAnyH_done (by kernel_rfl) ?_ _
          go_wp2
          go_meet
          case rel=>exact⟨by rw[<-ah.out];rfl,aB.out,aK.out⟩
         ·skip
          refine zaj 20 85 (.bool true) rfl (by rfl) (by kernel_rfl) (fun _ _ _ h=>h) (fun w' y=>by obtain⟨F,C,c0,c1,E⟩:=y.out;first|rfl|(go_simp;done) | (go_simp;rw[Yi];omega)) A ?_;simp only[sI,sS,sZ];refine zaj 21 86 (.bool true) rfl (by rfl) (by kernel_rfl) (fun _ _ _ h=>h) (fun w' y=>by obtain⟨F,C,c0,c1,E⟩:=y.out;first|rfl|(go_simp;done) | (go_simp;rw[Yi];omega)) A ?_;simp only[sI,sS,sZ];refine zaj 22 87 (.bool true) rfl (by rfl) (by kernel_rfl) (fun _ _ _ h=>h) (fun w' y=>by obtain⟨F,C,c0,c1,E⟩:=y.out;first|rfl|(go_simp;done) | (go_simp;rw[Yi];omega)) A ?_;simp only[sI,sS,sZ];clear dI;have aq:=of_decide_eq_true fv;obtain⟨tb,aO,gv,-⟩:=aB.out.hR.tok aq;subst gv;have bv:=J aq;clear aq fv;refine zaj 23 88 (.pointer (some ⟨g,0,none⟩)) rfl (by rfl) (by kernel_rfl) (fun _ _ _ h=>h) (fun w' y=>by obtain⟨F,C,c0,c1,E⟩:=y.out;first|rfl|(go_simp;done) | (go_simp;rw[Yi];omega)) A ?_;simp only[sI,sS,sZ];refine zaj 24 89 (.pointer (some ⟨g,0,none⟩)) rfl (by rfl) (by kernel_rfl) (fun _ _ _ h=>h) (fun w' y=>by obtain⟨F,C,c0,c1,E⟩:=y.out;first|rfl|(go_simp;done) | (go_simp;rw[Yi];omega)) A ?_;simp only[sI,sS,sZ];refine zaj 25 90 (.pointer (some ⟨g,0,none⟩)) rfl (by rfl) (by kernel_rfl) (fun _ _ _ h=>h) (fun w' y=>by obtain⟨F,C,c0,c1,E⟩:=y.out;first|rfl|(go_simp;done) | (go_simp;rw[Yi];omega)) A ?_;simp only[sI,sS,sZ];refine zaj 26 91 (.slice (some ⟨tb,aO,none⟩) ts.length cap) rfl (by rfl) (by kernel_rfl) (fun _ _ _ h=>h) (fun w' y=>by obtain⟨F,C,c0,c1,E⟩:=y.out;first|rfl|(go_simp;done) | (go_simp;rw[Yi];omega)) A ?_;simp only[sI,sS,sZ];refine zaj 27 92 (.pointer (some ⟨g,0,none⟩)) rfl (by rfl) (by kernel_rfl) (fun _ _ _ h=>h) (fun w' y=>by obtain⟨F,C,c0,c1,E⟩:=y.out;first|rfl|(go_simp;done) | (go_simp;rw[Yi];omega)) A ?_
          simp only[sI,sS,sZ];refine zaj 28 93 (.pointer (some ⟨g,0,none⟩)) rfl (by rfl) (by kernel_rfl) (fun _ _ _ h=>h) (fun w' y=>by obtain⟨F,C,c0,c1,E⟩:=y.out;first|rfl|(go_simp;done) | (go_simp;rw[Yi];omega)) A ?_;simp only[sI,sS,sZ];refine zaj 29 94 (.pointer (some ⟨g,1,none⟩)) rfl (by rfl) (by kernel_rfl) (fun _ _ _ h=>h) (fun w' y=>by obtain⟨F,C,c0,c1,E⟩:=y.out;first|rfl|(go_simp;done) | (go_simp;rw[Yi];omega)) A ?_;simp only[sI,sS,sZ];refine zaj 30 95 (.int .i64 s.p) rfl (by rfl) (by kernel_rfl) (fun _ _ _ h=>h) (fun w' y=>by obtain⟨F,C,c0,c1,E⟩:=y.out;first|rfl|(go_simp;done) | (go_simp;rw[Yi];omega)) A ?_;simp only[sI,sS,sZ];refine zaj 31 96 (.int .i64 ((s.p:Int)+1)) rfl (by rfl) (by kernel_rfl) (fun _ _ _ h=>h) (fun w' y=>by obtain⟨F,C,c0,c1,E⟩:=y.out;first|rfl|(go_simp;done) | (go_simp;rw[Yi];omega)) A ?_;simp only[sI,sS,sZ];refine zaj 32 97 (.pointer (some ⟨tb,aO+(s.p+1) * 3,none⟩)) rfl (by rfl) (by kernel_rfl) (fun _ _ _ h=>h) (fun w' y=>by obtain⟨F,C,c0,c1,E⟩:=y.out;have aq:=bv.out;first|rfl|(go_simp;done) | (go_simp;omega)) A ?_;simp only[sI,sS,sZ];refine zaj 33 98 (.pointer (some ⟨tb,aO+(s.p+1) * 3,none⟩)) rfl (by rfl) (by kernel_rfl) (fun _ _ _ h=>h) (fun w' y=>by obtain⟨F,C,c0,c1,E⟩:=y.out;first|rfl|(go_simp;done) | (go_simp;rw[Yi];omega)) A ?_;simp only[sI,sS,sZ];refine zaj 34 99 (.int .i64 (nxT ts (s.p+1)).kind) rfl (by rfl) (by kernel_rfl) (fun _ _ _ h=>h) (fun w' y=>by obtain⟨F,C,c0,c1,E⟩:=y.out;obtain⟨n1,n2⟩:=E bv _ _ rfl;first|rfl|(go_simp;done)) A ?_;simp only[sI,sS,sZ];obtain⟨k4,bU⟩:∃ b,((nxT ts (s.p+1)).kind == 4)=b:=⟨_,rfl⟩;rw[bU] at ah
          cases k4
          ·skip
           refine zaj 35 100 (.bool false) rfl (by rfl) (by kernel_rfl) (fun _ _ _ h=>h) (fun w' y=>by obtain⟨F,C,c0,c1,E⟩:=y.out;first|rfl|(go_simp;done) | (go_simp;rw[Yi];omega)) A ?_;simp only[sI,sS,sZ];refine zaj 36 101 (.bool false) rfl (by rfl) (by kernel_rfl) (fun _ _ _ h=>h) (fun w' y=>by obtain⟨F,C,c0,c1,E⟩:=y.out;first|rfl|(go_simp;done) | (go_simp;rw[Yi];omega)) A ?_;simp only[sI,sS,sZ];refine zaj 37 102 (.bool false) rfl (by rfl) (by kernel_rfl) (fun _ _ _ h=>h) (fun w' y=>by obtain⟨F,C,c0,c1,E⟩:=y.out;first|rfl|(go_simp;done) | (go_simp;rw[Yi];omega)) A ?_;simp only[sI,sS,sZ];clear bU;refine zai 38 103 rfl (by rfl) (by kernel_rfl) (fun _ _ _ h=>h) A ?_;simp only[sI,sS,sZ];refine zai 39 104 rfl (by rfl) (by kernel_rfl) (fun _ _ _ h=>h) A ?_;simp only[sI,sS,sZ];refine zai 40 105 rfl (by rfl) (by kernel_rfl) (fun _ _ _ h=>h) A ?_;simp only[sI,sS,sZ];refine zai 41 106 rfl (by rfl) (by kernel_rfl) (fun _ _ _ h=>h) A ?_;simp only[sI,sS,sZ];refine zai 42 107 rfl (by rfl) (by kernel_rfl) (fun _ _ _ h=>h) A ?_;simp only[sI,sS,sZ];refine zai 43 108 rfl (by rfl) (by kernel_rfl) (fun _ _ _ h=>h) A ?_;simp only[sI,sS,sZ];refine zai 44 109 rfl (by rfl) (by kernel_rfl) (fun _ _ _ h=>h) A ?_;simp only[sI,sS,sZ];refine zai 45 110 rfl (by rfl) (by kernel_rfl) (fun _ _ _ h=>h) A ?_;simp only[sI,sS,sZ];refine zai 46 111 rfl (by rfl) (by kernel_rfl) (fun _ _ _ h=>h) A ?_;simp only[sI,sS,sZ];refine zai 47 112 rfl (by rfl) (by kernel_rfl) (fun _ _ _ h=>h) A ?_;simp only[sI,sS,sZ]
           refine zai 48 113 rfl (by rfl) (by kernel_rfl) (fun _ _ _ h=>h) A ?_;simp only[sI,sS,sZ];refine zai 49 114 rfl (by rfl) (by kernel_rfl) (fun _ _ _ h=>h) A ?_;simp only[sI,sS,sZ];refine zai 50 115 rfl (by rfl) (by kernel_rfl) (fun _ _ _ h=>h) A ?_;simp only[sI,sS,sZ];refine zaj 51 116 (.bool false) rfl (by rfl) (by kernel_rfl) (fun _ _ _ h=>h) (fun w' y=>by obtain⟨F,C,c0,c1,E⟩:=y.out;first|rfl|(go_simp;done) | (go_simp;rw[Yi];omega)) A ?_;simp only[sI,sS,sZ];refine wpAnyH_done (by kernel_rfl) ?_ _
           go_wp2
           go_meet
           case rel=>exact⟨by rw[<-ah.out];rfl,aB.out,aK.out⟩
          ·skip
           refine zaj 35 100 (.bool true) rfl (by rfl) (by kernel_rfl) (fun _ _ _ h=>h) (fun w' y=>by obtain⟨F,C,c0,c1,E⟩:=y.out;first|rfl|(go_simp;done) | (go_simp;rw[Yi];omega)) A ?_;simp only[sI,sS,sZ];refine zaj 36 101 (.bool true) rfl (by rfl) (by kernel_rfl) (fun _ _ _ h=>h) (fun w' y=>by obtain⟨F,C,c0,c1,E⟩:=y.out;first|rfl|(go_simp;done) | (go_simp;rw[Yi];omega)) A ?_;simp only[sI,sS,sZ];refine zaj 37 102 (.bool true) rfl (by rfl) (by kernel_rfl) (fun _ _ _ h=>h) (fun w' y=>by obtain⟨F,C,c0,c1,E⟩:=y.out;first|rfl|(go_simp;done) | (go_simp;rw[Yi];omega)) A ?_;simp only[sI,sS,sZ];clear bU;refine zaj 38 103 (.pointer (some ⟨g,0,none⟩)) rfl (by rfl) (by kernel_rfl) (fun _ _ _ h=>h) (fun w' y=>by obtain⟨F,C,c0,c1,E⟩:=y.out;first|rfl|(go_simp;done) | (go_simp;rw[Yi];omega)) A ?_;simp only[sI,sS,sZ];refine zaj 39 104 (.pointer (some ⟨g,0,none⟩)) rfl (by rfl) (by kernel_rfl) (fun _ _ _ h=>h) (fun w' y=>by obtain⟨F,C,c0,c1,E⟩:=y.out;first|rfl|(go_simp;done) | (go_simp;rw[Yi];omega)) A ?_;simp only[sI,sS,sZ];refine zaj 40 105 (.pointer (some ⟨g,0,none⟩)) rfl (by rfl) (by kernel_rfl) (fun _ _ _ h=>h) (fun w' y=>by obtain⟨F,C,c0,c1,E⟩:=y.out;first|rfl|(go_simp;done) | (go_simp;rw[Yi];omega)) A ?_;simp only[sI,sS,sZ];refine zaj 41 106 (.slice (some ⟨tb,aO,none⟩) ts.length cap) rfl (by rfl) (by kernel_rfl) (fun _ _ _ h=>h) (fun w' y=>by obtain⟨F,C,c0,c1,E⟩:=y.out;first|rfl|(go_simp;done) | (go_simp;rw[Yi];omega)) A ?_;simp only[sI,sS,sZ];refine zaj 42 107 (.pointer (some ⟨g,0,none⟩)) rfl (by rfl) (by kernel_rfl) (fun _ _ _ h=>h) (fun w' y=>by obtain⟨F,C,c0,c1,E⟩:=y.out;first|rfl|(go_simp;done) | (go_simp;rw[Yi];omega)) A ?_
           simp only[sI,sS,sZ];refine zaj 43 108 (.pointer (some ⟨g,0,none⟩)) rfl (by rfl) (by kernel_rfl) (fun _ _ _ h=>h) (fun w' y=>by obtain⟨F,C,c0,c1,E⟩:=y.out;first|rfl|(go_simp;done) | (go_simp;rw[Yi];omega)) A ?_;simp only[sI,sS,sZ];refine zaj 44 109 (.pointer (some ⟨g,1,none⟩)) rfl (by rfl) (by kernel_rfl) (fun _ _ _ h=>h) (fun w' y=>by obtain⟨F,C,c0,c1,E⟩:=y.out;first|rfl|(go_simp;done) | (go_simp;rw[Yi];omega)) A ?_;simp only[sI,sS,sZ];refine zaj 45 110 (.int .i64 s.p) rfl (by rfl) (by kernel_rfl) (fun _ _ _ h=>h) (fun w' y=>by obtain⟨F,C,c0,c1,E⟩:=y.out;first|rfl|(go_simp;done) | (go_simp;rw[Yi];omega)) A ?_;simp only[sI,sS,sZ];refine zaj 46 111 (.int .i64 ((s.p:Int)+1)) rfl (by rfl) (by kernel_rfl) (fun _ _ _ h=>h) (fun w' y=>by obtain⟨F,C,c0,c1,E⟩:=y.out;first|rfl|(go_simp;done) | (go_simp;rw[Yi];omega)) A ?_;simp only[sI,sS,sZ];refine zaj 47 112 (.pointer (some ⟨tb,aO+(s.p+1) * 3,none⟩)) rfl (by rfl) (by kernel_rfl) (fun _ _ _ h=>h) (fun w' y=>by obtain⟨F,C,c0,c1,E⟩:=y.out;have aq:=bv.out;first|rfl|(go_simp;done) | (go_simp;omega)) A ?_;simp only[sI,sS,sZ];refine zaj 48 113 (.pointer (some ⟨tb,aO+(s.p+1) * 3+1,none⟩)) rfl (by rfl) (by kernel_rfl) (fun _ _ _ h=>h) (fun w' y=>by obtain⟨F,C,c0,c1,E⟩:=y.out;first|rfl|(go_simp;done) | (go_simp;rw[Yi];omega)) A ?_;simp only[sI,sS,sZ];refine zaj 49 114 (.string (nxT ts (s.p+1)).text) rfl (by rfl) (by kernel_rfl) (fun _ _ _ h=>h) (fun w' y=>by obtain⟨F,C,c0,c1,E⟩:=y.out;obtain⟨n1,n2⟩:=E bv _ _ rfl;first|rfl|(go_simp;done)) A ?_;simp only[sI,sS,sZ];obtain⟨kx,b0⟩:∃ b,isT ts (s.p+1) [58,61]=b:=⟨_,rfl⟩;rw[b0] at ah;have fd:((nxT ts (s.p+1)).text.toList == [58,61])=kx:=by rw[<-b0,z3x,ByteArray.toList_eq]
           clear b0
           cases kx
           ·skip
            refine zaj 50 115 (.bool false) rfl (by rfl) (by kernel_rfl) (fun _ _ _ h=>h) (fun w' y=>by obtain⟨F,C,c0,c1,E⟩:=y.out;first|rfl|(go_simp;done) | (go_simp;rw[Yi];omega)) A ?_;simp only[sI,sS,sZ];clear fd;refine zaj 51 116 (.bool false) rfl (by rfl) (by kernel_rfl) (fun _ _ _ h=>h) (fun w' y=>by obtain⟨F,C,c0,c1,E⟩:=y.out;first|rfl|(go_simp;done) | (go_simp;rw[Yi];omega)) A ?_;simp only[sI,sS,sZ];refine wpAnyH_done (by kernel_rfl) ?_ _
            go_wp2
            go_meet
            case rel=>exact⟨by rw[<-ah.out];rfl,aB.out,aK.out⟩
           ·skip
            refine zaj 50 115 (.bool true) rfl (by rfl) (by kernel_rfl) (fun _ _ _ h=>h) (fun w' y=>by obtain⟨F,C,c0,c1,E⟩:=y.out;first|rfl|(go_simp;done) | (go_simp;rw[Yi];omega)) A ?_;simp only[sI,sS,sZ];clear fd;refine zaj 51 116 (.bool true) rfl (by rfl) (by kernel_rfl) (fun _ _ _ h=>h) (fun w' y=>by obtain⟨F,C,c0,c1,E⟩:=y.out;first|rfl|(go_simp;done) | (go_simp;rw[Yi];omega)) A ?_;simp only[sI,sS,sZ];refine wpAnyH_done (by kernel_rfl) ?_ _
            go_wp2
            go_meet
            case rel=>exact⟨by rw[<-ah.out];rfl,aB.out,aK.out⟩
        ·skip
         refine zaj 7 72 (.bool false) rfl (by rfl) (by kernel_rfl) (fun _ _ _ h=>h) (fun w' y=>by obtain⟨F,C,c0,c1,E⟩:=y.out;first|rfl|(go_simp;done) | (go_simp;rw[Yi];omega)) A ?_;simp only[sI,sS,sZ];refine zaj 8 73 (.bool false) rfl (by rfl) (by kernel_rfl) (fun _ _ _ h=>h) (fun w' y=>by obtain⟨F,C,c0,c1,E⟩:=y.out;first|rfl|(go_simp;done) | (go_simp;rw[Yi];omega)) A ?_;simp only[sI,sS,sZ];refine zaj 9 74 (.bool false) rfl (by rfl) (by kernel_rfl) (fun _ _ _ h=>h) (fun w' y=>by obtain⟨F,C,c0,c1,E⟩:=y.out;first|rfl|(go_simp;done) | (go_simp;rw[Yi];omega)) A ?_;simp only[sI,sS,sZ];refine zai 10 75 rfl (by rfl) (by kernel_rfl) (fun _ _ _ h=>h) A ?_;simp only[sI,sS,sZ];refine zai 11 76 rfl (by rfl) (by kernel_rfl) (fun _ _ _ h=>h) A ?_;simp only[sI,sS,sZ];refine zai 12 77 rfl (by rfl) (by kernel_rfl) (fun _ _ _ h=>h) A ?_;simp only[sI,sS,sZ];refine zai 13 78 rfl (by rfl) (by kernel_rfl) (fun _ _ _ h=>h) A ?_;simp only[sI,sS,sZ];refine zai 14 79 rfl (by rfl) (by kernel_rfl) (fun _ _ _ h=>h) A ?_;simp only[sI,sS,sZ];refine zai 15 80 rfl (by rfl) (by kernel_rfl) (fun _ _ _ h=>h) A ?_;simp only[sI,sS,sZ];refine zai 16 81 rfl (by rfl) (by kernel_rfl) (fun _ _ _ h=>h) A ?_;simp only[sI,sS,sZ];refine zai 17 82 rfl (by rfl) (by kernel_rfl) (fun _ _ _ h=>h) A ?_;simp only[sI,sS,sZ];refine zai 18 83 rfl (by rfl) (by kernel_rfl) (fun _ _ _ h=>h) A ?_;simp only[sI,sS,sZ];refine zai 19 84 rfl (by rfl) (by kernel_rfl) (fun _ _ _ h=>h) A ?_;simp only[sI,sS,sZ];refine zai 20 85 rfl (by rfl) (by kernel_rfl) (fun _ _ _ h=>h) A ?_
         simp only[sI,sS,sZ];refine zaj 21 86 (.bool false) rfl (by rfl) (by kernel_rfl) (fun _ _ _ h=>h) (fun w' y=>by obtain⟨F,C,c0,c1,E⟩:=y.out;first|rfl|(go_simp;done) | (go_simp;rw[Yi];omega)) A ?_;simp only[sI,sS,sZ];refine zaj 22 87 (.bool false) rfl (by rfl) (by kernel_rfl) (fun _ _ _ h=>h) (fun w' y=>by obtain⟨F,C,c0,c1,E⟩:=y.out;first|rfl|(go_simp;done) | (go_simp;rw[Yi];omega)) A ?_;simp only[sI,sS,sZ];refine zai 23 88 rfl (by rfl) (by kernel_rfl) (fun _ _ _ h=>h) A ?_;simp only[sI,sS,sZ];refine zai 24 89 rfl (by rfl) (by kernel_rfl) (fun _ _ _ h=>h) A ?_;simp only[sI,sS,sZ];refine zai 25 90 rfl (by rfl) (by kernel_rfl) (fun _ _ _ h=>h) A ?_;simp only[sI,sS,sZ];refine zai 26 91 rfl (by rfl) (by kernel_rfl) (fun _ _ _ h=>h) A ?_;simp only[sI,sS,sZ];refine zai 27 92 rfl (by rfl) (by kernel_rfl) (fun _ _ _ h=>h) A ?_;simp only[sI,sS,sZ];refine zai 28 93 rfl (by rfl) (by kernel_rfl) (fun _ _ _ h=>h) A ?_;simp only[sI,sS,sZ];refine zai 29 94 rfl (by rfl) (by kernel_rfl) (fun _ _ _ h=>h) A ?_;simp only[sI,sS,sZ];refine zai 30 95 rfl (by rfl) (by kernel_rfl) (fun _ _ _ h=>h) A ?_;simp only[sI,sS,sZ];refine zai 31 96 rfl (by rfl) (by kernel_rfl) (fun _ _ _ h=>h) A ?_;simp only[sI,sS,sZ];refine zai 32 97 rfl (by rfl) (by kernel_rfl) (fun _ _ _ h=>h) A ?_;simp only[sI,sS,sZ];refine zai 33 98 rfl (by rfl) (by kernel_rfl) (fun _ _ _ h=>h) A ?_;simp only[sI,sS,sZ];refine zai 34 99 rfl (by rfl) (by kernel_rfl) (fun _ _ _ h=>h) A ?_;simp only[sI,sS,sZ];refine zai 35 100 rfl (by rfl) (by kernel_rfl) (fun _ _ _ h=>h) A ?_
         simp only[sI,sS,sZ];refine zaj 36 101 (.bool false) rfl (by rfl) (by kernel_rfl) (fun _ _ _ h=>h) (fun w' y=>by obtain⟨F,C,c0,c1,E⟩:=y.out;first|rfl|(go_simp;done) | (go_simp;rw[Yi];omega)) A ?_;simp only[sI,sS,sZ];refine zaj 37 102 (.bool false) rfl (by rfl) (by kernel_rfl) (fun _ _ _ h=>h) (fun w' y=>by obtain⟨F,C,c0,c1,E⟩:=y.out;first|rfl|(go_simp;done) | (go_simp;rw[Yi];omega)) A ?_;simp only[sI,sS,sZ];refine zai 38 103 rfl (by rfl) (by kernel_rfl) (fun _ _ _ h=>h) A ?_;simp only[sI,sS,sZ];refine zai 39 104 rfl (by rfl) (by kernel_rfl) (fun _ _ _ h=>h) A ?_;simp only[sI,sS,sZ];refine zai 40 105 rfl (by rfl) (by kernel_rfl) (fun _ _ _ h=>h) A ?_;simp only[sI,sS,sZ];refine zai 41 106 rfl (by rfl) (by kernel_rfl) (fun _ _ _ h=>h) A ?_;simp only[sI,sS,sZ];refine zai 42 107 rfl (by rfl) (by kernel_rfl) (fun _ _ _ h=>h) A ?_;simp only[sI,sS,sZ];refine zai 43 108 rfl (by rfl) (by kernel_rfl) (fun _ _ _ h=>h) A ?_;simp only[sI,sS,sZ];refine zai 44 109 rfl (by rfl) (by kernel_rfl) (fun _ _ _ h=>h) A ?_;simp only[sI,sS,sZ];refine zai 45 110 rfl (by rfl) (by kernel_rfl) (fun _ _ _ h=>h) A ?_;simp only[sI,sS,sZ];refine zai 46 111 rfl (by rfl) (by kernel_rfl) (fun _ _ _ h=>h) A ?_;simp only[sI,sS,sZ];refine zai 47 112 rfl (by rfl) (by kernel_rfl) (fun _ _ _ h=>h) A ?_;simp only[sI,sS,sZ];refine zai 48 113 rfl (by rfl) (by kernel_rfl) (fun _ _ _ h=>h) A ?_;simp only[sI,sS,sZ];refine zai 49 114 rfl (by rfl) (by kernel_rfl) (fun _ _ _ h=>h) A ?_;simp only[sI,sS,sZ]
         refine zai 50 115 rfl (by rfl) (by kernel_rfl) (fun _ _ _ h=>h) A ?_;simp only[sI,sS,sZ];refine zaj 51 116 (.bool false) rfl (by rfl) (by kernel_rfl) (fun _ _ _ h=>h) (fun w' y=>by obtain⟨F,C,c0,c1,E⟩:=y.out;first|rfl|(go_simp;done) | (go_simp;rw[Yi];omega)) A ?_;simp only[sI,sS,sZ];refine wpAnyH_done (by kernel_rfl) ?_ _
         go_wp2
         go_meet
         case rel=>exact⟨by rw[<-ah.out];rfl,aB.out,aK.out⟩
      case rest=>
       obtain⟨rfl,a7,bh⟩:=hcut;have a5:=J a7;have aM:=J bh;clear a7 bh ah aN bA
       cases bb
       ·skip
        replace D:=J (if_f D (fun h=>by cases h))
        have hX:=D.out;unfold simD at hX
        dsimp only[tak] at hX
        replace D:=J hX
        clear hX
        try rw[ey.out] at D
        obtain⟨gE,h0,fZ⟩:=aM.out.cells
        go_wp2_with fail
        clear gE h0 fZ;refine(zau 19 C ⟨#[]⟩ wc).mono ?_;rintro e af ⟨rfl,b9⟩;have h3:=J (aM.out.low b9);have ci:=J (a5.out.low b9);clear b9 a5 aM;clear h3;obtain⟨hp,hq,cY,dH,dQ⟩:=zdp (z:=w.heap.size) ci.out (zaa ci.out.hZ) 19 C ⟨#[]⟩;have cB:=J dQ;have jK:=cY.size;have a8:=J (dH);clear cY dH dQ ci
        go_wp2_with fail
        clear hq;rcases hk31:(dns ts n).row 1 s with _|⟨v31,s31⟩
        ·exact absurd D (by rw[hk31];intro h;cases h)
        rw[hk31] at D
        try simp only[Option.bind_some] at D
        refine(((fun hk=>HE.out _ _ _ hk a8.out.hR) hk31)).mono ?_;rintro e cP ⟨eR,rfl,eF,bD,d7⟩;have dK:=J eF;have ig:=cB.out.lt;have b8:=J (cB.out.grow a8.out.gB bD);have iu:=bD.size;have cr:=J (a8.out.call bD d7);have jp:=a8.out.size;clear hk31 eF bD d7 a8 cB;obtain⟨eH,eK,jy,c7,et,dD,h6,gy⟩:=ze0 cr b8 (v:=v31) (e:=eR) (S:=(fun j=>hp.heap.size<=j∧j<cP.heap.size)) dK.out (fun j M=>by have:=b8.out.lt;have:=cr.out.s0;exact⟨by omega,M.2,by omega,by omega⟩);have dY:=J dD;have bI:=J (et);obtain⟨e0,e1,e2,e3,e4,e5,e6,e7,e8,e9⟩:=eR
        dsimp only[Qe.cells,paQ] at eH eK c7
        try unfold Qe.cells paQ
        clear dK et dD h6 gy cr b8
        go_wp2_with fail
        clear eH eK c7;refine(zas ⟨#[61]⟩ bI.out.hR).mono ?_;rintro e i5 ⟨rfl,ck⟩;obtain⟨g7,K⟩:∃ b,isQ ts s31.p ⟨#[61]⟩=b:=⟨_,rfl⟩;rw[K];have aL:=J K
        try rw[K] at D
        have a6:=J (dY.out.below ck);have aQ:=J (bI.out.low ck);clear K ck bI dY
        cases g7
        ·skip
         replace D:=J (if_f D (fun h=>by cases h))
         obtain⟨h1,hJ,fE,f5,fA,hV,fz,f0,gF,h2⟩:=row9 a6.out.row
         go_wp2_with fail
         clear h1 hJ fE f5 fA hV fz f0 gF h2;obtain⟨iq,iv,jm,g5,eM⟩:=zbf aQ a6;injection g5 with u1 u2 u3;subst u1 u2 u3;refine eM.mono ?_;rintro e ja ⟨jo,rfl,gU,dj,ei⟩;have eJ:=J ei;have gq:=J (dj);clear eM gU dj ei aQ a6;obtain⟨js,iV,fm,eb⟩:=zbb gq (v:=(⟨19,⟨#[]⟩,0,C.pos,C.pos,behI ts s31.p,C.pos,[v31.pt]⟩:Qv)) ⟨eJ.out.is.keep (fun j M=>⟨M.1,M.2.1⟩) fun _ _=>rfl,eJ.out.bg⟩;have HP:=J eb;have Z:=J fm;clear eb fm
         go_wp2
         have Y:=Yl D;exact zao Tryz.results129 rfl Z (Y ▸ HP.out)
        ·skip
         replace D:=J (if_t D (by first|rfl|trivial))
         go_wp2_with fail
         refine(zah ⟨#[61]⟩ aQ.out.hR).mono ?_;rintro e aX ⟨rfl,b2,dx⟩;obtain⟨hh,N⟩:∃ t,takT ts ⟨#[61]⟩ s31=t:=⟨_,rfl⟩;obtain⟨bo,hs⟩:∃ s2,takS ts ⟨#[61]⟩ s31=s2:=⟨_,rfl⟩;rw[show takT ts ⟨#[61]⟩ ⟨s31.p,s31.bad⟩=hh from N];have dB:QdS T aX g st cap ts bo:=hs ▸ dx;have jR:Hid (LtQ s31 bo):=J (hs ▸ zam _ _)
         try rw[N] at D
         try rw[hs] at D
         have bC:=J (a6.out.grow aQ.out.gB b2);have dJ:=J (aQ.out.call b2 dB);clear N hs dx dB b2 aQ a6;obtain⟨hr,fK,gX,fR,g4,hz,ge,hf,gw,hl⟩:=row9 bC.out.row;obtain⟨av,gx,fo,dh,cW⟩:∃ W2,(aX.setCell ⟨af.heap.size,0,none⟩ (.int .i64 18))=W2∧Below (af.heap.size) aX W2∧(∀ j,j≠af.heap.size->j<aX.heap.size->W2.heap[j]?=aX.heap[j]?)∧W2.heap[af.heap.size]?=some (.cells (paQ 18 ⟨#[]⟩ 0 C.pos C.pos 0 C.pos (.slice (some ⟨cP.heap.size,0,none⟩) 1 1)) 63 (0,0)) :=
          ⟨_,rfl,((Yb _ _).setCell (p:=⟨af.heap.size,0,none⟩) (Ya _) _),fun j M _=>(Ye _ _ _ _ M).trans (rfl),Yf _ _ 0 _ _ _ (bC.out.row)⟩
         obtain⟨dP,d1⟩:=zj6 dJ bC av fo dh 18 ⟨#[]⟩ 0 C.pos C.pos 0 C.pos cW;have eY:=J d1;have cg:=J (dP);clear dP d1 fo dh cW dJ bC
         go_wp2_with (fail)
         clear hr fK gX fR g4 hz ge hf gw hl gx;rcases hk50:(dns ts n).row 1 bo with _|⟨v50,s50⟩
         ·exact absurd D (by rw[hk50];intro h;cases h)
         rw[hk50] at D;simp only[Option.bind_some] at D;have be:=J cg;have cj:Below av.heap.size av av.drew:=(Yb _ _).drew;have a9:=J (cg.out.low cj);have bz:=J (eY.out.below cj);have cD:=J (fun (h:QdS T av.drew g st cap ts bo)=>(fun hk=>HE.out av.drew _ _ hk h) hk50);clear hk50 cj cg eY;have gr:av.drew.cell? ⟨af.heap.size,8,none⟩=some (.slice (some ⟨cP.heap.size,0,none⟩) 1 1):=Yp 8 bz.out.row rfl;apply zb8 (fun y0 y1 y2 y3 y4 y5 y6 y7 y8 y9 Wy sp sn sc V=>Fr T w W0 V g st cap ts s50∧Qk W0.heap.size (w.heap.size) V (af.heap.size) 18 ⟨#[]⟩ 0 C.pos C.pos 0 C.pos (.slice sp sn sc) ([v31.pt]++[v50.pt])∧av.drew.grownBy Wy (some g)∧((w.heap.size)≠af.heap.size->V.heap[w.heap.size]?=Wy.heap[w.heap.size]?)∧Wy.heap.size<=V.heap.size)
         rotate_left
         ·intro hc;refine zbc (S:=fun _=>Hid True) 8 rfl (by kernel_rfl) ?_;refine zal 0 143 (.pointer (some ⟨af.heap.size,8,none⟩)) rfl (by kernel_rfl) (fun _ _ _ h=>h) (fun w' _=>by first|rfl|(go_simp;done) | (go_simp;rw[Yi];omega)) (J trivial) ?_;simp only[sI,sS,sZ];refine zal 2 145 (.pointer (some ⟨g,0,none⟩)) rfl (by kernel_rfl) (fun _ _ _ h=>h) (fun w' _=>by first|rfl|(go_simp;done) | (go_simp;rw[Yi];omega)) (J trivial) ?_;simp only[sI,sS,sZ];refine wpAnyH_all (rs:=[1,3]) (by kernel_rfl) (by simp) fun i K=>?_;simp only[List.mem_cons,List.not_mem_nil,or_false] at K;rcases K with rfl|rfl
          ·skip
           refine zan rfl rfl ?_
           go_simp
           refine⟨J trivial,?_⟩;refine zac 3 rfl (by kernel_rfl) ?_
           go_simp
           refine(cD a9.out.hR).mono ?_;rintro e bx ⟨⟨y0,y1,y2,y3,y4,y5,y6,y7,y8,y9⟩,rfl,q50,g50,r50⟩;obtain⟨cK,ch,v2,w1,V,X,ce,cf,cw,a4,aH,aY,aa⟩:=zb3 a9 bz (by simp) g50 r50 q50;obtain⟨an,ao,ak,ap⟩:=aH.sl;subst ap;have ab:=J (hc y0 y1 y2 y3 y4 y5 y6 y7 y8 y9 bx an ao ak V ⟨a4,aH,g50,aY,aa⟩)
           dsimp only[Qe.cells,paQ] at cK ch X ce cf cw
           unfold Qe.cells paQ;clear a4 aH aY q50 g50 r50 aa;refine⟨J trivial,?_⟩;refine zac 4 rfl (by kernel_rfl) ?_
           go_simp
           refine⟨J trivial,?_⟩;refine zac 5 rfl (by kernel_rfl) ?_;refine zaf (.tmp 144) (.tmp 147) 61 rfl rfl rfl X ?_;refine⟨J trivial,?_⟩;simp only[Act.put,sI,sS,sZ];refine zal 6 149 (.pointer (some ⟨af.heap.size,8,none⟩)) rfl (by kernel_rfl) (fun _ _ _ h=>h) (fun w' _=>by first|rfl|(go_simp;done) | (go_simp;rw[Yi];omega)) (J trivial) ?_;simp only[sI,sS,sZ];refine zac 7 rfl (by kernel_rfl) ?_
           go_simp
           refine⟨J trivial,?_⟩;refine wpAnyH_done (by kernel_rfl) ?_ _;exact ab
          ·skip
           refine zan rfl rfl ?_
           go_simp
           refine(cD a9.out.hR).mono ?_;rintro e bx ⟨⟨y0,y1,y2,y3,y4,y5,y6,y7,y8,y9⟩,rfl,q50,g50,r50⟩;obtain⟨cK,ch,v2,w1,V,X,ce,cf,cw,a4,aH,aY,aa⟩:=zb3 a9 bz (by simp) g50 r50 q50;obtain⟨an,ao,ak,ap⟩:=aH.sl;subst ap;have ab:=J (hc y0 y1 y2 y3 y4 y5 y6 y7 y8 y9 bx an ao ak V ⟨a4,aH,g50,aY,aa⟩)
           dsimp only[Qe.cells,paQ] at cK ch X ce cf cw
           unfold Qe.cells paQ;clear a4 aH aY q50 g50 r50 aa;refine⟨J trivial,?_⟩;refine wpAnyH_all (rs:=[1,4]) (by kernel_rfl) (by simp) fun i K=>?_;simp only[List.mem_cons,List.not_mem_nil,or_false] at K;rcases K with rfl|rfl
           ·skip
            refine zan rfl rfl ?_
            go_simp
            refine⟨J trivial,?_⟩;refine zac 4 rfl (by kernel_rfl) ?_
            go_simp
            refine⟨J trivial,?_⟩;refine zac 5 rfl (by kernel_rfl) ?_;refine zaf (.tmp 144) (.tmp 147) 61 rfl rfl rfl X ?_;refine⟨J trivial,?_⟩;simp only[Act.put,sI,sS,sZ];refine zal 6 149 (.pointer (some ⟨af.heap.size,8,none⟩)) rfl (by kernel_rfl) (fun _ _ _ h=>h) (fun w' _=>by first|rfl|(go_simp;done) | (go_simp;rw[Yi];omega)) (J trivial) ?_;simp only[sI,sS,sZ];refine zac 7 rfl (by kernel_rfl) ?_
            go_simp
            refine⟨J trivial,?_⟩;refine wpAnyH_done (by kernel_rfl) ?_ _;exact ab
           ·skip
            refine zan rfl rfl ?_
            go_simp
            refine⟨J trivial,?_⟩;refine zac 1 rfl (by kernel_rfl) ?_
            go_simp
            refine⟨J trivial,?_⟩;refine zac 5 rfl (by kernel_rfl) ?_;refine zaf (.tmp 144) (.tmp 147) 61 rfl rfl rfl X ?_;refine⟨J trivial,?_⟩;simp only[Act.put,sI,sS,sZ];refine zal 6 149 (.pointer (some ⟨af.heap.size,8,none⟩)) rfl (by kernel_rfl) (fun _ _ _ h=>h) (fun w' _=>by first|rfl|(go_simp;done) | (go_simp;rw[Yi];omega)) (J trivial) ?_;simp only[sI,sS,sZ];refine zac 7 rfl (by kernel_rfl) ?_
            go_simp
            refine⟨J trivial,?_⟩;refine wpAnyH_done (by kernel_rfl) ?_ _;exact ab
         intro y0 y1 y2 y3 y4 y5 y6 y7 y8 y9 bx i9 iM iJ iw hv;obtain⟨dZ,dc,fs,cX,j7⟩:=hv;have bZ:=J dc;have iP:=J fs;have iD:=J cX;have eO:=J (dZ);clear dZ dc fs cX a9 bz gr cD be;obtain⟨gd,gb,gQ,hD,g9,gW,g8,fP,hA,fD⟩:=row9 bZ.out.row
         go_wp2_with fail
         clear gd gb gQ hD g9 gW g8 fP hA fD;obtain⟨iz,i1,iX,fQ,di⟩:=zbf eO bZ;injection fQ with u1 u2 u3;subst u1 u2 u3;refine di.mono ?_;rintro e it ⟨jr,rfl,gp,eu,eh⟩;have d8:=J eh;have hM:=J (eu);clear di gp eu eh eO bZ;obtain⟨jv,ji,em,c8⟩:=zbb hM (v:=(⟨18,⟨#[]⟩,0,C.pos,C.pos,behI ts s50.p,C.pos,([v31.pt]++[v50.pt])⟩:Qv)) ⟨d8.out.is.keep (fun j M=>⟨M.1,M.2.1⟩) fun _ _=>rfl,d8.out.bg⟩;have HP:=J c8;have Z:=J em;clear c8 em
         go_wp2
         have Y:=Yl D;exact zao Tryz.results129 rfl Z (Y ▸ HP.out)
       ·skip
        replace D:=J (if_t D (by first|rfl|trivial))
        have hX:=D.out;unfold shoD at hX
        dsimp only[tak] at hX
        replace D:=J hX
        clear hX
        try rw[ey.out] at D
        go_upto_region 19 with fail
        obtain⟨U,ca⟩:∃ t,takT ts ⟨#[110,97,109,101]⟩ s=t:=⟨_,rfl⟩;obtain⟨aw,bM⟩:∃ s2,takS ts ⟨#[110,97,109,101]⟩ s=s2:=⟨_,rfl⟩;rw[ca] at D;rw[bM] at D;have cJ:=J ca;have cF:=J bM;clear ca bM
        go_cut [6] (fun v6 wd=>∃ b6:Nat,v6=.pointer (some ⟨b6,0,none⟩)∧Fr T w W0 wd g st cap ts aw∧Tq W0 wd b6 (⟨17,C.text,0,U.pos,U.pos,0,U.pos,none,0,0⟩:Qe))
        case first=>
         clear D;have cz:Below wc.heap.size wc wc.drew:=(Yb _ _).drew;have HD:=J (a5.out.low cz);have HT:=J (aM.out.low cz);have I:=J (J HT.out.cells.2.1);clear cz a5 aM;refine zbc (S:=fun W'=>Hid (W'.cell? ⟨W1.heap.size,1,none⟩=some (.string C.text))) 7 rfl (by kernel_rfl) ?_;refine zal 0 117 (.pointer (some ⟨g,0,none⟩)) rfl (by kernel_rfl) (fun _ _ _ h=>h) (fun w' y=>by have hc:=y.out;first|rfl|(go_simp;done)) I.out ?_;simp only[sI,sS,sZ];refine zal 2 119 (.pointer (some ⟨W1.heap.size,1,none⟩)) rfl (by kernel_rfl) (fun _ _ _ h=>h) (fun w' y=>by have hc:=y.out;first|rfl|(go_simp;done)) I.out ?_;simp only[sI,sS,sZ];refine zal 3 120 (.string C.text) rfl (by kernel_rfl) (fun _ _ _ h=>h) (fun w' y=>by have hc:=y.out;first|rfl|(go_simp;done)) I.out ?_;simp only[sI,sS,sZ];generalize fX:wc.drew=Wd at HD HT I ⊢;clear fX;refine wpAnyH_all (rs:=[1,5]) (by kernel_rfl) (by simp) fun i K=>?_;simp only[List.mem_cons,List.not_mem_nil,or_false] at K;rcases K with rfl|rfl
         ·skip
          refine zan rfl rfl ?_
          go_simp
          refine(zah ⟨#[110,97,109,101]⟩ HD.out.hR).mono ?_;rintro e Wk ⟨rfl,gk,rk⟩;rw[show takT ts ⟨#[110,97,109,101]⟩ ⟨s.p,s.bad⟩=U from cJ.out];have qk:QdS T Wk g st cap ts aw:=cF.out ▸ rk;have a0:=J (HD.out.call gk qk);have aR:=J (HT.out.call HD.out.gB gk);have cy:=J (J aR.out.cells.2.1);clear gk rk qk;refine⟨cy.out,?_⟩
          try simp only[Act.put,sI,sS,sZ]
          refine wpAnyH_all (rs:=[4,5]) (by kernel_rfl) (by simp) fun i K=>?_;simp only[List.mem_cons,List.not_mem_nil,or_false] at K;rcases K with rfl|rfl
          ·skip
           refine zan rfl rfl ?_
           go_simp
           refine(zau 17 U C.text Wk).mono ?_;rintro e Wp ⟨rfl,bp⟩;have aU:=J (a0.out.low bp);have ar:=J (aR.out.low bp);have A:=J (J ar.out.cells.2.1);clear bp;refine⟨A.out,?_⟩
           try simp only[Act.put,sI,sS,sZ]
           have ba:Below Wp.heap.size Wp (Wp.alloc (.cells #[.int .i64 0,.string ⟨#[]⟩,.int .i64 0,.slice none 0 0,.int .i64 0,.int .i64 0,.int .i64 0,.int .i64 0,.slice none 0 0] 63)):=(Yb _ _).alloc (Ya _) _;have al:=J (aU.out.low ba);have ai:=J (ar.out.low ba);have au:=J (J ai.out.cells.2.1);have ag:Hid (Tq W0 (Wp.alloc (.cells #[.int .i64 0,.string ⟨#[]⟩,.int .i64 0,.slice none 0 0,.int .i64 0,.int .i64 0,.int .i64 0,.int .i64 0,.slice none 0 0] 63)) Wp.heap.size ⟨0,⟨#[]⟩,0,0,0,0,0,none,0,0⟩):=J ⟨aU.out.size,Yd _ _⟩;clear ba;refine zac 5 rfl (by kernel_rfl) ?_
           go_simp
           refine⟨au.out,?_⟩
           try simp only[Act.put,sI,sS,sZ]
           generalize bl:Wp.alloc (.cells #[.int .i64 0,.string ⟨#[]⟩,.int .i64 0,.slice none 0 0,.int .i64 0,.int .i64 0,.int .i64 0,.int .i64 0,.slice none 0 0] 63)=Wa at al ai au ag ⊢;clear bl;have br:Below (Wp.heap.size) Wa (Wa.setRow (Wp.heap.size) (begE 17 U C.text).cells):=zak (Yb _ _) (Ya _) _;have a2:=J (al.out.on (br.mono ag.out.hB));have bn:=J (zad (cs:=(begE 17 U C.text).cells) ag.out.row);have ay:=zh0 ai ag.out.row;have bm:Hid (Hid ((Wa.setRow (Wp.heap.size) (begE 17 U C.text).cells).cell? ⟨W1.heap.size,1,none⟩=some (.string C.text))):=J (J ((Yc _ _ 1 _ _ _ ((setRow_other _ _ _ _ ay).trans ai.out.row)).trans rfl));clear br ay;refine zfh 6 63 (.tmp 6) (.tmp 121) rfl (by kernel_rfl) (Wp.heap.size) 63 (begE 17 U C.text).cells _ rfl rfl ag.out.row (by kernel_rfl) rfl (begE 17 U C.text).one bm ?_;refine wpAnyH_done (by kernel_rfl) ?_ _
           go_wp2
           go_meet
           case rel=>exact⟨_,rfl,a2.out,⟨ag.out.hB,bn.out⟩⟩
          ·skip
           have ba:Below Wk.heap.size Wk (Wk.alloc (.cells #[.int .i64 0,.string ⟨#[]⟩,.int .i64 0,.slice none 0 0,.int .i64 0,.int .i64 0,.int .i64 0,.int .i64 0,.slice none 0 0] 63)):=(Yb _ _).alloc (Ya _) _;have al:=J (a0.out.low ba);have ai:=J (aR.out.low ba);have au:=J (J ai.out.cells.2.1);have ag:Hid (Tq W0 (Wk.alloc (.cells #[.int .i64 0,.string ⟨#[]⟩,.int .i64 0,.slice none 0 0,.int .i64 0,.int .i64 0,.int .i64 0,.int .i64 0,.slice none 0 0] 63)) Wk.heap.size ⟨0,⟨#[]⟩,0,0,0,0,0,none,0,0⟩):=J ⟨a0.out.size,Yd _ _⟩;clear ba;refine zan rfl rfl ?_
           go_simp
           refine⟨au.out,?_⟩
           try simp only[Act.put,sI,sS,sZ]
           generalize bl:Wk.alloc (.cells #[.int .i64 0,.string ⟨#[]⟩,.int .i64 0,.slice none 0 0,.int .i64 0,.int .i64 0,.int .i64 0,.int .i64 0,.slice none 0 0] 63)=Wa at al ai au ag ⊢;clear bl;refine zac 4 rfl (by kernel_rfl) ?_
           go_simp
           refine(zau 17 U C.text Wa).mono ?_;rintro e Wp ⟨rfl,bp⟩;have aU:=J (al.out.low bp);have ar:=J (ai.out.low bp);have A:=J (J ar.out.cells.2.1);have am:=J (ag.out.low bp);clear bp;refine⟨A.out,?_⟩
           try simp only[Act.put,sI,sS,sZ]
           have br:Below (Wk.heap.size) Wp (Wp.setRow (Wk.heap.size) (begE 17 U C.text).cells):=zak (Yb _ _) (Ya _) _;have a2:=J (aU.out.on (br.mono am.out.hB));have bn:=J (zad (cs:=(begE 17 U C.text).cells) am.out.row);have ay:=zh0 ar am.out.row;have bm:Hid (Hid ((Wp.setRow (Wk.heap.size) (begE 17 U C.text).cells).cell? ⟨W1.heap.size,1,none⟩=some (.string C.text))):=J (J ((Yc _ _ 1 _ _ _ ((setRow_other _ _ _ _ ay).trans ar.out.row)).trans rfl));clear br ay;refine zfh 6 63 (.tmp 6) (.tmp 121) rfl (by kernel_rfl) (Wk.heap.size) 63 (begE 17 U C.text).cells _ rfl rfl am.out.row (by kernel_rfl) rfl (begE 17 U C.text).one bm ?_;refine wpAnyH_done (by kernel_rfl) ?_ _
           go_wp2
           go_meet
           case rel=>exact⟨_,rfl,a2.out,⟨am.out.hB,bn.out⟩⟩
         ·skip
          have ba:Below Wd.heap.size Wd (Wd.alloc (.cells #[.int .i64 0,.string ⟨#[]⟩,.int .i64 0,.slice none 0 0,.int .i64 0,.int .i64 0,.int .i64 0,.int .i64 0,.slice none 0 0] 63)):=(Yb _ _).alloc (Ya _) _;have al:=J (HD.out.low ba);have ai:=J (HT.out.low ba);have au:=J (J ai.out.cells.2.1);have ag:Hid (Tq W0 (Wd.alloc (.cells #[.int .i64 0,.string ⟨#[]⟩,.int .i64 0,.slice none 0 0,.int .i64 0,.int .i64 0,.int .i64 0,.int .i64 0,.slice none 0 0] 63)) Wd.heap.size ⟨0,⟨#[]⟩,0,0,0,0,0,none,0,0⟩):=J ⟨HD.out.size,Yd _ _⟩;clear ba;refine zan rfl rfl ?_
          go_simp
          refine⟨au.out,?_⟩
          try simp only[Act.put,sI,sS,sZ]
          generalize bl:Wd.alloc (.cells #[.int .i64 0,.string ⟨#[]⟩,.int .i64 0,.slice none 0 0,.int .i64 0,.int .i64 0,.int .i64 0,.int .i64 0,.slice none 0 0] 63)=Wa at al ai au ag ⊢;clear bl;refine zac 1 rfl (by kernel_rfl) ?_
          go_simp
          refine(zah ⟨#[110,97,109,101]⟩ al.out.hR).mono ?_;rintro e Wk ⟨rfl,gk,rk⟩;rw[show takT ts ⟨#[110,97,109,101]⟩ ⟨s.p,s.bad⟩=U from cJ.out];have qk:QdS T Wk g st cap ts aw:=cF.out ▸ rk;have a0:=J (al.out.call gk qk);have aR:=J (ai.out.call al.out.gB gk);have cy:=J (J aR.out.cells.2.1);have hW:=J (ag.out.call al.out.gB gk);clear gk rk qk;refine⟨cy.out,?_⟩
          try simp only[Act.put,sI,sS,sZ]
          refine zac 4 rfl (by kernel_rfl) ?_
          go_simp
          refine(zau 17 U C.text Wk).mono ?_;rintro e Wp ⟨rfl,bp⟩;have aU:=J (a0.out.low bp);have ar:=J (aR.out.low bp);have A:=J (J ar.out.cells.2.1);have am:=J (hW.out.low bp);clear bp;refine⟨A.out,?_⟩
          try simp only[Act.put,sI,sS,sZ]
          have br:Below (Wd.heap.size) Wp (Wp.setRow (Wd.heap.size) (begE 17 U C.text).cells):=zak (Yb _ _) (Ya _) _;have a2:=J (aU.out.on (br.mono am.out.hB));have bn:=J (zad (cs:=(begE 17 U C.text).cells) am.out.row);have ay:=zh0 ar am.out.row;have bm:Hid (Hid ((Wp.setRow (Wd.heap.size) (begE 17 U C.text).cells).cell? ⟨W1.heap.size,1,none⟩=some (.string C.text))):=J (J ((Yc _ _ 1 _ _ _ ((setRow_other _ _ _ _ ay).trans ar.out.row)).trans rfl));clear br ay;refine zfh 6 63 (.tmp 6) (.tmp 121) rfl (by kernel_rfl) (Wd.heap.size) 63 (begE 17 U C.text).cells _ rfl rfl am.out.row (by kernel_rfl) rfl (begE 17 U C.text).one bm ?_;refine wpAnyH_done (by kernel_rfl) ?_ _
          go_wp2
          go_meet
          case rel=>exact⟨_,rfl,a2.out,⟨am.out.hB,bn.out⟩⟩
        case rest=>
         obtain⟨b6,rfl,a7,bh⟩:=hcut;have bj:=J a7;have eL:=J bh;clear a7 bh cJ cF a5 aM;have dw:=J (eL.out.qk (z:=w.heap.size) (zaa bj.out.hZ));clear eL
         go_wp2_with fail
         refine(zah ⟨#[58,61]⟩ bj.out.hR).mono ?_;rintro e d2 ⟨rfl,bT,db⟩;obtain⟨gS,N⟩:∃ t,takT ts ⟨#[58,61]⟩ aw=t:=⟨_,rfl⟩;obtain⟨cO,hs⟩:∃ s2,takS ts ⟨#[58,61]⟩ aw=s2:=⟨_,rfl⟩;rw[show takT ts ⟨#[58,61]⟩ ⟨aw.p,aw.bad⟩=gS from N];have eZ:QdS T d2 g st cap ts cO:=hs ▸ db;have ij:Hid (LtQ aw cO):=J (hs ▸ zam _ _)
         try rw[N] at D
         try rw[hs] at D
         have cl:=J (dw.out.grow bj.out.gB bT);have bc:=J (bj.out.call bT eZ);clear N hs db eZ bT bj dw
         go_wp2_with fail
         rcases hk63:(dns ts n).row 1 cO with _|⟨v63,s63⟩
         ·exact absurd D (by rw[hk63];intro h;cases h)
         rw[hk63] at D
         try simp only[Option.bind_some] at D
         refine(((fun hk=>HE.out _ _ _ hk bc.out.hR) hk63)).mono ?_;rintro e h9 ⟨d6,rfl,ft,bs,fp⟩;have cR:=J ft;have jN:=cl.out.lt;have cM:=J (cl.out.grow bc.out.gB bs);have i3:=bs.size;have cA:=J (bc.out.call bs fp);have iI:=bc.out.size;clear hk63 ft bs fp bc cl;obtain⟨dk,dV,jx,dO,cU,c9,ga,gf⟩:=ze0 cA cM (v:=v63) (e:=d6) (S:=(fun j=>d2.heap.size<=j∧j<h9.heap.size)) cR.out (fun j M=>by have:=cM.out.lt;have:=cA.out.s0;exact⟨by omega,M.2,by omega,by omega⟩);have cv:=J c9;have dX:=J (cU);obtain⟨e0,e1,e2,e3,e4,e5,e6,e7,e8,e9⟩:=d6
         dsimp only[Qe.cells,paQ] at dk dV dO
         try unfold Qe.cells paQ
         clear cR cU c9 ga gf cA cM;obtain⟨fN,gH,fM,h5,g6,fx,g3,hO,gc,ia⟩:=row9 cv.out.row
         go_wp2_with fail
         clear dk dV dO fN gH fM h5 g6 fx g3 hO gc ia;obtain⟨il,iG,iR,hu,fh⟩:=zbf dX cv;injection hu with u1 u2 u3;subst u1 u2 u3;refine fh.mono ?_;rintro e ic ⟨iA,rfl,gL,fn,ew⟩;have ed:=J ew;have gs:=J (fn);clear fh gL fn ew dX cv;obtain⟨jU,j5,fg,eX⟩:=zbb gs (v:=(⟨17,C.text,0,U.pos,U.pos,behI ts s63.p,U.pos,[v63.pt]⟩:Qv)) ⟨ed.out.is.keep (fun j M=>⟨M.1,M.2.1⟩) fun _ _=>rfl,ed.out.bg⟩;have HP:=J eX;have Z:=J fg;clear eX fg
         go_wp2
         have Y:=Yl D;exact zao Tryz.results129 rfl Z (Y ▸ HP.out)
     ·skip
      replace D:=J (if_t D (by first|rfl|trivial))
      clear bA;have hX:=D.out;unfold resD at hX
      dsimp only[tak] at hX
      replace D:=J hX
      clear hX
      go_wp2_with fail
      refine(zah ⟨#[114,101,116,117,114,110]⟩ aN.out.hR).mono ?_;rintro e ec ⟨rfl,eT,eS⟩;obtain⟨aj,N⟩:∃ t,takT ts ⟨#[114,101,116,117,114,110]⟩ s=t:=⟨_,rfl⟩;obtain⟨aD,hs⟩:∃ s2,takS ts ⟨#[114,101,116,117,114,110]⟩ s=s2:=⟨_,rfl⟩;rw[show takT ts ⟨#[114,101,116,117,114,110]⟩ ⟨s.p,s.bad⟩=aj from N];have eV:QdS T ec g st cap ts aD:=hs ▸ eS;have jS:Hid (LtQ s aD):=J (hs ▸ zam _ _)
      try rw[N] at D
      try rw[hs] at D
      have fu:=J (aN.out.call eT eV);clear N hs eS eV eT aN
      go_wp2_with fail
      refine(zau 16 aj ⟨#[]⟩ ec).mono ?_;rintro e jn ⟨rfl,ep⟩;have cn:=J (fu.out.low ep);clear ep fu;obtain⟨jI,hI,dL,eB,fc⟩:=zdp (z:=w.heap.size) cn.out (zaa cn.out.hZ) 16 aj ⟨#[]⟩;have dA:=J fc;have jC:=dL.size;have bE:=J (eB);clear dL eB fc cn
      go_wp2_with fail
      clear hI;refine(zbk bE.out.hR).mono ?_;rintro e jF ⟨rfl,cQ⟩;obtain⟨dv,N⟩:∃ t,nxQ ts aD.p=t:=⟨_,rfl⟩;rw[N];have jZ:=J N;have j4:=J (N ▸ bE.out.hR.sz)
      try rw[N] at D
      have a1:=J (dA.out.below cQ);have bk:=J (bE.out.low cQ);clear N cQ bE dA;have dz:∀ (a b c:Value) (W:World),(Instr.field 38 (.agg #[a,b,c]) 0).run Tryz.prog W=.ok a W:=fun _ _ _ _=>rfl
      try unfold Tok.cells
      obtain⟨kb,ax⟩:∃ b,(dv.kind != 5)=b:=⟨_,rfl⟩;have cZ:(!(dv.kind == 5))=kb:=ax;rw[ax] at D
      cases kb
      ·skip
       replace D:=J (if_f D (fun h=>by cases h))
       obtain⟨gT,gC,fF,hg,fH,fV,gi,gh,hN,fI⟩:=row9 a1.out.row
       go_wp2_with fail
       clear ax cZ dz gT gC fF hg fH fV gi gh hN fI;obtain⟨jJ,j0,jz,fB,ea⟩:=zbf bk a1;injection fB with u1 u2 u3;subst u1 u2 u3;refine ea.mono ?_;rintro e iS ⟨ik,rfl,h4,dt,eE⟩;have dF:=J eE;have fC:=J (dt);clear ea h4 dt eE bk a1;obtain⟨jV,jf,en,fr⟩:=zbb fC (v:=(⟨16,⟨#[]⟩,0,aj.pos,aj.pos,behI ts aD.p,aj.pos,[]⟩:Qv)) ⟨dF.out.is.keep (fun j M=>⟨M.1,M.2.1⟩) fun _ _=>rfl,dF.out.bg⟩;have HP:=J fr;have Z:=J en;clear fr en
       go_wp2
       have Y:=Yl D;exact zao Tryz.results129 rfl Z (Y ▸ HP.out)
      ·skip
       go_wp2_with fail
       clear ax cZ dz;refine(zas ⟨#[125]⟩ bk.out.hR).mono ?_;rintro e hn ⟨rfl,cI⟩;obtain⟨hY,K⟩:∃ b,isQ ts aD.p ⟨#[125]⟩=b:=⟨_,rfl⟩;rw[K];have aL:=J K
       try rw[K] at D
       have aT:=J (a1.out.below cI);have az:=J (bk.out.low cI);clear K cI bk a1
       cases hY
       ·skip
        replace D:=J (if_t D (by first|rfl|trivial))
        go_wp2_with fail
        rcases hk93:(dns ts n).row 1 aD with _|⟨v93,s93⟩
        ·exact absurd D (by rw[hk93];intro h;cases h)
        rw[hk93] at D
        try simp only[Option.bind_some] at D
        refine(((fun hk=>HE.out _ _ _ hk az.out.hR) hk93)).mono ?_;rintro e f9 ⟨eW,rfl,de,bq,eo⟩;have d5:=J de;have j6:=aT.out.lt;have cd:=J (aT.out.grow az.out.gB bq);have iO:=bq.size;have bW:=J (az.out.call bq eo);have ip:=az.out.size;clear hk93 de bq eo az aT;obtain⟨fe,dq,jw,c4,da,fj,gP,hH⟩:=ze0 bW cd (v:=v93) (e:=eW) (S:=(fun j=>hn.heap.size<=j∧j<f9.heap.size)) d5.out (fun j M=>by have:=cd.out.lt;have:=bW.out.s0;exact⟨by omega,M.2,by omega,by omega⟩);have b3:=J fj;have d0:=J (da);obtain⟨e0,e1,e2,e3,e4,e5,e6,e7,e8,e9⟩:=eW
        dsimp only[Qe.cells,paQ] at fe dq c4
        try unfold Qe.cells paQ
        clear d5 da fj gP hH bW cd;obtain⟨gm,fW,hT,gD,he,hm,fy,h8,f1,gz⟩:=row9 b3.out.row
        go_wp2_with fail
        clear fe dq c4 gm fW hT gD he hm fy h8 f1 gz;obtain⟨ib,jk,jO,hZ,ff⟩:=zbf d0 b3;injection hZ with u1 u2 u3;subst u1 u2 u3;refine ff.mono ?_;rintro e jg ⟨jG,rfl,gA,c6,d9⟩;have d4:=J d9;have gV:=J (c6);clear ff gA c6 d9 d0 b3;obtain⟨i2,iE,ej,dy⟩:=zbb gV (v:=(⟨16,⟨#[]⟩,0,aj.pos,aj.pos,behI ts s93.p,aj.pos,[v93.pt]⟩:Qv)) ⟨d4.out.is.keep (fun j M=>⟨M.1,M.2.1⟩) fun _ _=>rfl,d4.out.bg⟩;have HP:=J dy;have Z:=J ej;clear dy ej
        go_wp2
        have Y:=Yl D;exact zao Tryz.results129 rfl Z (Y ▸ HP.out)
       ·skip
        replace D:=J (if_f D (fun h=>by cases h))
        obtain⟨gg,gN,hb,hK,fT,hP,fO,gG,fS,gJ⟩:=row9 aT.out.row
        go_wp2_with fail
        clear gg gN hb hK fT hP fO gG fS gJ;obtain⟨id,iY,i0,ho,ez⟩:=zbf az aT;injection ho with u1 u2 u3;subst u1 u2 u3;refine ez.mono ?_;rintro e iT ⟨iK,rfl,gR,c3,eQ⟩;have ek:=J eQ;have fL:=J (c3);clear ez gR c3 eQ az aT;obtain⟨jW,iZ,du,dg⟩:=zbb fL (v:=(⟨16,⟨#[]⟩,0,aj.pos,aj.pos,behI ts aD.p,aj.pos,[]⟩:Qv)) ⟨ek.out.is.keep (fun j M=>⟨M.1,M.2.1⟩) fun _ _=>rfl,ek.out.bg⟩;have HP:=J dg;have Z:=J du;clear dg du
        go_wp2
        have Y:=Yl D;exact zao Tryz.results129 rfl Z (Y ▸ HP.out)
    ·skip
     replace D:=J (if_t D (by first|rfl|trivial))
     clear co;have hX:=D.out;unfold looD at hX
     dsimp only[tak] at hX
     replace D:=J hX
     clear hX
     go_wp2_with fail
     refine(zah ⟨#[102,111,114]⟩ aP.out.hR).mono ?_;rintro e dM ⟨rfl,dS,dR⟩;obtain⟨ae,N⟩:∃ t,takT ts ⟨#[102,111,114]⟩ s=t:=⟨_,rfl⟩;obtain⟨bu,hs⟩:∃ s2,takS ts ⟨#[102,111,114]⟩ s=s2:=⟨_,rfl⟩;rw[show takT ts ⟨#[102,111,114]⟩ ⟨s.p,s.bad⟩=ae from N];have ee:QdS T dM g st cap ts bu:=hs ▸ dR;have ir:Hid (LtQ s bu):=J (hs ▸ zam _ _)
     try rw[N] at D
     try rw[hs] at D
     have dN:=J (aP.out.call dS ee);clear N hs dR ee dS aP
     go_wp2_with fail
     refine(zau 15 ae ⟨#[]⟩ dM).mono ?_;rintro e ac ⟨rfl,eN⟩;have cH:=J (dN.out.low eN);clear eN dN;obtain⟨aJ,hw,eU,eD,el⟩:=zdp (z:=w.heap.size) cH.out (zaa cH.out.hZ) 15 ae ⟨#[]⟩;have dC:=J el;have iB:=eU.size;have bP:=J (eD);clear eU eD el cH
     go_wp2_with (fail)
     clear hw;rcases hk117:(dns ts n).row 1 bu with _|⟨v117,s117⟩
     ·exact absurd D (by rw[hk117];intro h;cases h)
     rw[hk117] at D;simp only[Option.bind_some] at D;have be:=J bP;have bN:Below aJ.heap.size aJ aJ.drew:=(Yb _ _).drew;have aZ:=J (bP.out.low bN);have bt:=J (dC.out.below bN);have bY:=J (fun (h:QdS T aJ.drew g st cap ts bu)=>(fun hk=>HE.out aJ.drew _ _ hk h) hk117);clear hk117 bN bP dC;have g2:aJ.drew.cell? ⟨ac.heap.size,8,none⟩=some (.slice none 0 0):=Yp 8 bt.out.row rfl;apply zb8 (fun y0 y1 y2 y3 y4 y5 y6 y7 y8 y9 Wy sp sn sc V=>Fr T w W0 V g st cap ts s117∧Qk W0.heap.size (w.heap.size) V (ac.heap.size) 15 ⟨#[]⟩ 0 ae.pos ae.pos 0 ae.pos (.slice sp sn sc) ([]++[v117.pt])∧aJ.drew.grownBy Wy (some g)∧((w.heap.size)≠ac.heap.size->V.heap[w.heap.size]?=Wy.heap[w.heap.size]?)∧Wy.heap.size<=V.heap.size)
     rotate_left
     ·intro hc;refine zbc (S:=fun _=>Hid True) 8 rfl (by kernel_rfl) ?_;refine zal 0 27 (.pointer (some ⟨ac.heap.size,8,none⟩)) rfl (by kernel_rfl) (fun _ _ _ h=>h) (fun w' _=>by first|rfl|(go_simp;done) | (go_simp;rw[Yi];omega)) (J trivial) ?_;simp only[sI,sS,sZ];refine zal 2 29 (.pointer (some ⟨g,0,none⟩)) rfl (by kernel_rfl) (fun _ _ _ h=>h) (fun w' _=>by first|rfl|(go_simp;done) | (go_simp;rw[Yi];omega)) (J trivial) ?_;simp only[sI,sS,sZ];refine wpAnyH_all (rs:=[1,3]) (by kernel_rfl) (by simp) fun i K=>?_;simp only[List.mem_cons,List.not_mem_nil,or_false] at K;rcases K with rfl|rfl
      ·skip
       refine zan rfl rfl ?_
       go_simp
       refine⟨J trivial,?_⟩;refine zac 3 rfl (by kernel_rfl) ?_
       go_simp
       refine(bY aZ.out.hR).mono ?_;rintro e bG ⟨⟨y0,y1,y2,y3,y4,y5,y6,y7,y8,y9⟩,rfl,q117,g117,r117⟩;obtain⟨bO,bH,v2,w1,V,X,ce,cf,cw,bi,aC,a3,aa⟩:=zb3 aZ bt (by simp) g117 r117 q117;obtain⟨an,ao,ak,ap⟩:=aC.sl;subst ap;have ab:=J (hc y0 y1 y2 y3 y4 y5 y6 y7 y8 y9 bG an ao ak V ⟨bi,aC,g117,a3,aa⟩)
       dsimp only[Qe.cells,paQ] at bO bH X ce cf cw
       unfold Qe.cells paQ;clear bi aC a3 q117 g117 r117 aa;refine⟨J trivial,?_⟩;refine zac 4 rfl (by kernel_rfl) ?_
       go_simp
       refine⟨J trivial,?_⟩;refine zac 5 rfl (by kernel_rfl) ?_;refine zaf (.tmp 28) (.tmp 31) 61 rfl rfl rfl X ?_;refine⟨J trivial,?_⟩;simp only[Act.put,sI,sS,sZ];refine zal 6 33 (.pointer (some ⟨ac.heap.size,8,none⟩)) rfl (by kernel_rfl) (fun _ _ _ h=>h) (fun w' _=>by first|rfl|(go_simp;done) | (go_simp;rw[Yi];omega)) (J trivial) ?_;simp only[sI,sS,sZ];refine zac 7 rfl (by kernel_rfl) ?_
       go_simp
       refine⟨J trivial,?_⟩;refine wpAnyH_done (by kernel_rfl) ?_ _;exact ab
      ·skip
       refine zan rfl rfl ?_
       go_simp
       refine(bY aZ.out.hR).mono ?_;rintro e bG ⟨⟨y0,y1,y2,y3,y4,y5,y6,y7,y8,y9⟩,rfl,q117,g117,r117⟩;obtain⟨bO,bH,v2,w1,V,X,ce,cf,cw,bi,aC,a3,aa⟩:=zb3 aZ bt (by simp) g117 r117 q117;obtain⟨an,ao,ak,ap⟩:=aC.sl;subst ap;have ab:=J (hc y0 y1 y2 y3 y4 y5 y6 y7 y8 y9 bG an ao ak V ⟨bi,aC,g117,a3,aa⟩)
       dsimp only[Qe.cells,paQ] at bO bH X ce cf cw
       unfold Qe.cells paQ;clear bi aC a3 q117 g117 r117 aa;refine⟨J trivial,?_⟩;refine wpAnyH_all (rs:=[1,4]) (by kernel_rfl) (by simp) fun i K=>?_;simp only[List.mem_cons,List.not_mem_nil,or_false] at K;rcases K with rfl|rfl
       ·skip
        refine zan rfl rfl ?_
        go_simp
        refine⟨J trivial,?_⟩;refine zac 4 rfl (by kernel_rfl) ?_
        go_simp
        refine⟨J trivial,?_⟩;refine zac 5 rfl (by kernel_rfl) ?_;refine zaf (.tmp 28) (.tmp 31) 61 rfl rfl rfl X ?_;refine⟨J trivial,?_⟩;simp only[Act.put,sI,sS,sZ];refine zal 6 33 (.pointer (some ⟨ac.heap.size,8,none⟩)) rfl (by kernel_rfl) (fun _ _ _ h=>h) (fun w' _=>by first|rfl|(go_simp;done) | (go_simp;rw[Yi];omega)) (J trivial) ?_;simp only[sI,sS,sZ];refine zac 7 rfl (by kernel_rfl) ?_
        go_simp
        refine⟨J trivial,?_⟩;refine wpAnyH_done (by kernel_rfl) ?_ _;exact ab
       ·skip
        refine zan rfl rfl ?_
        go_simp
        refine⟨J trivial,?_⟩;refine zac 1 rfl (by kernel_rfl) ?_
        go_simp
        refine⟨J trivial,?_⟩;refine zac 5 rfl (by kernel_rfl) ?_;refine zaf (.tmp 28) (.tmp 31) 61 rfl rfl rfl X ?_;refine⟨J trivial,?_⟩;simp only[Act.put,sI,sS,sZ];refine zal 6 33 (.pointer (some ⟨ac.heap.size,8,none⟩)) rfl (by kernel_rfl) (fun _ _ _ h=>h) (fun w' _=>by first|rfl|(go_simp;done) | (go_simp;rw[Yi];omega)) (J trivial) ?_;simp only[sI,sS,sZ];refine zac 7 rfl (by kernel_rfl) ?_
        go_simp
        refine⟨J trivial,?_⟩;refine wpAnyH_done (by kernel_rfl) ?_ _;exact ab
     intro y0 y1 y2 y3 y4 y5 y6 y7 y8 y9 bG f6 fG f7 aI gK;obtain⟨fl,ex,dT,dp,jD⟩:=gK;have cV:=J ex;have i4:=J dT;have jt:=J dp;have cC:=J (fl);clear fl ex dT dp aZ bt g2 bY be
     go_wp2_with (fail)
     rcases hk120:bloD ts (dns ts n) s117 with _|⟨v120,s120⟩
     ·exact absurd D (by rw[hk120];intro h;cases h)
     rw[hk120] at D;simp only[Option.bind_some] at D;have be:=J cC;have bS:Below aI.heap.size aI aI.drew:=(Yb _ _).drew;have aV:=J (cC.out.low bS);have bw:=J (cV.out.below bS);have cG:=J (fun (h:QdS T aI.drew g st cap ts s117)=>(fun hk=>HB.out aI.drew _ _ hk h) hk120);clear hk120 bS cC cV;have gu:aI.drew.cell? ⟨ac.heap.size,8,none⟩=some (.slice f6 fG f7):=Yp 8 bw.out.row rfl;apply zb8 (fun y0 y1 y2 y3 y4 y5 y6 y7 y8 y9 Wy sp sn sc V=>Fr T w W0 V g st cap ts s120∧Qk W0.heap.size (w.heap.size) V (ac.heap.size) 15 ⟨#[]⟩ 0 ae.pos ae.pos 0 ae.pos (.slice sp sn sc) (([]++[v117.pt])++[v120.pt])∧aI.drew.grownBy Wy (some g)∧((w.heap.size)≠ac.heap.size->V.heap[w.heap.size]?=Wy.heap[w.heap.size]?)∧Wy.heap.size<=V.heap.size)
     rotate_left
     ·intro hc;refine zbc (S:=fun _=>Hid True) 8 rfl (by kernel_rfl) ?_;refine zal 0 34 (.pointer (some ⟨ac.heap.size,8,none⟩)) rfl (by kernel_rfl) (fun _ _ _ h=>h) (fun w' _=>by first|rfl|(go_simp;done) | (go_simp;rw[Yi];omega)) (J trivial) ?_;simp only[sI,sS,sZ];refine zal 2 36 (.pointer (some ⟨g,0,none⟩)) rfl (by kernel_rfl) (fun _ _ _ h=>h) (fun w' _=>by first|rfl|(go_simp;done) | (go_simp;rw[Yi];omega)) (J trivial) ?_;simp only[sI,sS,sZ];refine wpAnyH_all (rs:=[1,3]) (by kernel_rfl) (by simp) fun i K=>?_;simp only[List.mem_cons,List.not_mem_nil,or_false] at K;rcases K with rfl|rfl
      ·skip
       refine zan rfl rfl ?_
       go_simp
       refine⟨J trivial,?_⟩;refine zac 3 rfl (by kernel_rfl) ?_
       go_simp
       refine(cG aV.out.hR).mono ?_;rintro e bB ⟨⟨y0,y1,y2,y3,y4,y5,y6,y7,y8,y9⟩,rfl,q120,g120,r120⟩;obtain⟨cb,bJ,v2,w1,V,X,ce,cf,cw,bf,aE,aW,aa⟩:=zb3 aV bw (by simp) g120 r120 q120;obtain⟨an,ao,ak,ap⟩:=aE.sl;subst ap;have ab:=J (hc y0 y1 y2 y3 y4 y5 y6 y7 y8 y9 bB an ao ak V ⟨bf,aE,g120,aW,aa⟩)
       dsimp only[Qe.cells,paQ] at cb bJ X ce cf cw
       unfold Qe.cells paQ;clear bf aE aW q120 g120 r120 aa;refine⟨J trivial,?_⟩;refine zac 4 rfl (by kernel_rfl) ?_
       go_simp
       refine⟨J trivial,?_⟩;refine zac 5 rfl (by kernel_rfl) ?_;refine zaf (.tmp 35) (.tmp 38) 61 rfl rfl rfl X ?_;refine⟨J trivial,?_⟩;simp only[Act.put,sI,sS,sZ];refine zal 6 40 (.pointer (some ⟨ac.heap.size,8,none⟩)) rfl (by kernel_rfl) (fun _ _ _ h=>h) (fun w' _=>by first|rfl|(go_simp;done) | (go_simp;rw[Yi];omega)) (J trivial) ?_;simp only[sI,sS,sZ];refine zac 7 rfl (by kernel_rfl) ?_
       go_simp
       refine⟨J trivial,?_⟩;refine wpAnyH_done (by kernel_rfl) ?_ _;exact ab
      ·skip
       refine zan rfl rfl ?_
       go_simp
       refine(cG aV.out.hR).mono ?_;rintro e bB ⟨⟨y0,y1,y2,y3,y4,y5,y6,y7,y8,y9⟩,rfl,q120,g120,r120⟩;obtain⟨cb,bJ,v2,w1,V,X,ce,cf,cw,bf,aE,aW,aa⟩:=zb3 aV bw (by simp) g120 r120 q120;obtain⟨an,ao,ak,ap⟩:=aE.sl;subst ap;have ab:=J (hc y0 y1 y2 y3 y4 y5 y6 y7 y8 y9 bB an ao ak V ⟨bf,aE,g120,aW,aa⟩)
       dsimp only[Qe.cells,paQ] at cb bJ X ce cf cw
       unfold Qe.cells paQ;clear bf aE aW q120 g120 r120 aa;refine⟨J trivial,?_⟩;refine wpAnyH_all (rs:=[1,4]) (by kernel_rfl) (by simp) fun i K=>?_;simp only[List.mem_cons,List.not_mem_nil,or_false] at K;rcases K with rfl|rfl
       ·skip
        refine zan rfl rfl ?_
        go_simp
        refine⟨J trivial,?_⟩;refine zac 4 rfl (by kernel_rfl) ?_
        go_simp
        refine⟨J trivial,?_⟩;refine zac 5 rfl (by kernel_rfl) ?_;refine zaf (.tmp 35) (.tmp 38) 61 rfl rfl rfl X ?_;refine⟨J trivial,?_⟩;simp only[Act.put,sI,sS,sZ];refine zal 6 40 (.pointer (some ⟨ac.heap.size,8,none⟩)) rfl (by kernel_rfl) (fun _ _ _ h=>h) (fun w' _=>by first|rfl|(go_simp;done) | (go_simp;rw[Yi];omega)) (J trivial) ?_;simp only[sI,sS,sZ];refine zac 7 rfl (by kernel_rfl) ?_
        go_simp
        refine⟨J trivial,?_⟩;refine wpAnyH_done (by kernel_rfl) ?_ _;exact ab
       ·skip
        refine zan rfl rfl ?_
        go_simp
        refine⟨J trivial,?_⟩;refine zac 1 rfl (by kernel_rfl) ?_
        go_simp
        refine⟨J trivial,?_⟩;refine zac 5 rfl (by kernel_rfl) ?_;refine zaf (.tmp 35) (.tmp 38) 61 rfl rfl rfl X ?_;refine⟨J trivial,?_⟩;simp only[Act.put,sI,sS,sZ];refine zal 6 40 (.pointer (some ⟨ac.heap.size,8,none⟩)) rfl (by kernel_rfl) (fun _ _ _ h=>h) (fun w' _=>by first|rfl|(go_simp;done) | (go_simp;rw[Yi];omega)) (J trivial) ?_;simp only[sI,sS,sZ];refine zac 7 rfl (by kernel_rfl) ?_
        go_simp
        refine⟨J trivial,?_⟩;refine wpAnyH_done (by kernel_rfl) ?_ _;exact ab
     intro y0 y1 y2 y3 y4 y5 y6 y7 y8 y9 bB jq jj jP j1 f3;obtain⟨eC,dE,ds,dd,io⟩:=f3;have cq:=J dE;have i8:=J ds;have i6:=J dd;have dr:=J (eC);clear eC dE ds dd aV bw gu cG be;obtain⟨h7,fJ,hS,hQ,gI,hG,hy,gZ,gj,f2⟩:=row9 cq.out.row
     go_wp2_with fail
     clear h7 fJ hS hQ gI hG hy gZ gj f2;obtain⟨jY,jM,jb,fY,dl⟩:=zbf dr cq;injection fY with u1 u2 u3;subst u1 u2 u3;refine dl.mono ?_;rintro e jE ⟨iL,rfl,g0,dn,dU⟩;have eP:=J dU;have hU:=J (dn);clear dl g0 dn dU dr cq;obtain⟨jX,iN,fb,ev⟩:=zbb hU (v:=(⟨15,⟨#[]⟩,0,ae.pos,ae.pos,behI ts s120.p,ae.pos,(([]++[v117.pt])++[v120.pt])⟩:Qv)) ⟨eP.out.is.keep (fun j M=>⟨M.1,M.2.1⟩) fun _ _=>rfl,eP.out.bg⟩;have HP:=J ev;have Z:=J fb;clear ev fb
     go_wp2
     have Y:=Yl D;exact zao Tryz.results129 rfl Z (Y ▸ HP.out)
   ·skip
    replace D:=J (if_t D (by first|rfl|trivial))
    clear bV
    go_wp2_with fail
    rcases hk128:(dns ts n).bran s with _|⟨v128,s128⟩
    ·exact absurd D (by rw[hk128];intro h;cases h)
    rw[hk128] at D
    try simp only[Option.bind_some] at D
    refine(((fun hk=>HC.out _ _ _ hk aG.out.hR) hk128)).mono ?_;rintro e ie ⟨ix,rfl,dW,bX,fq⟩;have eI:=J dW;have ii:=bX.size;have gn:=J (aG.out.call bX fq);have jh:=aG.out.size;clear hk128 dW bX fq aG;obtain⟨iy,iU,fk,dG⟩:=zbb gn (v:=v128) ⟨eI.out.is.keep (fun j M=>⟨by omega,M.2⟩) fun _ _=>rfl,eI.out.bg⟩;have HP:=J dG;have Z:=J fk;clear dG fk
    go_wp2
    have Y:=Yl D;exact zao Tryz.results129 rfl Z (Y ▸ HP.out)
  ·skip
   replace D:=J (if_t D (by first|rfl|trivial))
   clear bL
   go_wp2_with fail
   rcases hk132:varD ts (dns ts n) s with _|⟨v132,s132⟩
   ·exact absurd D (by rw[hk132];intro h;cases h)
   rw[hk132] at D
   try simp only[Option.bind_some] at D
   refine(((fun hk=>zgk HE aF.out.hR hk) hk132)).mono ?_;rintro e jQ ⟨j3,rfl,fa,bK,es⟩;have eA:=J fa;have jL:=bK.size;have hL:=J (aF.out.call bK es);have iF:=aF.out.size;clear hk132 fa bK es aF;obtain⟨ju,jB,cT,c5⟩:=zbb hL (v:=v132) ⟨eA.out.is.keep (fun j M=>⟨by omega,M.2⟩) fun _ _=>rfl,eA.out.bg⟩;have HP:=J c5;have Z:=J cT;clear c5 cT
   go_wp2
   have Y:=Yl D;exact zao Tryz.results129 rfl Z (Y ▸ HP.out)
 ·skip
  replace D:=J (if_t D (by first|rfl|trivial))
  clear cx
  go_wp2_with fail
  rcases hk136:bloD ts (dns ts n) s with _|⟨v136,s136⟩
  ·exact absurd D (by rw[hk136];intro h;cases h)
  rw[hk136] at D
  try simp only[Option.bind_some] at D
  refine(((fun hk=>HB.out _ _ _ hk aA.out.hR) hk136)).mono ?_;rintro e im ⟨iH,rfl,d3,cN,fi⟩;have ef:=J d3;have j2:=cN.size;have gM:=J (aA.out.call cN fi);have jl:=aA.out.size;clear hk136 d3 cN fi aA;obtain⟨iQ,jd,eg,cS⟩:=zbb gM (v:=v136) ⟨ef.out.is.keep (fun j M=>⟨by omega,M.2⟩) fun _ _=>rfl,ef.out.bg⟩;have HP:=J cS;have Z:=J eg;clear cS eg
  go_wp2
  have Y:=Yl D;exact zao Tryz.results129 rfl Z (Y ▸ HP.out)
end
end Go.Proofs.YtmclgbkijeidaaaGreatDoor
