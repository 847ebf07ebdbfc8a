import Derived.Test.YtmclgbkijeidaaaGreatDoorUoc
import Derived.Deep.DeepCutAuto
import Derived.Deep.Cut
import Derived.Deep.CutRange
import Derived.Deep.CutBlock
namespace Go.Proofs.YtmclgbkijeidaaaGreatDoor
set_option maxRecDepth 100000
set_option maxHeartbeats 4000000
open Go.RowKit
section
variable {T:Nat}{w W0 W W':World}{g:Nat}{st:Option Addr}{cap:Nat}{ts:List Tok}{s s':Qs}
abbrev FuQ (T:Nat) (g:Nat) (st:Option Addr) (cap:Nat) (ts:List Tok) (m:Nat):Prop:=∀ (w:World) s r,funD ts (dns ts m) s=some r->QdS T w g st cap ts s->Calls Tryz.prog 72 #[.pointer (some ⟨g,0,none⟩)] w (QoP T w g st cap ts r)
abbrev DeQ (T:Nat) (g:Nat) (st:Option Addr) (cap:Nat) (ts:List Tok) (m:Nat):Prop:=∀ (w:World) s r,decD ts (dns ts m) s=some r->QdS T w g st cap ts s->Calls Tryz.prog 50 #[.pointer (some ⟨g,0,none⟩)] w (QoP T w g st cap ts r)
theorem zra {n:Nat}{r:Qv × Qs}(hE:ExQ T g st cap ts (dns ts n))(hU:FuQ T g st cap ts n)(hR:QdS T w g st cap ts s)(hX:decD ts (dns ts n) s=some r):Calls Tryz.prog 50 #[.pointer (some ⟨g,0,none⟩)] w (QoP T w g st cap ts r):=by
 have HF:=J (zcu hR);have eI:=hR.few;have d4:=hR.le;clear hR;have HE:=J hE;have HU:=J hU;clear hE hU;unfold decD at hX
 skip
 have y:=J hX;clear hX
 go_enter Tryz.func50,Tryz.ntmps50
 go_wp2_with fail
 refine zag (fun W=>Fr T w W W g st cap ts s) HF.out ?_;intro W0 hF;clear HF;have HF:=J hF;clear hF;refine(zas ⟨#[99,111,110,115,116]⟩ HF.out.hR).mono ?_;rintro e W1 ⟨rfl,b1⟩;obtain⟨i1,A⟩:∃ b,isQ ts s.p ⟨#[99,111,110,115,116]⟩=b:=⟨_,rfl⟩;rw[A];have az:=J A
 try rw[A] at y
 have ag:=J (HF.out.low b1);clear A b1 HF
 cases i1
 ·skip
  replace y:=J (if_f y (fun h=>by cases h))
  go_wp2_with fail
  refine(zas ⟨#[118,97,114]⟩ ag.out.hR).mono ?_;rintro e W4 ⟨rfl,b4⟩;obtain⟨i4,A⟩:∃ b,isQ ts s.p ⟨#[118,97,114]⟩=b:=⟨_,rfl⟩;rw[A];have az:=J A
  try rw[A] at y
  have Z:=J (ag.out.low b4);clear A b4 ag
  cases i4
  ·skip
   replace y:=J (if_f y (fun h=>by cases h))
   go_wp2_with fail
   refine(zas ⟨#[116,121,112,101]⟩ Z.out.hR).mono ?_;rintro e W7 ⟨rfl,b7⟩;obtain⟨i7,A⟩:∃ b,isQ ts s.p ⟨#[116,121,112,101]⟩=b:=⟨_,rfl⟩;rw[A];have az:=J A
   try rw[A] at y
   have ac:=J (Z.out.low b7);clear A b7 Z
   cases i7
   ·skip
    replace y:=J (if_f y (fun h=>by cases h))
    go_wp2_with fail
    rcases hk10:funD ts (dns ts n) s with _|⟨v10,s10⟩
    ·exact absurd y (by rw[hk10];intro h;cases h)
    rw[hk10] at y
    try simp only[Option.bind_some] at y
    refine(((fun hk=>HU.out _ _ _ hk ac.out.hR) hk10)).mono ?_;rintro e eu ⟨ey,rfl,bT,a8,bo⟩;have cl:=J bT;have ee:=a8.size;have da:=J (ac.out.call a8 bo);have et:=ac.out.size;clear hk10 bT a8 bo ac;obtain⟨eo,ew,bO,bt⟩:=zbb da (v:=v10) ⟨cl.out.is.keep (fun j F=>⟨by omega,F.2⟩) fun _ _=>rfl,cl.out.bg⟩;have N:=J bt;have M:=J bO;clear bt bO
    go_wp2
    have K:=Yl y;exact zao Tryz.results50 rfl M (K ▸ N.out)
   ·skip
    replace y:=J (if_t y (by first|rfl|trivial))
    have hX:=y.out;unfold strD at hX
    dsimp only[tak] at hX
    replace y:=J hX
    clear hX
    go_wp2_with fail
    refine(ze1 5 ⟨#[116,121,112,101]⟩ ac.out.hR).mono ?_;rintro e U ⟨rfl,bV,aV⟩;obtain⟨⟨D,ao⟩,hk14⟩:∃ r,worD ts 5 ⟨#[116,121,112,101]⟩ s=r:=⟨_,rfl⟩;rw[hk14] at y aV;rw[hk14]
    try dsimp only at y
    have cx:=J (ac.out.call bV aV);clear hk14 bV aV ac;obtain⟨cP,dQ,c5,cv,bH⟩:=zhz cx (⟨5,D.x,0,D.a,D.f,0,D.bg,none,0,0⟩:Qe);have cu:Hid (Tq W0 cP U.heap.size (⟨5,D.x,0,D.a,D.f,0,D.bg,none,0,0⟩:Qe)):=J bH;have al:=J (cv);clear c5 cv bH cx;have bM:=J (cu.out.qk (z:=w.heap.size) (zaa al.out.hZ));clear cu
    go_wp2_with fail
    clear dQ;refine(zah ⟨#[115,116,114,117,99,116]⟩ al.out.hR).mono ?_;rintro e c9 ⟨rfl,bb,bB⟩;obtain⟨cR,E⟩:∃ t,takT ts ⟨#[115,116,114,117,99,116]⟩ ao=t:=⟨_,rfl⟩;obtain⟨ab,C⟩:∃ s2,takS ts ⟨#[115,116,114,117,99,116]⟩ ao=s2:=⟨_,rfl⟩;rw[show takT ts ⟨#[115,116,114,117,99,116]⟩ ⟨ao.p,ao.bad⟩=cR from E];have bs:QdS T c9 g st cap ts ab:=C ▸ bB;have eK:Hid (LtQ ao ab):=J (C ▸ zam _ _)
    try rw[E] at y
    try rw[C] at y
    have cE:=J (bM.out.grow al.out.gB bb);have ar:=J (al.out.call bb bs);clear E C bB bs bb al bM
    go_wp2_with fail
    refine(zah ⟨#[123]⟩ ar.out.hR).mono ?_;rintro e cL ⟨rfl,aG,cd⟩;obtain⟨dz,E⟩:∃ t,takT ts ⟨#[123]⟩ ab=t:=⟨_,rfl⟩;obtain⟨bf,C⟩:∃ s2,takS ts ⟨#[123]⟩ ab=s2:=⟨_,rfl⟩;rw[show takT ts ⟨#[123]⟩ ⟨ab.p,ab.bad⟩=dz from E];have cp:QdS T cL g st cap ts bf:=C ▸ cd;have eH:Hid (LtQ ab bf):=J (C ▸ zam _ _)
    try rw[E] at y
    try rw[C] at y
    have br:=J (cE.out.grow ar.out.gB aG);have ch:=J (ar.out.call aG cp);clear E C cd cp aG ar cE
    go_wp2_with fail
    rcases hk27:(dns ts n).fieL [] bf with _|⟨lf,sf⟩
    ·exact absurd y (by rw[hk27];intro h;cases h)
    rw[hk27] at y;simp only[Option.bind_some] at y;have bL:=J hk27;have HO:=y;clear y hk27
    go_loopw [] (fun wr=>∃ (l:List Pt) (q:Qs) (v:Value) (m:Nat),Fr T w W0 wr g st cap ts q∧Qk W0.heap.size (w.heap.size) wr (U.heap.size) 5 D.x 0 D.a D.f 0 D.bg v l∧(dns ts m).fieL l q=some (lf,sf)∧m<=n∧Few l q) (fun wr=>muQ ts g wr)
    case atStart=>exact⟨_,_,_,_,ch.out,br.out,bL.out,Ya _,⟨Yk _,fun _=>Yk _⟩⟩
    case round=>
     obtain⟨l,q,v,m,hF,hQ,hm,ep,bk⟩:=hrel;have Y:=J hF;have aF:=J hQ;have ax:=J bk;have cj:=J (zdo hF.hR);have cc:q.p<=ts.length:=hF.hR.le;obtain⟨dG,cS,c6,hv⟩:=hQ.sl;subst hv;clear hF hQ bk ch br bL
     cases m with
     | zero=>cases hm
     | succ m=>
     rw[zqz] at hm;have y:=J hm;clear hm;obtain⟨cz,ay⟩:∃ b,q.bad=b:=⟨_,rfl⟩;have cr:wr.cell? ⟨g,2,none⟩=some (.bool cz):=ay ▸ Y.out.hR.c2;rw[ay] at y;have aA:=J ay;clear ay
     cases cz
     ·skip
      go_wp2_with fail
      clear cr;refine(zas ⟨#[125]⟩ Y.out.hR).mono ?_;rintro e ah ⟨rfl,aX⟩;obtain⟨dR,A⟩:∃ b,isQ ts q.p ⟨#[125]⟩=b:=⟨_,rfl⟩;rw[A];have az:=J A
      try rw[A] at y
      have aw:=J (aF.out.below aX);have af:=J (Y.out.low aX);clear A aX Y aF
      cases dR
      ·skip
       replace y:=J (if_t y (by first|rfl|trivial))
       have hX:=y.out
       try dsimp only[tak] at hX
       replace y:=J hX
       clear hX
       go_wp2_with (fail)
       obtain⟨⟨dN,X⟩,hk32⟩:∃ r,tydD ts 6 q=r:=⟨_,rfl⟩;rw[hk32] at y
       try dsimp only at y
       have aC:=J (show LtQ q X from by have h:=zmx (ts:=ts) 6 q;rw[hk32] at h;exact h);have aL:=J af;have a3:Below ah.heap.size ah ah.drew:=(Yb _ _).drew;have am:=J (af.out.low a3);have aB:=J (aw.out.below a3);have aE:=J (fun (h:QdS T ah.drew g st cap ts q)=>zi9 6 (fun w s=>zgf) h);rw[hk32] at aE;clear hk32 a3 af aw;have dt:ah.drew.cell? ⟨U.heap.size,8,none⟩=some (.slice dG cS c6):=Yp 8 aB.out.row rfl;apply zb8 (fun y0 y1 y2 y3 y4 y5 y6 y7 y8 y9 Wy sp sn sc V=>Fr T w W0 V g st cap ts X∧Qk W0.heap.size (w.heap.size) V (U.heap.size) 5 D.x 0 D.a D.f 0 D.bg (.slice sp sn sc) (l++[dN.pt])∧ah.drew.grownBy Wy (some g)∧((w.heap.size)≠U.heap.size->V.heap[w.heap.size]?=Wy.heap[w.heap.size]?)∧Wy.heap.size<=V.heap.size)
       rotate_left
       ·intro hc;refine zbc (S:=fun _=>Hid True) 8 rfl (by kernel_rfl) ?_;refine zal 0 40 (.pointer (some ⟨U.heap.size,8,none⟩)) rfl (by kernel_rfl) (fun _ _ _ h=>h) (fun w' _=>by first|rfl|(go_simp;done) | (go_simp;rw[Yi];omega)) (J trivial) ?_;simp only[sI,sS,sZ];refine zal 2 42 (.pointer (some ⟨g,0,none⟩)) rfl (by kernel_rfl) (fun _ _ _ h=>h) (fun w' _=>by first|rfl|(go_simp;done) | (go_simp;rw[Yi];omega)) (J trivial) ?_;simp only[sI,sS,sZ];refine wpAnyH_all (rs:=[1,3]) (by kernel_rfl) (by simp) fun i A=>?_;simp only[List.mem_cons,List.not_mem_nil,or_false] at A;rcases A with rfl|rfl
        ·skip
         refine zan rfl rfl ?_
         go_simp
         refine⟨J trivial,?_⟩;refine zac 3 rfl (by kernel_rfl) ?_
         go_simp
         refine(aE am.out.hR).mono ?_;rintro e aD ⟨⟨y0,y1,y2,y3,y4,y5,y6,y7,y8,y9⟩,rfl,q32,g32,r32⟩;obtain⟨a5,aW,v2,w1,V,ha,ce,cf,cw,ai,aa,ap,an⟩:=zb3 am aB ((Yo (ax.out.lt aL.out.hR) (by omega))) g32 r32 q32;obtain⟨bh,aU,a1,a9⟩:=aa.sl;subst a9;have av:=J (hc y0 y1 y2 y3 y4 y5 y6 y7 y8 y9 aD bh aU a1 V ⟨ai,aa,g32,ap,an⟩)
         dsimp only[Qe.cells,paQ] at a5 aW ha ce cf cw
         unfold Qe.cells paQ;clear ai aa ap q32 g32 r32 an;refine⟨J trivial,?_⟩;refine zac 4 rfl (by kernel_rfl) ?_
         go_simp
         refine⟨J trivial,?_⟩;refine zac 5 rfl (by kernel_rfl) ?_;refine zaf (.tmp 41) (.tmp 44) 61 rfl rfl rfl ha ?_;refine⟨J trivial,?_⟩;simp only[Act.put,sI,sS,sZ];refine zal 6 46 (.pointer (some ⟨U.heap.size,8,none⟩)) rfl (by kernel_rfl) (fun _ _ _ h=>h) (fun w' _=>by first|rfl|(go_simp;done) | (go_simp;rw[Yi];omega)) (J trivial) ?_;simp only[sI,sS,sZ];refine zac 7 rfl (by kernel_rfl) ?_
         go_simp
         refine⟨J trivial,?_⟩;refine wpAnyH_done (by kernel_rfl) ?_ _;exact av
        ·skip
         refine zan rfl rfl ?_
         go_simp
         refine(aE am.out.hR).mono ?_;rintro e aD ⟨⟨y0,y1,y2,y3,y4,y5,y6,y7,y8,y9⟩,rfl,q32,g32,r32⟩;obtain⟨a5,aW,v2,w1,V,ha,ce,cf,cw,ai,aa,ap,an⟩:=zb3 am aB ((Yo (ax.out.lt aL.out.hR) (by omega))) g32 r32 q32;obtain⟨bh,aU,a1,a9⟩:=aa.sl;subst a9;have av:=J (hc y0 y1 y2 y3 y4 y5 y6 y7 y8 y9 aD bh aU a1 V ⟨ai,aa,g32,ap,an⟩)
         dsimp only[Qe.cells,paQ] at a5 aW ha ce cf cw
         unfold Qe.cells paQ;clear ai aa ap q32 g32 r32 an;refine⟨J trivial,?_⟩;refine wpAnyH_all (rs:=[1,4]) (by kernel_rfl) (by simp) fun i A=>?_;simp only[List.mem_cons,List.not_mem_nil,or_false] at A;rcases A with rfl|rfl
         ·skip
          refine zan rfl rfl ?_
          go_simp
          refine⟨J trivial,?_⟩;refine zac 4 rfl (by kernel_rfl) ?_
          go_simp
          refine⟨J trivial,?_⟩;refine zac 5 rfl (by kernel_rfl) ?_;refine zaf (.tmp 41) (.tmp 44) 61 rfl rfl rfl ha ?_;refine⟨J trivial,?_⟩;simp only[Act.put,sI,sS,sZ];refine zal 6 46 (.pointer (some ⟨U.heap.size,8,none⟩)) rfl (by kernel_rfl) (fun _ _ _ h=>h) (fun w' _=>by first|rfl|(go_simp;done) | (go_simp;rw[Yi];omega)) (J trivial) ?_;simp only[sI,sS,sZ];refine zac 7 rfl (by kernel_rfl) ?_
          go_simp
          refine⟨J trivial,?_⟩;refine wpAnyH_done (by kernel_rfl) ?_ _;exact av
         ·skip
          refine zan rfl rfl ?_
          go_simp
          refine⟨J trivial,?_⟩;refine zac 1 rfl (by kernel_rfl) ?_
          go_simp
          refine⟨J trivial,?_⟩;refine zac 5 rfl (by kernel_rfl) ?_;refine zaf (.tmp 41) (.tmp 44) 61 rfl rfl rfl ha ?_;refine⟨J trivial,?_⟩;simp only[Act.put,sI,sS,sZ];refine zal 6 46 (.pointer (some ⟨U.heap.size,8,none⟩)) rfl (by kernel_rfl) (fun _ _ _ h=>h) (fun w' _=>by first|rfl|(go_simp;done) | (go_simp;rw[Yi];omega)) (J trivial) ?_;simp only[sI,sS,sZ];refine zac 7 rfl (by kernel_rfl) ?_
          go_simp
          refine⟨J trivial,?_⟩;refine wpAnyH_done (by kernel_rfl) ?_ _;exact av
       intro y0 y1 y2 y3 y4 y5 y6 y7 y8 y9 aD ej eN eg ev cZ;obtain⟨bW,bl,cq,bI,eF⟩:=cZ;have bJ:=J bl;have ez:=J cq;have ec:=J bI;have aT:=J (bW);clear bW bl cq bI am aB dt aE aL
       go_wp2_with fail
       refine(zas ⟨#[125]⟩ aT.out.hR).mono ?_;rintro e es ⟨rfl,a6⟩;obtain⟨cO,A⟩:∃ b,isQ ts X.p ⟨#[125]⟩=b:=⟨_,rfl⟩;rw[A];have az:=J A
       try rw[A] at y
       have aY:=J (bJ.out.below a6);have ae:=J (aT.out.low a6);clear A a6 aT bJ
       cases cO
       ·skip
        go_wp2_with fail
        refine(zah ⟨#[101,110,100]⟩ ae.out.hR).mono ?_;rintro e dW ⟨rfl,aI,bn⟩;obtain⟨dU,E⟩:∃ t,takT ts ⟨#[101,110,100]⟩ X=t:=⟨_,rfl⟩;obtain⟨ci,C⟩:∃ s2,takS ts ⟨#[101,110,100]⟩ X=s2:=⟨_,rfl⟩;rw[show takT ts ⟨#[101,110,100]⟩ ⟨X.p,X.bad⟩=dU from E];have bN:QdS T dW g st cap ts ci:=C ▸ bn;have cJ:Hid (LtQ X ci):=J (C ▸ zam _ _)
        try rw[E] at y
        try rw[C] at y
        have dP:=J (aY.out.grow ae.out.gB aI);have aR:=J (ae.out.call aI bN);clear E C bn bN aI ae aY;have aP:=J (zdo aR.out.hR)
        go_wp2
        go_round
        case rel=>(repeat apply Exists.intro);exact⟨⟨_,_,_,m,aR.out,dP.out,y.out,by omega,(ax.out.more aA aC).le cJ.out.le⟩,rfl⟩
        case measure=>
         rw[aP.out,cj.out];exact ze5 aA cc aR.out.hR.le (aC.out.trans cJ.out.le)
       ·skip
        have aP:=J (zdo ae.out.hR)
        go_wp2
        go_round
        case rel=>(repeat apply Exists.intro);exact⟨⟨_,_,_,m,ae.out,aY.out,y.out,by omega,ax.out.more aA.out aC.out⟩,rfl⟩
        case measure=>
         rw[aP.out,cj.out];exact ze5 aA cc ae.out.hR.le (aC)
      ·skip
       replace y:=J (if_f y (fun h=>by cases h))
       have hO:=HO.out;obtain⟨rfl,rfl⟩:=Prod.mk.inj (Yl y)
       replace y:=J hO
       clear hO HO
       go_wp2_with fail
       refine(zah ⟨#[125]⟩ af.out.hR).mono ?_;rintro e dd ⟨rfl,bi,ck⟩;obtain⟨dn,E⟩:∃ t,takT ts ⟨#[125]⟩ q=t:=⟨_,rfl⟩;obtain⟨a2,C⟩:∃ s2,takS ts ⟨#[125]⟩ q=s2:=⟨_,rfl⟩;rw[show takT ts ⟨#[125]⟩ ⟨q.p,q.bad⟩=dn from E];have b9:QdS T dd g st cap ts a2:=C ▸ ck;have d2:Hid (LtQ q a2):=J (C ▸ zam _ _)
       try rw[E] at y
       try rw[C] at y
       have a4:=J (aw.out.grow af.out.gB bi);have bv:=J (af.out.call bi b9);clear E C ck b9 bi af aw;obtain⟨dw,cM,dS,du,dV,dJ,dB,dc,dZ,dj⟩:=row9 a4.out.row
       go_wp2_with fail
       clear dw cM dS du dV dJ dB dc dZ dj;obtain⟨eh,ef,ed,dv,bA⟩:=zbf bv a4;injection dv with u1 u2 u3;subst u1 u2 u3;refine bA.mono ?_;rintro e en ⟨eJ,rfl,cX,bz,bR⟩;have cH:=J bR;have dl:=J (bz);clear bA cX bz bR bv a4;obtain⟨em,eA,b8,bD⟩:=zbb dl (v:=(⟨5,D.x,0,D.a,D.f,behI ts a2.p,D.bg,l⟩:Qv)) ⟨cH.out.is.keep (fun j F=>⟨F.1,F.2.1⟩) fun _ _=>rfl,cH.out.bg⟩;have N:=J bD;have M:=J b8;clear bD b8
       go_wp2
       have K:=Yl y;exact zao Tryz.results50 rfl M (K ▸ N.out)
     ·skip
      replace y:=J (if_f y (fun h=>by cases h))
      have hO:=HO.out;obtain⟨rfl,rfl⟩:=Prod.mk.inj (Yl y)
      replace y:=J hO
      clear hO HO
      go_wp2_with fail
      clear cr;refine(zah ⟨#[125]⟩ Y.out.hR).mono ?_;rintro e cN ⟨rfl,aM,b6⟩;obtain⟨dY,E⟩:∃ t,takT ts ⟨#[125]⟩ q=t:=⟨_,rfl⟩;obtain⟨bc,C⟩:∃ s2,takS ts ⟨#[125]⟩ q=s2:=⟨_,rfl⟩;rw[show takT ts ⟨#[125]⟩ ⟨q.p,q.bad⟩=dY from E];have cA:QdS T cN g st cap ts bc:=C ▸ b6;have d0:Hid (LtQ q bc):=J (C ▸ zam _ _)
      try rw[E] at y
      try rw[C] at y
      have aH:=J (aF.out.grow Y.out.gB aM);have bw:=J (Y.out.call aM cA);clear E C b6 cA aM Y aF;obtain⟨dC,c3,db,dI,dk,dM,dE,dT,dA,cQ⟩:=row9 aH.out.row
      go_wp2_with fail
      clear dC c3 db dI dk dM dE dT dA cQ;obtain⟨eR,eM,d1,dX,bj⟩:=zbf bw aH;injection dX with u1 u2 u3;subst u1 u2 u3;refine bj.mono ?_;rintro e eD ⟨el,rfl,dL,bS,cI⟩;have cn:=J cI;have c4:=J (bS);clear bj dL bS cI bw aH;obtain⟨ei,eP,cy,cG⟩:=zbb c4 (v:=(⟨5,D.x,0,D.a,D.f,behI ts bc.p,D.bg,l⟩:Qv)) ⟨cn.out.is.keep (fun j F=>⟨F.1,F.2.1⟩) fun _ _=>rfl,cn.out.bg⟩;have N:=J cG;have M:=J cy;clear cG cy
      go_wp2
      have K:=Yl y;exact zao Tryz.results50 rfl M (K ▸ N.out)
  ·skip
   replace y:=J (if_t y (by first|rfl|trivial))
   go_wp2_with fail
   rcases hk57:varD ts (dns ts n) s with _|⟨v57,s57⟩
   ·exact absurd y (by rw[hk57];intro h;cases h)
   rw[hk57] at y
   try simp only[Option.bind_some] at y
   refine(((fun hk=>zgk HE Z.out.hR hk) hk57)).mono ?_;rintro e ek ⟨eB,rfl,cB,aZ,cg⟩;have bu:=J cB;have eb:=aZ.size;have dr:=J (Z.out.call aZ cg);have eE:=Z.out.size;clear hk57 cB aZ cg Z;obtain⟨eQ,d3,bK,ct⟩:=zbb dr (v:=v57) ⟨bu.out.is.keep (fun j F=>⟨by omega,F.2⟩) fun _ _=>rfl,bu.out.bg⟩;have N:=J ct;have M:=J bK;clear ct bK
   go_wp2
   have K:=Yl y;exact zao Tryz.results50 rfl M (K ▸ N.out)
 ·skip
  replace y:=J (if_t y (by first|rfl|trivial))
  have hX:=y.out;unfold conD at hX
  dsimp only[tak] at hX
  replace y:=J hX
  clear hX
  go_wp2_with fail
  refine(ze1 3 ⟨#[99,111,110,115,116]⟩ ag.out.hR).mono ?_;rintro e dF ⟨rfl,b5,aJ⟩;obtain⟨⟨I,aq⟩,hk61⟩:∃ r,worD ts 3 ⟨#[99,111,110,115,116]⟩ s=r:=⟨_,rfl⟩;rw[hk61] at y aJ;rw[hk61]
  try dsimp only at y
  have ca:=J (ag.out.call b5 aJ);clear hk61 b5 aJ ag;obtain⟨c7,c8,dh,bX,b3⟩:=zhz ca (⟨3,I.x,0,I.a,I.f,0,I.bg,none,0,0⟩:Qe);have bZ:Hid (Tq W0 c7 dF.heap.size (⟨3,I.x,0,I.a,I.f,0,I.bg,none,0,0⟩:Qe)):=J b3;have aj:=J (bX);clear dh bX b3 ca;have bE:=J (bZ.out.qk (z:=w.heap.size) (zaa aj.out.hZ));clear bZ
  go_wp2_with fail
  clear c8;refine(zah ⟨#[61]⟩ aj.out.hR).mono ?_;rintro e cb ⟨rfl,a0,b0⟩;obtain⟨dq,E⟩:∃ t,takT ts ⟨#[61]⟩ aq=t:=⟨_,rfl⟩;obtain⟨aK,C⟩:∃ s2,takS ts ⟨#[61]⟩ aq=s2:=⟨_,rfl⟩;rw[show takT ts ⟨#[61]⟩ ⟨aq.p,aq.bad⟩=dq from E];have bp:QdS T cb g st cap ts aK:=C ▸ b0;have d6:Hid (LtQ aq aK):=J (C ▸ zam _ _)
  try rw[E] at y
  try rw[C] at y
  have ba:=J (bE.out.grow aj.out.gB a0);have ak:=J (aj.out.call a0 bp);clear E C b0 bp a0 aj bE
  go_wp2_with fail
  refine(zn2 ak.out.hR).mono ?_;rintro e de ⟨cF,rfl,be,au,aO⟩;obtain⟨⟨bP,dO⟩,hk71⟩:∃ r,valD ts aK=r:=⟨_,rfl⟩;rw[hk71] at y be aO
  try dsimp only at y
  have bQ:=J be;have eO:=ba.out.lt;have aN:=J (ba.out.grow ak.out.gB au);have d8:=au.size;have a7:=J (ak.out.call au aO);have eG:=ak.out.size;clear hk71 be au aO ak ba;obtain⟨bq,bF,er,b2,bm,bY,cK,dx⟩:=ze0 a7 aN (v:=bP) (e:=cF) (S:=(fun j=>cb.heap.size<=j∧j<de.heap.size)) bQ.out (fun j F=>by have:=aN.out.lt;have:=a7.out.s0;exact⟨by omega,F.2,by omega,by omega⟩);have aQ:=J bY;have cC:=J (bm);obtain⟨e0,e1,e2,e3,e4,e5,e6,e7,e8,e9⟩:=cF
  dsimp only[Qe.cells,paQ] at bq bF b2
  try unfold Qe.cells paQ
  clear bQ bm bY cK dx a7 aN;obtain⟨ds,dH,dK,cT,cV,dy,dp,di,cY,cW⟩:=row9 aQ.out.row
  go_wp2_with fail
  clear bq bF b2 ds dH dK cT cV dy dp di cY cW;obtain⟨eC,d5,d9,dD,cD⟩:=zbf cC aQ;injection dD with u1 u2 u3;subst u1 u2 u3;refine cD.mono ?_;rintro e ex ⟨d7,rfl,dg,bC,bx⟩;have co:=J bx;have cU:=J (bC);clear cD dg bC bx cC aQ;obtain⟨eL,ea,bG,bU⟩:=zbb cU (v:=(⟨3,I.x,0,I.a,I.f,behI ts dO.p,I.bg,[bP.pt]⟩:Qv)) ⟨co.out.is.keep (fun j F=>⟨F.1,F.2.1⟩) fun _ _=>rfl,co.out.bg⟩;have N:=J bU;have M:=J bG;clear bU bG
  go_wp2
  have K:=Yl y;exact zao Tryz.results50 rfl M (K ▸ N.out)
end
theorem zjb {B:Nat}(w:World)(n:Nat):Below B w (w.drewN n):=⟨rfl,rfl,rfl,Ya _,fun _ _=>rfl⟩
section
variable {T:Nat}{w W0 W W':World}{g:Nat}{st:Option Addr}{cap:Nat}{ts:List Tok}{s s':Qs}
set_option maxHeartbeats 8000000 in
theorem zn5 {n:Nat}{r:Qv × Qs}(hD:∀ m,m<n->DeQ T g st cap ts m)(hR:QdS T w g st cap ts s)(hX:filD ts n s=some r):Calls Tryz.prog 24 #[.pointer (some ⟨g,0,none⟩)] w (QoP T w g st cap ts r):=by
 have HF:=J (zcu hR);have ay:=hR.few;have ex:=hR.le;clear hR;have HD:=J hD;clear hD;unfold filD at hX
 skip
 have y:=J hX;clear hX
 go_enter Tryz.func24,Tryz.ntmps24
 go_wp2_with fail
 refine zag (fun W=>Fr T w W W g st cap ts s) HF.out ?_;intro W0 V;clear HF;have HF:=J V;clear V;refine(ze1 1 ⟨#[112,97,99,107,97,103,101]⟩ HF.out.hR).mono ?_;rintro e W1 ⟨rfl,g1,r1⟩;obtain⟨⟨v1,s1⟩,hk1⟩:∃ r,worD ts 1 ⟨#[112,97,99,107,97,103,101]⟩ s=r:=⟨_,rfl⟩;rw[hk1] at y r1;rw[hk1]
 try dsimp only at y
 have cd:=J (HF.out.call g1 r1);clear hk1 g1 r1 HF;obtain⟨W4,dz,b4,f4,l4⟩:=zhz cd (⟨1,v1.x,0,v1.a,v1.f,0,v1.bg,none,0,0⟩:Qe);have b5:Hid (Tq W0 W4 W1.heap.size (⟨1,v1.x,0,v1.a,v1.f,0,v1.bg,none,0,0⟩:Qe)):=J l4;have aC:=J (f4);clear b4 f4 l4 cd;have cQ:=J (b5.out.qk (z:=w.heap.size) (zaa aC.out.hZ));clear b5
 go_wp2_with fail
 clear dz;refine(zah ⟨#[101,110,100]⟩ aC.out.hR).mono ?_;rintro e W8 ⟨rfl,g8,r8⟩;obtain⟨t8,F⟩:∃ t,takT ts ⟨#[101,110,100]⟩ s1=t:=⟨_,rfl⟩;obtain⟨s8,C⟩:∃ s2,takS ts ⟨#[101,110,100]⟩ s1=s2:=⟨_,rfl⟩;rw[show takT ts ⟨#[101,110,100]⟩ ⟨s1.p,s1.bad⟩=t8 from F];have q8:QdS T W8 g st cap ts s8:=C ▸ r8;have ew:Hid (LtQ s1 s8):=J (C ▸ zam _ _)
 try rw[F] at y
 try rw[C] at y
 have bc:=J (cQ.out.grow aC.out.gB g8);have bu:=J (aC.out.call g8 q8);clear F C r8 q8 g8 aC cQ
 go_upto_block 0 with fail
 rcases hk11:(dns ts n).impL [] s8 with _|⟨lf,sf⟩
 ·exact absurd y (by rw[hk11];intro h;cases h)
 rw[hk11] at y;simp only[Option.bind_some] at y;have al:=J hk11;have aj:=y;clear y hk11
 go_cut [] (fun wc=>∃ v,Fr T w W0 wc g st cap ts sf∧Qk W0.heap.size (w.heap.size) wc (W1.heap.size) 1 v1.x 0 v1.a v1.f 0 v1.bg v lf∧Few lf sf)
 case first=>
  clear aj
  go_wp2_with fail
  go_loopw [] (fun wr=>∃ (l:List Pt) (q:Qs) (v:Value) (m:Nat),Fr T w W0 wr g st cap ts q∧Qk W0.heap.size (w.heap.size) wr (W1.heap.size) 1 v1.x 0 v1.a v1.f 0 v1.bg v l∧(dns ts m).impL l q=some (lf,sf)∧m<=n∧Few l q) (fun wr=>muQ ts g wr)
  case atStart=>exact⟨_,_,_,_,bu.out,bc.out,al.out,Ya _,⟨Yk _,fun _=>Yk _⟩⟩
  case round=>
   obtain⟨l,q,v,m,V,hQ,hm,dP,aA⟩:=hrel;have K:=J V;have ac:=J hQ;have aa:=J aA;have bJ:=J (zdo V.hR);have bH:q.p<=ts.length:=V.hR.le;obtain⟨a3,aV,aX,hv⟩:=hQ.sl;subst hv;clear V hQ aA bu bc al
   cases m with
   | zero=>cases hm
   | succ m=>
   rw[zq1] at hm;have y:=J hm;clear hm;have bv:=J (aa.out.lt K.out.hR);obtain⟨b0,a6⟩:∃ b,q.bad=b:=⟨_,rfl⟩;have cP:wr.cell? ⟨g,2,none⟩=some (.bool b0):=a6 ▸ K.out.hR.c2;rw[a6] at y;have aK:=J a6;clear a6
   cases b0
   ·skip
    go_wp2_with fail
    clear cP;refine(zas ⟨#[105,109,112,111,114,116]⟩ K.out.hR).mono ?_;rintro e eE ⟨rfl,bt⟩;obtain⟨dM,M⟩:∃ b,isQ ts q.p ⟨#[105,109,112,111,114,116]⟩=b:=⟨_,rfl⟩;rw[M];have eA:=J M
    try rw[M] at y
    have ba:=J (ac.out.below bt);have aJ:=J (K.out.low bt);clear M bt K ac
    cases dM
    ·skip
     replace y:=J (if_f y (fun h=>by cases h))
     obtain⟨rfl,rfl⟩:=Prod.mk.inj (Yl y)
     go_wp2_with fail
     go_meet
     case rel=>exact⟨_,aJ.out,ba.out,aa.out⟩
    ·skip
     replace y:=J (if_t y (by first|rfl|trivial))
     have hX:=y.out;unfold impD at hX
     dsimp only[tak] at hX
     replace y:=J hX
     clear hX
     go_wp2_with fail
     refine(zah ⟨#[105,109,112,111,114,116]⟩ aJ.out.hR).mono ?_;rintro e cr ⟨rfl,bf,b9⟩;obtain⟨A,F⟩:∃ t,takT ts ⟨#[105,109,112,111,114,116]⟩ q=t:=⟨_,rfl⟩;obtain⟨am,C⟩:∃ s2,takS ts ⟨#[105,109,112,111,114,116]⟩ q=s2:=⟨_,rfl⟩;rw[show takT ts ⟨#[105,109,112,111,114,116]⟩ ⟨q.p,q.bad⟩=A from F];have cY:QdS T cr g st cap ts am:=C ▸ b9;have b6:Hid (LtQ q am):=J (C ▸ zam _ _)
     try rw[F] at y
     try rw[C] at y
     have c6:=J (ba.out.grow aJ.out.gB bf);have bY:=J (aJ.out.call bf cY);clear F C b9 cY bf aJ ba
     go_wp2_with fail
     refine(zau 2 A ⟨#[]⟩ cr).mono ?_;rintro e E ⟨rfl,bp⟩;have ci:=J (c6.out.below bp);have cG:=J (bY.out.low bp);clear bp bY c6;have bm:=J (zby E g);have aY:=ci;clear ci;have cS:=bm.out.size;have eN:=aY.out.lt;have cg:E.heap.size≠W1.heap.size:=by omega
     have eD:W1.heap.size<E.heap.size:=by omega
     have cD:(Value.slice a3 aV aX).ownBlock≠some (E.heap.size):=fun e=>by have h:=(aY.out.own e).2;omega
     obtain⟨c8,dq,cI,cX,b1⟩:=zhz cG (begE 2 A ⟨#[]⟩);have bP:=J (zab bm (zae cI));have co:Hid (Tq W0 c8 E.heap.size (⟨2,⟨#[]⟩,0,A.pos,A.pos,0,A.pos,none,0,0⟩:Qe)):=J b1;have aM:=J (cX);clear cI cX b1 cG bm;have bC:=J (z3y ⟨#[116,101,120,116]⟩ aM.out.hR)
     go_wp2_with fail
     clear dq;refine(zah ⟨#[116,101,120,116]⟩ aM.out.hR).mono ?_;rintro e bx ⟨rfl,a5,b7⟩;obtain⟨D,F⟩:∃ t,takT ts ⟨#[116,101,120,116]⟩ am=t:=⟨_,rfl⟩;obtain⟨af,C⟩:∃ s2,takS ts ⟨#[116,101,120,116]⟩ am=s2:=⟨_,rfl⟩;rw[show takT ts ⟨#[116,101,120,116]⟩ ⟨am.p,am.bad⟩=D from F];have cE:QdS T bx g st cap ts af:=C ▸ b7;have b3:Hid (LtQ am af):=J (C ▸ zam _ _)
     try rw[F] at y
     try rw[C] at y
     try rw[F] at bC
     try rw[C] at bC
     have cO:=J (co.out.call aM.out.gB a5);have cu:=J (zab bP a5);have cK:=J (aM.out.call a5 cE);clear F C b7 cE a5 aM co bP;obtain⟨dB,ei,bb,cq,b8⟩:=zea cK D;have c5:=J (cO.out.low bb);have cB:=J (zab cu (zae bb));have bI:=J b8;have cy:=J (cq);clear bb cq b8 cK cO cu;obtain⟨dY,ec,dn⟩:=bI.out.cells
     go_wp2_with fail
     clear ei dY ec dn;refine(zm1 D dB bC).mono ?_;rintro e aZ ⟨rfl,aP⟩;rw[zvb];have aI:=J (bI.out.low aP);have ax:=J (c5.out.low aP);have ch:=J (zab cB (zae aP));have bR:=J (cy.out.low aP);clear aP cy bI c5 cB;obtain⟨dt,c7,eh,el,dc,d4,dR,eg,dL,dC⟩:=row9 ax.out.row;obtain⟨az,eb,bq,cn,bS⟩:∃ W2,(aZ.setCell ⟨E.heap.size,1,none⟩ (.string (valT D)))=W2∧Below (E.heap.size) aZ W2∧(∀ j,j≠E.heap.size->j<aZ.heap.size->W2.heap[j]?=aZ.heap[j]?)∧W2.heap[E.heap.size]?=some (.cells (⟨2,(valT D),0,A.pos,A.pos,0,A.pos,none,0,0⟩:Qe).cells 63 (0,0)) :=
      ⟨_,rfl,((Yb _ _).setCell (p:=⟨E.heap.size,1,none⟩) (Ya _) _),fun j hj _=>(Ye _ _ _ _ hj).trans (rfl),Yf _ _ 1 _ _ _ (ax.out.row)⟩
     have aw:Hid (Tl W0 az bx.heap.size D):=J ⟨aI.out.hB,(cn _ (zh0 aI ax.out.row) (zaa aI.out.row)).trans aI.out.row⟩;have ct:=J (zaw ch (bq.mono cS));have av:Hid (Tq W0 az E.heap.size (⟨2,(valT D),0,A.pos,A.pos,0,A.pos,none,0,0⟩:Qe)):=J ⟨ax.out.hB,bS⟩;have bV:=J (bR.out.on (bq.mono ax.out.hB));clear bq cn bS bR ax aI ch;obtain⟨dA,eo,ep⟩:=aw.out.cells;obtain⟨ed,dv,dh,dE,ea,em,ef,dD,d6,dw⟩:=row9 av.out.row;obtain⟨ag,en,bh,cW,cT⟩:∃ W2,(az.setCell ⟨E.heap.size,4,none⟩ (.int .i64 D.pos))=W2∧Below (E.heap.size) az W2∧(∀ j,j≠E.heap.size->j<az.heap.size->W2.heap[j]?=az.heap[j]?)∧W2.heap[E.heap.size]?=some (.cells (⟨2,(valT D),0,D.pos,A.pos,0,A.pos,none,0,0⟩:Qe).cells 63 (0,0)) :=
      ⟨_,rfl,((Yb _ _).setCell (p:=⟨E.heap.size,4,none⟩) (Ya _) _),fun j hj _=>(Ye _ _ _ _ hj).trans (rfl),Yf _ _ 4 _ _ _ (av.out.row)⟩
     have eL:Hid (Tl W0 ag bx.heap.size D):=J ⟨aw.out.hB,(cW _ (zh0 aw av.out.row) (zaa aw.out.row)).trans aw.out.row⟩;have cL:=J (zaw ct (bh.mono cS));have be:Hid (Tq W0 ag E.heap.size (⟨2,(valT D),0,D.pos,A.pos,0,A.pos,none,0,0⟩:Qe)):=J ⟨av.out.hB,cT⟩;have bi:=J (bV.out.on (bh.mono av.out.hB));clear bh cW cT bV av aw ct;obtain⟨dX,c9,ek,dV,er,d9,d3,dF,eu,dJ⟩:=row9 be.out.row;have ck:=J (aY.out.grow bi.out.gB cL);clear cL aY
     go_wp2_with fail
     clear dt c7 eh el dc d4 dR eg dL dC eb dA eo ep ed dv dh dE ea em ef dD d6 dw en dX c9 ek dV er d9 d3 dF eu dJ;have aQ:Below ag.heap.size ag ag.drew:=(Yb _ _).drew;have aF:=J (bi.out.low aQ);have aT:=J (ck.out.below aQ);have bG:=J (be.out.low aQ);have bK:=J (z0v 2 (valT D) 0 D.pos A.pos 0 A.pos aF);have N:Hid (Hid (ag.drew.heap[E.heap.size]?=some (.cells (paQ 2 (valT D) 0 D.pos A.pos 0 A.pos (.slice none 0 0)) 63 (0,0)))):=J (J bG.out.row);have a9:E.heap.size≠g:=by have h1:=bG.out.hB;have h2:=aF.out.gB;omega
     clear aQ bi ck be;have dN:ag.drew.cell? ⟨W1.heap.size,8,none⟩=some (Value.slice a3 aV aX):=Yp 8 aT.out.row rfl;apply zb8 (fun y0 y1 y2 y3 Z Y y6 y7 y8 y9 Wy sp sn sc I=>Fr T w W0 I g st cap ts af∧Qk W0.heap.size (w.heap.size) I (W1.heap.size) 1 v1.x 0 v1.a v1.f 0 v1.bg (.slice sp sn sc) (l++[(⟨2,(valT D),0,D.pos,A.pos,behI ts af.p,A.pos,[]⟩:Qv).pt])∧ag.drew.grownBy Wy (some g)∧((w.heap.size)≠W1.heap.size->I.heap[w.heap.size]?=Wy.heap[w.heap.size]?)∧Wy.heap.size<=I.heap.size)
     rotate_left
     ·intro hc;refine zbc (S:=fun W'=>Hid (W'.heap[E.heap.size]?=some (.cells (paQ 2 (valT D) 0 D.pos A.pos 0 A.pos (.slice none 0 0)) 63 (0,0)))) 9 rfl (by kernel_rfl) ?_;refine zal 0 35 (.pointer (some ⟨W1.heap.size,8,none⟩)) rfl (by kernel_rfl) (fun _ _ _ h=>h) (fun w' _=>by first|rfl|(go_simp;done)) N.out ?_;simp only[sI,sS,sZ];refine zal 2 37 (.pointer (some ⟨g,0,none⟩)) rfl (by kernel_rfl) (fun _ _ _ h=>h) (fun w' _=>by first|rfl|(go_simp;done)) N.out ?_;simp only[sI,sS,sZ];refine zhv 3 38 63 _ rfl (E.heap.size) 63 (paQ 2 (valT D) 0 D.pos A.pos 0 A.pos (.slice none 0 0)) (0,0) rfl (by kernel_rfl) (fun _ _ _ h=>h) _ (fun w' dk=>dk.out) Tryz.underlying63 rfl (by kernel_rfl) N.out ?_;simp only[sI,sS,sZ];refine wpAnyH_all (rs:=[1,4]) (by kernel_rfl) (by simp) fun i M=>?_;simp only[List.mem_cons,List.not_mem_nil,or_false] at M;rcases M with rfl|rfl
      ·skip
       refine zan rfl rfl ?_
       go_simp
       refine⟨N.out,?_⟩;refine zac 4 rfl (by kernel_rfl) ?_
       go_simp
       refine bK.out.mono ?_;rintro e a4 ⟨⟨y0,y1,y2,y3,Z,Y,y6,y7,y8,y9⟩,rfl,q46,g46,r46⟩;obtain⟨bo,bB,v2,w1,I,U,ce,cf,cw,aD,ao,aG,ab,aH⟩:=zlm aF aT ((Yo bv (by omega))) g46 r46 q46 (fun _ h=>h.elim);obtain⟨x1,x2,x3,x4⟩:=aH (E.heap.size) a9 cg (zaa N.out.out) cD;have aW:=J (J (x1.trans N.out.out));have aO:=J (J (x2.trans N.out.out));have aq:=J (J (x3.trans N.out.out));have a2:=J (J (x4.trans N.out.out));obtain⟨au,ak,an,ar⟩:=ao.sl;subst ar;have ae:=J (hc y0 y1 y2 y3 Z Y y6 y7 y8 y9 a4 au ak an I ⟨aD,ao,g46,aG,ab⟩)
       dsimp only[Qe.cells,paQ] at bo bB U ce cf cw
       unfold Qe.cells paQ;clear aD ao aG q46 g46 r46 ab aH x1 x2 x3 x4;refine⟨aW.out,?_⟩;refine zac 5 rfl (by kernel_rfl) ?_
       go_simp
       refine⟨aO.out,?_⟩;refine zac 6 rfl (by kernel_rfl) ?_;refine zaf (.tmp 36) (.tmp 40) 61 rfl rfl rfl U ?_;refine⟨aq.out,?_⟩;simp only[Act.put,sI,sS,sZ];refine zal 7 42 (.pointer (some ⟨W1.heap.size,8,none⟩)) rfl (by kernel_rfl) (fun _ _ _ h=>h) (fun w' _=>by first|rfl|(go_simp;done)) aq.out ?_;simp only[sI,sS,sZ];refine zac 8 rfl (by kernel_rfl) ?_
       go_simp
       refine⟨a2.out,?_⟩;refine wpAnyH_done (by kernel_rfl) ?_ _;exact ae
      ·skip
       refine zan rfl rfl ?_
       go_simp
       refine bK.out.mono ?_;rintro e a4 ⟨⟨y0,y1,y2,y3,Z,Y,y6,y7,y8,y9⟩,rfl,q46,g46,r46⟩;obtain⟨bo,bB,v2,w1,I,U,ce,cf,cw,aD,ao,aG,ab,aH⟩:=zlm aF aT ((Yo bv (by omega))) g46 r46 q46 (fun _ h=>h.elim);obtain⟨x1,x2,x3,x4⟩:=aH (E.heap.size) a9 cg (zaa N.out.out) cD;have aW:=J (J (x1.trans N.out.out));have aO:=J (J (x2.trans N.out.out));have aq:=J (J (x3.trans N.out.out));have a2:=J (J (x4.trans N.out.out));obtain⟨au,ak,an,ar⟩:=ao.sl;subst ar;have ae:=J (hc y0 y1 y2 y3 Z Y y6 y7 y8 y9 a4 au ak an I ⟨aD,ao,g46,aG,ab⟩)
       dsimp only[Qe.cells,paQ] at bo bB U ce cf cw
       unfold Qe.cells paQ;clear aD ao aG q46 g46 r46 ab aH x1 x2 x3 x4;refine⟨aW.out,?_⟩;refine wpAnyH_all (rs:=[1,5]) (by kernel_rfl) (by simp) fun i M=>?_;simp only[List.mem_cons,List.not_mem_nil,or_false] at M;rcases M with rfl|rfl
       ·skip
        refine zan rfl rfl ?_
        go_simp
        refine⟨aW.out,?_⟩;refine zac 5 rfl (by kernel_rfl) ?_
        go_simp
        refine⟨aO.out,?_⟩;refine zac 6 rfl (by kernel_rfl) ?_;refine zaf (.tmp 36) (.tmp 40) 61 rfl rfl rfl U ?_;refine⟨aq.out,?_⟩;simp only[Act.put,sI,sS,sZ];refine zal 7 42 (.pointer (some ⟨W1.heap.size,8,none⟩)) rfl (by kernel_rfl) (fun _ _ _ h=>h) (fun w' _=>by first|rfl|(go_simp;done)) aq.out ?_;simp only[sI,sS,sZ];refine zac 8 rfl (by kernel_rfl) ?_
        go_simp
        refine⟨a2.out,?_⟩;refine wpAnyH_done (by kernel_rfl) ?_ _;exact ae
       ·skip
        refine zan rfl rfl ?_
        go_simp
        refine⟨aO.out,?_⟩;refine zac 1 rfl (by kernel_rfl) ?_
        go_simp
        refine⟨aO.out,?_⟩;refine zac 6 rfl (by kernel_rfl) ?_;refine zaf (.tmp 36) (.tmp 40) 61 rfl rfl rfl U ?_;refine⟨aq.out,?_⟩;simp only[Act.put,sI,sS,sZ];refine zal 7 42 (.pointer (some ⟨W1.heap.size,8,none⟩)) rfl (by kernel_rfl) (fun _ _ _ h=>h) (fun w' _=>by first|rfl|(go_simp;done)) aq.out ?_;simp only[sI,sS,sZ];refine zac 8 rfl (by kernel_rfl) ?_
        go_simp
        refine⟨a2.out,?_⟩;refine wpAnyH_done (by kernel_rfl) ?_ _;exact ae
     intro y0 y1 y2 y3 Z Y y6 y7 y8 y9 a4 eO eC eJ eF d7;obtain⟨bZ,cj,dT,dj,eT⟩:=d7;have cz:=J cj;have aR:=J (bZ);clear bZ cj dT dj aF aT dN bK N a9 bG
     go_wp2_with fail
     refine(zah ⟨#[101,110,100]⟩ aR.out.hR).mono ?_;rintro e da ⟨rfl,bl,cF⟩;obtain⟨et,F⟩:∃ t,takT ts ⟨#[101,110,100]⟩ af=t:=⟨_,rfl⟩;obtain⟨cZ,C⟩:∃ s2,takS ts ⟨#[101,110,100]⟩ af=s2:=⟨_,rfl⟩;rw[show takT ts ⟨#[101,110,100]⟩ ⟨af.p,af.bad⟩=et from F];have c4:QdS T da g st cap ts cZ:=C ▸ cF;have bQ:Hid (LtQ af cZ):=J (C ▸ zam _ _)
     try rw[F] at y
     try rw[C] at y
     have di:=J (cz.out.grow aR.out.gB bl);have bj:=J (aR.out.call bl c4);clear F C cF c4 bl aR cz;have bn:=J (zdo bj.out.hR)
     go_wp2
     go_round
     case rel=>(repeat apply Exists.intro);exact⟨⟨_,_,_,m,bj.out,di.out,y.out,by omega,(aa.out.more aK (b6.out.trans b3.out.le)).le bQ.out.le⟩,rfl⟩
     case measure=>
      rw[bn.out,bJ.out];exact ze5 aK bH bj.out.hR.le ((b6.out.trans b3.out.le).trans bQ.out.le)
   ·skip
    replace y:=J (if_f y (fun h=>by cases h))
    obtain⟨rfl,rfl⟩:=Prod.mk.inj (Yl y)
    go_wp2_with fail
    clear cP
    go_meet
    case rel=>exact⟨_,K.out,ac.out,aa.out⟩
 case rest=>
  obtain⟨vl,aB,ai,ay⟩:=hcut;obtain⟨dr,de,dg,hv⟩:=ai.sl;subst hv;have bM:=J aB;have bN:=J ai;have dO:=J ay;clear ay aB ai bu bc al;have y:=aj;clear aj
  go_upto_block 2 with fail
  rcases hk52:(dns ts n).decL lf sf with _|⟨lf2,sf2⟩
  ·exact absurd y (by rw[hk52];intro h;cases h)
  rw[hk52] at y;simp only[Option.bind_some] at y;have al:=J hk52;have aj:=y;clear y hk52
  go_cut [] (fun wc=>∃ v,Fr T w W0 wc g st cap ts sf2∧Qk W0.heap.size (w.heap.size) wc (W1.heap.size) 1 v1.x 0 v1.a v1.f 0 v1.bg v lf2∧Few lf2 sf2)
  case first=>
   clear aj
   go_wp2_with fail
   go_loopw [] (fun wr=>∃ (l:List Pt) (q:Qs) (v:Value) (m:Nat),Fr T w W0 wr g st cap ts q∧Qk W0.heap.size (w.heap.size) wr (W1.heap.size) 1 v1.x 0 v1.a v1.f 0 v1.bg v l∧(dns ts m).decL l q=some (lf2,sf2)∧m<=n∧Few l q) (fun wr=>muQ ts g wr)
   case atStart=>exact⟨_,_,_,_,bM.out,bN.out,al.out,Ya _,dO.out⟩
   case round=>
    obtain⟨l,q,v,m,V,hQ,hm,dP,aA⟩:=hrel;have K:=J V;have ac:=J hQ;have aa:=J aA;have bJ:=J (zdo V.hR);have bH:q.p<=ts.length:=V.hR.le;obtain⟨a3,aV,aX,hv⟩:=hQ.sl;subst hv;clear V hQ aA bM bN al
    cases m with
    | zero=>cases hm
    | succ m=>
    rw[zq2] at hm;have y:=J hm;clear hm;have bv:=J (aa.out.lt K.out.hR);obtain⟨cp,a8⟩:∃ b,q.bad=b:=⟨_,rfl⟩;have bL:wr.cell? ⟨g,2,none⟩=some (.bool cp):=a8 ▸ K.out.hR.c2;rw[a8] at y;have aK:=J a8;clear a8
    cases cp
    ·skip
     obtain⟨qd,a1⟩:∃ b,decide (q.p<ts.length)=b:=⟨_,rfl⟩;rw[a1] at y;have cH:decide ((q.p:Int)<ts.length)=qd:=by rw[<-a1];exact decide_eq_decide.mpr Int.ofNat_lt
     have cC:=K.out.hR.c0;have cc:=K.out.hR.c1
     cases qd
     ·skip
      replace y:=J (if_f y (fun h=>by cases h))
      go_wp2_with fail
      go_quiet (fail)
      clear bL a1 cH cC cc;obtain⟨dG,X⟩:∃ W,wr.drewN nq=W:=⟨_,rfl⟩;rw[X];have bD:Below wr.heap.size wr dG:=X ▸ zjb _ _;have dU:=J (ac.out.below bD);have d2:=J (K.out.low bD);clear X bD K ac;obtain⟨rfl,rfl⟩:=Prod.mk.inj (Yl y)
      go_wp2_with fail
      go_meet
      case rel=>exact⟨_,d2.out,dU.out,aa.out⟩
     ·skip
      replace y:=J (if_t y (by first|rfl|trivial))
      go_wp2_with fail
      go_quiet (fail)
      clear bL a1 cH cC cc;obtain⟨ah,X⟩:∃ W,wr.drewN nq=W:=⟨_,rfl⟩;rw[X];have bD:Below wr.heap.size wr ah:=X ▸ zjb _ _;have cx:=J (ac.out.below bD);have bw:=J (K.out.low bD);clear X bD K ac
      go_wp2_with (fail)
      rcases hk60:decD ts (dns ts m) q with _|⟨v60,s60⟩
      ·exact absurd y (by rw[hk60];intro h;cases h)
      rw[hk60] at y;simp only[Option.bind_some] at y;have cN:=J (zyk (lst m) _ _ _ hk60);have bk:=J bw;have bF:Below ah.heap.size ah ah.drew:=(Yb _ _).drew;have aL:=J (bw.out.low bF);have a0:=J (cx.out.below bF);have bE:=J (fun (h:QdS T ah.drew g st cap ts q)=>(fun hk=>HD.out m (by omega) ah.drew _ _ hk h) hk60);clear hk60 bF bw cx;have ds:ah.drew.cell? ⟨W1.heap.size,8,none⟩=some (Value.slice a3 aV aX):=Yp 8 a0.out.row rfl;apply zb8 (fun y0 y1 y2 y3 Z Y y6 y7 y8 y9 Wy sp sn sc I=>Fr T w W0 I g st cap ts s60∧Qk W0.heap.size (w.heap.size) I (W1.heap.size) 1 v1.x 0 v1.a v1.f 0 v1.bg (.slice sp sn sc) (l++[v60.pt])∧ah.drew.grownBy Wy (some g)∧((w.heap.size)≠W1.heap.size->I.heap[w.heap.size]?=Wy.heap[w.heap.size]?)∧Wy.heap.size<=I.heap.size)
      rotate_left
      ·intro hc;refine zbc (S:=fun _=>Hid True) 8 rfl (by kernel_rfl) ?_;refine zal 0 62 (.pointer (some ⟨W1.heap.size,8,none⟩)) rfl (by kernel_rfl) (fun _ _ _ h=>h) (fun w' _=>by first|rfl|(go_simp;done) | (go_simp;rw[Yi];omega)) (J trivial) ?_;simp only[sI,sS,sZ];refine zal 2 64 (.pointer (some ⟨g,0,none⟩)) rfl (by kernel_rfl) (fun _ _ _ h=>h) (fun w' _=>by first|rfl|(go_simp;done) | (go_simp;rw[Yi];omega)) (J trivial) ?_;simp only[sI,sS,sZ];refine wpAnyH_all (rs:=[1,3]) (by kernel_rfl) (by simp) fun i M=>?_;simp only[List.mem_cons,List.not_mem_nil,or_false] at M;rcases M with rfl|rfl
       ·skip
        refine zan rfl rfl ?_
        go_simp
        refine⟨J trivial,?_⟩;refine zac 3 rfl (by kernel_rfl) ?_
        go_simp
        refine(bE aL.out.hR).mono ?_;rintro e a7 ⟨⟨y0,y1,y2,y3,Z,Y,y6,y7,y8,y9⟩,rfl,q60,g60,r60⟩;obtain⟨bs,br,v2,w1,I,U,ce,cf,cw,aE,ap,aN,ab⟩:=zb3 aL a0 ((Yo (aa.out.lt bk.out.hR) (by omega))) g60 r60 q60;obtain⟨au,ak,an,ar⟩:=ap.sl;subst ar;have ae:=J (hc y0 y1 y2 y3 Z Y y6 y7 y8 y9 a7 au ak an I ⟨aE,ap,g60,aN,ab⟩)
        dsimp only[Qe.cells,paQ] at bs br U ce cf cw
        unfold Qe.cells paQ;clear aE ap aN q60 g60 r60 ab;refine⟨J trivial,?_⟩;refine zac 4 rfl (by kernel_rfl) ?_
        go_simp
        refine⟨J trivial,?_⟩;refine zac 5 rfl (by kernel_rfl) ?_;refine zaf (.tmp 63) (.tmp 66) 61 rfl rfl rfl U ?_;refine⟨J trivial,?_⟩;simp only[Act.put,sI,sS,sZ];refine zal 6 68 (.pointer (some ⟨W1.heap.size,8,none⟩)) rfl (by kernel_rfl) (fun _ _ _ h=>h) (fun w' _=>by first|rfl|(go_simp;done) | (go_simp;rw[Yi];omega)) (J trivial) ?_;simp only[sI,sS,sZ];refine zac 7 rfl (by kernel_rfl) ?_
        go_simp
        refine⟨J trivial,?_⟩;refine wpAnyH_done (by kernel_rfl) ?_ _;exact ae
       ·skip
        refine zan rfl rfl ?_
        go_simp
        refine(bE aL.out.hR).mono ?_;rintro e a7 ⟨⟨y0,y1,y2,y3,Z,Y,y6,y7,y8,y9⟩,rfl,q60,g60,r60⟩;obtain⟨bs,br,v2,w1,I,U,ce,cf,cw,aE,ap,aN,ab⟩:=zb3 aL a0 ((Yo (aa.out.lt bk.out.hR) (by omega))) g60 r60 q60;obtain⟨au,ak,an,ar⟩:=ap.sl;subst ar;have ae:=J (hc y0 y1 y2 y3 Z Y y6 y7 y8 y9 a7 au ak an I ⟨aE,ap,g60,aN,ab⟩)
        dsimp only[Qe.cells,paQ] at bs br U ce cf cw
        unfold Qe.cells paQ;clear aE ap aN q60 g60 r60 ab;refine⟨J trivial,?_⟩;refine wpAnyH_all (rs:=[1,4]) (by kernel_rfl) (by simp) fun i M=>?_;simp only[List.mem_cons,List.not_mem_nil,or_false] at M;rcases M with rfl|rfl
        ·skip
         refine zan rfl rfl ?_
         go_simp
         refine⟨J trivial,?_⟩;refine zac 4 rfl (by kernel_rfl) ?_
         go_simp
         refine⟨J trivial,?_⟩;refine zac 5 rfl (by kernel_rfl) ?_;refine zaf (.tmp 63) (.tmp 66) 61 rfl rfl rfl U ?_;refine⟨J trivial,?_⟩;simp only[Act.put,sI,sS,sZ];refine zal 6 68 (.pointer (some ⟨W1.heap.size,8,none⟩)) rfl (by kernel_rfl) (fun _ _ _ h=>h) (fun w' _=>by first|rfl|(go_simp;done) | (go_simp;rw[Yi];omega)) (J trivial) ?_;simp only[sI,sS,sZ];refine zac 7 rfl (by kernel_rfl) ?_
         go_simp
         refine⟨J trivial,?_⟩;refine wpAnyH_done (by kernel_rfl) ?_ _;exact ae
        ·skip
         refine zan rfl rfl ?_
         go_simp
         refine⟨J trivial,?_⟩;refine zac 1 rfl (by kernel_rfl) ?_
         go_simp
         refine⟨J trivial,?_⟩;refine zac 5 rfl (by kernel_rfl) ?_;refine zaf (.tmp 63) (.tmp 66) 61 rfl rfl rfl U ?_;refine⟨J trivial,?_⟩;simp only[Act.put,sI,sS,sZ];refine zal 6 68 (.pointer (some ⟨W1.heap.size,8,none⟩)) rfl (by kernel_rfl) (fun _ _ _ h=>h) (fun w' _=>by first|rfl|(go_simp;done) | (go_simp;rw[Yi];omega)) (J trivial) ?_;simp only[sI,sS,sZ];refine zac 7 rfl (by kernel_rfl) ?_
         go_simp
         refine⟨J trivial,?_⟩;refine wpAnyH_done (by kernel_rfl) ?_ _;exact ae
      intro y0 y1 y2 y3 Z Y y6 y7 y8 y9 a7 eB eP eV eM dQ;obtain⟨cM,bW,cA,bX,eK⟩:=dQ;have cb:=J bW;have eH:=J cA;have eG:=J bX;have aU:=J (cM);clear cM bW cA bX aL a0 ds bE bk
      go_wp2_with fail
      refine(zah ⟨#[101,110,100]⟩ aU.out.hR).mono ?_;rintro e es ⟨rfl,bz,cR⟩;obtain⟨dS,F⟩:∃ t,takT ts ⟨#[101,110,100]⟩ s60=t:=⟨_,rfl⟩;obtain⟨b2,C⟩:∃ s2,takS ts ⟨#[101,110,100]⟩ s60=s2:=⟨_,rfl⟩;rw[show takT ts ⟨#[101,110,100]⟩ ⟨s60.p,s60.bad⟩=dS from F];have c3:QdS T es g st cap ts b2:=C ▸ cR;have cU:Hid (LtQ s60 b2):=J (C ▸ zam _ _)
      try rw[F] at y
      try rw[C] at y
      have ej:=J (cb.out.grow aU.out.gB bz);have bA:=J (aU.out.call bz c3);clear F C cR c3 bz aU cb;have bn:=J (zdo bA.out.hR)
      go_wp2
      go_round
      case rel=>(repeat apply Exists.intro);exact⟨⟨_,_,_,m,bA.out,ej.out,y.out,by omega,(aa.out.more aK cN).le cU.out.le⟩,rfl⟩
      case measure=>
       rw[bn.out,bJ.out];exact ze5 aK bH bA.out.hR.le (cN.out.trans cU.out.le)
    ·skip
     replace y:=J (if_f y (fun h=>by cases h))
     go_wp2_with fail
     go_quiet (fail)
     clear bL;obtain⟨dK,X⟩:∃ W,wr.drewN nq=W:=⟨_,rfl⟩;rw[X];have bD:Below wr.heap.size wr dK:=X ▸ zjb _ _;have dy:=J (ac.out.below bD);have d0:=J (K.out.low bD);clear X bD K ac;obtain⟨rfl,rfl⟩:=Prod.mk.inj (Yl y)
     go_wp2_with fail
     go_meet
     case rel=>exact⟨_,d0.out,dy.out,aa.out⟩
  case rest=>
   obtain⟨vl,aB,ai,ay⟩:=hcut;obtain⟨dr,de,dg,hv⟩:=ai.sl;subst hv;have cJ:=J aB;have bO:=J ai;have eI:=J ay;clear ay aB ai bM bN al;have y:=aj;clear aj;obtain⟨dI,ee,dl,du,dH,d1,dp,dd,dx,d8⟩:=row9 bO.out.row
   go_wp2_with fail
   clear dI ee dl du dH d1 dp dd dx d8;obtain⟨ez,eQ,eU,d5,cv⟩:=zbf cJ bO;injection d5 with u1 u2 u3;subst u1 u2 u3;refine cv.mono ?_;rintro e eR ⟨ey,rfl,dW,bU,cV⟩;have cl:=J cV;have db:=J (bU);clear cv dW bU cV cJ bO;obtain⟨ev,eS,bT,ca⟩:=zbb db (v:=(⟨1,v1.x,0,v1.a,v1.f,behI ts sf2.p,v1.bg,lf2⟩:Qv)) ⟨cl.out.is.keep (fun j hj=>⟨hj.1,hj.2.1⟩) fun _ _=>rfl,cl.out.bg⟩;have HP:=J ca;have dZ:=J bT;clear ca bT
   go_wp2
   have hx:=Yl y;exact zao Tryz.results24 rfl dZ (hx ▸ HP.out)
end
end Go.Proofs.YtmclgbkijeidaaaGreatDoor
