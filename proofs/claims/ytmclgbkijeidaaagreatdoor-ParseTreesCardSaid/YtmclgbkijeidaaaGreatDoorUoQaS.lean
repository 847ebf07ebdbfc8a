import Derived.Test.YtmclgbkijeidaaaGreatDoorUoc
import Derived.Deep.DeepCutAuto
import Derived.Deep.Cut
import Derived.Deep.CutRange
import Derived.Deep.CutBlock
namespace Go.Proofs.YtmclgbkijeidaaaGreatDoor
set_option maxRecDepth 100000
set_option maxHeartbeats 4000000
open Go.RowKit
section
variable {T:Nat}{w W0 W W':World}{g:Nat}{st:Option Addr}{cap:Nat}{ts:List Tok}{s s':Qs}
set_option maxHeartbeats 10000000 in
theorem zje {n:Nat}{r:Qv × Qs}(hB:BlQ T g st cap ts n)(hR:QdS T w g st cap ts s)(hX:funD ts (dns ts n) s=some r):Calls Tryz.prog 72 #[.pointer (some ⟨g,0,none⟩)] w (QoP T w g st cap ts r):=by
 have HF:=J (zcu hR);have cN:=hR.few;have gZ:=hR.le;clear hR;have HB:=J hB;clear hB;unfold funD at hX
 dsimp only[tak] at hX
 have y:=J hX;clear hX
 go_enter Tryz.func72,Tryz.ntmps72
 go_wp2_with fail
 refine zag (fun W=>Fr T w W W g st cap ts s) HF.out ?_;intro W0 hF;clear HF;have HF:=J hF;clear hF;refine(zah ⟨#[102,117,110,99]⟩ HF.out.hR).mono ?_;rintro e W1 ⟨rfl,g1,r1⟩;obtain⟨t1,F⟩:∃ t,takT ts ⟨#[102,117,110,99]⟩ s=t:=⟨_,rfl⟩;obtain⟨s1,C⟩:∃ s2,takS ts ⟨#[102,117,110,99]⟩ s=s2:=⟨_,rfl⟩;rw[show takT ts ⟨#[102,117,110,99]⟩ ⟨s.p,s.bad⟩=t1 from F];have q1:QdS T W1 g st cap ts s1:=C ▸ r1;have g4:Hid (LtQ s s1):=J (C ▸ zam _ _)
 try rw[F] at y
 try rw[C] at y
 have dN:=J (HF.out.call g1 q1);clear F C r1 q1 g1 HF
 go_wp2_with fail
 refine(zau 7 t1 ⟨#[]⟩ W1).mono ?_;rintro e D ⟨rfl,b4⟩;have bV:=J (dN.out.low b4);clear b4 dN;obtain⟨W7,gG,b7,f7,l7⟩:=zdp (z:=w.heap.size) bV.out (zaa bV.out.hZ) 7 t1 ⟨#[]⟩;have ev:=J l7;have h6:=b7.size;have cD:=J (f7);clear b7 f7 l7 bV;obtain⟨⟨lr,sr⟩,aq⟩:∃ r,recD ts s1=r:=⟨_,rfl⟩;rw[aq] at y;have aj:=J aq;clear aq
 try dsimp only at y
 go_wp2_with fail
 clear gG;refine(zas ⟨#[40]⟩ cD.out.hR).mono ?_;rintro e hC ⟨rfl,cT⟩;obtain⟨fq,A⟩:∃ b,isQ ts s1.p ⟨#[40]⟩=b:=⟨_,rfl⟩;rw[A];have aU:=J A
 try rw[A] at y
 have bM:=J (ev.out.below cT);have aM:=J (cD.out.low cT);clear A cT cD ev;have aq:=aj.out;unfold recD at aq;rw[aU.out] at aq
 dsimp only[tak] at aq
 clear aj;have aj:=J aq;clear aq
 go_upto_if 12 with fail
 go_cut [] (fun wc=>∃ v,Fr T w W0 wc g st cap ts sr∧Qk W0.heap.size (w.heap.size) wc (D.heap.size) 7 ⟨#[]⟩ 0 t1.pos t1.pos 0 t1.pos v lr∧Few lr sr)
 case first=>
  clear y
  cases fq
  ·skip
   obtain⟨rfl,rfl⟩:=Prod.mk.inj (show(([]:List Pt),s1)=(lr,sr) from aj);clear aj
   go_wp2_with fail
   go_meet
   case rel=>exact⟨_,aM.out,bM.out,⟨Yk _,fun _=>Yk _⟩⟩
  ·skip
   go_wp2_with fail
   refine(zah ⟨#[40]⟩ aM.out.hR).mono ?_;rintro e fN ⟨rfl,b8,d7⟩;obtain⟨gd,F⟩:∃ t,takT ts ⟨#[40]⟩ s1=t:=⟨_,rfl⟩;obtain⟨aI,C⟩:∃ s2,takS ts ⟨#[40]⟩ s1=s2:=⟨_,rfl⟩;rw[show takT ts ⟨#[40]⟩ ⟨s1.p,s1.bad⟩=gd from F];have ey:QdS T fN g st cap ts aI:=C ▸ d7;have hI:Hid (LtQ s1 aI):=J (C ▸ zam _ _)
   try rw[F] at y
   try rw[C] at y
   try rw[F] at aj
   try rw[C] at aj
   have da:=J (bM.out.grow aM.out.gB b8);have bs:=J (aM.out.call b8 ey);clear F C d7 ey b8 aM bM
   go_wp2_with fail
   refine(zah ⟨#[110,97,109,101]⟩ bs.out.hR).mono ?_;rintro e fW ⟨rfl,b0,dK⟩;obtain⟨aa,F⟩:∃ t,takT ts ⟨#[110,97,109,101]⟩ aI=t:=⟨_,rfl⟩;obtain⟨aC,C⟩:∃ s2,takS ts ⟨#[110,97,109,101]⟩ aI=s2:=⟨_,rfl⟩;rw[show takT ts ⟨#[110,97,109,101]⟩ ⟨aI.p,aI.bad⟩=aa from F];have eQ:QdS T fW g st cap ts aC:=C ▸ dK;have g9:Hid (LtQ aI aC):=J (C ▸ zam _ _)
   try rw[F] at y
   try rw[C] at y
   try rw[F] at aj
   try rw[C] at aj
   have e0:=J (da.out.grow bs.out.gB b0);have dq:=J (bs.out.call b0 eQ);clear F C dK eQ b0 bs da;obtain⟨gA,e3,dV,di,eJ⟩:=zea dq aa;have dU:=J (e0.out.below dV);have bQ:=J eJ;have ej:=J (di);clear dV di eJ dq e0;obtain⟨e4,gu,gq⟩:=bQ.out.cells
   go_wp2_with fail
   clear e3 e4 gu gq;refine(zau 8 aa aa.text gA).mono ?_;rintro e an ⟨rfl,bu⟩;have hu:=J (bQ.out.low bu);have eU:=J (dU.out.below bu);have ek:=J (ej.out.low bu);clear bu ej bQ dU;have cH:=J (zby an g);have bv:=eU;clear eU;have gr:=cH.out.size;have hr:=bv.out.lt;have eS:an.heap.size≠D.heap.size:=by omega
   have gb:D.heap.size<an.heap.size:=by omega
   have ii:(Value.slice none 0 0).ownBlock≠some (an.heap.size):=fun e=>by have h:=(bv.out.own e).2;omega
   obtain⟨hw,fO,bY,eh,eE⟩:=zdp (z:=D.heap.size) ek.out gb 8 aa aa.text;have ed:=J (zab cH (zae bY));have eB:=J eE;have hD:=bY.size;have bc:=J (eh);clear bY eh eE ek cH
   go_wp2_with fail
   clear fO;refine(zah ⟨#[110,97,109,101]⟩ bc.out.hR).mono ?_;rintro e gS ⟨rfl,bw,eZ⟩;obtain⟨ae,F⟩:∃ t,takT ts ⟨#[110,97,109,101]⟩ aC=t:=⟨_,rfl⟩;obtain⟨al,C⟩:∃ s2,takS ts ⟨#[110,97,109,101]⟩ aC=s2:=⟨_,rfl⟩;rw[show takT ts ⟨#[110,97,109,101]⟩ ⟨aC.p,aC.bad⟩=ae from F];have dL:QdS T gS g st cap ts al:=C ▸ eZ;have g3:Hid (LtQ aC al):=J (C ▸ zam _ _)
   try rw[F] at y
   try rw[C] at y
   try rw[F] at aj
   try rw[C] at aj
   have eK:=J (eB.out.grow bc.out.gB bw);have c8:=J (zab ed bw);have dZ:=J (bc.out.call bw dL);clear F C eZ dL bw bc eB ed;obtain⟨fH,e8,cV,dR,dH⟩:=zea dZ ae;have eO:=J (eK.out.below cV);have dT:=J (zab c8 (zae cV));have cF:=J dH;have c9:=J (dR);clear cV dR dH dZ eK c8;obtain⟨fe,e6,gK⟩:=cF.out.cells
   go_wp2_with fail
   clear e8 fe e6 gK;refine(zau 11 ae ae.text fH).mono ?_;rintro e ie ⟨rfl,aY⟩;have hJ:=J (cF.out.low aY);have d1:=J (eO.out.below aY);have du:=J (zab dT (zae aY));have dC:=J (c9.out.low aY);clear aY c9 cF eO dT
   go_wp2_with fail
   refine(ze7 dC 11 ae ae.text).mono ?_;rintro e ck ⟨rfl,b1,dX⟩;have dv:=J (d1.out.below b1);have em:=J (zab du (zae b1));have dr:=J (dX);clear b1 dX dC d1 du;obtain⟨en,c7,aL,dz,es,ee,ea,gM⟩:=ze0 dr dv (v:=(⟨11,ae.text,0,ae.pos,ae.pos,(behI ts al.p),ae.pos,[]⟩:Qv)) (e:=(⟨11,ae.text,0,ae.pos,ae.pos,(behI ts al.p),ae.pos,none,0,0⟩:Qe)) (S:=(fun _=>False)) (J (zeg _ _ _ _ _ _ _)).out (fun _ h=>h.elim);have cS:=J ee;have ei:=J (zaw em (ea.mono gr));have bX:=J (es)
   dsimp only[Qe.cells,paQ] at en c7 dz
   clear es ee ea gM dr dv em;unfold Qe.cells paQ;have eG:=J (bv.out.grow bX.out.gB ei);clear ei bv;obtain⟨fS,fg,fb,fm,fs,f4,fY,fJ,gn,fM⟩:=row9 cS.out.row
   go_wp2_with fail
   clear en c7 dz fS fg fb fm fs f4 fY fJ gn fM;have bj:Below aL.heap.size aL aL.drew:=(Yb _ _).drew;have aD:=J (bX.out.low bj);have be:=J (eG.out.below bj);have bG:=J (cS.out.below bj);obtain⟨hK,hP,h8,gx,dG⟩:=z3w aD bG;injection gx with u1 u2 u3;subst u1 u2 u3;have bW:=J dG;clear dG;have ak:Hid (Hid (aL.drew.heap[an.heap.size]?=some (.cells (paQ 8 aa.text 0 aa.pos aa.pos 0 aa.pos (.slice (some ⟨ck.heap.size,0,none⟩) 1 1)) 63 (0,0)))):=J (J bG.out.row);have bR:an.heap.size≠g:=by have h1:=bG.out.hB;have h2:=aD.out.gB;omega
   clear bj bX eG cS;have fv:aL.drew.cell? ⟨D.heap.size,8,none⟩=some (.slice none 0 0):=Yp 8 be.out.row rfl;apply zb8 (fun V y1 y2 U M K N Y y8 X Wy sp sn sc E=>Fr T w W0 E g st cap ts al∧Qk W0.heap.size (w.heap.size) E (D.heap.size) 7 ⟨#[]⟩ 0 t1.pos t1.pos 0 t1.pos (.slice sp sn sc) ([]++[(⟨8,aa.text,0,aa.pos,aa.pos,behI ts al.p,aa.pos,[(⟨11,ae.text,0,ae.pos,ae.pos,(behI ts al.p),ae.pos,[]⟩:Qv).pt]⟩:Qv).pt])∧aL.drew.grownBy Wy (some g)∧((w.heap.size)≠D.heap.size->E.heap[w.heap.size]?=Wy.heap[w.heap.size]?)∧Wy.heap.size<=E.heap.size)
   rotate_left
   ·intro hc;refine zbc (S:=fun W'=>Hid (W'.heap[an.heap.size]?=some (.cells (paQ 8 aa.text 0 aa.pos aa.pos 0 aa.pos (.slice (some ⟨ck.heap.size,0,none⟩) 1 1)) 63 (0,0)))) 9 rfl (by kernel_rfl) ?_;refine zal 0 31 (.pointer (some ⟨D.heap.size,8,none⟩)) rfl (by kernel_rfl) (fun _ _ _ h=>h) (fun w' _=>by first|rfl|(go_simp;done)) ak.out ?_;simp only[sI,sS,sZ];refine zal 2 33 (.pointer (some ⟨g,0,none⟩)) rfl (by kernel_rfl) (fun _ _ _ h=>h) (fun w' _=>by first|rfl|(go_simp;done)) ak.out ?_;simp only[sI,sS,sZ];refine zhv 3 34 63 _ rfl (an.heap.size) 63 (paQ 8 aa.text 0 aa.pos aa.pos 0 aa.pos (.slice (some ⟨ck.heap.size,0,none⟩) 1 1)) (0,0) rfl (by kernel_rfl) (fun _ _ _ h=>h) _ (fun w' fc=>fc.out) Tryz.underlying63 rfl (by kernel_rfl) ak.out ?_;simp only[sI,sS,sZ];refine wpAnyH_all (rs:=[1,4]) (by kernel_rfl) (by simp) fun i A=>?_;simp only[List.mem_cons,List.not_mem_nil,or_false] at A;rcases A with rfl|rfl
    ·skip
     refine zan rfl rfl ?_
     go_simp
     refine⟨ak.out,?_⟩;refine zac 4 rfl (by kernel_rfl) ?_
     go_simp
     refine bW.out.mono ?_;rintro e bq ⟨⟨V,y1,y2,U,M,K,N,Y,y8,X⟩,rfl,q48,g48,r48⟩;obtain⟨cR,bZ,v2,w1,E,I,ce,cf,cw,a7,aF,a1,Z,aT⟩:=zlm aD be (by simp) g48 r48 q48 (fun j hj=>⟨hj.1,hj.2.1,hj.2.2,by have:=aD.out.s0;omega,by simp[Value.ownBlock]⟩);obtain⟨x1,x2,x3,x4⟩:=aT (an.heap.size) bR eS (zaa ak.out.out) (by simp[Value.ownBlock]);have bk:=J (J (x1.trans ak.out.out));have a8:=J (J (x2.trans ak.out.out));have aE:=J (J (x3.trans ak.out.out));have bA:=J (J (x4.trans ak.out.out));obtain⟨ai,af,ag,ah⟩:=aF.sl;subst ah;have ac:=J (hc V y1 y2 U M K N Y y8 X bq ai af ag E ⟨a7,aF,g48,a1,Z⟩)
     dsimp only[Qe.cells,paQ] at cR bZ I ce cf cw
     unfold Qe.cells paQ;clear a7 aF a1 q48 g48 r48 Z aT x1 x2 x3 x4;refine⟨bk.out,?_⟩;refine zac 5 rfl (by kernel_rfl) ?_
     go_simp
     refine⟨a8.out,?_⟩;refine zac 6 rfl (by kernel_rfl) ?_;refine zaf (.tmp 32) (.tmp 36) 61 rfl rfl rfl I ?_;refine⟨aE.out,?_⟩;simp only[Act.put,sI,sS,sZ];refine zal 7 38 (.pointer (some ⟨D.heap.size,8,none⟩)) rfl (by kernel_rfl) (fun _ _ _ h=>h) (fun w' _=>by first|rfl|(go_simp;done)) aE.out ?_;simp only[sI,sS,sZ];refine zac 8 rfl (by kernel_rfl) ?_
     go_simp
     refine⟨bA.out,?_⟩;refine wpAnyH_done (by kernel_rfl) ?_ _;exact ac
    ·skip
     refine zan rfl rfl ?_
     go_simp
     refine bW.out.mono ?_;rintro e bq ⟨⟨V,y1,y2,U,M,K,N,Y,y8,X⟩,rfl,q48,g48,r48⟩;obtain⟨cR,bZ,v2,w1,E,I,ce,cf,cw,a7,aF,a1,Z,aT⟩:=zlm aD be (by simp) g48 r48 q48 (fun j hj=>⟨hj.1,hj.2.1,hj.2.2,by have:=aD.out.s0;omega,by simp[Value.ownBlock]⟩);obtain⟨x1,x2,x3,x4⟩:=aT (an.heap.size) bR eS (zaa ak.out.out) (by simp[Value.ownBlock]);have bk:=J (J (x1.trans ak.out.out));have a8:=J (J (x2.trans ak.out.out));have aE:=J (J (x3.trans ak.out.out));have bA:=J (J (x4.trans ak.out.out));obtain⟨ai,af,ag,ah⟩:=aF.sl;subst ah;have ac:=J (hc V y1 y2 U M K N Y y8 X bq ai af ag E ⟨a7,aF,g48,a1,Z⟩)
     dsimp only[Qe.cells,paQ] at cR bZ I ce cf cw
     unfold Qe.cells paQ;clear a7 aF a1 q48 g48 r48 Z aT x1 x2 x3 x4;refine⟨bk.out,?_⟩;refine wpAnyH_all (rs:=[1,5]) (by kernel_rfl) (by simp) fun i A=>?_;simp only[List.mem_cons,List.not_mem_nil,or_false] at A;rcases A with rfl|rfl
     ·skip
      refine zan rfl rfl ?_
      go_simp
      refine⟨bk.out,?_⟩;refine zac 5 rfl (by kernel_rfl) ?_
      go_simp
      refine⟨a8.out,?_⟩;refine zac 6 rfl (by kernel_rfl) ?_;refine zaf (.tmp 32) (.tmp 36) 61 rfl rfl rfl I ?_;refine⟨aE.out,?_⟩;simp only[Act.put,sI,sS,sZ];refine zal 7 38 (.pointer (some ⟨D.heap.size,8,none⟩)) rfl (by kernel_rfl) (fun _ _ _ h=>h) (fun w' _=>by first|rfl|(go_simp;done)) aE.out ?_;simp only[sI,sS,sZ];refine zac 8 rfl (by kernel_rfl) ?_
      go_simp
      refine⟨bA.out,?_⟩;refine wpAnyH_done (by kernel_rfl) ?_ _;exact ac
     ·skip
      refine zan rfl rfl ?_
      go_simp
      refine⟨a8.out,?_⟩;refine zac 1 rfl (by kernel_rfl) ?_
      go_simp
      refine⟨a8.out,?_⟩;refine zac 6 rfl (by kernel_rfl) ?_;refine zaf (.tmp 32) (.tmp 36) 61 rfl rfl rfl I ?_;refine⟨aE.out,?_⟩;simp only[Act.put,sI,sS,sZ];refine zal 7 38 (.pointer (some ⟨D.heap.size,8,none⟩)) rfl (by kernel_rfl) (fun _ _ _ h=>h) (fun w' _=>by first|rfl|(go_simp;done)) aE.out ?_;simp only[sI,sS,sZ];refine zac 8 rfl (by kernel_rfl) ?_
      go_simp
      refine⟨bA.out,?_⟩;refine wpAnyH_done (by kernel_rfl) ?_ _;exact ac
   intro V y1 y2 U M K N Y y8 X bq hO hS g6 gV fC;obtain⟨dQ,eN,fi,fZ,ik⟩:=fC;have ex:=J eN;have bb:=J (dQ);clear dQ eN fi fZ aD be fv bW ak bR bG
   go_wp2_with fail
   refine(zah ⟨#[41]⟩ bb.out.hR).mono ?_;rintro e fy ⟨rfl,cQ,dD⟩;obtain⟨e5,F⟩:∃ t,takT ts ⟨#[41]⟩ al=t:=⟨_,rfl⟩;obtain⟨cr,C⟩:∃ s2,takS ts ⟨#[41]⟩ al=s2:=⟨_,rfl⟩;rw[show takT ts ⟨#[41]⟩ ⟨al.p,al.bad⟩=e5 from F];have dh:QdS T fy g st cap ts cr:=C ▸ dD;have fa:Hid (LtQ al cr):=J (C ▸ zam _ _)
   try rw[F] at y
   try rw[C] at y
   try rw[F] at aj
   try rw[C] at aj
   have ff:=J (ex.out.grow bb.out.gB cQ);have fV:=J (bb.out.call cQ dh);clear F C dD dh cQ bb ex;obtain⟨rfl,rfl⟩:=Prod.mk.inj (show((([]++[(⟨8,aa.text,0,aa.pos,aa.pos,behI ts al.p,aa.pos,[(⟨11,ae.text,0,ae.pos,ae.pos,(behI ts al.p),ae.pos,[]⟩:Qv).pt]⟩:Qv).pt]):List Pt),cr)=(lr,sr) from aj);clear aj
   go_wp2_with fail
   go_meet
   case rel=>exact⟨_,fV.out,ff.out,⟨by simp,fun hb=>by have h:=fa.out.2;rw[hb] at h;simp at h;simp;omega⟩⟩
 case rest=>
  obtain⟨im,aO,ax,eb⟩:=hcut;obtain⟨fR,gy,fj,hv⟩:=ax.sl;subst hv;have bC:=J aO;have dS:=J ax;have fl:=J eb;clear aO ax eb aM bM aj
  go_wp2_with fail
  refine(zah ⟨#[110,97,109,101]⟩ bC.out.hR).mono ?_;rintro e dM ⟨rfl,cW,eF⟩;obtain⟨ab,F⟩:∃ t,takT ts ⟨#[110,97,109,101]⟩ sr=t:=⟨_,rfl⟩;obtain⟨az,C⟩:∃ s2,takS ts ⟨#[110,97,109,101]⟩ sr=s2:=⟨_,rfl⟩;rw[show takT ts ⟨#[110,97,109,101]⟩ ⟨sr.p,sr.bad⟩=ab from F];have dg:QdS T dM g st cap ts az:=C ▸ eF;have gc:Hid (LtQ sr az):=J (C ▸ zam _ _)
  try rw[F] at y
  try rw[C] at y
  have d8:=J (dS.out.grow bC.out.gB cW);have eg:=J (bC.out.call cW dg);clear F C eF dg cW bC dS;obtain⟨bo,fd,d0,er,eW⟩:=zea eg ab;have a3:=J (d8.out.below d0);have aN:=J eW;have d3:=J (er);clear d0 er eW eg d8;obtain⟨fT,gC,f6⟩:=aN.out.cells;obtain⟨gf,e1,f9,gH,e9,fz,gL,e7,fE,ga⟩:=row9 a3.out.row
  go_wp2_with fail
  go_region
  obtain⟨ez,dk,eV,cG,dJ⟩:∃ W2,((bo.setCell ⟨D.heap.size,1,none⟩ (.string ab.text)).setCell ⟨D.heap.size,4,none⟩ (.int .i64 ab.pos)).drew=W2∧Below (D.heap.size) bo W2∧(∀ j,j≠D.heap.size->j<bo.heap.size->W2.heap[j]?=bo.heap[j]?)∧W2.heap[D.heap.size]?=some (.cells (paQ 7 ab.text 0 ab.pos t1.pos 0 t1.pos (.slice fR gy fj)) 63 (0,0)) :=
   ⟨_,rfl,(((Yb _ _).setCell (p:=⟨D.heap.size,1,none⟩) (Ya _) _).setCell (p:=⟨D.heap.size,4,none⟩) (Ya _) _).drew,fun j hj _=>(Ye _ _ _ _ hj).trans ((Ye _ _ _ _ hj).trans (rfl)),Yf _ _ 4 _ _ _ (Yf _ _ 1 _ _ _ (a3.out.row))⟩
  obtain⟨dA,eo⟩:=zj6 d3 a3 ez eV cG 7 ab.text 0 ab.pos t1.pos 0 t1.pos dJ;have eL:=J eo;have hp:Hid (Tl W0 ez dM.heap.size ab):=J ⟨aN.out.hB,(cG _ (zh0 aN a3.out.row) (zaa aN.out.row)).trans aN.out.row⟩;have bD:=J (dA);clear dA eo eV cG dJ d3 a3 aN;rw[dk];clear dk fd fT gC f6 gf e1 f9 gH e9 fz gL e7 fE ga
  go_wp2_with fail
  refine(zah ⟨#[40]⟩ bD.out.hR).mono ?_;rintro e ft ⟨rfl,ch,dW⟩;obtain⟨e2,F⟩:∃ t,takT ts ⟨#[40]⟩ az=t:=⟨_,rfl⟩;obtain⟨cK,C⟩:∃ s2,takS ts ⟨#[40]⟩ az=s2:=⟨_,rfl⟩;rw[show takT ts ⟨#[40]⟩ ⟨az.p,az.bad⟩=e2 from F];have d6:QdS T ft g st cap ts cK:=C ▸ dW;have f0:Hid (LtQ az cK):=J (C ▸ zam _ _)
  try rw[F] at y
  try rw[C] at y
  have cA:=J (eL.out.grow bD.out.gB ch);have cp:=J (bD.out.call ch d6);clear F C dW d6 ch bD eL
  go_upto_block 0 with fail
  rcases hk67:(dns ts n).parL lr cK with _|⟨lf,sf⟩
  ·exact absurd y (by rw[hk67];intro h;cases h)
  rw[hk67] at y;simp only[Option.bind_some] at y;have co:=J hk67;have b3:=y;clear y hk67
  go_cut [] (fun wc=>∃ v,Fr T w W0 wc g st cap ts sf∧Qk W0.heap.size (w.heap.size) wc (D.heap.size) 7 ab.text 0 ab.pos t1.pos 0 t1.pos v lf∧lf.length<=150001)
  case first=>
   clear b3
   go_wp2_with fail
   go_loopw [] (fun wr=>∃ (l:List Pt) (q:Qs) (v:Value) (m:Nat),Fr T w W0 wr g st cap ts q∧Qk W0.heap.size (w.heap.size) wr (D.heap.size) 7 ab.text 0 ab.pos t1.pos 0 t1.pos v l∧(dns ts m).parL l q=some (lf,sf)∧m<=n∧Few l q) (fun wr=>muQ ts g wr)
   case atStart=>exact⟨_,_,_,_,cp.out,cA.out,co.out,Ya _,(fl.out.le (gc.out.le.trans f0.out.le))⟩
   case round=>
    obtain⟨l,q,v,m,hF,hQ,hm,hy,bP⟩:=hrel;have a4:=J hF;have c5:=J hQ;have bm:=J bP;have et:=J (zdo hF.hR);have el:q.p<=ts.length:=hF.hR.le;have ao:=J (bP.lt hF.hR);obtain⟨bF,bh,bn,hv⟩:=hQ.sl;subst hv;clear hF hQ bP cp cA co
    cases m with
    | zero=>cases hm
    | succ m=>
    rw[zqy] at hm;have y:=J hm;clear hm;obtain⟨db,bi⟩:∃ b,q.bad=b:=⟨_,rfl⟩;have eA:wr.cell? ⟨g,2,none⟩=some (.bool db):=bi ▸ a4.out.hR.c2;rw[bi] at y;have bz:=J bi;clear bi
    cases db
    ·skip
     go_wp2_with fail
     clear eA;refine(zas ⟨#[41]⟩ a4.out.hR).mono ?_;rintro e aK ⟨rfl,cZ⟩;obtain⟨gE,A⟩:∃ b,isQ ts q.p ⟨#[41]⟩=b:=⟨_,rfl⟩;rw[A];have aU:=J A
     try rw[A] at y
     have cb:=J (c5.out.below cZ);have bE:=J (a4.out.low cZ);clear A cZ a4 c5
     cases gE
     ·skip
      replace y:=J (if_t y (by first|rfl|trivial))
      have hX:=y.out
      try dsimp only[tak] at hX
      replace y:=J hX
      clear hX
      go_wp2_with (fail)
      obtain⟨⟨gz,av⟩,hk72⟩:∃ r,tydD ts 9 q=r:=⟨_,rfl⟩;rw[hk72] at y
      try dsimp only at y
      have bJ:=J (show LtQ q av from by have h:=zmx (ts:=ts) 9 q;rw[hk72] at h;exact h);have ap:=J bE;have b6:Below aK.heap.size aK aK.drew:=(Yb _ _).drew;have aV:=J (bE.out.low b6);have bB:=J (cb.out.below b6);have bH:=J (fun (h:QdS T aK.drew g st cap ts q)=>zi9 9 (fun w s=>zgf) h);rw[hk72] at bH;clear hk72 b6 bE cb;have f3:aK.drew.cell? ⟨D.heap.size,8,none⟩=some (.slice bF bh bn):=Yp 8 bB.out.row rfl;apply zb8 (fun V y1 y2 U M K N Y y8 X Wy sp sn sc E=>Fr T w W0 E g st cap ts av∧Qk W0.heap.size (w.heap.size) E (D.heap.size) 7 ab.text 0 ab.pos t1.pos 0 t1.pos (.slice sp sn sc) (l++[gz.pt])∧aK.drew.grownBy Wy (some g)∧((w.heap.size)≠D.heap.size->E.heap[w.heap.size]?=Wy.heap[w.heap.size]?)∧Wy.heap.size<=E.heap.size)
      rotate_left
      ·intro hc;refine zbc (S:=fun _=>Hid True) 8 rfl (by kernel_rfl) ?_;refine zal 0 63 (.pointer (some ⟨D.heap.size,8,none⟩)) rfl (by kernel_rfl) (fun _ _ _ h=>h) (fun w' _=>by first|rfl|(go_simp;done) | (go_simp;rw[Yi];omega)) (J trivial) ?_;simp only[sI,sS,sZ];refine zal 2 65 (.pointer (some ⟨g,0,none⟩)) rfl (by kernel_rfl) (fun _ _ _ h=>h) (fun w' _=>by first|rfl|(go_simp;done) | (go_simp;rw[Yi];omega)) (J trivial) ?_;simp only[sI,sS,sZ];refine wpAnyH_all (rs:=[1,3]) (by kernel_rfl) (by simp) fun i A=>?_;simp only[List.mem_cons,List.not_mem_nil,or_false] at A;rcases A with rfl|rfl
       ·skip
        refine zan rfl rfl ?_
        go_simp
        refine⟨J trivial,?_⟩;refine zac 3 rfl (by kernel_rfl) ?_
        go_simp
        refine(bH aV.out.hR).mono ?_;rintro e bI ⟨⟨V,y1,y2,U,M,K,N,Y,y8,X⟩,rfl,q72,g72,r72⟩;obtain⟨c4,c3,v2,w1,E,I,ce,cf,cw,aP,aw,a9,Z⟩:=zb3 aV bB ((Yo (bm.out.lt ap.out.hR) (by omega))) g72 r72 q72;obtain⟨ai,af,ag,ah⟩:=aw.sl;subst ah;have ac:=J (hc V y1 y2 U M K N Y y8 X bI ai af ag E ⟨aP,aw,g72,a9,Z⟩)
        dsimp only[Qe.cells,paQ] at c4 c3 I ce cf cw
        unfold Qe.cells paQ;clear aP aw a9 q72 g72 r72 Z;refine⟨J trivial,?_⟩;refine zac 4 rfl (by kernel_rfl) ?_
        go_simp
        refine⟨J trivial,?_⟩;refine zac 5 rfl (by kernel_rfl) ?_;refine zaf (.tmp 64) (.tmp 67) 61 rfl rfl rfl I ?_;refine⟨J trivial,?_⟩;simp only[Act.put,sI,sS,sZ];refine zal 6 69 (.pointer (some ⟨D.heap.size,8,none⟩)) rfl (by kernel_rfl) (fun _ _ _ h=>h) (fun w' _=>by first|rfl|(go_simp;done) | (go_simp;rw[Yi];omega)) (J trivial) ?_;simp only[sI,sS,sZ];refine zac 7 rfl (by kernel_rfl) ?_
        go_simp
        refine⟨J trivial,?_⟩;refine wpAnyH_done (by kernel_rfl) ?_ _;exact ac
       ·skip
        refine zan rfl rfl ?_
        go_simp
        refine(bH aV.out.hR).mono ?_;rintro e bI ⟨⟨V,y1,y2,U,M,K,N,Y,y8,X⟩,rfl,q72,g72,r72⟩;obtain⟨c4,c3,v2,w1,E,I,ce,cf,cw,aP,aw,a9,Z⟩:=zb3 aV bB ((Yo (bm.out.lt ap.out.hR) (by omega))) g72 r72 q72;obtain⟨ai,af,ag,ah⟩:=aw.sl;subst ah;have ac:=J (hc V y1 y2 U M K N Y y8 X bI ai af ag E ⟨aP,aw,g72,a9,Z⟩)
        dsimp only[Qe.cells,paQ] at c4 c3 I ce cf cw
        unfold Qe.cells paQ;clear aP aw a9 q72 g72 r72 Z;refine⟨J trivial,?_⟩;refine wpAnyH_all (rs:=[1,4]) (by kernel_rfl) (by simp) fun i A=>?_;simp only[List.mem_cons,List.not_mem_nil,or_false] at A;rcases A with rfl|rfl
        ·skip
         refine zan rfl rfl ?_
         go_simp
         refine⟨J trivial,?_⟩;refine zac 4 rfl (by kernel_rfl) ?_
         go_simp
         refine⟨J trivial,?_⟩;refine zac 5 rfl (by kernel_rfl) ?_;refine zaf (.tmp 64) (.tmp 67) 61 rfl rfl rfl I ?_;refine⟨J trivial,?_⟩;simp only[Act.put,sI,sS,sZ];refine zal 6 69 (.pointer (some ⟨D.heap.size,8,none⟩)) rfl (by kernel_rfl) (fun _ _ _ h=>h) (fun w' _=>by first|rfl|(go_simp;done) | (go_simp;rw[Yi];omega)) (J trivial) ?_;simp only[sI,sS,sZ];refine zac 7 rfl (by kernel_rfl) ?_
         go_simp
         refine⟨J trivial,?_⟩;refine wpAnyH_done (by kernel_rfl) ?_ _;exact ac
        ·skip
         refine zan rfl rfl ?_
         go_simp
         refine⟨J trivial,?_⟩;refine zac 1 rfl (by kernel_rfl) ?_
         go_simp
         refine⟨J trivial,?_⟩;refine zac 5 rfl (by kernel_rfl) ?_;refine zaf (.tmp 64) (.tmp 67) 61 rfl rfl rfl I ?_;refine⟨J trivial,?_⟩;simp only[Act.put,sI,sS,sZ];refine zal 6 69 (.pointer (some ⟨D.heap.size,8,none⟩)) rfl (by kernel_rfl) (fun _ _ _ h=>h) (fun w' _=>by first|rfl|(go_simp;done) | (go_simp;rw[Yi];omega)) (J trivial) ?_;simp only[sI,sS,sZ];refine zac 7 rfl (by kernel_rfl) ?_
         go_simp
         refine⟨J trivial,?_⟩;refine wpAnyH_done (by kernel_rfl) ?_ _;exact ac
      intro V y1 y2 U M K N Y y8 X bI hN hz he gU fK;obtain⟨dI,dw,d2,dB,hg⟩:=fK;have dF:=J dw;have g0:=J d2;have il:=J dB;have bT:=J (dI);clear dI dw d2 dB aV bB f3 bH ap
      go_wp2_with fail
      refine(zas ⟨#[41]⟩ bT.out.hR).mono ?_;rintro e ig ⟨rfl,cj⟩;obtain⟨gk,A⟩:∃ b,isQ ts av.p ⟨#[41]⟩=b:=⟨_,rfl⟩;rw[A];have aU:=J A
      try rw[A] at y
      have bU:=J (dF.out.below cj);have a5:=J (bT.out.low cj);clear A cj bT dF
      cases gk
      ·skip
       replace y:=J (if_f y (fun h=>by cases h))
       go_wp2_with fail
       refine(zah ⟨#[44]⟩ a5.out.hR).mono ?_;rintro e gi ⟨rfl,ct,eu⟩;obtain⟨gN,F⟩:∃ t,takT ts ⟨#[44]⟩ av=t:=⟨_,rfl⟩;obtain⟨ar,C⟩:∃ s2,takS ts ⟨#[44]⟩ av=s2:=⟨_,rfl⟩;rw[show takT ts ⟨#[44]⟩ ⟨av.p,av.bad⟩=gN from F];have eD:QdS T gi g st cap ts ar:=C ▸ eu;have bL:Hid (LtQ av ar):=J (C ▸ zam _ _)
       try rw[F] at y
       try rw[C] at y
       have ec:=J (bU.out.grow a5.out.gB ct);have cg:=J (a5.out.call ct eD);clear F C eu eD ct a5 bU
       go_wp2_with fail
       refine(zas ⟨#[41]⟩ cg.out.hR).mono ?_;rintro e ci ⟨rfl,cB⟩;obtain⟨fo,A⟩:∃ b,isQ ts ar.p ⟨#[41]⟩=b:=⟨_,rfl⟩;rw[A];have aU:=J A
       try rw[A] at y
       have cn:=J (ec.out.below cB);have au:=J (cg.out.low cB);clear A cB cg ec
       cases fo
       ·skip
        rw[show wrQ false ar=ar from rfl] at y;have cc:=J (zdo au.out.hR)
        go_wp2
        go_round
        case rel=>exact⟨_,_,_,m,au.out,cn.out,y.out,by omega,(bm.out.more bz bJ).le (bL.out.le)⟩
        case measure=>
         rw[cc.out,et.out];exact ze5 bz el au.out.hR.le (bJ.out.trans (bL.out.le))
       ·skip
        have HW:Hid (LeQ ar (wrQ true ar)):=J (zqv _ _);obtain⟨hn,g7,cU,b5⟩:∃ W2,ci.setCell ⟨g,2,none⟩ (.bool true)=W2∧ci.grownBy W2 (some g)∧QdS T W2 g st cap ts (wrQ true ar):=⟨_,rfl,zlk ci g,au.out.hR.wrong⟩;have h5:=au.out.hR.c2;have hU:=au.out.hR.z 2;obtain⟨h4,b9⟩:∃ s2,wrQ true ar=s2:=⟨_,rfl⟩;rw[b9] at y b5
        try rw[b9] at HW
        have fn:=J (cn.out.grow au.out.gB cU);have cM:=J (au.out.call cU b5);clear b9 cU b5 au cn;have cc:=J (zdo cM.out.hR)
        go_wp2
        go_round
        case rel=>exact⟨_,_,_,m,cM.out,fn.out,y.out,by omega,(bm.out.more bz bJ).le ((bL.out.le.trans HW))⟩
        case measure=>
         rw[cc.out,et.out];exact ze5 bz el cM.out.hR.le (bJ.out.trans ((bL.out.le.trans HW)))
      ·skip
       replace y:=J (if_t y (by first|rfl|trivial))
       obtain⟨rfl,rfl⟩:=Prod.mk.inj (Yl y)
       go_wp2_with fail
       go_meet
       case rel=>exact⟨_,a5.out,bU.out,(by have h:=ao.out;(try simp only[List.length_append,List.length_cons,List.length_nil]);omega)⟩
     ·skip
      replace y:=J (if_f y (fun h=>by cases h))
      obtain⟨rfl,rfl⟩:=Prod.mk.inj (Yl y)
      go_wp2_with fail
      go_meet
      case rel=>exact⟨_,bE.out,cb.out,(by have h:=ao.out;(try simp only[List.length_append,List.length_cons,List.length_nil]);omega)⟩
    ·skip
     replace y:=J (if_f y (fun h=>by cases h))
     obtain⟨rfl,rfl⟩:=Prod.mk.inj (Yl y)
     go_wp2_with fail
     clear eA
     go_meet
     case rel=>exact⟨_,a4.out,c5.out,(by have h:=ao.out;(try simp only[List.length_append,List.length_cons,List.length_nil]);omega)⟩
  case rest=>
   obtain⟨vl,aO,ax,cN⟩:=hcut;obtain⟨bF,bh,bn,hv⟩:=ax.sl;subst hv;have bO:=J aO;have eP:=J ax;clear aO ax cp cA co;have y:=b3;clear b3;have ao:=J cN;clear cN
   go_wp2_with fail
   refine(zah ⟨#[41]⟩ bO.out.hR).mono ?_;rintro e fX ⟨rfl,cP,d9⟩;obtain⟨gD,F⟩:∃ t,takT ts ⟨#[41]⟩ sf=t:=⟨_,rfl⟩;obtain⟨aH,C⟩:∃ s2,takS ts ⟨#[41]⟩ sf=s2:=⟨_,rfl⟩;rw[show takT ts ⟨#[41]⟩ ⟨sf.p,sf.bad⟩=gD from F];have dE:QdS T fX g st cap ts aH:=C ▸ d9;have h9:Hid (LtQ sf aH):=J (C ▸ zam _ _)
   try rw[F] at y
   try rw[C] at y
   have eI:=J (eP.out.grow bO.out.gB cP);have cl:=J (bO.out.call cP dE);clear F C d9 dE cP bO eP
   go_wp2_with fail
   refine(zas ⟨#[123]⟩ cl.out.hR).mono ?_;rintro e am ⟨rfl,cO⟩;obtain⟨gw,A⟩:∃ b,isQ ts aH.p ⟨#[123]⟩=b:=⟨_,rfl⟩;rw[A];have aU:=J A
   try rw[A] at y
   have bx:=J (eI.out.below cO);have aJ:=J (cl.out.low cO);clear A cO cl eI
   cases gw
   ·skip
    replace y:=J (if_f y (fun h=>by cases h))
    go_wp2_with (fail)
    obtain⟨⟨cy,cq⟩,hk93⟩:∃ r,kinD ts aH=r:=⟨_,rfl⟩;rw[hk93] at y
    try dsimp only at y
    have ap:=J aJ;have cY:Below am.heap.size am am.drew:=(Yb _ _).drew;have aW:=J (aJ.out.low cY);have bN:=J (bx.out.below cY);have bl:=J (fun (h:QdS T am.drew g st cap ts aH)=>zgf h);rw[hk93] at bl;clear hk93 cY aJ bx;have f2:am.drew.cell? ⟨D.heap.size,8,none⟩=some (.slice bF bh bn):=Yp 8 bN.out.row rfl;apply zb8 (fun V y1 y2 U M K N Y y8 X Wy sp sn sc E=>Fr T w W0 E g st cap ts cq∧Qk W0.heap.size (w.heap.size) E (D.heap.size) 7 ab.text 0 ab.pos t1.pos 0 t1.pos (.slice sp sn sc) (lf++[cy.pt])∧am.drew.grownBy Wy (some g)∧((w.heap.size)≠D.heap.size->E.heap[w.heap.size]?=Wy.heap[w.heap.size]?)∧Wy.heap.size<=E.heap.size)
    rotate_left
    ·intro hc;refine zbc (S:=fun _=>Hid True) 8 rfl (by kernel_rfl) ?_;refine zal 0 84 (.pointer (some ⟨D.heap.size,8,none⟩)) rfl (by kernel_rfl) (fun _ _ _ h=>h) (fun w' _=>by first|rfl|(go_simp;done) | (go_simp;rw[Yi];omega)) (J trivial) ?_;simp only[sI,sS,sZ];refine zal 2 86 (.pointer (some ⟨g,0,none⟩)) rfl (by kernel_rfl) (fun _ _ _ h=>h) (fun w' _=>by first|rfl|(go_simp;done) | (go_simp;rw[Yi];omega)) (J trivial) ?_;simp only[sI,sS,sZ];refine wpAnyH_all (rs:=[1,3]) (by kernel_rfl) (by simp) fun i A=>?_;simp only[List.mem_cons,List.not_mem_nil,or_false] at A;rcases A with rfl|rfl
     ·skip
      refine zan rfl rfl ?_
      go_simp
      refine⟨J trivial,?_⟩;refine zac 3 rfl (by kernel_rfl) ?_
      go_simp
      refine(bl aW.out.hR).mono ?_;rintro e bt ⟨⟨V,y1,y2,U,M,K,N,Y,y8,X⟩,rfl,q93,g93,r93⟩;obtain⟨cX,ca,v2,w1,E,I,ce,cf,cw,aX,aA,a2,Z⟩:=zb3 aW bN ((by have h:=ao.out;(try simp only[List.length_append,List.length_cons,List.length_nil]);omega)) g93 r93 q93;obtain⟨ai,af,ag,ah⟩:=aA.sl;subst ah;have ac:=J (hc V y1 y2 U M K N Y y8 X bt ai af ag E ⟨aX,aA,g93,a2,Z⟩)
      dsimp only[Qe.cells,paQ] at cX ca I ce cf cw
      unfold Qe.cells paQ;clear aX aA a2 q93 g93 r93 Z;refine⟨J trivial,?_⟩;refine zac 4 rfl (by kernel_rfl) ?_
      go_simp
      refine⟨J trivial,?_⟩;refine zac 5 rfl (by kernel_rfl) ?_;refine zaf (.tmp 85) (.tmp 88) 61 rfl rfl rfl I ?_;refine⟨J trivial,?_⟩;simp only[Act.put,sI,sS,sZ];refine zal 6 90 (.pointer (some ⟨D.heap.size,8,none⟩)) rfl (by kernel_rfl) (fun _ _ _ h=>h) (fun w' _=>by first|rfl|(go_simp;done) | (go_simp;rw[Yi];omega)) (J trivial) ?_;simp only[sI,sS,sZ];refine zac 7 rfl (by kernel_rfl) ?_
      go_simp
      refine⟨J trivial,?_⟩;refine wpAnyH_done (by kernel_rfl) ?_ _;exact ac
     ·skip
      refine zan rfl rfl ?_
      go_simp
      refine(bl aW.out.hR).mono ?_;rintro e bt ⟨⟨V,y1,y2,U,M,K,N,Y,y8,X⟩,rfl,q93,g93,r93⟩;obtain⟨cX,ca,v2,w1,E,I,ce,cf,cw,aX,aA,a2,Z⟩:=zb3 aW bN ((by have h:=ao.out;(try simp only[List.length_append,List.length_cons,List.length_nil]);omega)) g93 r93 q93;obtain⟨ai,af,ag,ah⟩:=aA.sl;subst ah;have ac:=J (hc V y1 y2 U M K N Y y8 X bt ai af ag E ⟨aX,aA,g93,a2,Z⟩)
      dsimp only[Qe.cells,paQ] at cX ca I ce cf cw
      unfold Qe.cells paQ;clear aX aA a2 q93 g93 r93 Z;refine⟨J trivial,?_⟩;refine wpAnyH_all (rs:=[1,4]) (by kernel_rfl) (by simp) fun i A=>?_;simp only[List.mem_cons,List.not_mem_nil,or_false] at A;rcases A with rfl|rfl
      ·skip
       refine zan rfl rfl ?_
       go_simp
       refine⟨J trivial,?_⟩;refine zac 4 rfl (by kernel_rfl) ?_
       go_simp
       refine⟨J trivial,?_⟩;refine zac 5 rfl (by kernel_rfl) ?_;refine zaf (.tmp 85) (.tmp 88) 61 rfl rfl rfl I ?_;refine⟨J trivial,?_⟩;simp only[Act.put,sI,sS,sZ];refine zal 6 90 (.pointer (some ⟨D.heap.size,8,none⟩)) rfl (by kernel_rfl) (fun _ _ _ h=>h) (fun w' _=>by first|rfl|(go_simp;done) | (go_simp;rw[Yi];omega)) (J trivial) ?_;simp only[sI,sS,sZ];refine zac 7 rfl (by kernel_rfl) ?_
       go_simp
       refine⟨J trivial,?_⟩;refine wpAnyH_done (by kernel_rfl) ?_ _;exact ac
      ·skip
       refine zan rfl rfl ?_
       go_simp
       refine⟨J trivial,?_⟩;refine zac 1 rfl (by kernel_rfl) ?_
       go_simp
       refine⟨J trivial,?_⟩;refine zac 5 rfl (by kernel_rfl) ?_;refine zaf (.tmp 85) (.tmp 88) 61 rfl rfl rfl I ?_;refine⟨J trivial,?_⟩;simp only[Act.put,sI,sS,sZ];refine zal 6 90 (.pointer (some ⟨D.heap.size,8,none⟩)) rfl (by kernel_rfl) (fun _ _ _ h=>h) (fun w' _=>by first|rfl|(go_simp;done) | (go_simp;rw[Yi];omega)) (J trivial) ?_;simp only[sI,sS,sZ];refine zac 7 rfl (by kernel_rfl) ?_
       go_simp
       refine⟨J trivial,?_⟩;refine wpAnyH_done (by kernel_rfl) ?_ _;exact ac
    intro V y1 y2 U M K N Y y8 X bt gI fp gR ay gP;obtain⟨eR,eX,eC,eY,hT⟩:=gP;have de:=J eX;have hZ:=J eC;have ij:=J eY;have cI:=J (eR);clear eR eX eC eY aW bN f2 bl ap
    go_wp2_with (fail)
    rcases hk96:bloD ts (dns ts n) cq with _|⟨v96,s96⟩
    ·exact absurd y (by rw[hk96];intro h;cases h)
    rw[hk96] at y;simp only[Option.bind_some] at y;have ap:=J cI;have cL:Below ay.heap.size ay ay.drew:=(Yb _ _).drew;have a0:=J (cI.out.low cL);have br:=J (de.out.below cL);have cJ:=J (fun (h:QdS T ay.drew g st cap ts cq)=>(fun hk=>HB.out ay.drew _ _ hk h) hk96);clear hk96 cL cI de;have gg:ay.drew.cell? ⟨D.heap.size,8,none⟩=some (.slice gI fp gR):=Yp 8 br.out.row rfl;apply zb8 (fun V y1 y2 U M K N Y y8 X Wy sp sn sc E=>Fr T w W0 E g st cap ts s96∧Qk W0.heap.size (w.heap.size) E (D.heap.size) 7 ab.text 0 ab.pos t1.pos 0 t1.pos (.slice sp sn sc) ((lf++[cy.pt])++[v96.pt])∧ay.drew.grownBy Wy (some g)∧((w.heap.size)≠D.heap.size->E.heap[w.heap.size]?=Wy.heap[w.heap.size]?)∧Wy.heap.size<=E.heap.size)
    rotate_left
    ·intro hc;refine zbc (S:=fun _=>Hid True) 8 rfl (by kernel_rfl) ?_;refine zal 0 91 (.pointer (some ⟨D.heap.size,8,none⟩)) rfl (by kernel_rfl) (fun _ _ _ h=>h) (fun w' _=>by first|rfl|(go_simp;done) | (go_simp;rw[Yi];omega)) (J trivial) ?_;simp only[sI,sS,sZ];refine zal 2 93 (.pointer (some ⟨g,0,none⟩)) rfl (by kernel_rfl) (fun _ _ _ h=>h) (fun w' _=>by first|rfl|(go_simp;done) | (go_simp;rw[Yi];omega)) (J trivial) ?_;simp only[sI,sS,sZ];refine wpAnyH_all (rs:=[1,3]) (by kernel_rfl) (by simp) fun i A=>?_;simp only[List.mem_cons,List.not_mem_nil,or_false] at A;rcases A with rfl|rfl
     ·skip
      refine zan rfl rfl ?_
      go_simp
      refine⟨J trivial,?_⟩;refine zac 3 rfl (by kernel_rfl) ?_
      go_simp
      refine(cJ a0.out.hR).mono ?_;rintro e bp ⟨⟨V,y1,y2,U,M,K,N,Y,y8,X⟩,rfl,q96,g96,r96⟩;obtain⟨cE,cz,v2,w1,E,I,ce,cf,cw,aZ,aB,aR,Z⟩:=zb3 a0 br ((by have h:=ao.out;(try simp only[List.length_append,List.length_cons,List.length_nil]);omega)) g96 r96 q96;obtain⟨ai,af,ag,ah⟩:=aB.sl;subst ah;have ac:=J (hc V y1 y2 U M K N Y y8 X bp ai af ag E ⟨aZ,aB,g96,aR,Z⟩)
      dsimp only[Qe.cells,paQ] at cE cz I ce cf cw
      unfold Qe.cells paQ;clear aZ aB aR q96 g96 r96 Z;refine⟨J trivial,?_⟩;refine zac 4 rfl (by kernel_rfl) ?_
      go_simp
      refine⟨J trivial,?_⟩;refine zac 5 rfl (by kernel_rfl) ?_;refine zaf (.tmp 92) (.tmp 95) 61 rfl rfl rfl I ?_;refine⟨J trivial,?_⟩;simp only[Act.put,sI,sS,sZ];refine zal 6 97 (.pointer (some ⟨D.heap.size,8,none⟩)) rfl (by kernel_rfl) (fun _ _ _ h=>h) (fun w' _=>by first|rfl|(go_simp;done) | (go_simp;rw[Yi];omega)) (J trivial) ?_;simp only[sI,sS,sZ];refine zac 7 rfl (by kernel_rfl) ?_
      go_simp
      refine⟨J trivial,?_⟩;refine wpAnyH_done (by kernel_rfl) ?_ _;exact ac
     ·skip
      refine zan rfl rfl ?_
      go_simp
      refine(cJ a0.out.hR).mono ?_;rintro e bp ⟨⟨V,y1,y2,U,M,K,N,Y,y8,X⟩,rfl,q96,g96,r96⟩;obtain⟨cE,cz,v2,w1,E,I,ce,cf,cw,aZ,aB,aR,Z⟩:=zb3 a0 br ((by have h:=ao.out;(try simp only[List.length_append,List.length_cons,List.length_nil]);omega)) g96 r96 q96;obtain⟨ai,af,ag,ah⟩:=aB.sl;subst ah;have ac:=J (hc V y1 y2 U M K N Y y8 X bp ai af ag E ⟨aZ,aB,g96,aR,Z⟩)
      dsimp only[Qe.cells,paQ] at cE cz I ce cf cw
      unfold Qe.cells paQ;clear aZ aB aR q96 g96 r96 Z;refine⟨J trivial,?_⟩;refine wpAnyH_all (rs:=[1,4]) (by kernel_rfl) (by simp) fun i A=>?_;simp only[List.mem_cons,List.not_mem_nil,or_false] at A;rcases A with rfl|rfl
      ·skip
       refine zan rfl rfl ?_
       go_simp
       refine⟨J trivial,?_⟩;refine zac 4 rfl (by kernel_rfl) ?_
       go_simp
       refine⟨J trivial,?_⟩;refine zac 5 rfl (by kernel_rfl) ?_;refine zaf (.tmp 92) (.tmp 95) 61 rfl rfl rfl I ?_;refine⟨J trivial,?_⟩;simp only[Act.put,sI,sS,sZ];refine zal 6 97 (.pointer (some ⟨D.heap.size,8,none⟩)) rfl (by kernel_rfl) (fun _ _ _ h=>h) (fun w' _=>by first|rfl|(go_simp;done) | (go_simp;rw[Yi];omega)) (J trivial) ?_;simp only[sI,sS,sZ];refine zac 7 rfl (by kernel_rfl) ?_
       go_simp
       refine⟨J trivial,?_⟩;refine wpAnyH_done (by kernel_rfl) ?_ _;exact ac
      ·skip
       refine zan rfl rfl ?_
       go_simp
       refine⟨J trivial,?_⟩;refine zac 1 rfl (by kernel_rfl) ?_
       go_simp
       refine⟨J trivial,?_⟩;refine zac 5 rfl (by kernel_rfl) ?_;refine zaf (.tmp 92) (.tmp 95) 61 rfl rfl rfl I ?_;refine⟨J trivial,?_⟩;simp only[Act.put,sI,sS,sZ];refine zal 6 97 (.pointer (some ⟨D.heap.size,8,none⟩)) rfl (by kernel_rfl) (fun _ _ _ h=>h) (fun w' _=>by first|rfl|(go_simp;done) | (go_simp;rw[Yi];omega)) (J trivial) ?_;simp only[sI,sS,sZ];refine zac 7 rfl (by kernel_rfl) ?_
       go_simp
       refine⟨J trivial,?_⟩;refine wpAnyH_done (by kernel_rfl) ?_ _;exact ac
    intro V y1 y2 U M K N Y y8 X bp hY gT hq hl fk;obtain⟨dp,eM,dY,dj,ho⟩:=fk;have bS:=J eM;have hM:=J dY;have hW:=J dj;have ep:=J (dp);clear dp eM dY dj a0 br gg cJ ap;obtain⟨f1,gm,fL,fF,fh,gO,fG,fQ,gQ,f5⟩:=row9 bS.out.row
    go_wp2_with fail
    clear f1 gm fL fF fh gO fG fQ gQ f5;obtain⟨h3,h0,ib,ge,eH⟩:=zbf ep bS;injection ge with u1 u2 u3;subst u1 u2 u3;refine eH.mono ?_;rintro e gW ⟨g8,rfl,fP,dP,eT⟩;have dn:=J eT;have fu:=J (dP);clear eH fP dP eT ep bS;obtain⟨hL,hG,dO,dd⟩:=zbb fu (v:=(⟨7,ab.text,0,ab.pos,t1.pos,behI ts s96.p,t1.pos,((lf++[cy.pt])++[v96.pt])⟩:Qv)) ⟨dn.out.is.keep (fun j hj=>⟨hj.1,hj.2.1⟩) fun _ _=>rfl,dn.out.bg⟩;have HP:=J dd;have cC:=J dO;clear dd dO
    go_wp2
    have hx:=Yl y;exact zao Tryz.results72 rfl cC (hx ▸ HP.out)
   ·skip
    replace y:=J (if_t y (by first|rfl|trivial))
    go_wp2_with (fail)
    rcases hk104:bloD ts (dns ts n) aH with _|⟨v104,s104⟩
    ·exact absurd y (by rw[hk104];intro h;cases h)
    rw[hk104] at y;simp only[Option.bind_some] at y;have ap:=J aJ;have cd:Below am.heap.size am am.drew:=(Yb _ _).drew;have a6:=J (aJ.out.low cd);have bf:=J (bx.out.below cd);have cx:=J (fun (h:QdS T am.drew g st cap ts aH)=>(fun hk=>HB.out am.drew _ _ hk h) hk104);clear hk104 cd aJ bx;have gh:am.drew.cell? ⟨D.heap.size,8,none⟩=some (.slice bF bh bn):=Yp 8 bf.out.row rfl;apply zb8 (fun V y1 y2 U M K N Y y8 X Wy sp sn sc E=>Fr T w W0 E g st cap ts s104∧Qk W0.heap.size (w.heap.size) E (D.heap.size) 7 ab.text 0 ab.pos t1.pos 0 t1.pos (.slice sp sn sc) (lf++[v104.pt])∧am.drew.grownBy Wy (some g)∧((w.heap.size)≠D.heap.size->E.heap[w.heap.size]?=Wy.heap[w.heap.size]?)∧Wy.heap.size<=E.heap.size)
    rotate_left
    ·intro hc;refine zbc (S:=fun _=>Hid True) 8 rfl (by kernel_rfl) ?_;refine zal 0 91 (.pointer (some ⟨D.heap.size,8,none⟩)) rfl (by kernel_rfl) (fun _ _ _ h=>h) (fun w' _=>by first|rfl|(go_simp;done) | (go_simp;rw[Yi];omega)) (J trivial) ?_;simp only[sI,sS,sZ];refine zal 2 93 (.pointer (some ⟨g,0,none⟩)) rfl (by kernel_rfl) (fun _ _ _ h=>h) (fun w' _=>by first|rfl|(go_simp;done) | (go_simp;rw[Yi];omega)) (J trivial) ?_;simp only[sI,sS,sZ];refine wpAnyH_all (rs:=[1,3]) (by kernel_rfl) (by simp) fun i A=>?_;simp only[List.mem_cons,List.not_mem_nil,or_false] at A;rcases A with rfl|rfl
     ·skip
      refine zan rfl rfl ?_
      go_simp
      refine⟨J trivial,?_⟩;refine zac 3 rfl (by kernel_rfl) ?_
      go_simp
      refine(cx a6.out.hR).mono ?_;rintro e bK ⟨⟨V,y1,y2,U,M,K,N,Y,y8,X⟩,rfl,q104,g104,r104⟩;obtain⟨cv,b2,v2,w1,E,I,ce,cf,cw,aQ,aG,ba,Z⟩:=zb3 a6 bf ((by have h:=ao.out;(try simp only[List.length_append,List.length_cons,List.length_nil]);omega)) g104 r104 q104;obtain⟨ai,af,ag,ah⟩:=aG.sl;subst ah;have ac:=J (hc V y1 y2 U M K N Y y8 X bK ai af ag E ⟨aQ,aG,g104,ba,Z⟩)
      dsimp only[Qe.cells,paQ] at cv b2 I ce cf cw
      unfold Qe.cells paQ;clear aQ aG ba q104 g104 r104 Z;refine⟨J trivial,?_⟩;refine zac 4 rfl (by kernel_rfl) ?_
      go_simp
      refine⟨J trivial,?_⟩;refine zac 5 rfl (by kernel_rfl) ?_;refine zaf (.tmp 92) (.tmp 95) 61 rfl rfl rfl I ?_;refine⟨J trivial,?_⟩;simp only[Act.put,sI,sS,sZ];refine zal 6 97 (.pointer (some ⟨D.heap.size,8,none⟩)) rfl (by kernel_rfl) (fun _ _ _ h=>h) (fun w' _=>by first|rfl|(go_simp;done) | (go_simp;rw[Yi];omega)) (J trivial) ?_;simp only[sI,sS,sZ];refine zac 7 rfl (by kernel_rfl) ?_
      go_simp
      refine⟨J trivial,?_⟩;refine wpAnyH_done (by kernel_rfl) ?_ _;exact ac
     ·skip
      refine zan rfl rfl ?_
      go_simp
      refine(cx a6.out.hR).mono ?_;rintro e bK ⟨⟨V,y1,y2,U,M,K,N,Y,y8,X⟩,rfl,q104,g104,r104⟩;obtain⟨cv,b2,v2,w1,E,I,ce,cf,cw,aQ,aG,ba,Z⟩:=zb3 a6 bf ((by have h:=ao.out;(try simp only[List.length_append,List.length_cons,List.length_nil]);omega)) g104 r104 q104;obtain⟨ai,af,ag,ah⟩:=aG.sl;subst ah;have ac:=J (hc V y1 y2 U M K N Y y8 X bK ai af ag E ⟨aQ,aG,g104,ba,Z⟩)
      dsimp only[Qe.cells,paQ] at cv b2 I ce cf cw
      unfold Qe.cells paQ;clear aQ aG ba q104 g104 r104 Z;refine⟨J trivial,?_⟩;refine wpAnyH_all (rs:=[1,4]) (by kernel_rfl) (by simp) fun i A=>?_;simp only[List.mem_cons,List.not_mem_nil,or_false] at A;rcases A with rfl|rfl
      ·skip
       refine zan rfl rfl ?_
       go_simp
       refine⟨J trivial,?_⟩;refine zac 4 rfl (by kernel_rfl) ?_
       go_simp
       refine⟨J trivial,?_⟩;refine zac 5 rfl (by kernel_rfl) ?_;refine zaf (.tmp 92) (.tmp 95) 61 rfl rfl rfl I ?_;refine⟨J trivial,?_⟩;simp only[Act.put,sI,sS,sZ];refine zal 6 97 (.pointer (some ⟨D.heap.size,8,none⟩)) rfl (by kernel_rfl) (fun _ _ _ h=>h) (fun w' _=>by first|rfl|(go_simp;done) | (go_simp;rw[Yi];omega)) (J trivial) ?_;simp only[sI,sS,sZ];refine zac 7 rfl (by kernel_rfl) ?_
       go_simp
       refine⟨J trivial,?_⟩;refine wpAnyH_done (by kernel_rfl) ?_ _;exact ac
      ·skip
       refine zan rfl rfl ?_
       go_simp
       refine⟨J trivial,?_⟩;refine zac 1 rfl (by kernel_rfl) ?_
       go_simp
       refine⟨J trivial,?_⟩;refine zac 5 rfl (by kernel_rfl) ?_;refine zaf (.tmp 92) (.tmp 95) 61 rfl rfl rfl I ?_;refine⟨J trivial,?_⟩;simp only[Act.put,sI,sS,sZ];refine zal 6 97 (.pointer (some ⟨D.heap.size,8,none⟩)) rfl (by kernel_rfl) (fun _ _ _ h=>h) (fun w' _=>by first|rfl|(go_simp;done) | (go_simp;rw[Yi];omega)) (J trivial) ?_;simp only[sI,sS,sZ];refine zac 7 rfl (by kernel_rfl) ?_
       go_simp
       refine⟨J trivial,?_⟩;refine wpAnyH_done (by kernel_rfl) ?_ _;exact ac
    intro V y1 y2 U M K N Y y8 X bK hE g5 hH gX f8;obtain⟨dy,dt,d4,c6,id⟩:=f8;have cu:=J dt;have h7:=J d4;have gY:=J c6;have ds:=J (dy);clear dy dt d4 c6 a6 bf gh cx ap;obtain⟨gv,gj,fx,gJ,fD,fI,fB,gp,fU,fA⟩:=row9 cu.out.row
    go_wp2_with fail
    clear gv gj fx gJ fD fI fB gp fU fA;obtain⟨g2,hf,ia,fr,dl⟩:=zbf ds cu;injection fr with u1 u2 u3;subst u1 u2 u3;refine dl.mono ?_;rintro e hV ⟨ic,rfl,gF,dx,dc⟩;have ew:=J dc;have gs:=J (dx);clear dl gF dx dc ds cu;obtain⟨hh,hA,ef,d5⟩:=zbb gs (v:=(⟨7,ab.text,0,ab.pos,t1.pos,behI ts s104.p,t1.pos,(lf++[v104.pt])⟩:Qv)) ⟨ew.out.is.keep (fun j hj=>⟨hj.1,hj.2.1⟩) fun _ _=>rfl,ew.out.bg⟩;have HP:=J d5;have cC:=J ef;clear d5 ef
    go_wp2
    have hx:=Yl y;exact zao Tryz.results72 rfl cC (hx ▸ HP.out)
end
end Go.Proofs.YtmclgbkijeidaaaGreatDoor
