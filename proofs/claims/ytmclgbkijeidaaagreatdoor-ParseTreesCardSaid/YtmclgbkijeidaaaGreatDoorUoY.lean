import Derived.Test.YtmclgbkijeidaaaGreatDoorUoX
import Derived.Test.YtmclgbkijeidaaaGreatDoorUoE
namespace Go.Proofs.YtmclgbkijeidaaaGreatDoor
set_option maxRecDepth 100000
set_option maxHeartbeats 4000000
open Go.RowKit
section
variable {T:Nat}{w W0 W W':World}{g:Nat}{st:Option Addr}{cap:Nat}{ts:List Tok}{s s':Qs}
theorem ze1 (k:Int)(x:ByteArray)(hR:QdS T w g st cap ts s):Calls Tryz.prog 44 #[.pointer (some ⟨g,0,none⟩),.int .i64 k,.string x] w (WoP T w g st cap ts k (worD ts k x s)):=by
 have K:=J (zcu hR);have a8:=hR.few;have aV:=hR.le;clear hR;obtain⟨r,U⟩:∃ r,worD ts k x s=r:=⟨_,rfl⟩;rw[U];unfold worD at U
 dsimp only[tak] at U
 have N:=J U;clear U
 go_enter Tryz.func44,Tryz.ntmps44
 go_wp2_with fail
 refine zag (fun W=>Fr T w W W g st cap ts s) K.out ?_;intro W0 hF;clear K;have K:=J hF;clear hF;refine(zah x K.out.hR).mono ?_;rintro e W1 ⟨rfl,g1,r1⟩;obtain⟨A,D⟩:∃ t,takT ts x s=t:=⟨_,rfl⟩;obtain⟨E,C⟩:∃ s2,takS ts x s=s2:=⟨_,rfl⟩;rw[show takT ts x ⟨s.p,s.bad⟩=A from D];have q1:QdS T W1 g st cap ts E:=C ▸ r1;have a1:Hid (LtQ s E):=J (C ▸ zam _ _)
 try rw[D] at N
 try rw[C] at N
 have an:=J (K.out.call g1 q1);clear D C r1 q1 g1 K
 go_wp2_with fail
 refine(zau k A ⟨#[]⟩ W1).mono ?_;rintro e F ⟨rfl,b4⟩;have Y:=J (an.out.low b4);clear b4 an;obtain⟨W7,aJ,b7,f7,l7⟩:=zdp (z:=w.heap.size) Y.out (zaa Y.out.hZ) k A ⟨#[]⟩;have ae:=J l7;have aY:=b7.size;have V:=J (f7);clear b7 f7 l7 Y
 go_wp2_with fail
 clear aJ;refine(zah ⟨#[110,97,109,101]⟩ V.out.hR).mono ?_;rintro e ac ⟨rfl,ab,ag⟩;obtain⟨y,D⟩:∃ t,takT ts ⟨#[110,97,109,101]⟩ E=t:=⟨_,rfl⟩;obtain⟨aq,C⟩:∃ s2,takS ts ⟨#[110,97,109,101]⟩ E=s2:=⟨_,rfl⟩;rw[show takT ts ⟨#[110,97,109,101]⟩ ⟨E.p,E.bad⟩=y from D];have ak:QdS T ac g st cap ts aq:=C ▸ ag;have aQ:Hid (LtQ E aq):=J (C ▸ zam _ _)
 try rw[D] at N
 try rw[C] at N
 have af:=J (ae.out.grow V.out.gB ab);have am:=J (V.out.call ab ak);clear D C ag ak ab V ae;obtain⟨X,aD,aw,ap,al⟩:=zea am y;have M:=J (af.out.below aw);have I:=J al;have ar:=J (ap);clear aw ap al am af;obtain⟨aH,aL,aA⟩:=I.out.cells;obtain⟨aG,aE,aF,aK,aB,aC,az,aM,ay,aI⟩:=row9 M.out.row
 go_wp2_with fail
 go_region
 obtain⟨ah,ao,ai,aa,aj⟩:∃ W2,((X.setCell ⟨F.heap.size,1,none⟩ (.string y.text)).setCell ⟨F.heap.size,4,none⟩ (.int .i64 y.pos)).drew=W2∧Below (F.heap.size) X W2∧(∀ j,j≠F.heap.size->j<X.heap.size->W2.heap[j]?=X.heap[j]?)∧W2.heap[F.heap.size]?=some (.cells (paQ k y.text 0 y.pos A.pos 0 A.pos (.slice none 0 0)) 63 (0,0)) :=
  ⟨_,rfl,(((Yb _ _).setCell (p:=⟨F.heap.size,1,none⟩) (Ya _) _).setCell (p:=⟨F.heap.size,4,none⟩) (Ya _) _).drew,fun j hj _=>(Ye _ _ _ _ hj).trans ((Ye _ _ _ _ hj).trans (rfl)),Yf _ _ 4 _ _ _ (Yf _ _ 1 _ _ _ (M.out.row))⟩
 obtain⟨au,av⟩:=zj6 ar M ah ai aa k y.text 0 y.pos A.pos 0 A.pos aj;have ax:=J av;have a4:Hid (Tl W0 ah ac.heap.size y):=J ⟨I.out.hB,(aa _ (zh0 I M.out.row) (zaa I.out.row)).trans I.out.row⟩;have Z:=J (au);clear au av ai aa aj ar M I;rw[ao];clear ao aD aH aL aA aG aE aF aK aB aC az aM ay aI;obtain⟨aT,a6,aX,aP,aR,a0,aW,a5,a2,aU⟩:=row9 ax.out.row;obtain⟨a3,aZ,a7,aN,aO⟩:=ax.out.fin;injection aN with u1 u2 u3;subst u1 u2 u3;have HP:=J (zw6 Z k y.text y.pos A.pos A.pos);clear aO
 go_wp2_with (refine zed (by rfl) (.tmp 6) (.tmp 24) (by rfl) ⟨k,y.text,0,y.pos,A.pos,0,A.pos,_,_,_⟩ (by rfl) (by rfl) Z.out.hZ (by rfl) ?_)
 have hx:=N.out;exact zao Tryz.results44 rfl (zad Z.out.hZ) (hx ▸ HP.out)
theorem zgf (hR:QdS T w g st cap ts s):Calls Tryz.prog 98 #[.pointer (some ⟨g,0,none⟩)] w (QoP T w g st cap ts (kinD ts s)):=by
 have Z:=J (zcu hR);have eT:=hR.few;have eo:=hR.le;clear hR;obtain⟨r,hX⟩:∃ r,kinD ts s=r:=⟨_,rfl⟩;rw[hX];unfold kinD at hX
 dsimp only[tak] at hX
 have C:=J hX;clear hX
 go_enter Tryz.func98,Tryz.ntmps98
 go_wp2_with fail
 refine zag (fun W=>Fr T w W W g st cap ts s) Z.out ?_;intro W0 hF;clear Z;have Z:=J hF;clear hF;refine(zbk Z.out.hR).mono ?_;rintro e W1 ⟨rfl,b1⟩;obtain⟨A,E⟩:∃ t,nxQ ts s.p=t:=⟨_,rfl⟩;rw[E];have e1:=J (E ▸ Z.out.hR.sz)
 try rw[E] at C
 have bI:=J (Z.out.low b1);clear E b1 Z;obtain⟨W4,c4,b4,f4,l4⟩:=zea bI A;have bh:=J l4;have aD:=J (f4);clear b4 f4 l4 bI
 go_wp2_with fail
 clear c4;refine(zas ⟨#[105,110,116]⟩ aD.out.hR).mono ?_;rintro e W7 ⟨rfl,b7⟩;obtain⟨i7,I⟩:∃ b,isQ ts s.p ⟨#[105,110,116]⟩=b:=⟨_,rfl⟩;rw[I]
 try rw[I] at C
 have ap:=J (bh.out.low b7);have ah:=J (aD.out.low b7);clear I b7 aD bh
 cases i7
 ·skip
  go_wp2_with fail
  refine(zas ⟨#[98,111,111,108]⟩ ah.out.hR).mono ?_;rintro e eE ⟨rfl,a1⟩;obtain⟨c3,I⟩:∃ b,isQ ts s.p ⟨#[98,111,111,108]⟩=b:=⟨_,rfl⟩;rw[I]
  try rw[I] at C
  have am:=J (ap.out.low a1);have ab:=J (ah.out.low a1);clear I a1 ah ap
  cases c3
  ·skip
   go_wp2_with fail
   refine(zas ⟨#[115,116,114,105,110,103]⟩ ab.out.hR).mono ?_;rintro e eC ⟨rfl,aP⟩;obtain⟨di,I⟩:∃ b,isQ ts s.p ⟨#[115,116,114,105,110,103]⟩=b:=⟨_,rfl⟩;rw[I]
   try rw[I] at C
   have aU:=J (am.out.low aP);have ac:=J (ab.out.low aP);clear I aP ab am
   cases di
   ·skip
    replace C:=J (if_f C (fun h=>by cases h))
    go_wp2_with fail
    refine(zah ⟨#[110,97,109,101]⟩ ac.out.hR).mono ?_;rintro e aQ ⟨rfl,bf,bF⟩;obtain⟨y,E⟩:∃ t,takT ts ⟨#[110,97,109,101]⟩ s=t:=⟨_,rfl⟩;obtain⟨F,D⟩:∃ s2,takS ts ⟨#[110,97,109,101]⟩ s=s2:=⟨_,rfl⟩;rw[show takT ts ⟨#[110,97,109,101]⟩ ⟨s.p,s.bad⟩=y from E];have cq:QdS T aQ g st cap ts F:=D ▸ bF;have ey:Hid (LtQ s F):=J (D ▸ zam _ _)
    try rw[E] at C
    try rw[D] at C
    have bl:=J (ac.out.call bf cq);clear E D bF cq bf ac;obtain⟨dZ,cD,dj,bc,co⟩:=zea bl y;have aA:=J co;have b8:=J (bc);clear dj bc co bl;obtain⟨cE,dX,dW⟩:=aA.out.cells
    go_wp2_with fail
    clear cD cE dX dW;refine(zau 11 y y.text dZ).mono ?_;rintro e ep ⟨rfl,aO⟩;have bQ:=J (aA.out.low aO);have ca:=J (b8.out.low aO);clear aO b8 aA
    go_wp2_with fail
    refine(ze7 ca 11 y y.text).mono ?_;rintro e U ⟨rfl,bH,b0⟩;have bu:=J (bQ.out.low bH);have cv:=J (b0);clear bH b0 ca bQ;obtain⟨dq,d0,bK,cc,a5⟩:=zhz cv (⟨11,y.text,0,y.pos,y.pos,(behI ts F.p),y.pos,none,0,0⟩:Qe);have bz:=J (bu.out.low bK);have cr:Hid (Tq W0 dq U.heap.size (⟨11,y.text,0,y.pos,y.pos,(behI ts F.p),y.pos,none,0,0⟩:Qe)):=J a5;have aV:=J (cc);clear bK cc a5 cv bu
    go_wp2_with fail
    clear d0;refine(zas ⟨#[46]⟩ aV.out.hR).mono ?_;rintro e e5 ⟨rfl,aw⟩;obtain⟨dP,I⟩:∃ b,isQ ts F.p ⟨#[46]⟩=b:=⟨_,rfl⟩;rw[I]
    try rw[I] at C
    have bB:=J (bz.out.low aw);have aW:=J (cr.out.low aw);have V:=J (aV.out.low aw);clear I aw aV bz cr
    cases dP
    ·skip
     replace C:=J (if_f C (fun h=>by cases h))
     obtain⟨em,eL,ez,eQ,eR,es,ex,eJ,e7,eZ⟩:=row9 aW.out.row;have N:=J (ze6 V (v:=⟨11,y.text,0,y.pos,y.pos,(behI ts F.p),y.pos,[]⟩) (e:=⟨11,y.text,0,y.pos,y.pos,(behI ts F.p),y.pos,none,0,0⟩) (zeg _ _ _ _ _ _ _))
     go_wp2_with (refine zed (by rfl) (.tmp 2) (.tmp 41) (by rfl) ⟨11,y.text,0,y.pos,y.pos,(behI ts F.p),y.pos,none,0,0⟩ (by rfl) (by rfl) V.out.hZ (by rfl) ?_)
     have M:=C.out;exact zao Tryz.results98 rfl (zad V.out.hZ) (M ▸ N.out)
    ·skip
     replace C:=J (if_t C rfl)
     go_wp2_with fail
     refine(zah ⟨#[46]⟩ V.out.hR).mono ?_;rintro e ek ⟨rfl,av,cp⟩;obtain⟨d5,E⟩:∃ t,takT ts ⟨#[46]⟩ F=t:=⟨_,rfl⟩;obtain⟨Y,D⟩:∃ s2,takS ts ⟨#[46]⟩ F=s2:=⟨_,rfl⟩;rw[show takT ts ⟨#[46]⟩ ⟨F.p,F.bad⟩=d5 from E];have bi:QdS T ek g st cap ts Y:=D ▸ cp;have e2:Hid (LtQ F Y):=J (D ▸ zam _ _)
     try rw[E] at C
     try rw[D] at C
     have bw:=J (bB.out.call V.out.gB av);have bN:=J (aW.out.call V.out.gB av);have an:=J (V.out.call av bi);clear E D cp bi av V bB aW
     go_wp2_with fail
     refine(zah ⟨#[110,97,109,101]⟩ an.out.hR).mono ?_;rintro e aZ ⟨rfl,ar,ce⟩;obtain⟨K,E⟩:∃ t,takT ts ⟨#[110,97,109,101]⟩ Y=t:=⟨_,rfl⟩;obtain⟨a3,D⟩:∃ s2,takS ts ⟨#[110,97,109,101]⟩ Y=s2:=⟨_,rfl⟩;rw[show takT ts ⟨#[110,97,109,101]⟩ ⟨Y.p,Y.bad⟩=K from E];have bA:QdS T aZ g st cap ts a3:=D ▸ ce;have eu:Hid (LtQ Y a3):=J (D ▸ zam _ _)
     try rw[E] at C
     try rw[D] at C
     have bp:=J (bw.out.call an.out.gB ar);have b5:=J (bN.out.call an.out.gB ar);have bW:=J (an.out.call ar bA);clear E D ce bA ar an bw bN;obtain⟨c6,dt,aG,a7,ch⟩:=zea bW K;have aI:=J (bp.out.low aG);have aT:=J (b5.out.low aG);have aH:=J ch;have bR:=J (a7);clear aG a7 ch bW bp b5;obtain⟨dw,du,dD⟩:=aI.out.cells;obtain⟨d1,d3,cO⟩:=aH.out.cells;have dO:=zaa aT.out.row
     go_wp2_with fail
     clear dt dw du dD d1 d3 cO;refine(zau 12 y K.text c6).mono ?_;rintro e X ⟨rfl,ao⟩;have bo:=J (aI.out.low ao);have bL:=J (aH.out.low ao);have aN:=J (aT.out.low ao);have a9:=J (bR.out.low ao);clear ao bR aI aH aT;have ck:=zaa aN.out.row;obtain⟨aj,ei,au,cl,br⟩:=zhz a9 (begE 12 y K.text);have aq:=J (bo.out.low au);have ai:=J (bL.out.low au);have ct:=J (aN.out.low au);have ae:Hid (Tq W0 aj X.heap.size (⟨12,K.text,0,y.pos,y.pos,0,y.pos,none,0,0⟩:Qe)):=J br;have bS:=J (cl);clear au cl br a9 bo bL aN;have cA:U.heap.size≠X.heap.size:=Nat.ne_of_lt ck;clear dO ck;obtain⟨dQ,eh,eg⟩:=ai.out.cells;obtain⟨dI,cS,dE,ea,d4,cL,cR,cV,cH,dL⟩:=row9 ae.out.row;obtain⟨aa,c8,bD,ay,a8⟩:∃ W2,(aj.setCell ⟨X.heap.size,4,none⟩ (.int .i64 K.pos))=W2∧Below (X.heap.size) aj W2∧(∀ j,j≠X.heap.size->j<aj.heap.size->W2.heap[j]?=aj.heap[j]?)∧W2.heap[X.heap.size]?=some (.cells (⟨12,K.text,0,K.pos,y.pos,0,y.pos,none,0,0⟩:Qe).cells 63 (0,0)) :=
      ⟨_,rfl,((Yb _ _).setCell (p:=⟨X.heap.size,4,none⟩) (Ya _) _),fun j hj _=>(Ye _ _ _ _ hj).trans (rfl),Yf _ _ 4 _ _ _ (ae.out.row)⟩
     have ak:Hid (Tl W0 aa aQ.heap.size y):=J ⟨aq.out.hB,(ay _ (zh0 aq ae.out.row) (zaa aq.out.row)).trans aq.out.row⟩;have al:Hid (Tl W0 aa aZ.heap.size K):=J ⟨ai.out.hB,(ay _ (zh0 ai ae.out.row) (zaa ai.out.row)).trans ai.out.row⟩;have af:=J (ct.out.on cA ay);have a6:Hid (Tq W0 aa X.heap.size (⟨12,K.text,0,K.pos,y.pos,0,y.pos,none,0,0⟩:Qe)):=J ⟨ae.out.hB,a8⟩;have b6:=J (bS.out.on (bD.mono ae.out.hB));clear bD ay a8 bS ae aq ai ct;obtain⟨dY,dJ,cW,dn,cZ,dS,dB,cB,c5,dd⟩:=row9 af.out.row;obtain⟨aJ,dM,bX,ax,bU⟩:∃ W2,(aa.setCell ⟨U.heap.size,0,none⟩ (.int .i64 23))=W2∧Below (U.heap.size) aa W2∧(∀ j,j≠U.heap.size->j<aa.heap.size->W2.heap[j]?=aa.heap[j]?)∧W2.heap[U.heap.size]?=some (.cells (⟨23,y.text,0,y.pos,y.pos,(behI ts F.p),y.pos,none,0,0⟩:Qe).cells 63 (0,0)) :=
      ⟨_,rfl,((Yb _ _).setCell (p:=⟨U.heap.size,0,none⟩) (Ya _) _),fun j hj _=>(Ye _ _ _ _ hj).trans (rfl),Yf _ _ 0 _ _ _ (af.out.row)⟩
     have ev:Hid (Tl W0 aJ aQ.heap.size y):=J ⟨ak.out.hB,(ax _ (zh0 ak af.out.row) (zaa ak.out.row)).trans ak.out.row⟩;have e4:Hid (Tl W0 aJ aZ.heap.size K):=J ⟨al.out.hB,(ax _ (zh0 al af.out.row) (zaa al.out.row)).trans al.out.row⟩;have bk:=J (a6.out.on cA.symm ax);have dA:Hid (Tq W0 aJ U.heap.size (⟨23,y.text,0,y.pos,y.pos,(behI ts F.p),y.pos,none,0,0⟩:Qe)):=J ⟨af.out.hB,bU⟩;have aR:=J (b6.out.on (bX.mono af.out.hB));clear bX ax bU b6 af ak al a6;obtain⟨cY,d7,dN,cF,dV,dh,dv,da,db,dc⟩:=row9 dA.out.row;have b9:=J (bk.out.qk (z:=w.heap.size) (zaa aR.out.hZ));clear bk;obtain⟨bC,bv,eX,bj,cu,cf,ed,dH⟩:=ze0 aR b9 (v:=(⟨23,y.text,0,y.pos,y.pos,(behI ts F.p),y.pos,[]⟩:Qv)) (e:=(⟨23,y.text,0,y.pos,y.pos,(behI ts F.p),y.pos,none,0,0⟩:Qe)) (S:=(fun _=>False)) (J (zeg _ _ _ _ _ _ _)).out (fun _ h=>h.elim);have a4:=J cf;have cb:=J (cu)
     dsimp only[Qe.cells,paQ] at bC bv bj
     clear cu cf ed dH aR b9;obtain⟨cJ,cG,de,ds,cQ,dk,dl,dT,dr,d8⟩:=row9 a4.out.row
     go_wp2_with fail
     clear ei dQ eh eg dI cS dE ea d4 cL cR cV cH dL c8 dY dJ cW dn cZ dS dB cB c5 dd dM cY d7 dN cF dV dh dv da db dc bC bv bj cJ cG de ds cQ dk dl dT dr d8;obtain⟨el,eV,eB,dF,cg⟩:=zbf cb a4;injection dF with u1 u2 u3;subst u1 u2 u3;refine cg.mono ?_;rintro e e6 ⟨e3,rfl,dU,bG,cw⟩;have bZ:=J cw;have d9:=J (bG);clear cg dU bG cw cb a4;obtain⟨eP,et,cz,bJ⟩:=zbb d9 (v:=(⟨12,K.text,0,K.pos,y.pos,behI ts a3.p,y.pos,[(⟨23,y.text,0,y.pos,y.pos,(behI ts F.p),y.pos,[]⟩:Qv).pt]⟩:Qv)) ⟨bZ.out.is.keep (fun j hj=>⟨hj.1,hj.2.1⟩) fun _ _=>rfl,bZ.out.bg⟩;have N:=J bJ;have ag:=J cz;clear bJ cz
     go_wp2
     have M:=C.out;exact zao Tryz.results98 rfl ag (M ▸ N.out)
   ·skip
    replace C:=J (if_t C rfl)
    obtain⟨ef,cU,eb⟩:=aU.out.cells
    go_wp2_with fail
    clear ef cU eb;refine(zah A.text ac.out.hR).mono ?_;rintro e cn ⟨rfl,aK,bs⟩;obtain⟨dG,E⟩:∃ t,takT ts A.text s=t:=⟨_,rfl⟩;obtain⟨aY,D⟩:∃ s2,takS ts A.text s=s2:=⟨_,rfl⟩;rw[show takT ts A.text ⟨s.p,s.bad⟩=dG from E];have cj:QdS T cn g st cap ts aY:=D ▸ bs;have eG:Hid (LtQ s aY):=J (D ▸ zam _ _)
    try rw[E] at C
    try rw[D] at C
    have aE:=J (aU.out.call ac.out.gB aK);have bb:=J (ac.out.call aK cj);clear E D bs cj aK ac aU;obtain⟨ec,cP,d2⟩:=aE.out.cells
    go_wp2_with fail
    clear ec cP d2;refine(zau 10 A A.text cn).mono ?_;rintro e eD ⟨rfl,aB⟩;have eO:=J (aE.out.low aB);have b3:=J (bb.out.low aB);clear aB bb aE
    go_wp2_with fail
    refine(ze7 b3 10 A A.text).mono ?_;rintro e eH ⟨rfl,dg,bt⟩;have cM:=J (bt);clear dg bt b3;obtain⟨e0,ew,bx,b2⟩:=zbb cM (v:=(⟨10,A.text,0,A.pos,A.pos,(behI ts aY.p),A.pos,[]⟩:Qv)) (zeg _ _ _ _ _ _ _);have N:=J b2;have ag:=J bx;clear b2 bx
    go_wp2
    have M:=C.out;exact zao Tryz.results98 rfl ag (M ▸ N.out)
  ·skip
   replace C:=J (if_t C rfl)
   obtain⟨ee,ej,dC⟩:=am.out.cells
   go_wp2_with fail
   clear ee ej dC;refine(zah A.text ab.out.hR).mono ?_;rintro e bT ⟨rfl,aC,cx⟩;obtain⟨dz,E⟩:∃ t,takT ts A.text s=t:=⟨_,rfl⟩;obtain⟨aL,D⟩:∃ s2,takS ts A.text s=s2:=⟨_,rfl⟩;rw[show takT ts A.text ⟨s.p,s.bad⟩=dz from E];have bE:QdS T bT g st cap ts aL:=D ▸ cx;have eN:Hid (LtQ s aL):=J (D ▸ zam _ _)
   try rw[E] at C
   try rw[D] at C
   have aF:=J (am.out.call ab.out.gB aC);have bM:=J (ab.out.call aC bE);clear E D cx bE aC ab am;obtain⟨dy,c7,c9⟩:=aF.out.cells
   go_wp2_with fail
   clear dy c7 c9;refine(zau 10 A A.text bT).mono ?_;rintro e eS ⟨rfl,a0⟩;have eM:=J (aF.out.low a0);have be:=J (bM.out.low a0);clear a0 bM aF
   go_wp2_with fail
   refine(ze7 be 10 A A.text).mono ?_;rintro e eY ⟨rfl,cX,bq⟩;have dx:=J (bq);clear cX bq be;obtain⟨eF,eK,bn,bO⟩:=zbb dx (v:=(⟨10,A.text,0,A.pos,A.pos,(behI ts aL.p),A.pos,[]⟩:Qv)) (zeg _ _ _ _ _ _ _);have N:=J bO;have ag:=J bn;clear bO bn
   go_wp2
   have M:=C.out;exact zao Tryz.results98 rfl ag (M ▸ N.out)
 ·skip
  replace C:=J (if_t C rfl)
  obtain⟨dK,cK,cI⟩:=ap.out.cells
  go_wp2_with fail
  clear dK cK cI;refine(zah A.text ah.out.hR).mono ?_;rintro e ba ⟨rfl,aX,cy⟩;obtain⟨cC,E⟩:∃ t,takT ts A.text s=t:=⟨_,rfl⟩;obtain⟨az,D⟩:∃ s2,takS ts A.text s=s2:=⟨_,rfl⟩;rw[show takT ts A.text ⟨s.p,s.bad⟩=cC from E];have bm:QdS T ba g st cap ts az:=D ▸ cy;have er:Hid (LtQ s az):=J (D ▸ zam _ _)
  try rw[E] at C
  try rw[D] at C
  have aM:=J (ap.out.call ah.out.gB aX);have bP:=J (ah.out.call aX bm);clear E D cy bm aX ah ap;obtain⟨cN,dR,dp⟩:=aM.out.cells
  go_wp2_with fail
  clear cN dR dp;refine(zau 10 A A.text ba).mono ?_;rintro e eW ⟨rfl,a2⟩;have eI:=J (aM.out.low a2);have cd:=J (bP.out.low a2);clear a2 bP aM
  go_wp2_with fail
  refine(ze7 cd 10 A A.text).mono ?_;rintro e en ⟨rfl,d6,bY⟩;have cT:=J (bY);clear d6 bY cd;obtain⟨eU,eA,bV,ci⟩:=zbb cT (v:=(⟨10,A.text,0,A.pos,A.pos,(behI ts az.p),A.pos,[]⟩:Qv)) (zeg _ _ _ _ _ _ _);have N:=J ci;have ag:=J bV;clear ci bV
  go_wp2
  have M:=C.out;exact zao Tryz.results98 rfl ag (M ▸ N.out)
end
theorem z0p (c:UInt8)(w:World):Calls Tryz.prog 41 #[.int .u8 c.toNat] w fun e w'=>e=.returned (.bool (inC [3] c))∧w'=w:=by
 have y:Hid (inC [3] c=decide ((97<=(c.toNat:Int)∧(c.toNat:Int)<=122)∨(65<=(c.toNat:Int)∧(c.toNat:Int)<=90)∨(c.toNat:Int)=95)):=by
  show inC [3] c=_;unfold inC clsI;rw[Bool.eq_iff_iff];simp
  repeat' split
  all_goals simp
  all_goals omega
 go_enter Tryz.func41,Tryz.ntmps41
 go_wp2
 all_goals go_ret
 all_goals (refine⟨zay ?_,rfl⟩;rw[y.out,Bool.eq_iff_iff];simp_all;try omega)
theorem zj7 (c:UInt8)(w:World):Calls Tryz.prog 68 #[.int .u8 c.toNat] w fun e w'=>e=.returned (.bool (inC [4] c))∧w'=w:=by
 have y:Hid (inC [4] c=decide (48<=(c.toNat:Int)∧(c.toNat:Int)<=57)):=by
  show inC [4] c=_;unfold inC;rw[Bool.eq_iff_iff];simp;rw[cls4];omega
 go_enter Tryz.func68,Tryz.ntmps68
 go_wp2
 all_goals go_ret
 all_goals (refine⟨zay ?_,rfl⟩;rw[y.out,Bool.eq_iff_iff];simp_all;try omega)
theorem zet (s:ByteArray)(w:World)(hs:s.size<=100000):Calls Tryz.prog 39 #[.string s] w fun e w'=>e=.returned (.int .i64 (runN (inC [4]) s.data.toList))∧w'=w:=by
 have M:Hid (s.size=s.data.toList.length):=by show s.size=s.data.toList.length;simp
 have U:s.size<9223372036854775807:=by omega
 go_enter Tryz.func39,Tryz.ntmps39
 go_wp2
 go_loopw [3] (fun i wr=>∃ t:Nat,t<=s.size∧i=.int .i64 t∧wr=w∧∀ j d,j<t->s.data.toList[j]?=some d->inC [4] d=true) (fun i _=>s.size - (intOf i).toNat)
 case atStart=>exact⟨0,Yk _,rfl,rfl,fun j d F=>by omega⟩
 case round=>
  obtain⟨t,V,rfl,rfl,E⟩:=hrel;have C:=J E;clear E
  by_cases hlt:t<s.size
  ·have hd:decide ((t:Int)<s.size)=true:=decide_eq_true (by omega);have I:Hid (s.data.toList[t]?=some (s[t]'hlt)):=zeb hlt
   cases hq:inC [4] (s[t]'hlt)
   ·have A:Hid (runN (inC [4]) s.data.toList=t):=zm3 C I hq
    go_wp2_with (go_at_call 68;refine(zj7 _ _).mono ?_;rintro e W1 ⟨rfl,D⟩;subst D;rw[hq])
    go_ret
    exact⟨zdh (by rw[A.out]),rfl⟩
   ·have K:Hid (∀ j d,j<t+1->s.data.toList[j]?=some d->inC [4] d=true):=fun j d F y=>by
     by_cases hjt:j<t
     ·exact C j d hjt y
     ·obtain rfl:j=t:=by omega
      rw[I.out] at y;injection y with y;rw[<-y];exact hq
    go_wp2_with (go_at_call 68;refine(zj7 _ _).mono ?_;rintro e W1 ⟨rfl,D⟩;subst D;rw[hq])
    exact⟨⟨t+1,by omega,by go_num,trivial,K.out⟩,by simp[intOf];omega⟩
  ·have hd:decide ((t:Int)<s.size)=false:=decide_eq_false (by omega);have A:Hid (runN (inC [4]) s.data.toList=t):=by
    have h:=M.out;have:runN (inC [4]) s.data.toList=s.data.toList.length:=zka fun j d F N=>C.out j d (by omega) N;show runN (inC [4]) s.data.toList=t;omega
   go_wp2
   go_ret
   exact⟨zdh (by rw[A.out]),rfl⟩
def dgS (a:Nat) (c:UInt8):Nat:=a * 10+(c.toNat - 48)
def valF (acc:Nat) (L:List UInt8):Nat:=L.foldl dgS acc
theorem zpm (acc:Nat):valF acc []=acc:=rfl
theorem zhl (acc:Nat)(c:UInt8)(r:List UInt8):valF acc (c::r)=valF (acc * 10+(c.toNat - 48)) r:=by
 unfold valF;rw[List.foldl_cons,dgS]
theorem zu3 (L:List UInt8):∀ acc:Nat,acc * 10 ^ L.length<=valF acc L:=by
 induction L with
 | nil=>intro acc;rw[zpm,List.length_nil,Nat.pow_zero,Nat.mul_one];exact Ya _
 | cons c r ih=>
  intro acc;have h:=ih (acc * 10+(c.toNat - 48));rw[zhl,List.length_cons,Nat.pow_succ];refine Yo ?_ h;rw[Nat.mul_comm (10 ^ r.length) 10,<-Nat.mul_assoc];exact Nat.mul_le_mul_right _ (by omega)
theorem z0q (L:List UInt8)(acc:Nat):acc<=valF acc L:=by
 refine Yo ?_ (zu3 L acc);exact Nat.le_mul_of_pos_right _ (Nat.pow_pos (by decide))
theorem zll:∀ (L:List UInt8)(acc:Nat),(∀ c ∈ L,inC [4] c=true)->acc<=9223372036854775807->decF acc L=if valF acc L<=9223372036854775807 then some (valF acc L) else none
 | [],acc,_,h=>by rw[decF,zpm,if_pos h]
 | c::r,acc,hc,h=>by
  have h4:clsI c.toNat=4:=by have:=hc c (by simp);simpa[inC] using this
  rw[decF,zhl]
  by_cases hf:acc * 10+(c.toNat - 48)<=9223372036854775807
  ·rw[if_pos ⟨h4,hf⟩];exact zll r _ (fun d hd=>hc d (by simp[hd])) hf
  ·rw[if_neg (fun h=>hf h.2),if_neg];have:=z0q r (acc * 10+(c.toNat - 48));omega
theorem zpn:∀ (L:List UInt8)(acc:Nat),(∃ c ∈ L,inC [4] c=false)->decF acc L=none
 | [],acc,h=>by obtain⟨c,hc,-⟩:=h;simp at hc
 | c::r,acc,h=>by
  rw[decF]
  split
  ·rename_i hh
   refine zpn r _ ?_;obtain⟨d,hd,hq⟩:=h;rcases List.mem_cons.1 hd with rfl|hd
   ·have:inC [4] d=true:=by simp[inC,hh.1]
    rw[this] at hq
    cases hq
   ·exact⟨d,hd,hq⟩
  ·rfl
theorem zja {p:UInt8->Bool}{L:List UInt8}(h:runN p L=L.length):∀ c ∈ L,p c=true:=by
 induction L with
 | nil=>intro c y;simp at y
 | cons a r ih=>
  rw[zc5,List.length_cons] at h;intro c y
  cases hp:p a with
  | false=>rw[hp] at h;simp at h
  | true=>
   rw[hp,if_pos rfl] at h;rcases List.mem_cons.1 y with rfl|y
   ·exact hp
   ·exact ih (by omega) c y
theorem zu4 {p:UInt8->Bool}{L:List UInt8}(h:¬ runN p L=L.length):∃ c ∈ L,p c=false:=by
 induction L with
 | nil=>exact absurd rfl h
 | cons a r ih=>
  cases hp:p a with
  | false=>exact⟨a,by simp,hp⟩
  | true=>
   rw[zc5,hp,if_pos rfl,List.length_cons] at h;obtain⟨c,y,A⟩:=ih (by omega);exact⟨c,by simp[y],A⟩
theorem zj8 {L:List UInt8}(h:¬ runN (inC [4]) L=L.length):decO L=none:=by
 unfold decO
 split
 ·rfl
 ·exact zpn L 0 (zu4 h)
theorem zxa {L:List UInt8}(h:19<L.length):decO L=none:=by
 by_cases hd:runN (inC [4]) L=L.length
 ·unfold decO
  split
  ·rfl
  ·rename_i hn
   cases L with
   | nil=>simp at h
   | cons c r=>
    have y:=zja hd;rw[List.length_cons] at h;have D:¬ c.toNat=48:=fun e=>hn (.inr ⟨by rw[List.length_cons];omega,by rw[List.head?_cons,show c=48 from UInt8.toNat.inj e]⟩);have A:clsI c.toNat=4:=by have:=y c (by simp);simpa[inC] using this
    have:=cls4.1 A;rw[zll _ _ y (by omega),if_neg];have E:=zu3 r (0 * 10+(c.toNat - 48));have I:10 ^ 19<=10 ^ r.length:=Nat.pow_le_pow_right (by decide) (by omega);have F:1 * 10 ^ r.length<=(0 * 10+(c.toNat - 48)) * 10 ^ r.length:=Nat.mul_le_mul_right _ (by omega);rw[zhl];have C:(10:Nat) ^ 19=10000000000000000000:=by decide
    omega
 ·exact zj8 hd
theorem zmz {L:List UInt8}{i acc:Nat}{c:UInt8}(h:L[i]?=some c):valF acc (L.drop i)=valF (acc * 10+(c.toNat - 48)) (L.drop (i+1)):=by
 rw[zdu h,zhl]
theorem wrapU {x:Int}(h0:0<=x)(h1:x<18446744073709551616):IntKind.u64.wrap x=x:=by
 rw[show IntKind.u64.wrap x=x % 18446744073709551616 by simp[IntKind.wrap,IntKind.bits,IntKind.signed]];omega
theorem zm0 {t:Nat}(h:t<19):10 ^ (t+1)<=10000000000000000000:=by
 have y:10 ^ (t+1)<=10 ^ 19:=Nat.pow_le_pow_right (by decide) (by omega);have A:(10:Nat) ^ 19=10000000000000000000:=by decide
 omega
theorem zu5 (s:ByteArray)(w:World)(hs:s.size<=100000):Calls Tryz.prog 40 #[.string s] w fun e w'=>e=.returned (decV (decO s.data.toList))∧w'=w:=by
 have C:Hid (s.size=s.data.toList.length):=by show s.size=s.data.toList.length;simp
 have HT:Hid (s.toList=s.data.toList):=ByteArray.toList_eq s;have aw:=zgl (inC [4]) s.data.toList
 by_cases h0:s.data.toList=[]
 ·have e0:s.toList.isEmpty=true:=by rw[HT.out,h0];rfl
  have F:Hid (decO s.data.toList=none):=zre h0;clear h0
  go_enter Tryz.func40,Tryz.ntmps40
  go_wp2
  go_ret2
  exact⟨zc0 F.out,rfl⟩
 have A:0<s.size:=by rw[C.out];exact List.length_pos_iff.2 h0
 have e0:s.toList.isEmpty=false:=by rw[HT.out];cases h:s.data.toList with|nil=>exact absurd h h0|cons a l=>rfl
 by_cases hd:runN (inC [4]) s.data.toList=s.data.toList.length
 ·have an:(((runN (inC [4]) s.data.toList:Nat):Int) != s.size)=false:=by rw[bne_eq_false_iff_eq,hd,C.out]
  by_cases hl:19<s.size
  ·have F:Hid (decO s.data.toList=none):=zxa (by rw[<-C.out];exact hl);have am:(s.size:Int) > 19:=by omega
   clear h0 hd
   go_enter Tryz.func40,Tryz.ntmps40
   go_wp2_with (go_at_call 39;refine(zet s _ hs).mono ?_;rintro e W1 ⟨rfl,y⟩;rw[y];clear y)
   go_ret2
   exact⟨zc0 F.out,rfl⟩
  ·have am:¬ (s.size:Int) > 19:=by omega
   have b0:=zeb A;have aa:s.data.toList.head?=some (s[0]'A):=by rw[<-b0];cases s.data.toList <;> rfl
   by_cases hn:1<s.size∧(s[0]'A).toNat=48
   ·have F:Hid (decO s.data.toList=none):=zji (by have:=C.out;omega) (by rw[aa,show s[0]'A=48 from UInt8.toNat.inj hn.2]);have ax:(s.size:Int) > 1:=by omega
    have ar:=hn.2;clear h0 hd b0 aa hn
    go_enter Tryz.func40,Tryz.ntmps40
    go_wp2_with (go_at_call 39;refine(zet s _ hs).mono ?_;rintro e W1 ⟨rfl,y⟩;rw[y];clear y)
    go_ret2
    exact⟨zc0 F.out,rfl⟩
   ·have HV:Hid (decO s.data.toList=if valF 0 s.data.toList<=9223372036854775807 then some (valF 0 s.data.toList) else none):=by
     rw[zxf h0 (by
      rintro⟨V,I⟩;rw[aa] at I;injection I with I;exact hn ⟨by have:=C.out;omega,by rw[I];rfl⟩),zll _ _ (zja hd) (by omega)]
     exact rfl
    have al:Hid (∀ c ∈ s.data.toList,inC [4] c=true):=zja hd;have ag:¬ (1<s.size)∨¬ ((s[0]'A).toNat=48):=by
     by_cases V:1<s.size
     ·exact .inr fun I=>hn ⟨V,I⟩
     ·exact .inl V
    clear h0 hd b0 aa hn
    go_enter Tryz.func40,Tryz.ntmps40
    by_cases V:1<s.size
    ·have ar:¬ (s[0]'A).toNat=48:=by
      rcases ag with h|h
      ·exact absurd V h
      ·exact h
     have ay:(((s[0]'A).toNat:Int) == 48)=false:=by rw[beq_eq_false_iff_ne];omega
     clear ag
     go_wp2_with (go_at_call 39;refine(zet s _ hs).mono ?_;rintro e W1 ⟨rfl,y⟩;rw[y];clear y)
     generalize (s[0]'A).toNat=z0;have Z:Hid (valF 0 (s.data.toList.drop 0)=valF 0 s.data.toList):=rfl
     go_loopw [4,32] (fun n i wr=>∃ t v:Nat,t<=s.size∧i=.int .i64 t∧n=.int .u64 v∧wr=w∧v<10 ^ t∧valF v (s.data.toList.drop t)=valF 0 s.data.toList) (fun _ i _=>s.size - (intOf i).toNat)
     case atStart=>exact⟨0,0,Yk _,rfl,rfl,rfl,by decide,Z.out⟩
     case round=>
      clear Z;obtain⟨t,v,ht,rfl,rfl,rfl,X,U⟩:=hrel;have af:=J X;have N:=J U;clear X U
      by_cases hlt:t<s.size
      ·have ac:decide ((t:Int)<s.size)=true:=decide_eq_true (by omega);have E:=zeb hlt;have K:=al.out _ (Ym E);have Y:clsI ((s[t]'hlt).toNat:Int)=4:=by simpa[inC] using K
       obtain⟨g1,g2⟩:=cls4.1 Y;have ai:=zm0 (t:=t) (by omega);have ah:10 ^ (t+1)=10 ^ t * 10:=Nat.pow_succ 10 t;have aj:v * 10+9<10 ^ (t+1):=by have:=af.out;omega
       have ab:Hid (v * 10+((s[t]'hlt).toNat - 48)<10 ^ (t+1)):=by show v * 10+((s[t]'hlt).toNat - 48)<10 ^ (t+1);omega
       have ae:Hid (valF (v * 10+((s[t]'hlt).toNat - 48)) (s.data.toList.drop (t+1))=valF 0 s.data.toList):=by rw[<-N.out,zmz E];exact rfl
       have av:IntKind.u64.wrap (10 * (v:Int))=10 * (v:Int):=wrapU (by omega) (by omega);have aq:IntKind.u8.wrap (((s[t]'hlt).toNat:Int) - 48)=((s[t]'hlt).toNat:Int) - 48:=by
        rw[show ∀ x:Int,IntKind.u8.wrap x=x % 256 from fun x=>by simp[IntKind.wrap,IntKind.bits,IntKind.signed]];omega
       have au:IntKind.u64.wrap (((s[t]'hlt).toNat:Int) - 48)=((s[t]'hlt).toNat:Int) - 48:=wrapU (by omega) (by omega);have ao:IntKind.u64.wrap (10 * (v:Int)+(((s[t]'hlt).toNat:Int) - 48))=10 * (v:Int)+(((s[t]'hlt).toNat:Int) - 48):=wrapU (by omega) (by omega);clear ai ah aj Y K E
       go_wp2
       refine⟨⟨t+1,v * 10+((s[t]'hlt).toNat - 48),by omega,by go_num,?_,trivial,ab.out,ae.out⟩,by simp[intOf];omega⟩
       congr 1
       omega
      ·have ac:decide ((t:Int)<s.size)=false:=decide_eq_false (by omega);have M:Hid (valF 0 s.data.toList=v):=by rw[<-N.out,List.drop_eq_nil_of_le (by have:=C.out;omega)];exact rfl
       by_cases hmx:v<=9223372036854775807
       ·have D:Hid (decO s.data.toList=some v):=by rw[HV.out,M.out,if_pos hmx];exact rfl
        have ak:¬ (v:Int) > 9223372036854775807:=by omega
        have ap:IntKind.i64.wrap (v:Int)=v:=wrap64 (by omega) (by omega)
        go_wp2
        go_ret2
        exact⟨zh1 D.out,rfl⟩
       ·have D:Hid (decO s.data.toList=none):=by rw[HV.out,M.out,if_neg hmx];exact rfl
        have ak:(v:Int) > 9223372036854775807:=by omega
        go_wp2
        go_ret2
        exact⟨zc0 D.out,rfl⟩
    ·clear ag
     go_wp2_with (go_at_call 39;refine(zet s _ hs).mono ?_;rintro e W1 ⟨rfl,y⟩;rw[y];clear y)
     have Z:Hid (valF 0 (s.data.toList.drop 0)=valF 0 s.data.toList):=rfl
     go_loopw [4,32] (fun n i wr=>∃ t v:Nat,t<=s.size∧i=.int .i64 t∧n=.int .u64 v∧wr=w∧v<10 ^ t∧valF v (s.data.toList.drop t)=valF 0 s.data.toList) (fun _ i _=>s.size - (intOf i).toNat)
     case atStart=>exact⟨0,0,Yk _,rfl,rfl,rfl,by decide,Z.out⟩
     case round=>
      clear Z;obtain⟨t,v,ht,rfl,rfl,rfl,X,U⟩:=hrel;have af:=J X;have N:=J U;clear X U
      by_cases hlt:t<s.size
      ·have ac:decide ((t:Int)<s.size)=true:=decide_eq_true (by omega);have E:=zeb hlt;have K:=al.out _ (Ym E);have Y:clsI ((s[t]'hlt).toNat:Int)=4:=by simpa[inC] using K
       obtain⟨g1,g2⟩:=cls4.1 Y;have ai:=zm0 (t:=t) (by omega);have ah:10 ^ (t+1)=10 ^ t * 10:=Nat.pow_succ 10 t;have aj:v * 10+9<10 ^ (t+1):=by have:=af.out;omega
       have ab:Hid (v * 10+((s[t]'hlt).toNat - 48)<10 ^ (t+1)):=by show v * 10+((s[t]'hlt).toNat - 48)<10 ^ (t+1);omega
       have ae:Hid (valF (v * 10+((s[t]'hlt).toNat - 48)) (s.data.toList.drop (t+1))=valF 0 s.data.toList):=by rw[<-N.out,zmz E];exact rfl
       have av:IntKind.u64.wrap (10 * (v:Int))=10 * (v:Int):=wrapU (by omega) (by omega);have aq:IntKind.u8.wrap (((s[t]'hlt).toNat:Int) - 48)=((s[t]'hlt).toNat:Int) - 48:=by
        rw[show ∀ x:Int,IntKind.u8.wrap x=x % 256 from fun x=>by simp[IntKind.wrap,IntKind.bits,IntKind.signed]];omega
       have au:IntKind.u64.wrap (((s[t]'hlt).toNat:Int) - 48)=((s[t]'hlt).toNat:Int) - 48:=wrapU (by omega) (by omega);have ao:IntKind.u64.wrap (10 * (v:Int)+(((s[t]'hlt).toNat:Int) - 48))=10 * (v:Int)+(((s[t]'hlt).toNat:Int) - 48):=wrapU (by omega) (by omega);clear ai ah aj Y K E
       go_wp2
       refine⟨⟨t+1,v * 10+((s[t]'hlt).toNat - 48),by omega,by go_num,?_,trivial,ab.out,ae.out⟩,by simp[intOf];omega⟩
       congr 1
       omega
      ·have ac:decide ((t:Int)<s.size)=false:=decide_eq_false (by omega);have M:Hid (valF 0 s.data.toList=v):=by rw[<-N.out,List.drop_eq_nil_of_le (by have:=C.out;omega)];exact rfl
       by_cases hmx:v<=9223372036854775807
       ·have D:Hid (decO s.data.toList=some v):=by rw[HV.out,M.out,if_pos hmx];exact rfl
        have ak:¬ (v:Int) > 9223372036854775807:=by omega
        have ap:IntKind.i64.wrap (v:Int)=v:=wrap64 (by omega) (by omega)
        go_wp2
        go_ret2
        exact⟨zh1 D.out,rfl⟩
       ·have D:Hid (decO s.data.toList=none):=by rw[HV.out,M.out,if_neg hmx];exact rfl
        have ak:(v:Int) > 9223372036854775807:=by omega
        go_wp2
        go_ret2
        exact⟨zc0 D.out,rfl⟩
 ·have an:(((runN (inC [4]) s.data.toList:Nat):Int) != s.size)=true:=by rw[bne_iff_ne];have:=C.out;omega
  have F:Hid (decO s.data.toList=none):=zj8 hd;clear h0 hd
  go_enter Tryz.func40,Tryz.ntmps40
  go_wp2_with (go_at_call 39;refine(zet s _ hs).mono ?_;rintro e W1 ⟨rfl,y⟩;rw[y];clear y)
  go_ret2
  exact⟨zc0 F.out,rfl⟩
def quN (L:List UInt8):Nat:=match unqO L with|none=>0|some (_,n)=>n
theorem zu6 {c:UInt8}(h1:¬ c.toNat=34)(h2:¬ c.toNat=92)(h3:¬ c.toNat=110):pairU c=none:=by
 unfold pairU;rw[if_neg (by omega),if_neg h3]
theorem zxb {c:UInt8}(h:c.toNat=34∨c.toNat=92∨c.toNat=110):∃ x,pairU c=some x:=by
 unfold pairU
 by_cases h1:c.toNat=34∨c.toNat=92
 ·rw[if_pos h1];exact⟨_,rfl⟩
 ·rw[if_neg h1,if_pos (by omega)];exact⟨_,rfl⟩
theorem zft (s:ByteArray)(w:World)(hs:s.size<=100000):Calls Tryz.prog 42 #[.string s] w fun e w'=>e=.returned (.int .i64 (quN s.data.toList))∧w'=w:=by
 have Y:Hid (s.size=s.data.toList.length):=by show s.size=s.data.toList.length;simp
 have HT:Hid (s.toList=s.data.toList):=ByteArray.toList_eq s
 by_cases h0:s.data.toList=[]
 ·have e0:s.toList.isEmpty=true:=by rw[HT.out,h0];rfl
  have C:Hid (quN s.data.toList=0):=by rw[h0];exact rfl
  clear h0
  go_enter Tryz.func42,Tryz.ntmps42
  go_wp2
  go_ret
  exact⟨zdh (by rw[C.out];rfl),rfl⟩
 have I:0<s.size:=by rw[Y.out];exact List.length_pos_iff.2 h0
 have e0:s.toList.isEmpty=false:=by rw[HT.out];cases h:s.data.toList with|nil=>exact absurd h h0|cons a l=>rfl
 have b0:=zeb I;have N:Hid (unqO s.data.toList=if (s[0]'I).toNat=34 then unqA [] 1 (s.data.toList.drop 1) else none):=by
  have e:=zdu b0;rw[List.drop_zero] at e;rw[e];exact rfl
 clear h0 b0
 by_cases hq:(s[0]'I).toNat=34
 ·have HG:Hid (unqA [] 1 (s.data.toList.drop 1)=unqO s.data.toList):=by rw[N.out,if_pos hq];exact rfl
  have ai:(((s[0]'I).toNat:Int) != 34)=false:=by rw[bne_eq_false_iff_eq];omega
  clear N hq
  go_enter Tryz.func42,Tryz.ntmps42
  go_wp2
  generalize (s[0]'I).toNat=z0
  go_loopw [3] (fun i wr=>∃ (t:Nat) (E:List UInt8),1<=t∧t<=s.size∧i=.int .i64 t∧wr=w∧unqA E t (s.data.toList.drop t)=unqO s.data.toList) (fun i _=>s.size - (intOf i).toNat)
  case atStart=>exact⟨1,[],Ya _,I,rfl,rfl,HG.out⟩
  case round=>
   clear HG;obtain⟨t,E,ak,ht,rfl,rfl,ab⟩:=hrel;have C:=J ab;clear ab
   by_cases hlt:t<s.size
   ·have hd:decide ((t:Int)<s.size)=true:=decide_eq_true (by omega);have af:¬ (t:Int) ≥ s.size:=by omega
    have Z:=zeb hlt;obtain⟨c,A⟩:∃ c,Hid (s[t]'hlt=c):=⟨_,rfl⟩;rw[A.out] at Z;have K:=J Z;clear Z
    by_cases h34:c.toNat=34
    ·have y:Hid (quN s.data.toList=t+1):=by unfold quN;rw[<-C.out,zkb K.out h34];exact rfl
     have aj:(((s[t]'hlt).toNat:Int) != 34)=false:=by rw[A.out,bne_eq_false_iff_eq];omega
     go_wp2
     go_ret
     exact⟨zdh (by rw[y.out];rfl),rfl⟩
    ·have aj:(((s[t]'hlt).toNat:Int) != 34)=true:=by rw[A.out,bne_iff_ne];omega
     by_cases h92:c.toNat=92
     ·have U:¬ ((s[t]'hlt).toNat:Int)<32:=by rw[A.out];omega
      have aa:¬ ((s[t]'hlt).toNat:Int) > 126:=by rw[A.out];omega
      have ae:(((s[t]'hlt).toNat:Int) == 92)=true:=by rw[A.out,beq_iff_eq];omega
      by_cases hl2:t+1<s.size
      ·have V:=zeb hl2;obtain⟨d,D⟩:∃ d,Hid (s[t+1]'hl2=d):=⟨_,rfl⟩;rw[D.out] at V;have ac:=J V;clear V;have ah:(((t:Int)+1) == (s.size:Int))=false:=by rw[beq_eq_false_iff_ne];omega
       by_cases F:d.toNat=34∨d.toNat=92∨d.toNat=110
       ·obtain⟨x,hx⟩:=zxb F;have y:Hid (unqA (E++[x]) (t+2) (s.data.toList.drop (t+2))=unqO s.data.toList):=by rw[<-C.out,zkc K.out h92 ac.out hx];exact rfl
        clear hx;have M:Hid (∃ (t':Nat) (E:List UInt8),1<=t'∧t'<=s.size∧Value.int .i64 ((t:Int)+1+1)=.int .i64 t'∧True∧unqA E t' (s.data.toList.drop t')=unqO s.data.toList):=⟨t+2,E++[x],by omega,by omega,by go_num,trivial,y.out⟩;rcases F with F|F|F
        ·have X:(((s[t+1]'hl2).toNat:Int) != 34)=false:=by rw[D.out,bne_eq_false_iff_eq];omega
         clear F
         go_wp2
         exact⟨M.out,by simp[intOf];omega⟩
        ·have X:(((s[t+1]'hl2).toNat:Int) != 34)=true:=by rw[D.out,bne_iff_ne];omega
         have p2:(((s[t+1]'hl2).toNat:Int) != 92)=false:=by rw[D.out,bne_eq_false_iff_eq];omega
         clear F
         go_wp2
         exact⟨M.out,by simp[intOf];omega⟩
        ·have X:(((s[t+1]'hl2).toNat:Int) != 34)=true:=by rw[D.out,bne_iff_ne];omega
         have p2:(((s[t+1]'hl2).toNat:Int) != 92)=true:=by rw[D.out,bne_iff_ne];omega
         have p3:(((s[t+1]'hl2).toNat:Int) != 110)=false:=by rw[D.out,bne_eq_false_iff_eq];omega
         clear F
         go_wp2
         exact⟨M.out,by simp[intOf];omega⟩
       ·have X:(((s[t+1]'hl2).toNat:Int) != 34)=true:=by rw[D.out,bne_iff_ne];omega
        have p2:(((s[t+1]'hl2).toNat:Int) != 92)=true:=by rw[D.out,bne_iff_ne];omega
        have p3:(((s[t+1]'hl2).toNat:Int) != 110)=true:=by rw[D.out,bne_iff_ne];omega
        have y:Hid (quN s.data.toList=0):=by
         unfold quN;rw[<-C.out,zh2 K.out h92 (by rw[zdu ac.out,zf7,zu6 (by omega) (by omega) (by omega)])];exact rfl
        clear F
        go_wp2
        go_ret
        exact⟨zdh (by rw[y.out];rfl),rfl⟩
      ·have ah:(((t:Int)+1) == (s.size:Int))=true:=by rw[beq_iff_eq];omega
       have y:Hid (quN s.data.toList=0):=by
        unfold quN;rw[<-C.out,zh2 K.out h92 (by rw[List.drop_eq_nil_of_le (by have:=Y.out;omega)];rfl)];exact rfl
       go_wp2
       go_ret
       exact⟨zdh (by rw[y.out];rfl),rfl⟩
     ·have ae:(((s[t]'hlt).toNat:Int) == 92)=false:=by rw[A.out,beq_eq_false_iff_ne];omega
      cases hpl:plnB c.toNat
      ·have y:Hid (quN s.data.toList=0):=by unfold quN;rw[<-C.out,zkd K.out h34 h92 hpl];exact rfl
       by_cases h32:c.toNat<32
       ·have U:((s[t]'hlt).toNat:Int)<32:=by rw[A.out];omega
        go_wp2
        go_ret
        exact⟨zdh (by rw[y.out];rfl),rfl⟩
       ·have U:¬ ((s[t]'hlt).toNat:Int)<32:=by rw[A.out];omega
        have aa:((s[t]'hlt).toNat:Int) > 126:=by
         rw[A.out];simp[plnB] at hpl;omega
        go_wp2
        go_ret
        exact⟨zdh (by rw[y.out];rfl),rfl⟩
      ·have ag:32<=(c.toNat:Int)∧(c.toNat:Int)<=126:=by simpa[plnB] using hpl
       have U:¬ ((s[t]'hlt).toNat:Int)<32:=by rw[A.out];omega
       have aa:¬ ((s[t]'hlt).toNat:Int) > 126:=by rw[A.out];omega
       have y:Hid (unqA (E++[c]) (t+1) (s.data.toList.drop (t+1))=unqO s.data.toList):=by rw[<-C.out,zhn K.out h34 h92 hpl];exact rfl
       have M:Hid (∃ (t':Nat) (E:List UInt8),1<=t'∧t'<=s.size∧Value.int .i64 ((t:Int)+1)=.int .i64 t'∧True∧unqA E t' (s.data.toList.drop t')=unqO s.data.toList):=⟨t+1,E++[c],by omega,by omega,by go_num,trivial,y.out⟩;clear hpl ag
       go_wp2
       exact⟨M.out,by simp[intOf];omega⟩
   ·have hd:decide ((t:Int)<s.size)=false:=decide_eq_false (by omega);have af:(t:Int) ≥ s.size:=by omega
    have y:Hid (quN s.data.toList=0):=by unfold quN;rw[<-C.out,List.drop_eq_nil_of_le (by have:=Y.out;omega)];exact rfl
    go_wp2
    go_ret
    exact⟨zdh (by rw[y.out];rfl),rfl⟩
 ·have C:Hid (quN s.data.toList=0):=by unfold quN;rw[N.out,if_neg hq];exact rfl
  have ai:(((s[0]'I).toNat:Int) != 34)=true:=by rw[bne_iff_ne];omega
  clear N hq
  go_enter Tryz.func42,Tryz.ntmps42
  go_wp2
  go_ret
  exact⟨zdh (by rw[C.out];rfl),rfl⟩
theorem zq6 (t:Tok)(w:World)(hs:t.text.size<=100000):Calls Tryz.prog 127 #[.agg t.cells] w fun e w'=>e=.returned (decV (numO t))∧Below w.heap.size w w':=by
 unfold Tok.cells
 cases hk:(t.kind == 2)
 ·have C:(t.kind != 2)=true:=by rw[bne,hk];rfl
  have y:Hid (numO t=none):=by unfold numO;rw[if_neg (by simpa using hk)];exact rfl
  clear hk
  go_enter Tryz.func127,Tryz.ntmps127
  go_wp2
  go_ret2
  exact⟨zc0 y.out,(Yb _ _).alloc (Ya _) _⟩
 ·have C:(t.kind != 2)=false:=by rw[bne,hk];rfl
  have y:Hid (numO t=decO t.text.data.toList):=by unfold numO;rw[if_pos (by simpa using hk)];exact rfl
  clear hk
  go_enter Tryz.func127,Tryz.ntmps127
  go_wp2_with fail
  refine(zu5 t.text _ hs).mono ?_;rintro e W1 ⟨rfl,A⟩;rw[A];unfold decV
  go_wp2
  go_ret2
  refine⟨?_,(Yb _ _).alloc (Ya _) _⟩;rw[y.out];exact rfl
theorem ze2 {B:Nat}(w:World)(n:Nat):Below B w (w.drewN n):=⟨rfl,rfl,rfl,Ya _,fun _ _=>rfl⟩
def strB (o:Option (List UInt8)):Value:=match o with|none=>.tuple #[.string ⟨#[]⟩,.bool false] | some x=>.tuple #[.string (strU x),.bool true]
theorem z0r {L:List UInt8}(h:L≠[]):(quN L=L.length ↔ ∃ v,unqO L=some (v,L.length)):=by
 unfold quN
 cases hu:unqO L with
 | none=>
  constructor
  ·intro A;exact absurd (List.eq_nil_of_length_eq_zero A.symm) h
  ·rintro⟨v,y⟩;cases y
 | some p=>
  obtain⟨v,n⟩:=p
  constructor
  ·intro A;exact⟨v,by rw[<-A]⟩
  ·rintro⟨C,y⟩;injection y with y;injection y with A h2
theorem zxc (s:ByteArray)(h2:2<=s.size):∃ x:ByteArray,s.extract 1 (s.size - 1)=x∧x.size=s.size - 2∧∀ (i:Nat)(h:i<x.size),s.data.toList[i+1]?=some (x[i]'h):=by
 refine⟨_,rfl,?_,fun i h=>?_⟩
 ·rw[ByteArray.size_extract];omega
 ·rw[ByteArray.size_extract] at h;have y:i+1<s.size:=by omega
  rw[zeb y,ByteArray.getElem_extract];simp[Nat.add_comm]
theorem zu7 (c:UInt8)(r:List UInt8):unqO (c::r)=if c.toNat=34 then unqA [] 1 r else none:=rfl
theorem z0s {L v:List UInt8}{n:Nat}(h:unqO L=some (v,n)):unqA [] 1 (L.drop 1)=some (v,n):=by
 cases L with
 | nil=>cases h
 | cons c r=>
  rw[zu7] at h
  by_cases hc:c.toNat=34
  ·rw[if_pos hc] at h;exact h
  ·rw[if_neg hc] at h;cases h
theorem zu8 {acc v L:List UInt8}{i n:Nat}(h:unqA acc i (L.drop i)=some (v,n))(hi:i+1=L.length):acc=v:=by
 obtain⟨c,y⟩:∃ c,L[i]?=some c:=⟨_,Yh (by omega)⟩;rw[zdu y,List.drop_eq_nil_of_le (by omega),zcb] at h
 by_cases h1:c.toNat=34
 ·rw[if_pos h1] at h;injection h with h;injection h with h _
 ·rw[if_neg h1] at h
  by_cases h2:c.toNat=92
  ·rw[if_pos h2] at h;cases h
  ·rw[if_neg h2] at h
   by_cases h3:plnB c.toNat=true
   ·rw[if_pos h3] at h;cases h
   ·rw[if_neg h3] at h;cases h
theorem zxd {d y:UInt8}(h:pairU d=some y)(hd:d.toNat=110):y=10:=by
 unfold pairU at h;rw[if_neg (by omega),if_pos hd] at h;injection h with h;exact h.symm
theorem zu9 {d y:UInt8}(h:pairU d=some y)(hd:¬ d.toNat=110):y=d:=by
 unfold pairU at h
 by_cases h1:d.toNat=34∨d.toNat=92
 ·rw[if_pos h1] at h;injection h with h;exact h.symm
 ·rw[if_neg h1,if_neg hd] at h;cases h
theorem zva {t:Tok}(h:t.kind=3):valO t=match unqO t.text.data.toList with|some (v,n)=>if n=t.text.size then some v else none|none=>none:=by
 unfold valO;rw[if_pos h];rfl
theorem zm1 (t:Tok)(w:World)(hs:t.text.size<=100000):Calls Tryz.prog 48 #[.agg t.cells] w fun e w'=>e=.returned (strB (valO t))∧Below w.heap.size w w':=by
 unfold Tok.cells;have F:Hid (t.text.size=t.text.data.toList.length):=by show t.text.size=t.text.data.toList.length;simp
 have HT:Hid (t.text.toList=t.text.data.toList):=ByteArray.toList_eq t.text;have az:∀ n,(w.alloc (.cells #[.int .i64 t.kind,.string t.text,.int .i64 t.pos] 38)).drewN n=(w.drewN n).alloc (.cells #[.int .i64 t.kind,.string t.text,.int .i64 t.pos] 38):=fun n=>rfl;have ak:Below w.heap.size w (w.alloc (.cells #[.int .i64 t.kind,.string t.text,.int .i64 t.pos] 38)):=(Yb _ _).alloc (Ya _) _;have ag:=Yd w (.cells #[.int .i64 t.kind,.string t.text,.int .i64 t.pos] 38)
 go_enter Tryz.func48,Tryz.ntmps48
 go_wp2
 refine zdq (fun W=>W.heap[w.heap.size]?=some (.cells #[.int .i64 t.kind,.string t.text,.int .i64 t.pos] 38 (0,0))∧Below w.heap.size w W) ⟨ag,ak⟩ ?_;rintro W0 ⟨af,Z⟩;clear ag ak az;have c0:W0.cell? ⟨w.heap.size,0,none⟩=some (.int .i64 t.kind):=Yp 0 af rfl;have c1:W0.cell? ⟨w.heap.size,1,none⟩=some (.string t.text):=Yp 1 af rfl;clear af
 cases hk:(t.kind == 3)
 ·have ax:(t.kind != 3)=true:=by rw[bne,hk];rfl
  have K:Hid (valO t=none):=by unfold valO;rw[if_neg (by simpa using hk)];exact rfl
  clear hk
  go_quiet ((go_at_call 42;refine Calls.quiet_of_same (zft _ _ hs)))
  go_wp2
  go_ret2
  refine⟨?_,Z.trans (ze2 _ _)⟩;rw[K.out];exact rfl
 have ax:(t.kind != 3)=false:=by rw[bne,hk];rfl
 have V:Hid (valO t=match unqO t.text.data.toList with|some (v,n)=>if n=t.text.size then some v else none|none=>none):=by
  exact zva (by simpa using hk)
 clear hk
 by_cases h0:t.text.data.toList=[]
 ·have e0:t.text.toList.isEmpty=true:=by rw[HT.out,h0];rfl
  have K:Hid (valO t=none):=by rw[V.out,h0];exact rfl
  clear h0
  go_quiet ((go_at_call 42;refine Calls.quiet_of_same (zft _ _ hs)))
  go_wp2
  go_ret2
  refine⟨?_,Z.trans (ze2 _ _)⟩;rw[K.out];exact rfl
 have e0:t.text.toList.isEmpty=false:=by rw[HT.out];cases h:t.text.data.toList with|nil=>exact absurd h h0|cons a l=>rfl
 by_cases hq:quN t.text.data.toList=t.text.data.toList.length
 ·have aF:(((quN t.text.data.toList:Nat):Int) != t.text.size)=false:=by rw[bne_eq_false_iff_eq];have:=F.out;omega
  obtain⟨v,hv⟩:=(z0r h0).1 hq;have K:Hid (valO t=some v):=by rw[V.out,hv];exact if_pos F.out.symm
  have aw:=J hv;have aI:=zg1 hv;clear h0 hq hv V
  go_quiet ((go_at_call 42;refine Calls.quiet_of_same (zft _ _ hs)))
  have aA:2<=t.text.size:=by have:=F.out;omega
  obtain⟨x,hx,av,au⟩:=zxc t.text aA;have ae:=J av;have al:=J au;have aG:x.size<=100000:=by omega
  clear au av;have ay:IntKind.i64.wrap ((t.text.size:Int) - 1)=(t.text.size:Int) - 1:=wrap64 (by omega) (by omega);have ap:((t.text.size:Int) - 1).toNat=t.text.size - 1:=by omega
  have aC:t.text.extract 1 ((t.text.size:Int) - 1).toNat=x:=by rw[ap];exact hx
  have b1:=Z.trans (ze2 (B:=w.heap.size) W0 nq);have aq:(W0.drewN nq).cell? ⟨w.heap.size,1,none⟩=some (.string t.text):=c1;generalize W0.drewN nq=W1 at b1 aq ⊢;clear Z c0 c1
  go_wp2
  clear aC ap ay hx aq;have an:Hid (Below w.heap.size w W1):=b1;clear b1;have HG:Hid (unqA [] 1 (t.text.data.toList.drop 1)=some (v,t.text.data.toList.length)):=z0s aw
  go_loopw [4,6] (fun u i wr=>∃ (k:Nat) (A:List UInt8),k<=x.size∧i=.int .i64 k∧OwnB w.heap.size wr u A∧Below w.heap.size w wr∧A.length<=k∧unqA A (k+1) (t.text.data.toList.drop (k+1))=some (v,t.text.data.toList.length)) (fun _ i _=>x.size - (intOf i).toNat)
  case atStart=>exact⟨0,[],Yk _,rfl,zcz _ _,an.out,Yk _,HG.out⟩
  case round=>
   clear HG an;obtain⟨k,A,aK,rfl,ah,ai,aH,ao⟩:=hrel;have HO:=J ah;have M:=J ai;have N:=J ao;clear ah ai ao
   by_cases hlt:k<x.size
   ·have hd:decide ((k:Int)<x.size)=true:=decide_eq_true (by omega);have hB:=al.out k hlt;obtain⟨c,HC⟩:∃ c,Hid (x[k]'hlt=c):=⟨_,rfl⟩;rw[HC.out] at hB;have U:=J hB;clear hB;have aj:¬ c.toNat=34:=fun h=>by
     have:=N.out;rw[zkb U.out h] at this;injection this with this;injection this with _ this;have:=F.out;have:=ae.out;omega
    by_cases h92:c.toNat=92
    ·have aD:(((x[k]'hlt).toNat:Int) == 92)=true:=by rw[HC.out,beq_iff_eq];omega
     have ar:pairI (t.text.data.toList.drop (k+1+1))≠0:=fun h=>by
      have:=N.out;rw[zh2 U.out h92 h] at this
      cases this
     obtain⟨d,y,ac,Y,-⟩:=zlo ar;have HE:Hid (unqA (A++[y]) (k+1+2) (t.text.data.toList.drop (k+1+2))=some (v,t.text.data.toList.length)):=by rw[<-zkc U.out h92 ac Y];exact N
     have aE:=zg0 _ (Ya _) HE.out;have ab:k+1<x.size:=by have:=F.out;have:=ae.out;omega
     have X:=al.out (k+1) ab;rw[ac] at X;injection X with X;have HD:Hid (x[k+1]'ab=d):=X.symm;clear X aE ar ac;have aa:∀ (E:Value) (w':World),OwnB w.heap.size w' E (A++[y])->Below w.heap.size w w'->Hid (∃ (k':Nat) (A:List UInt8),k'<=x.size∧Value.int .i64 ((k:Int)+1+1)=.int .i64 k'∧OwnB w.heap.size w' E A∧Below w.heap.size w w'∧A.length<=k'∧unqA A (k'+1) (t.text.data.toList.drop (k'+1))=some (v,t.text.data.toList.length)):=fun E w' C D=>⟨k+2,A++[y],by omega,by go_num,C,D,by rw[List.length_append,List.length_singleton];omega,HE.out⟩
     by_cases h110:d.toNat=110
     ·have p1:(((x[k+1]'ab).toNat:Int) == 110)=true:=by rw[HD.out,beq_iff_eq];omega
      have hy:=zxd Y h110;subst hy;obtain⟨E,w',I,C,D⟩:=zfy 10 HO M M.out.size (by omega);have RR:=aa E w' C D;clear aa C D Y
      go_wp2_with (at_builtin;refine za8 (.tmp 50) (.tmp 52) 71 (by rfl) (by rfl) (by rfl) (by rfl) I ?_)
      exact⟨RR.out,by simp[intOf];omega⟩
     ·have p1:(((x[k+1]'ab).toNat:Int) == 110)=false:=by rw[HD.out,beq_eq_false_iff_ne];omega
      have hy:=zu9 Y h110;subst hy;obtain⟨E,w',I,C,D⟩:=zfy y HO M M.out.size (by omega);have RR:=aa E w' C D;rw[<-HD.out] at I;clear aa C D Y
      go_wp2_with (at_builtin;refine za8 (.tmp 50) (.tmp 52) 71 (by rfl) (by rfl) (by rfl) (by rfl) I ?_)
      exact⟨RR.out,by simp[intOf];omega⟩
    ·have aD:(((x[k]'hlt).toNat:Int) == 92)=false:=by rw[HC.out,beq_eq_false_iff_ne];omega
     cases hpl:plnB c.toNat
     ·have:=N.out;rw[zkd U.out aj h92 hpl] at this
      cases this
     ·have HE:Hid (unqA (A++[c]) (k+1+1) (t.text.data.toList.drop (k+1+1))=some (v,t.text.data.toList.length)):=by rw[<-zhn U.out aj h92 hpl];exact N
      obtain⟨E,w',I,C,D⟩:=zfy c HO M M.out.size (by omega);have RR:Hid (∃ (k':Nat) (A:List UInt8),k'<=x.size∧Value.int .i64 ((k:Int)+1)=.int .i64 k'∧OwnB w.heap.size w' E A∧Below w.heap.size w w'∧A.length<=k'∧unqA A (k'+1) (t.text.data.toList.drop (k'+1))=some (v,t.text.data.toList.length)):=⟨k+1,A++[c],by omega,by go_num,C,D,by rw[List.length_append,List.length_singleton];omega,HE.out⟩;rw[<-HC.out] at I;clear C D hpl
      go_wp2_with (at_builtin;refine za8 (.tmp 50) (.tmp 52) 71 (by rfl) (by rfl) (by rfl) (by rfl) I ?_)
      exact⟨RR.out,by simp[intOf];omega⟩
   ·have hd:decide ((k:Int)<x.size)=false:=decide_eq_false (by omega);obtain⟨su,cu,rfl,am,-,-,-⟩:=OwnG.rows elB HO;have aJ:=zgz (BA.of_rows am) cu;have aB:Hid (A=v):=zu8 N (by have:=F.out;have:=ae.out;omega);clear am
    go_wp2
    go_ret2
    refine⟨?_,M.out⟩;rw[K.out,aB.out];exact rfl
 ·have aF:(((quN t.text.data.toList:Nat):Int) != t.text.size)=true:=by rw[bne_iff_ne];have:=F.out;omega
  have K:Hid (valO t=none):=by
   rw[V.out]
   cases hu:unqO t.text.data.toList with
   | none=>exact rfl
   | some p=>
    obtain⟨v,n⟩:=p;show(if _=_ then _ else _)=_;exact if_neg (fun hn=>hq (by unfold quN;rw[hu];show n=_;rw[hn,F.out]))
  clear h0 hq V
  go_quiet ((go_at_call 42;refine Calls.quiet_of_same (zft _ _ hs)))
  go_wp2
  go_ret2
  refine⟨?_,Z.trans (ze2 _ _)⟩;rw[K.out];exact rfl
end Go.Proofs.YtmclgbkijeidaaaGreatDoor
