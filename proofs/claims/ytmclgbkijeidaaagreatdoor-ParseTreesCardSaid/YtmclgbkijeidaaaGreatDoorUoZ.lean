import Derived.Test.YtmclgbkijeidaaaGreatDoorUoY
namespace Go.Proofs.YtmclgbkijeidaaaGreatDoor
set_option maxRecDepth 100000
set_option maxHeartbeats 4000000
open Go.RowKit
theorem z0t (t:Tok):decV (numO t)=.tuple #[.int .i64 (numT t),.bool (numO t).isSome]:=by
 unfold decV numT
 cases numO t <;> rfl
theorem zvb (t:Tok):strB (valO t)=.tuple #[.string (valT t),.bool (valO t).isSome]:=by
 unfold strB valT
 cases valO t <;> rfl
section
variable {T:Nat}{w W0 W W':World}{g:Nat}{st:Option Addr}{cap:Nat}{ts:List Tok}{s s':Qs}
theorem zbs (hR:QdS T w g st cap ts s):Calls Tryz.prog 97 #[.pointer (some ⟨g,0,none⟩)] w (QoP T w g st cap ts (litD ts s)):=by
 have K:=J (zcu hR);have cU:=hR.few;have cK:=hR.le;clear hR;obtain⟨r,hX⟩:∃ r,litD ts s=r:=⟨_,rfl⟩;rw[hX];unfold litD at hX
 dsimp only[tak] at hX
 have A:=J hX;clear hX
 go_enter Tryz.func97,Tryz.ntmps97
 go_wp2_with fail
 refine zag (fun W=>Fr T w W W g st cap ts s) K.out ?_;intro W0 hF;clear K;have K:=J hF;clear hF;refine(zbk K.out.hR).mono ?_;rintro e W1 ⟨rfl,b1⟩;obtain⟨y,C⟩:∃ t,nxQ ts s.p=t:=⟨_,rfl⟩;rw[C];have cT:=J C;have bf:=J (C ▸ K.out.hR.sz)
 try rw[C] at A
 have bl:=J (K.out.low b1);clear C b1 K;obtain⟨W4,aw,b4,f4,l4⟩:=zea bl y;have F:=J l4;have E:=J (f4);clear b4 f4 l4 bl;obtain⟨ap,ai,aj⟩:=F.out.cells;obtain⟨bQ,ab⟩:∃ b,(y.kind == 2)=b:=⟨_,rfl⟩;rw[ab] at A
 cases bQ
 ·skip
  replace A:=J (if_f A (fun h=>by cases h))
  obtain⟨bu,aV,bA⟩:=F.out.cells;obtain⟨ck,af⟩:∃ b,(y.kind == 3)=b:=⟨_,rfl⟩;rw[af] at A
  cases ck
  ·skip
   replace A:=J (if_f A (fun h=>by cases h))
   go_wp2_with fail
   clear aw ap ai aj ab bu aV bA af;refine(zas ⟨#[116,114,117,101]⟩ E.out.hR).mono ?_;rintro e c5 ⟨rfl,aC⟩;obtain⟨cf,hi⟩:∃ b,isQ ts s.p ⟨#[116,114,117,101]⟩=b:=⟨_,rfl⟩;rw[hi]
   try rw[hi] at A
   have cW:=J (F.out.low aC);have Z:=J (E.out.low aC);clear hi aC E F
   cases cf
   ·skip
    replace A:=J (if_f A (fun h=>by cases h))
    go_wp2_with fail
    refine(zah ⟨#[102,97,108,115,101]⟩ Z.out.hR).mono ?_;rintro e br ⟨rfl,aP,bk⟩;obtain⟨V,C⟩:∃ t,takT ts ⟨#[102,97,108,115,101]⟩ s=t:=⟨_,rfl⟩;obtain⟨aq,D⟩:∃ s2,takS ts ⟨#[102,97,108,115,101]⟩ s=s2:=⟨_,rfl⟩;rw[show takT ts ⟨#[102,97,108,115,101]⟩ ⟨s.p,s.bad⟩=V from C];have aJ:QdS T br g st cap ts aq:=D ▸ bk;have cX:Hid (LtQ s aq):=J (D ▸ zam _ _)
    try rw[C] at A
    try rw[D] at A
    have bn:=J (Z.out.call aP aJ);clear C D bk aJ aP Z
    go_wp2_with fail
    refine(zau 22 V ⟨#[102,97,108,115,101]⟩ br).mono ?_;rintro e cF ⟨rfl,be⟩;have aM:=J (bn.out.low be);clear be bn
    go_wp2_with fail
    refine(ze7 aM 22 V ⟨#[102,97,108,115,101]⟩).mono ?_;rintro e cN ⟨rfl,bS,bo⟩;have co:=J (bo);clear bS bo aM;obtain⟨cL,cR,aR,aD⟩:=zbb co (v:=(⟨22,⟨#[102,97,108,115,101]⟩,0,V.pos,V.pos,(behI ts aq.p),V.pos,[]⟩:Qv)) (zeg _ _ _ _ _ _ _);have N:=J aD;have M:=J aR;clear aD aR
    go_wp2
    have I:=A.out;exact zao Tryz.results97 rfl M (I ▸ N.out)
   ·skip
    replace A:=J (if_t A rfl)
    go_wp2_with fail
    refine(zah ⟨#[116,114,117,101]⟩ Z.out.hR).mono ?_;rintro e aG ⟨rfl,aE,a6⟩;obtain⟨X,C⟩:∃ t,takT ts ⟨#[116,114,117,101]⟩ s=t:=⟨_,rfl⟩;obtain⟨aB,D⟩:∃ s2,takS ts ⟨#[116,114,117,101]⟩ s=s2:=⟨_,rfl⟩;rw[show takT ts ⟨#[116,114,117,101]⟩ ⟨s.p,s.bad⟩=X from C];have bj:QdS T aG g st cap ts aB:=D ▸ a6;have cS:Hid (LtQ s aB):=J (D ▸ zam _ _)
    try rw[C] at A
    try rw[D] at A
    have a8:=J (Z.out.call aE bj);clear C D a6 bj aE Z
    go_wp2_with fail
    refine(zau 22 X ⟨#[116,114,117,101]⟩ aG).mono ?_;rintro e cI ⟨rfl,bv⟩;have a7:=J (a8.out.low bv);clear bv a8
    go_wp2_with fail
    refine(ze7 a7 22 X ⟨#[116,114,117,101]⟩).mono ?_;rintro e c3 ⟨rfl,bE,bB⟩;have bU:=J (bB);clear bE bB a7;obtain⟨cE,cM,bp,aL⟩:=zbb bU (v:=(⟨22,⟨#[116,114,117,101]⟩,0,X.pos,X.pos,(behI ts aB.p),X.pos,[]⟩:Qv)) (zeg _ _ _ _ _ _ _);have N:=J aL;have M:=J bp;clear aL bp
    go_wp2
    have I:=A.out;exact zao Tryz.results97 rfl M (I ▸ N.out)
  ·skip
   replace A:=J (if_t A rfl)
   go_wp2_with fail
   clear aw ap ai aj ab bu aV bA af;refine(zah ⟨#[116,101,120,116]⟩ E.out.hR).mono ?_;rintro e bs ⟨rfl,an,aW⟩;obtain⟨cA,C⟩:∃ t,takT ts ⟨#[116,101,120,116]⟩ s=t:=⟨_,rfl⟩;obtain⟨ar,D⟩:∃ s2,takS ts ⟨#[116,101,120,116]⟩ s=s2:=⟨_,rfl⟩;rw[show takT ts ⟨#[116,101,120,116]⟩ ⟨s.p,s.bad⟩=cA from C];have aX:QdS T bs g st cap ts ar:=D ▸ aW;have cP:Hid (LtQ s ar):=J (D ▸ zam _ _)
   try rw[C] at A
   try rw[D] at A
   have ay:=J (F.out.call E.out.gB an);have aF:=J (E.out.call an aX);clear C D aW aX an E F;obtain⟨b0,bM,cp⟩:=ay.out.cells
   go_wp2_with fail
   clear b0 bM cp;refine(zm1 y bs bf).mono ?_;rintro e cw ⟨rfl,aA⟩;rw[zvb];have ag:=J (ay.out.low aA);have bb:=J (aF.out.low aA);clear aA aF ay;obtain⟨b3,bL,bF⟩:=ag.out.cells
   go_wp2_with fail
   clear b3 bL bF;refine(zau 21 y (valT y) cw).mono ?_;rintro e cZ ⟨rfl,am⟩;have c4:=J (ag.out.low am);have bx:=J (bb.out.low am);clear am bb ag
   go_wp2_with fail
   refine(ze7 bx 21 y (valT y)).mono ?_;rintro e c8 ⟨rfl,b8,a5⟩;have cu:=J (a5);clear b8 a5 bx;obtain⟨c6,cO,a4,ba⟩:=zbb cu (v:=(⟨21,(valT y),0,y.pos,y.pos,(behI ts ar.p),y.pos,[]⟩:Qv)) (zeg _ _ _ _ _ _ _);have N:=J ba;have M:=J a4;clear ba a4
   go_wp2
   have I:=A.out;exact zao Tryz.results97 rfl M (I ▸ N.out)
 ·skip
  replace A:=J (if_t A rfl)
  go_wp2_with fail
  clear aw ap ai aj ab;refine(zah ⟨#[110,117,109,98,101,114]⟩ E.out.hR).mono ?_;rintro e aN ⟨rfl,ao,aY⟩;obtain⟨cz,C⟩:∃ t,takT ts ⟨#[110,117,109,98,101,114]⟩ s=t:=⟨_,rfl⟩;obtain⟨az,D⟩:∃ s2,takS ts ⟨#[110,117,109,98,101,114]⟩ s=s2:=⟨_,rfl⟩;rw[show takT ts ⟨#[110,117,109,98,101,114]⟩ ⟨s.p,s.bad⟩=cz from C];have bt:QdS T aN g st cap ts az:=D ▸ aY;have cD:Hid (LtQ s az):=J (D ▸ zam _ _)
  try rw[C] at A
  try rw[D] at A
  have ah:=J (F.out.call E.out.gB ao);have a0:=J (E.out.call ao bt);clear C D aY bt ao E F;obtain⟨cb,bN,cC⟩:=ah.out.cells
  go_wp2_with fail
  clear cb bN cC;refine(zau 20 y ⟨#[]⟩ aN).mono ?_;rintro e U ⟨rfl,ax⟩;have aH:=J (ah.out.low ax);have bc:=J (a0.out.low ax);clear ax a0 ah;obtain⟨bh,cr,bz,aQ,bm⟩:=zhz bc (begE 20 y ⟨#[]⟩);have av:=J (aH.out.low bz);have a3:Hid (Tq W0 bh U.heap.size (⟨20,⟨#[]⟩,0,y.pos,y.pos,0,y.pos,none,0,0⟩:Qe)):=J bm;have aU:=J (aQ);clear bz aQ bm bc aH;obtain⟨bO,bK,cv⟩:=av.out.cells
  go_wp2_with fail
  clear cr bO bK cv;refine(zq6 y bh bf).mono ?_;rintro e ae ⟨rfl,ac⟩;rw[z0t];have aa:=J (av.out.low ac);have Y:=J (a3.out.low ac);have aT:=J (aU.out.low ac);clear ac aU av a3;obtain⟨cn,cy,bC,bJ,ce,cx,bX,ca,b9,bP⟩:=row9 Y.out.row;obtain⟨bi,bW,bq,aI,bw⟩:∃ W2,(ae.setCell ⟨U.heap.size,2,none⟩ (.int .i64 (numT y)))=W2∧Below (U.heap.size) ae W2∧(∀ j,j≠U.heap.size->j<ae.heap.size->W2.heap[j]?=ae.heap[j]?)∧W2.heap[U.heap.size]?=some (.cells (⟨20,⟨#[]⟩,(numT y),y.pos,y.pos,0,y.pos,none,0,0⟩:Qe).cells 63 (0,0)) :=
   ⟨_,rfl,((Yb _ _).setCell (p:=⟨U.heap.size,2,none⟩) (Ya _) _),fun j hj _=>(Ye _ _ _ _ hj).trans (rfl),Yf _ _ 2 _ _ _ (Y.out.row)⟩
  have cJ:Hid (Tl W0 bi W1.heap.size y):=J ⟨aa.out.hB,(aI _ (zh0 aa Y.out.row) (zaa aa.out.row)).trans aa.out.row⟩;have al:Hid (Tq W0 bi U.heap.size (⟨20,⟨#[]⟩,(numT y),y.pos,y.pos,0,y.pos,none,0,0⟩:Qe)):=J ⟨Y.out.hB,bw⟩;have ak:=J (aT.out.on (bq.mono Y.out.hB));clear bq aI bw aT Y aa;obtain⟨bG,ch,bV,bR,bZ,cd,ci,cq,b2,bT⟩:=row9 al.out.row;have au:=J (al.out.qk (z:=w.heap.size) (zaa ak.out.hZ));clear al;obtain⟨b7,cj,b6,cl,cg,bI,cc,bY,bH,cB⟩:=row9 au.out.row
  go_wp2_with fail
  clear cn cy bC bJ ce cx bX ca b9 bP bW bG ch bV bR bZ cd ci cq b2 bT b7 cj b6 cl cg bI cc bY bH cB;obtain⟨cY,cG,cQ,bD,a2⟩:=zbf ak au;injection bD with u1 u2 u3;subst u1 u2 u3;refine a2.mono ?_;rintro e cH ⟨c9,rfl,ct,a9,a1⟩;have aK:=J a1;have b5:=J (a9);clear a2 ct a9 a1 ak au;obtain⟨cV,c7,aZ,aO⟩:=zbb b5 (v:=(⟨20,⟨#[]⟩,(numT y),y.pos,y.pos,behI ts az.p,y.pos,[]⟩:Qv)) ⟨aK.out.is.keep (fun j hj=>⟨hj.1,hj.2.1⟩) fun _ _=>rfl,aK.out.bg⟩;have N:=J aO;have M:=J aZ;clear aO aZ
  go_wp2
  have I:=A.out;exact zao Tryz.results97 rfl M (I ▸ N.out)
theorem zn2 (hR:QdS T w g st cap ts s):Calls Tryz.prog 69 #[.pointer (some ⟨g,0,none⟩)] w (QoP T w g st cap ts (valD ts s)):=by
 have K:=J (zcu hR);have ca:=hR.few;have b2:=hR.le;clear hR;obtain⟨r,N⟩:∃ r,valD ts s=r:=⟨_,rfl⟩;rw[N];unfold valD at N
 dsimp only[tak] at N
 have y:=J N;clear N
 go_enter Tryz.func69,Tryz.ntmps69
 go_wp2_with fail
 refine zag (fun W=>Fr T w W W g st cap ts s) K.out ?_;intro W0 hF;clear K;have K:=J hF;clear hF;refine(zas ⟨#[45]⟩ K.out.hR).mono ?_;rintro e W1 ⟨rfl,b1⟩;obtain⟨i1,hi⟩:∃ b,isQ ts s.p ⟨#[45]⟩=b:=⟨_,rfl⟩;rw[hi]
 try rw[hi] at y
 have I:=J (K.out.low b1);clear hi b1 K
 cases i1
 ·skip
  replace y:=J (if_f y (fun h=>by cases h))
  go_wp2_with fail
  refine(zbs I.out.hR).mono ?_;rintro e W4 ⟨e4,rfl,q4,g4,r4⟩;obtain⟨⟨v4,s4⟩,hk4⟩:∃ r,litD ts s=r:=⟨_,rfl⟩;rw[hk4] at y q4 r4
  try dsimp only at y
  have a0:=J q4;have cg:=g4.size;have bi:=J (I.out.call g4 r4);have b9:=I.out.size;clear hk4 q4 g4 r4 I;obtain⟨W7,cq,ay,aB⟩:=zbb bi (v:=v4) ⟨a0.out.is.keep (fun j A=>⟨by omega,A.2⟩) fun _ _=>rfl,a0.out.bg⟩;have V:=J aB;have U:=J ay;clear aB ay
  go_wp2
  have M:=y.out;exact zao Tryz.results69 rfl U (M ▸ V.out)
 ·skip
  replace y:=J (if_t y rfl)
  go_wp2_with fail
  refine(zah ⟨#[45]⟩ I.out.hR).mono ?_;rintro e W8 ⟨rfl,g8,r8⟩;obtain⟨E,D⟩:∃ t,takT ts ⟨#[45]⟩ s=t:=⟨_,rfl⟩;obtain⟨F,hs⟩:∃ s2,takS ts ⟨#[45]⟩ s=s2:=⟨_,rfl⟩;rw[show takT ts ⟨#[45]⟩ ⟨s.p,s.bad⟩=E from D];have q8:QdS T W8 g st cap ts F:=hs ▸ r8;have bZ:Hid (LtQ s F):=J (hs ▸ zam _ _)
  try rw[D] at y
  try rw[hs] at y
  have ax:=J (I.out.call g8 q8);clear D hs r8 q8 g8 I
  go_wp2_with fail
  refine(zau 26 E ⟨#[45]⟩ W8).mono ?_;rintro e co ⟨rfl,bc⟩;have au:=J (ax.out.low bc);clear bc ax;obtain⟨cp,bT,aP,aT,a8⟩:=zdp (z:=w.heap.size) au.out (zaa au.out.hZ) 26 E ⟨#[45]⟩;have aA:=J a8;have cd:=aP.size;have ac:=J (aT);clear aP aT a8 au
  go_wp2_with fail
  clear bT;refine(zbk ac.out.hR).mono ?_;rintro e Z ⟨rfl,an⟩;obtain⟨be,D⟩:∃ t,nxQ ts F.p=t:=⟨_,rfl⟩;rw[D];have cu:=J D;have cj:=J (D ▸ ac.out.hR.sz)
  try rw[D] at y
  have Y:=J (aA.out.below an);have C:=J (ac.out.low an);clear D an ac aA;have aH:∀ (a b c:Value) (W:World),(Instr.field 38 (.agg #[a,b,c]) 0).run Tryz.prog W=.ok a W:=fun _ _ _ _=>rfl
  try unfold Tok.cells
  obtain⟨kb,aa⟩:∃ b,(be.kind != 2)=b:=⟨_,rfl⟩;have aG:(!(be.kind == 2))=kb:=aa;rw[aa] at y
  cases kb
  ·skip
   rw[show wrQ false F=F from rfl] at y
   go_wp2_with fail
   clear aa aG aH;refine(zbs C.out.hR).mono ?_;rintro e bF ⟨aw,rfl,aj,ae,am⟩;obtain⟨⟨aO,bh⟩,hk21⟩:∃ r,litD ts F=r:=⟨_,rfl⟩;rw[hk21] at y aj am
   try dsimp only at y
   have aJ:=J aj;have bW:=Y.out.lt;have ar:=J (Y.out.grow C.out.gB ae);have b6:=ae.size;have ai:=J (C.out.call ae am);have ch:=C.out.size;clear hk21 aj ae am C Y;obtain⟨a7,a2,bX,a3,az,aW,bw,bt⟩:=ze0 ai ar (v:=aO) (e:=aw) (S:=(fun j=>Z.heap.size<=j∧j<bF.heap.size)) aJ.out (fun j A=>by have:=ar.out.lt;have:=ai.out.s0;exact⟨by omega,A.2,by omega,by omega⟩);have ap:=J aW;have aN:=J (az);obtain⟨e0,e1,e2,e3,e4,e5,e6,e7,e8,e9⟩:=aw
   dsimp only[Qe.cells,paQ] at a7 a2 a3
   try unfold Qe.cells paQ
   clear aJ az aW bw bt ai ar;obtain⟨bE,bL,bD,bv,bO,bM,bj,bl,bz,bV⟩:=row9 ap.out.row
   go_wp2_with fail
   clear a7 a2 a3 bE bL bD bv bO bM bj bl bz bV;obtain⟨b8,ct,b4,bC,aD⟩:=zbf aN ap;injection bC with u1 u2 u3;subst u1 u2 u3;refine aD.mono ?_;rintro e b0 ⟨cv,rfl,bR,aU,aL⟩;have aX:=J aL;have bx:=J (aU);clear aD bR aU aL aN ap;obtain⟨ci,cr,aE,a4⟩:=zbb bx (v:=(⟨26,⟨#[45]⟩,0,E.pos,E.pos,behI ts bh.p,E.pos,[aO.pt]⟩:Qv)) ⟨aX.out.is.keep (fun j A=>⟨A.1,A.2.1⟩) fun _ _=>rfl,aX.out.bg⟩;have V:=J a4;have U:=J aE;clear a4 aE
   go_wp2
   have M:=y.out;exact zao Tryz.results69 rfl U (M ▸ V.out)
  ·skip
   obtain⟨bU,bf,ah,av⟩:∃ W2,Z.setCell ⟨g,2,none⟩ (.bool true)=W2∧Z.grownBy W2 (some g)∧QdS T W2 g st cap ts (wrQ true F):=⟨_,rfl,zlk Z g,C.out.hR.wrong⟩;have bo:=C.out.hR.c2;have bS:=C.out.hR.z 2;obtain⟨bP,a1⟩:∃ s2,wrQ true F=s2:=⟨_,rfl⟩;rw[a1] at y av;have ao:=J (Y.out.grow C.out.gB ah);have X:=J (C.out.call ah av);clear a1 ah av C Y
   go_wp2_with fail
   clear aa aG aH bf bo bS;refine(zbs X.out.hR).mono ?_;rintro e bQ ⟨a6,rfl,al,ab,ak⟩;obtain⟨⟨aR,bA⟩,hk34⟩:∃ r,litD ts bP=r:=⟨_,rfl⟩;rw[hk34] at y al ak
   try dsimp only at y
   have aY:=J al;have b7:=ao.out.lt;have af:=J (ao.out.grow X.out.gB ab);have b5:=ab.size;have ag:=J (X.out.call ab ak);have b3:=X.out.size;clear hk34 al ab ak X ao;obtain⟨ba,aI,cc,aM,aK,bb,bp,bs⟩:=ze0 ag af (v:=aR) (e:=a6) (S:=(fun j=>bU.heap.size<=j∧j<bQ.heap.size)) aY.out (fun j A=>by have:=af.out.lt;have:=ag.out.s0;exact⟨by omega,A.2,by omega,by omega⟩);have aq:=J bb;have aV:=J (aK);obtain⟨e0,e1,e2,e3,e4,e5,e6,e7,e8,e9⟩:=a6
   dsimp only[Qe.cells,paQ] at ba aI aM
   try unfold Qe.cells paQ
   clear aY aK bb bp bs ag af;obtain⟨bG,br,bq,bN,bm,bB,bk,bJ,bK,bH⟩:=row9 aq.out.row
   go_wp2_with fail
   clear ba aI aM bG br bq bN bm bB bk bJ bK bH;obtain⟨ck,cl,cb,bI,a9⟩:=zbf aV aq;injection bI with u1 u2 u3;subst u1 u2 u3;refine a9.mono ?_;rintro e bY ⟨ce,rfl,bn,aZ,aF⟩;have a5:=J aF;have bu:=J (aZ);clear a9 bn aZ aF aV aq;obtain⟨cn,cf,aQ,aC⟩:=zbb bu (v:=(⟨26,⟨#[45]⟩,0,E.pos,E.pos,behI ts bA.p,E.pos,[aR.pt]⟩:Qv)) ⟨a5.out.is.keep (fun j A=>⟨A.1,A.2.1⟩) fun _ _=>rfl,a5.out.bg⟩;have V:=J aC;have U:=J aQ;clear aC aQ
   go_wp2
   have M:=y.out;exact zao Tryz.results69 rfl U (M ▸ V.out)
end
section
variable {T:Nat}{w W0 W W':World}{g:Nat}{st:Option Addr}{cap:Nat}{ts:List Tok}{s s':Qs}
abbrev ExQ (T:Nat) (g:Nat) (st:Option Addr) (cap:Nat) (ts:List Tok) (d:Dns):Prop:=∀ (w:World) s r,d.row 1 s=some r->QdS T w g st cap ts s->Calls Tryz.prog 99 #[.pointer (some ⟨g,0,none⟩)] w (QoP T w g st cap ts r)
theorem zgk {d:Dns}{r:Qv × Qs}(hE:ExQ T g st cap ts d)(hR:QdS T w g st cap ts s)(hX:varD ts d s=some r):Calls Tryz.prog 70 #[.pointer (some ⟨g,0,none⟩)] w (QoP T w g st cap ts r):=by
 have N:=J (zcu hR);have bQ:=hR.few;have bM:=hR.le;clear hR;have HE:=J hE;clear hE;unfold varD at hX
 dsimp only[tak] at hX
 have y:=J hX;clear hX
 go_enter Tryz.func70,Tryz.ntmps70
 go_wp2_with fail
 refine zag (fun W=>Fr T w W W g st cap ts s) N.out ?_;intro W0 hF;clear N;have N:=J hF;clear hF;refine(ze1 4 ⟨#[118,97,114]⟩ N.out.hR).mono ?_;rintro e W1 ⟨rfl,g1,r1⟩;obtain⟨⟨v1,s1⟩,hk1⟩:∃ r,worD ts 4 ⟨#[118,97,114]⟩ s=r:=⟨_,rfl⟩;rw[hk1] at y r1;rw[hk1]
 try dsimp only at y
 have aY:=J (N.out.call g1 r1);clear hk1 g1 r1 N;obtain⟨W4,br,b4,f4,l4⟩:=zhz aY (⟨4,v1.x,0,v1.a,v1.f,0,v1.bg,none,0,0⟩:Qe);have aP:Hid (Tq W0 W4 W1.heap.size (⟨4,v1.x,0,v1.a,v1.f,0,v1.bg,none,0,0⟩:Qe)):=J l4;have M:=J (f4);clear b4 f4 l4 aY;have aq:=J (aP.out.qk (z:=w.heap.size) (zaa M.out.hZ));clear aP
 go_wp2_with fail
 clear br;refine(zgf M.out.hR).mono ?_;rintro e W8 ⟨e8,rfl,q8,g8,r8⟩;obtain⟨⟨v8,I⟩,hk8⟩:∃ r,kinD ts s1=r:=⟨_,rfl⟩;rw[hk8] at y q8 r8
 try dsimp only at y
 have a2:=J q8;have bR:=aq.out.lt;have al:=J (aq.out.grow M.out.gB g8);have bY:=g8.size;have ai:=J (M.out.call g8 r8);have bT:=M.out.size;clear hk8 q8 g8 r8 M aq;obtain⟨aW,aF,b1,aI,aH,aB,bD,a7⟩:=ze0 ai al (v:=v8) (e:=e8) (S:=(fun j=>W4.heap.size<=j∧j<W8.heap.size)) a2.out (fun j E=>by have:=al.out.lt;have:=ai.out.s0;exact⟨by omega,E.2,by omega,by omega⟩);have aR:=J aB;have av:=J (aH);obtain⟨e0,e1,e2,e3,e4,e5,e6,e7,e8,e9⟩:=e8
 dsimp only[Qe.cells,paQ] at aW aF aI
 try unfold Qe.cells paQ
 clear a2 aH aB bD a7 ai al
 go_wp2_with fail
 clear aW aF aI;refine(zas ⟨#[61]⟩ av.out.hR).mono ?_;rintro e b2 ⟨rfl,aA⟩;obtain⟨bC,A⟩:∃ b,isQ ts I.p ⟨#[61]⟩=b:=⟨_,rfl⟩;rw[A]
 try rw[A] at y
 have V:=J (aR.out.below aA);have U:=J (av.out.low aA);clear A aA av aR
 cases bC
 ·skip
  replace y:=J (if_f y (fun h=>by cases h))
  obtain⟨a8,ba,bj,bA,bz,bB,bE,bk,bi,bq⟩:=row9 V.out.row
  go_wp2_with fail
  clear a8 ba bj bA bz bB bE bk bi bq;obtain⟨bH,bO,b9,bo,aV⟩:=zbf U V;injection bo with u1 u2 u3;subst u1 u2 u3;refine aV.mono ?_;rintro e bL ⟨b3,rfl,bs,aX,aE⟩;have aU:=J aE;have a6:=J (aX);clear aV bs aX aE U V;obtain⟨bN,bK,aQ,aD⟩:=zbb a6 (v:=(⟨4,v1.x,0,v1.a,v1.f,behI ts I.p,v1.bg,[v8.pt]⟩:Qv)) ⟨aU.out.is.keep (fun j E=>⟨E.1,E.2.1⟩) fun _ _=>rfl,aU.out.bg⟩;have HP:=J aD;have am:=J aQ;clear aD aQ
  go_wp2
  have hx:=Yl y;exact zao Tryz.results70 rfl am (hx ▸ HP.out)
 ·skip
  replace y:=J (if_t y rfl)
  go_wp2_with fail
  refine(zah ⟨#[61]⟩ U.out.hR).mono ?_;rintro e D ⟨rfl,aw,aO⟩;obtain⟨bc,ht⟩:∃ t,takT ts ⟨#[61]⟩ I=t:=⟨_,rfl⟩;obtain⟨af,hs⟩:∃ s2,takS ts ⟨#[61]⟩ I=s2:=⟨_,rfl⟩;rw[show takT ts ⟨#[61]⟩ ⟨I.p,I.bad⟩=bc from ht];have aC:QdS T D g st cap ts af:=hs ▸ aO;have bU:Hid (LtQ I af):=J (hs ▸ zam _ _)
  try rw[ht] at y
  try rw[hs] at y
  have a3:=J (V.out.grow U.out.gB aw);have aj:=J (U.out.call aw aC);clear ht hs aO aC aw U V
  go_wp2_with (fail)
  rcases hk24:d.row 1 af with _|⟨v24,s24⟩
  ·exact absurd y (by rw[hk24];intro h;cases h)
  rw[hk24] at y;simp only[Option.bind_some] at y;have bm:=J aj;have ao:Below D.heap.size D D.drew:=(Yb _ _).drew;have ab:=J (aj.out.low ao);have ah:=J (a3.out.below ao);have an:=J (fun (h:QdS T D.drew g st cap ts af)=>(fun hk=>HE.out D.drew _ _ hk h) hk24);clear hk24 ao aj a3;have bF:D.drew.cell? ⟨W1.heap.size,8,none⟩=some (.slice (some ⟨W8.heap.size,0,none⟩) 1 1):=Yp 8 ah.out.row rfl;apply zb8 (fun y0 y1 y2 y3 y4 X y6 y7 y8 Y Wy sp sn sc C=>Fr T w W0 C g st cap ts s24∧Qk W0.heap.size (w.heap.size) C (W1.heap.size) 4 v1.x 0 v1.a v1.f 0 v1.bg (.slice sp sn sc) ([v8.pt]++[v24.pt])∧D.drew.grownBy Wy (some g)∧((w.heap.size)≠W1.heap.size->C.heap[w.heap.size]?=Wy.heap[w.heap.size]?)∧Wy.heap.size<=C.heap.size)
  rotate_left
  ·intro hc;refine zbc (S:=fun _=>Hid True) 8 rfl (by kernel_rfl) ?_;refine zal 0 14 (.pointer (some ⟨W1.heap.size,8,none⟩)) rfl (by kernel_rfl) (fun _ _ _ h=>h) (fun w' _=>by first|rfl|(go_simp;done) | (go_simp;rw[Yi];omega)) (J trivial) ?_;simp only[sI,sS,sZ];refine zal 2 16 (.pointer (some ⟨g,0,none⟩)) rfl (by kernel_rfl) (fun _ _ _ h=>h) (fun w' _=>by first|rfl|(go_simp;done) | (go_simp;rw[Yi];omega)) (J trivial) ?_;simp only[sI,sS,sZ];refine wpAnyH_all (rs:=[1,3]) (by kernel_rfl) (by simp) fun i A=>?_;simp only[List.mem_cons,List.not_mem_nil,or_false] at A;rcases A with rfl|rfl
   ·skip
    refine zan rfl rfl ?_
    go_simp
    refine⟨J trivial,?_⟩;refine zac 3 rfl (by kernel_rfl) ?_
    go_simp
    refine(an ab.out.hR).mono ?_;rintro e ae ⟨⟨y0,y1,y2,y3,y4,X,y6,y7,y8,Y⟩,rfl,q24,g24,r24⟩;obtain⟨ax,ap,v2,w1,C,K,ce,cf,cw,ac,F,Z,aa⟩:=zb3 ab ah (by simp) g24 r24 q24;obtain⟨az,au,ay,ar⟩:=F.sl;subst ar;have ag:=J (hc y0 y1 y2 y3 y4 X y6 y7 y8 Y ae az au ay C ⟨ac,F,g24,Z,aa⟩)
    dsimp only[Qe.cells,paQ] at ax ap K ce cf cw
    unfold Qe.cells paQ;clear ac F Z q24 g24 r24 aa;refine⟨J trivial,?_⟩;refine zac 4 rfl (by kernel_rfl) ?_
    go_simp
    refine⟨J trivial,?_⟩;refine zac 5 rfl (by kernel_rfl) ?_;refine zaf (.tmp 15) (.tmp 18) 61 rfl rfl rfl K ?_;refine⟨J trivial,?_⟩;simp only[Act.put,sI,sS,sZ];refine zal 6 20 (.pointer (some ⟨W1.heap.size,8,none⟩)) rfl (by kernel_rfl) (fun _ _ _ h=>h) (fun w' _=>by first|rfl|(go_simp;done) | (go_simp;rw[Yi];omega)) (J trivial) ?_;simp only[sI,sS,sZ];refine zac 7 rfl (by kernel_rfl) ?_
    go_simp
    refine⟨J trivial,?_⟩;refine wpAnyH_done (by kernel_rfl) ?_ _;exact ag
   ·skip
    refine zan rfl rfl ?_
    go_simp
    refine(an ab.out.hR).mono ?_;rintro e ae ⟨⟨y0,y1,y2,y3,y4,X,y6,y7,y8,Y⟩,rfl,q24,g24,r24⟩;obtain⟨ax,ap,v2,w1,C,K,ce,cf,cw,ac,F,Z,aa⟩:=zb3 ab ah (by simp) g24 r24 q24;obtain⟨az,au,ay,ar⟩:=F.sl;subst ar;have ag:=J (hc y0 y1 y2 y3 y4 X y6 y7 y8 Y ae az au ay C ⟨ac,F,g24,Z,aa⟩)
    dsimp only[Qe.cells,paQ] at ax ap K ce cf cw
    unfold Qe.cells paQ;clear ac F Z q24 g24 r24 aa;refine⟨J trivial,?_⟩;refine wpAnyH_all (rs:=[1,4]) (by kernel_rfl) (by simp) fun i A=>?_;simp only[List.mem_cons,List.not_mem_nil,or_false] at A;rcases A with rfl|rfl
    ·skip
     refine zan rfl rfl ?_
     go_simp
     refine⟨J trivial,?_⟩;refine zac 4 rfl (by kernel_rfl) ?_
     go_simp
     refine⟨J trivial,?_⟩;refine zac 5 rfl (by kernel_rfl) ?_;refine zaf (.tmp 15) (.tmp 18) 61 rfl rfl rfl K ?_;refine⟨J trivial,?_⟩;simp only[Act.put,sI,sS,sZ];refine zal 6 20 (.pointer (some ⟨W1.heap.size,8,none⟩)) rfl (by kernel_rfl) (fun _ _ _ h=>h) (fun w' _=>by first|rfl|(go_simp;done) | (go_simp;rw[Yi];omega)) (J trivial) ?_;simp only[sI,sS,sZ];refine zac 7 rfl (by kernel_rfl) ?_
     go_simp
     refine⟨J trivial,?_⟩;refine wpAnyH_done (by kernel_rfl) ?_ _;exact ag
    ·skip
     refine zan rfl rfl ?_
     go_simp
     refine⟨J trivial,?_⟩;refine zac 1 rfl (by kernel_rfl) ?_
     go_simp
     refine⟨J trivial,?_⟩;refine zac 5 rfl (by kernel_rfl) ?_;refine zaf (.tmp 15) (.tmp 18) 61 rfl rfl rfl K ?_;refine⟨J trivial,?_⟩;simp only[Act.put,sI,sS,sZ];refine zal 6 20 (.pointer (some ⟨W1.heap.size,8,none⟩)) rfl (by kernel_rfl) (fun _ _ _ h=>h) (fun w' _=>by first|rfl|(go_simp;done) | (go_simp;rw[Yi];omega)) (J trivial) ?_;simp only[sI,sS,sZ];refine zac 7 rfl (by kernel_rfl) ?_
     go_simp
     refine⟨J trivial,?_⟩;refine wpAnyH_done (by kernel_rfl) ?_ _;exact ag
  intro y0 y1 y2 y3 y4 X y6 y7 y8 Y ae bV b0 bW bX bt;obtain⟨aJ,aK,aZ,aL,bI⟩:=bt;have ak:=J aK;have bP:=J aZ;have b6:=J aL;have aN:=J (aJ);clear aJ aK aZ aL ab ah bF an bm;obtain⟨bh,bb,bn,bu,be,bf,bp,bx,bv,bw⟩:=row9 ak.out.row
  go_wp2_with fail
  clear bh bb bn bu be bf bp bx bv bw;obtain⟨b7,bS,bJ,bl,aG⟩:=zbf aN ak;injection bl with u1 u2 u3;subst u1 u2 u3;refine aG.mono ?_;rintro e b5 ⟨bZ,rfl,a9,aM,a1⟩;have aT:=J a1;have a5:=J (aM);clear aG a9 aM a1 aN ak;obtain⟨b8,bG,a0,a4⟩:=zbb a5 (v:=(⟨4,v1.x,0,v1.a,v1.f,behI ts s24.p,v1.bg,([v8.pt]++[v24.pt])⟩:Qv)) ⟨aT.out.is.keep (fun j E=>⟨E.1,E.2.1⟩) fun _ _=>rfl,aT.out.bg⟩;have HP:=J a4;have am:=J a0;clear a4 a0
  go_wp2
  have hx:=Yl y;exact zao Tryz.results70 rfl am (hx ▸ HP.out)
end
section
variable {T:Nat}{w W0 W W':World}{g:Nat}{st:Option Addr}{cap:Nat}{ts:List Tok}{s s':Qs}
abbrev StQ (T:Nat) (g:Nat) (st:Option Addr) (cap:Nat) (ts:List Tok) (m:Nat):Prop:=∀ (w:World) s r,(dns ts m).stmt s=some r->QdS T w g st cap ts s->Calls Tryz.prog 129 #[.pointer (some ⟨g,0,none⟩)] w (QoP T w g st cap ts r)
theorem zn3 {n:Nat}{r:Qv × Qs}(hS:∀ m,m<n->StQ T g st cap ts m)(hR:QdS T w g st cap ts s)(hX:bloD ts (dns ts n) s=some r):Calls Tryz.prog 100 #[.pointer (some ⟨g,0,none⟩)] w (QoP T w g st cap ts r):=by
 have Z:=J (zcu hR);have co:=hR.few;have cd:=hR.le;clear hR;have HS:=J hS;clear hS;unfold bloD at hX
 dsimp only[tak] at hX
 have y:=J hX;clear hX
 go_enter Tryz.func100,Tryz.ntmps100
 go_wp2_with fail
 refine zag (fun W=>Fr T w W W g st cap ts s) Z.out ?_;intro W0 X;clear Z;have Z:=J X;clear X;refine(zah ⟨#[123]⟩ Z.out.hR).mono ?_;rintro e W1 ⟨rfl,g1,r1⟩;obtain⟨D,C⟩:∃ t,takT ts ⟨#[123]⟩ s=t:=⟨_,rfl⟩;obtain⟨s1,A⟩:∃ s2,takS ts ⟨#[123]⟩ s=s2:=⟨_,rfl⟩;rw[show takT ts ⟨#[123]⟩ ⟨s.p,s.bad⟩=D from C];have q1:QdS T W1 g st cap ts s1:=A ▸ r1;have cj:Hid (LtQ s s1):=J (A ▸ zam _ _)
 try rw[C] at y
 try rw[A] at y
 have bh:=J (Z.out.call g1 q1);clear C A r1 q1 g1 Z
 go_wp2_with fail
 refine(zau 13 D ⟨#[]⟩ W1).mono ?_;rintro e K ⟨rfl,b4⟩;have aq:=J (bh.out.low b4);clear b4 bh;obtain⟨W7,b2,b7,f7,l7⟩:=zdp (z:=w.heap.size) aq.out (zaa aq.out.hZ) 13 D ⟨#[]⟩;have a8:=J l7;have cx:=b7.size;have aX:=J (f7);clear b7 f7 l7 aq
 go_wp2_with fail
 clear b2;rcases hk10:(dns ts n).stmL [] s1 with _|⟨lf,sf⟩
 ·exact absurd y (by rw[hk10];intro h;cases h)
 rw[hk10] at y;simp only[Option.bind_some] at y;have bi:=J hk10;have HO:=y;clear y hk10
 go_loopw [] (fun wr=>∃ (l:List Pt) (q:Qs) (v:Value) (m:Nat),Fr T w W0 wr g st cap ts q∧Qk W0.heap.size (w.heap.size) wr (K.heap.size) 13 ⟨#[]⟩ 0 D.pos D.pos 0 D.pos v l∧(dns ts m).stmL l q=some (lf,sf)∧m<=n∧Few l q) (fun wr=>muQ ts g wr)
 case atStart=>exact⟨_,_,_,_,aX.out,a8.out,bi.out,Ya _,⟨Yk _,fun _=>Yk _⟩⟩
 case round=>
  obtain⟨l,q,v,m,X,hQ,hm,cC,aO⟩:=hrel;have F:=J X;have an:=J hQ;have aj:=J aO;have a7:=J (zdo X.hR);have a2:q.p<=ts.length:=X.hR.le;obtain⟨bM,bz,bS,hv⟩:=hQ.sl;subst hv;clear X hQ aO aX a8 bi
  cases m with
  | zero=>cases hm
  | succ m=>
  rw[zq0] at hm;have y:=J hm;clear hm;obtain⟨a1,al⟩:∃ b,q.bad=b:=⟨_,rfl⟩;have aQ:wr.cell? ⟨g,2,none⟩=some (.bool a1):=al ▸ F.out.hR.c2;rw[al] at y;have af:=J al;clear al
  cases a1
  ·skip
   go_wp2_with fail
   clear aQ;refine(zas ⟨#[125]⟩ F.out.hR).mono ?_;rintro e V ⟨rfl,aM⟩;obtain⟨b8,E⟩:∃ b,isQ ts q.p ⟨#[125]⟩=b:=⟨_,rfl⟩;rw[E]
   try rw[E] at y
   have ak:=J (an.out.below aM);have U:=J (F.out.low aM);clear E aM F an
   cases b8
   ·skip
    replace y:=J (if_t y rfl)
    go_wp2_with (fail)
    rcases hk15:(dns ts m).stmt q with _|⟨v15,s15⟩
    ·exact absurd y (by rw[hk15];intro h;cases h)
    rw[hk15] at y;simp only[Option.bind_some] at y;have ai:=J ((lst (ts:=ts) _).stmt _ _ _ hk15);have az:=J U;have aK:Below V.heap.size V V.drew:=(Yb _ _).drew;have ae:=J (U.out.low aK);have ag:=J (ak.out.below aK);have aB:=J (fun (h:QdS T V.drew g st cap ts q)=>(fun hk=>HS.out m (by omega) V.drew _ _ hk h) hk15);clear hk15 aK U ak;have bQ:V.drew.cell? ⟨K.heap.size,8,none⟩=some (.slice bM bz bS):=Yp 8 ag.out.row rfl;apply zb8 (fun y0 y1 y2 y3 y4 y5 y6 y7 y8 y9 Wy sp sn sc I=>Fr T w W0 I g st cap ts s15∧Qk W0.heap.size (w.heap.size) I (K.heap.size) 13 ⟨#[]⟩ 0 D.pos D.pos 0 D.pos (.slice sp sn sc) (l++[v15.pt])∧V.drew.grownBy Wy (some g)∧((w.heap.size)≠K.heap.size->I.heap[w.heap.size]?=Wy.heap[w.heap.size]?)∧Wy.heap.size<=I.heap.size)
    rotate_left
    ·intro hc;refine zbc (S:=fun _=>Hid True) 8 rfl (by kernel_rfl) ?_;refine zal 0 17 (.pointer (some ⟨K.heap.size,8,none⟩)) rfl (by kernel_rfl) (fun _ _ _ h=>h) (fun w' _=>by first|rfl|(go_simp;done) | (go_simp;rw[Yi];omega)) (J trivial) ?_;simp only[sI,sS,sZ];refine zal 2 19 (.pointer (some ⟨g,0,none⟩)) rfl (by kernel_rfl) (fun _ _ _ h=>h) (fun w' _=>by first|rfl|(go_simp;done) | (go_simp;rw[Yi];omega)) (J trivial) ?_;simp only[sI,sS,sZ];refine wpAnyH_all (rs:=[1,3]) (by kernel_rfl) (by simp) fun i E=>?_;simp only[List.mem_cons,List.not_mem_nil,or_false] at E;rcases E with rfl|rfl
     ·skip
      refine zan rfl rfl ?_
      go_simp
      refine⟨J trivial,?_⟩;refine zac 3 rfl (by kernel_rfl) ?_
      go_simp
      refine(aB ae.out.hR).mono ?_;rintro e am ⟨⟨y0,y1,y2,y3,y4,y5,y6,y7,y8,y9⟩,rfl,q15,g15,r15⟩;obtain⟨aA,ax,v2,w1,I,Y,ce,cf,cw,aa,N,ac,ab⟩:=zb3 ae ag ((Yo (aj.out.lt az.out.hR) (by omega))) g15 r15 q15;obtain⟨aJ,aE,aH,aD⟩:=N.sl;subst aD;have ah:=J (hc y0 y1 y2 y3 y4 y5 y6 y7 y8 y9 am aJ aE aH I ⟨aa,N,g15,ac,ab⟩)
      dsimp only[Qe.cells,paQ] at aA ax Y ce cf cw
      unfold Qe.cells paQ;clear aa N ac q15 g15 r15 ab;refine⟨J trivial,?_⟩;refine zac 4 rfl (by kernel_rfl) ?_
      go_simp
      refine⟨J trivial,?_⟩;refine zac 5 rfl (by kernel_rfl) ?_;refine zaf (.tmp 18) (.tmp 21) 61 rfl rfl rfl Y ?_;refine⟨J trivial,?_⟩;simp only[Act.put,sI,sS,sZ];refine zal 6 23 (.pointer (some ⟨K.heap.size,8,none⟩)) rfl (by kernel_rfl) (fun _ _ _ h=>h) (fun w' _=>by first|rfl|(go_simp;done) | (go_simp;rw[Yi];omega)) (J trivial) ?_;simp only[sI,sS,sZ];refine zac 7 rfl (by kernel_rfl) ?_
      go_simp
      refine⟨J trivial,?_⟩;refine wpAnyH_done (by kernel_rfl) ?_ _;exact ah
     ·skip
      refine zan rfl rfl ?_
      go_simp
      refine(aB ae.out.hR).mono ?_;rintro e am ⟨⟨y0,y1,y2,y3,y4,y5,y6,y7,y8,y9⟩,rfl,q15,g15,r15⟩;obtain⟨aA,ax,v2,w1,I,Y,ce,cf,cw,aa,N,ac,ab⟩:=zb3 ae ag ((Yo (aj.out.lt az.out.hR) (by omega))) g15 r15 q15;obtain⟨aJ,aE,aH,aD⟩:=N.sl;subst aD;have ah:=J (hc y0 y1 y2 y3 y4 y5 y6 y7 y8 y9 am aJ aE aH I ⟨aa,N,g15,ac,ab⟩)
      dsimp only[Qe.cells,paQ] at aA ax Y ce cf cw
      unfold Qe.cells paQ;clear aa N ac q15 g15 r15 ab;refine⟨J trivial,?_⟩;refine wpAnyH_all (rs:=[1,4]) (by kernel_rfl) (by simp) fun i E=>?_;simp only[List.mem_cons,List.not_mem_nil,or_false] at E;rcases E with rfl|rfl
      ·skip
       refine zan rfl rfl ?_
       go_simp
       refine⟨J trivial,?_⟩;refine zac 4 rfl (by kernel_rfl) ?_
       go_simp
       refine⟨J trivial,?_⟩;refine zac 5 rfl (by kernel_rfl) ?_;refine zaf (.tmp 18) (.tmp 21) 61 rfl rfl rfl Y ?_;refine⟨J trivial,?_⟩;simp only[Act.put,sI,sS,sZ];refine zal 6 23 (.pointer (some ⟨K.heap.size,8,none⟩)) rfl (by kernel_rfl) (fun _ _ _ h=>h) (fun w' _=>by first|rfl|(go_simp;done) | (go_simp;rw[Yi];omega)) (J trivial) ?_;simp only[sI,sS,sZ];refine zac 7 rfl (by kernel_rfl) ?_
       go_simp
       refine⟨J trivial,?_⟩;refine wpAnyH_done (by kernel_rfl) ?_ _;exact ah
      ·skip
       refine zan rfl rfl ?_
       go_simp
       refine⟨J trivial,?_⟩;refine zac 1 rfl (by kernel_rfl) ?_
       go_simp
       refine⟨J trivial,?_⟩;refine zac 5 rfl (by kernel_rfl) ?_;refine zaf (.tmp 18) (.tmp 21) 61 rfl rfl rfl Y ?_;refine⟨J trivial,?_⟩;simp only[Act.put,sI,sS,sZ];refine zal 6 23 (.pointer (some ⟨K.heap.size,8,none⟩)) rfl (by kernel_rfl) (fun _ _ _ h=>h) (fun w' _=>by first|rfl|(go_simp;done) | (go_simp;rw[Yi];omega)) (J trivial) ?_;simp only[sI,sS,sZ];refine zac 7 rfl (by kernel_rfl) ?_
       go_simp
       refine⟨J trivial,?_⟩;refine wpAnyH_done (by kernel_rfl) ?_ _;exact ah
    intro y0 y1 y2 y3 y4 y5 y6 y7 y8 y9 am ch ci cy ca br;obtain⟨aV,bn,aW,a4,cE⟩:=br;have bp:=J bn;have cD:=J aW;have ck:=J a4;have aw:=J (aV);clear aV bn aW a4 ae ag bQ aB az
    go_wp2_with fail
    refine(zas ⟨#[125]⟩ aw.out.hR).mono ?_;rintro e cb ⟨rfl,ar⟩;obtain⟨b3,E⟩:∃ b,isQ ts s15.p ⟨#[125]⟩=b:=⟨_,rfl⟩;rw[E]
    try rw[E] at y
    have aL:=J (bp.out.below ar);have M:=J (aw.out.low ar);clear E ar aw bp
    cases b3
    ·skip
     go_wp2_with fail
     refine(zah ⟨#[101,110,100]⟩ M.out.hR).mono ?_;rintro e bY ⟨rfl,aG,a6⟩;obtain⟨bA,C⟩:∃ t,takT ts ⟨#[101,110,100]⟩ s15=t:=⟨_,rfl⟩;obtain⟨aR,A⟩:∃ s2,takS ts ⟨#[101,110,100]⟩ s15=s2:=⟨_,rfl⟩;rw[show takT ts ⟨#[101,110,100]⟩ ⟨s15.p,s15.bad⟩=bA from C];have aT:QdS T bY g st cap ts aR:=A ▸ a6;have bb:Hid (LtQ s15 aR):=J (A ▸ zam _ _)
     try rw[C] at y
     try rw[A] at y
     have b5:=J (aL.out.grow M.out.gB aG);have ap:=J (M.out.call aG aT);clear C A a6 aT aG M aL;have aC:=J (zdo ap.out.hR)
     go_wp2
     go_round
     case rel=>exact⟨_,_,_,_,_,_,_,_,_,_,_,_,_,_,_,_,_,_,_,_,_,_,⟨_,_,_,m,ap.out,b5.out,y.out,by omega,(aj.out.more af ai).le bb.out.le⟩,rfl⟩
     case measure=>
      rw[aC.out,a7.out];exact ze5 af a2 ap.out.hR.le (ai.out.trans bb.out.le)
    ·skip
     have aC:=J (zdo M.out.hR)
     go_wp2
     go_round
     case rel=>exact⟨_,_,_,_,_,_,_,_,_,_,_,_,_,_,_,_,_,_,_,_,_,_,⟨_,_,_,m,M.out,aL.out,y.out,by omega,aj.out.more af.out ai.out⟩,rfl⟩
     case measure=>
      rw[aC.out,a7.out];exact ze5 af a2 M.out.hR.le (ai)
   ·skip
    replace y:=J (if_f y (fun h=>by cases h))
    have hO:=HO.out;obtain⟨rfl,rfl⟩:=Prod.mk.inj (Yl y)
    replace y:=J hO
    clear hO HO
    go_wp2_with fail
    refine(zah ⟨#[125]⟩ U.out.hR).mono ?_;rintro e bs ⟨rfl,ao,a3⟩;obtain⟨bB,C⟩:∃ t,takT ts ⟨#[125]⟩ q=t:=⟨_,rfl⟩;obtain⟨aI,A⟩:∃ s2,takS ts ⟨#[125]⟩ q=s2:=⟨_,rfl⟩;rw[show takT ts ⟨#[125]⟩ ⟨q.p,q.bad⟩=bB from C];have bc:QdS T bs g st cap ts aI:=A ▸ a3;have cl:Hid (LtQ q aI):=J (A ▸ zam _ _)
    try rw[C] at y
    try rw[A] at y
    have av:=J (ak.out.grow U.out.gB ao);have a5:=J (U.out.call ao bc);clear C A a3 bc ao U ak;obtain⟨bE,bw,bJ,bT,bC,bD,bP,bZ,bW,bX⟩:=row9 av.out.row
    go_wp2_with fail
    clear bE bw bJ bT bC bD bP bZ bW bX;obtain⟨cB,cq,cc,bG,aY⟩:=zbf a5 av;injection bG with u1 u2 u3;subst u1 u2 u3;refine aY.mono ?_;rintro e cA ⟨cv,rfl,bv,a0,bl⟩;have ba:=J bl;have bt:=J (a0);clear aY bv a0 bl a5 av;obtain⟨cF,b9,bk,bq⟩:=zbb bt (v:=(⟨13,⟨#[]⟩,0,D.pos,D.pos,behI ts aI.p,D.pos,l⟩:Qv)) ⟨ba.out.is.keep (fun j hj=>⟨hj.1,hj.2.1⟩) fun _ _=>rfl,ba.out.bg⟩;have HP:=J bq;have ay:=J bk;clear bq bk
    go_wp2
    have hx:=Yl y;exact zao Tryz.results100 rfl ay (hx ▸ HP.out)
  ·skip
   replace y:=J (if_f y (fun h=>by cases h))
   have hO:=HO.out;obtain⟨rfl,rfl⟩:=Prod.mk.inj (Yl y)
   replace y:=J hO
   clear hO HO
   go_wp2_with fail
   clear aQ;refine(zah ⟨#[125]⟩ F.out.hR).mono ?_;rintro e b0 ⟨rfl,au,bm⟩;obtain⟨bL,C⟩:∃ t,takT ts ⟨#[125]⟩ q=t:=⟨_,rfl⟩;obtain⟨aN,A⟩:∃ s2,takS ts ⟨#[125]⟩ q=s2:=⟨_,rfl⟩;rw[show takT ts ⟨#[125]⟩ ⟨q.p,q.bad⟩=bL from C];have aP:QdS T b0 g st cap ts aN:=A ▸ bm;have cp:Hid (LtQ q aN):=J (A ▸ zam _ _)
   try rw[C] at y
   try rw[A] at y
   have aF:=J (an.out.grow F.out.gB au);have a9:=J (F.out.call au aP);clear C A bm aP au F an;obtain⟨bu,bF,b1,bI,bN,bH,bO,bx,b6,bR⟩:=row9 aF.out.row
   go_wp2_with fail
   clear bu bF b1 bI bN bH bO bx b6 bR;obtain⟨cz,cg,cn,bK,bo⟩:=zbf a9 aF;injection bK with u1 u2 u3;subst u1 u2 u3;refine bo.mono ?_;rintro e cG ⟨cr,rfl,bV,bj,aZ⟩;have be:=J aZ;have bU:=J (bj);clear bo bV bj aZ a9 aF;obtain⟨ct,cu,aU,bf⟩:=zbb bU (v:=(⟨13,⟨#[]⟩,0,D.pos,D.pos,behI ts aN.p,D.pos,l⟩:Qv)) ⟨be.out.is.keep (fun j hj=>⟨hj.1,hj.2.1⟩) fun _ _=>rfl,be.out.bg⟩;have HP:=J bf;have ay:=J aU;clear bf aU
   go_wp2
   have hx:=Yl y;exact zao Tryz.results100 rfl ay (hx ▸ HP.out)
end
end Go.Proofs.YtmclgbkijeidaaaGreatDoor
