import Derived.Test.YtmclgbkijeidaaaGreatDoorUoQaR
import Derived.Test.YtmclgbkijeidaaaGreatDoorUob
namespace Go.Proofs.YtmclgbkijeidaaaGreatDoor
set_option maxRecDepth 100000
set_option maxHeartbeats 4000000
open Go.RowKit
section
variable {T:Nat}{w W0 W W':World}{g:Nat}{st:Option Addr}{cap:Nat}{ts:List Tok}{s s':Qs}
theorem zn4 {n:Nat}{r:Qv × Qs}(hB:s.bad=true)(hU:UnQ T g st cap ts n)(hP:∀ m,m<n->PrQ T g st cap ts m)(hE:∀ m,m<n->ExQ T g st cap ts (dns ts m))(hR:QdS T w g st cap ts s)(hX:(dns ts (n+1)).una s=some r):Calls Tryz.prog 149 #[.pointer (some ⟨g,0,none⟩)] w (QoP T w g st cap ts r):=by
 have HF:=J (zcu hR);have hT:=hR.few;have gO:=hR.le;clear hR;have fW:=J hB;have HU:=J hU;have fP:=J hP;have HE:=J hE;clear hE hU hP hB;rw[zmy] at hX;have y:=J hX;clear hX
 go_enter Tryz.func149,Tryz.ntmps149
 go_wp2_with fail
 refine zag (fun W=>Fr T w W W g st cap ts s) HF.out ?_;intro W0 hF;clear HF;have HF:=J hF;clear hF;refine(zbk HF.out.hR).mono ?_;rintro e W1 ⟨rfl,b1⟩;obtain⟨t1,ht⟩:∃ t,nxQ ts s.p=t:=⟨_,rfl⟩;rw[ht];have g1:=J ht;have ic:=J (ht ▸ HF.out.hR.sz)
 try rw[ht] at y
 have dp:=J (HF.out.low b1);clear ht b1 HF;obtain⟨W4,fl,b4,f4,l4⟩:=zea dp t1;have gP:=J l4;have aK:=J (f4);clear b4 f4 l4 dp;obtain⟨cN,bw⟩:∃ b,s.bad=b:=⟨_,rfl⟩;have eD:W4.cell? ⟨g,2,none⟩=some (.bool cN):=bw ▸ aK.out.hR.c2;rw[bw] at y;have ak:=J bw;clear bw
 cases cN
 ·skip
  exact absurd (ak.out.symm.trans fW) (by simp)
 ·skip
  replace y:=J (if_f y (fun h=>by cases h))
  cases n with
  | zero=>exact absurd y (by intro h;cases h)
  | succ n=>
  have hX:=y.out;rw[zj3] at hX
  replace y:=J hX
  clear hX
  go_wp2_with fail
  clear fl eD;rcases hk8:(dns ts n).prim s with _|⟨v8,s8⟩
  ·exact absurd y (by rw[hk8];intro h;cases h)
  rw[hk8] at y
  try simp only[Option.bind_some] at y
  refine(((fun hk=>fP.out n (Nat.lt_succ_self _) _ _ _ hk aK.out.hR) hk8)).mono ?_;rintro e W8 ⟨E,rfl,q8,g8,r8⟩;have dz:=J q8;have ik:=g8.size;have dI:=J (aK.out.call g8 r8);have g9:=aK.out.size;clear hk8 q8 g8 r8 aK;obtain⟨hr,ga,gH,cQ,eb⟩:=zpl dI (A:=W4) (by omega) dz.out;have dj:=J eb;have dG:=J cQ;clear gH cQ eb dz dI
  go_wp2_with fail
  clear ga;have aW:=J y;clear y
  go_loopw [] (fun wr=>∃ (v:Qv) (q:Qs) (m N:Nat) (e:Qe),Fr T w W0 wr g st cap ts q∧Vl W0 wr (W8.heap.size) N v e∧(dns ts m).posL v q=some r∧m<=n) (fun wr=>muQ ts g wr)
  case atStart=>exact⟨_,_,n,_,_,dG.out,dj.out,aW.out,Ya _⟩
  case round=>
   obtain⟨v,q,m,N,e,hF,hV,hm,fQ⟩:=hrel;have ae:=J hF;have a9:=J (zdo hF.hR);have a7:q.p<=ts.length:=hF.hR.le;have pR:=hV.row;have PB:=J hV.hB;have hC:=zaa hV.row;have hN:=hV.hN;obtain⟨pS,pV,ea⟩:=hV.ex;have PV:=J pV;have PS:=J ea;have PR:=J pR;clear hF hV pV ea pR dG dj aW
   cases m with
   | zero=>cases hm
   | succ m=>
   rw[zj4] at hm;have y:=J hm;clear hm;obtain⟨e0,F,K,U,M,Y,D,X,E,I⟩:=e;obtain⟨c7,bz⟩:∃ b,q.bad=b:=⟨_,rfl⟩;have gn:wr.cell? ⟨g,2,none⟩=some (.bool c7):=bz ▸ ae.out.hR.c2;rw[bz] at y;have ak:=J bz;clear bz
   cases c7
   ·skip
    go_wp2_with fail
    clear gn;refine(zas ⟨#[46]⟩ ae.out.hR).mono ?_;rintro e fM ⟨rfl,a0⟩;obtain⟨fJ,hi⟩:∃ b,isQ ts q.p ⟨#[46]⟩=b:=⟨_,rfl⟩;rw[hi];have aD:=J hi
    try rw[hi] at y
    have aE:=J ((a0.block _ (zaa PR.out)).trans PR.out);have aq:Hid (QV fM pS v ⟨e0,F,K,U,M,Y,D,X,E,I⟩):=J ⟨PV.out.is.keep (fun _ h=>h) fun j Z=>a0.block j (by have:=(PS.out j Z).2.1;omega),PV.out.bg⟩;have hW:=a0.size;have aI:=J (ae.out.low a0);clear hi a0 ae PR PV
    cases fJ
    ·skip
     have gF:=aD
     go_wp2_with fail
     refine(zas ⟨#[40]⟩ aI.out.hR).mono ?_;rintro e eK ⟨rfl,aT⟩;obtain⟨fI,hi⟩:∃ b,isQ ts q.p ⟨#[40]⟩=b:=⟨_,rfl⟩;rw[hi];have aD:=J hi
     try rw[hi] at y
     have bk:=J ((aT.block _ (zaa aE.out)).trans aE.out);have aG:Hid (QV eK pS v ⟨e0,F,K,U,M,Y,D,X,E,I⟩):=J ⟨aq.out.is.keep (fun _ h=>h) fun j Z=>aT.block j (by have:=(PS.out j Z).2.1;omega),aq.out.bg⟩;have g2:=aT.size;have az:=J (aI.out.low aT);clear hi aT aI aE aq
     cases fI
     ·skip
      replace y:=J (if_f y (fun h=>by cases h))
      obtain⟨h0,h1,h2,h3,h4,h5,h6,h7,h8,-⟩:=row9 bk.out;have HP:=J (ze6 az (v:=v) (e:=⟨e0,F,K,U,M,Y,D,X,E,I⟩) ⟨aG.out.is.keep (fun j Z=>⟨(PS.out j Z).1,by have:=(PS.out j Z).2.1;omega⟩) fun _ _=>rfl,aG.out.bg⟩)
      go_wp2_with (refine zed (by rfl) (.tmp 2) (.tmp 120) (by rfl) ⟨e0,F,K,U,M,Y,D,X,E,I⟩ (by rfl) (by rfl) az.out.hZ (by rfl) ?_)
      have hx:=Yl y;exact zao Tryz.results149 rfl (zad az.out.hZ) (hx ▸ HP.out)
     ·skip
      replace y:=J (if_t y (by first|rfl|trivial))
      rw[<-(show D=v.bg from aG.out.bg)] at y
      go_wp2_with fail
      refine(zas ⟨#[46]⟩ az.out.hR).mono ?_;rintro e ft ⟨rfl,aY⟩;rw[gF.out];have bY:=J ((aY.block _ (zaa bk.out)).trans bk.out);have bZ:Hid (QV ft pS v ⟨e0,F,K,U,M,Y,D,X,E,I⟩):=J ⟨aG.out.is.keep (fun _ h=>h) fun j Z=>aY.block j (by have:=(PS.out j Z).2.1;omega),aG.out.bg⟩;have ip:=aY.size;have aQ:=J (az.out.low aY);clear aY az bk aG
      replace y:=J (if_f y (fun h=>by cases h))
      go_wp2_with fail
      refine(zah ⟨#[40]⟩ aQ.out.hR).mono ?_;rintro e af ⟨rfl,bc,ej⟩;obtain⟨eJ,ht⟩:∃ t,takT ts ⟨#[40]⟩ q=t:=⟨_,rfl⟩;obtain⟨aZ,hs⟩:∃ s2,takS ts ⟨#[40]⟩ q=s2:=⟨_,rfl⟩;rw[show takT ts ⟨#[40]⟩ ⟨q.p,q.bad⟩=eJ from ht];have di:QdS T af g st cap ts aZ:=hs ▸ ej;have bp:Hid (LtQ q aZ):=J (hs ▸ zam _ _)
      try rw[ht] at y
      try rw[hs] at y
      have bi:=J ((bc.block _ (zaa bY.out) (fun e=>by injection e with e;have:=aQ.out.gB;have:=PB.out;omega)).trans bY.out);have cZ:Hid (QV af pS v ⟨e0,F,K,U,M,Y,D,X,E,I⟩):=J ⟨bZ.out.is.keep (fun _ h=>h) fun j Z=>bc.block j (by have:=(PS.out j Z).2.1;omega) (fun e=>by injection e with e;have:=aQ.out.gB;have:=(PS.out j Z).1;omega),bZ.out.bg⟩;have gY:=bc.size;have ev:=J (aQ.out.call bc di);clear ht hs ej di bc aQ bY bZ;have a6:af.heap[W8.heap.size]?=some (.cells #[.int .i64 e0,.string F,.int .i64 K,.slice none 0 0,.int .i64 U,.int .i64 M,.int .i64 Y,.int .i64 D,.slice X E I] 63 (0,0)):=bi.out;obtain⟨p0,p1,p2,p3,p4,p5,p6,p7,p8,-⟩:=row9 a6;clear a6;have ao:=zaa bi.out;have eY:N<=af.heap.size:=by omega
      have bS:=J (zvd ev ao (v:=v) (e:=⟨e0,F,K,U,M,Y,D,X,E,I⟩) cZ.out (fun j Z=>by have hp:=PS.out j Z;exact⟨hp.1,by omega,hp.2.2⟩) 25 ⟨#[]⟩ 0 D D 0 D);have d1:=J ((zep af (.cells (⟨e0,F,K,U,M,Y,D,X,E,I⟩:Qe).cells 63) (.cells (paQ 25 ⟨#[]⟩ 0 D D 0 D (.slice (some ⟨af.heap.size,0,none⟩) 1 1)) 63)).block _ ao)
      go_wp2_with fail
      clear p0 p1 p2 p3 p4 p5 p6 p7 p8;refine zdq (fun W2=>Fr T w W0 W2 g st cap ts aZ∧Qk W0.heap.size (W8.heap.size) W2 (af.heap.size+1) 25 ⟨#[]⟩ 0 D D 0 D (.slice (some ⟨af.heap.size,0,none⟩) 1 1) [v.pt]∧W2.heap[W8.heap.size]?=some (.cells #[.int .i64 e0,.string F,.int .i64 K,.slice none 0 0,.int .i64 U,.int .i64 M,.int .i64 Y,.int .i64 D,.slice X E I] 63 (0,0))) ⟨bS.out.1,bS.out.2,d1.out.trans bi.out⟩ ?_;rintro Wn ⟨fn,qn,rn⟩;have dD:=J fn;have cL:=J qn;have du:=J rn;have fy:W8.heap.size<af.heap.size+1:=by omega
      have ch:=a9;have cv:=ak;have bV:=a7;clear fn qn rn bS d1 ev bi cZ
      go_wp2_with fail
      rcases hk29:(dns ts m).argL [v.pt] aZ with _|⟨lf,sf⟩
      ·exact absurd y (by rw[hk29];intro h;cases h)
      rw[hk29] at y;simp only[Option.bind_some] at y;have aW:=J hk29;have HO:=y;clear y hk29
      go_loopw [] (fun wr=>∃ (l2:List Pt) (q2:Qs) (v2:Value) (m2:Nat),Fr T w W0 wr g st cap ts q2∧Qk W0.heap.size (W8.heap.size) wr ((af.heap.size+1)) 25 ⟨#[]⟩ 0 D D 0 D v2 l2∧(dns ts m2).argL l2 q2=some (lf,sf)∧m2<=m∧Few l2 q2∧wr.heap[W8.heap.size]?=some (.cells #[.int .i64 e0,.string F,.int .i64 K,.slice none 0 0,.int .i64 U,.int .i64 M,.int .i64 Y,.int .i64 D,.slice X E I] 63 (0,0))∧LeQ aZ q2) (fun wr=>muQ ts g wr)
      case atStart=>exact⟨_,_,_,_,dD.out,cL.out,aW.out,Ya _,⟨by simp,fun hb=>by have h:=bp.out.2;rw[hb] at h;simp at h;simp;omega⟩,du.out,LeQ.rfl _⟩
      case round=>
       obtain⟨l2,q2,v2,m2,hF,hQ,hm,fQ,cG,ep,cI⟩:=hrel;have ae:=J hF;have bB:=J hQ;have bn:=J cG;have a9:=J (zdo hF.hR);have a7:q2.p<=ts.length:=hF.hR.le;have aF:=J ep;have aV:=J cI;obtain⟨gg,eR,fo,hv⟩:=hQ.sl;subst hv;clear hF hQ cG dD cL aW ep cI
       cases m2 with
       | zero=>cases hm
       | succ m2=>
       rw[zj5] at hm;have y:=J hm;clear hm;clear du;obtain⟨eB,bj⟩:∃ b,q2.bad=b:=⟨_,rfl⟩;have d4:wr.cell? ⟨g,2,none⟩=some (.bool eB):=bj ▸ ae.out.hR.c2;rw[bj] at y;have ak:=J bj;clear bj
       cases eB
       ·skip
        go_wp2_with fail
        clear d4;refine(zas ⟨#[41]⟩ ae.out.hR).mono ?_;rintro e ay ⟨rfl,bb⟩;obtain⟨fr,hi⟩:∃ b,isQ ts q2.p ⟨#[41]⟩=b:=⟨_,rfl⟩;rw[hi];have aD:=J hi
        try rw[hi] at y
        have bA:=J (bB.out.below bb);have aH:=J ((bb.block _ (zaa aF)).trans aF);have ie:=bb.size;have am:=J (ae.out.low bb);clear hi bb ae bB aF
        cases fr
        ·skip
         replace y:=J (if_t y (by first|rfl|trivial))
         go_wp2_with (fail)
         rcases hk35:(dns ts m2).row 1 q2 with _|⟨v35,s35⟩
         ·exact absurd y (by rw[hk35];intro h;cases h)
         rw[hk35] at y;simp only[Option.bind_some] at y;have au:=J ((lst (ts:=ts) _).row _ _ _ _ hk35);have bO:=J am;have bP:Below ay.heap.size ay ay.drew:=(Yb _ _).drew;have aU:=J (am.out.low bP);have bt:=J (bA.out.below bP);have bE:=J (fun (h:QdS T ay.drew g st cap ts q2)=>(fun hk=>HE.out m2 (by omega) ay.drew _ _ hk h) hk35);clear hk35 bP am bA;have f3:ay.drew.cell? ⟨(af.heap.size+1),8,none⟩=some (.slice gg eR fo):=Yp 8 bt.out.row rfl;apply zb8 (fun y0 y1 y2 y3 y4 y5 y6 y7 y8 y9 Wy sp sn sc Wz=>Fr T w W0 Wz g st cap ts s35∧Qk W0.heap.size (W8.heap.size) Wz ((af.heap.size+1)) 25 ⟨#[]⟩ 0 D D 0 D (.slice sp sn sc) (l2++[v35.pt])∧ay.drew.grownBy Wy (some g)∧((W8.heap.size)≠(af.heap.size+1)->Wz.heap[W8.heap.size]?=Wy.heap[W8.heap.size]?)∧Wy.heap.size<=Wz.heap.size)
         rotate_left
         ·intro hc;refine zbc (S:=fun _=>Hid True) 8 rfl (by kernel_rfl) ?_;refine zal 0 99 (.pointer (some ⟨(af.heap.size+1),8,none⟩)) rfl (by kernel_rfl) (fun _ _ _ h=>h) (fun w' _=>by first|rfl|(go_simp;done) | (go_simp;rw[Yi];omega)) (J trivial) ?_;simp only[sI,sS,sZ];refine zal 2 101 (.pointer (some ⟨g,0,none⟩)) rfl (by kernel_rfl) (fun _ _ _ h=>h) (fun w' _=>by first|rfl|(go_simp;done) | (go_simp;rw[Yi];omega)) (J trivial) ?_;simp only[sI,sS,sZ];refine wpAnyH_all (rs:=[1,3]) (by kernel_rfl) (by simp) fun i hi=>?_;simp only[List.mem_cons,List.not_mem_nil,or_false] at hi;rcases hi with rfl|rfl
          ·skip
           refine zan rfl rfl ?_
           go_simp
           refine⟨J trivial,?_⟩;refine zac 3 rfl (by kernel_rfl) ?_
           go_simp
           refine(bE aU.out.hR).mono ?_;rintro e br ⟨⟨y0,y1,y2,y3,y4,y5,y6,y7,y8,y9⟩,rfl,q35,g35,r35⟩;obtain⟨cy,ca,v2,w1,Wz,ha,ce,cf,cw,ba,av,aR,a5⟩:=zb3 aU bt ((Yo (bn.out.lt bO.out.hR) (by omega))) g35 r35 q35;obtain⟨cE,bW,b5,cu⟩:=av.sl;subst cu;have bl:=J (hc y0 y1 y2 y3 y4 y5 y6 y7 y8 y9 br cE bW b5 Wz ⟨ba,av,g35,aR,a5⟩)
           dsimp only[Qe.cells,paQ] at cy ca ha ce cf cw
           unfold Qe.cells paQ;clear ba av aR q35 g35 r35 a5;refine⟨J trivial,?_⟩;refine zac 4 rfl (by kernel_rfl) ?_
           go_simp
           refine⟨J trivial,?_⟩;refine zac 5 rfl (by kernel_rfl) ?_;refine zaf (.tmp 100) (.tmp 103) 61 rfl rfl rfl ha ?_;refine⟨J trivial,?_⟩;simp only[Act.put,sI,sS,sZ];refine zal 6 105 (.pointer (some ⟨(af.heap.size+1),8,none⟩)) rfl (by kernel_rfl) (fun _ _ _ h=>h) (fun w' _=>by first|rfl|(go_simp;done) | (go_simp;rw[Yi];omega)) (J trivial) ?_;simp only[sI,sS,sZ];refine zac 7 rfl (by kernel_rfl) ?_
           go_simp
           refine⟨J trivial,?_⟩;refine wpAnyH_done (by kernel_rfl) ?_ _;exact bl
          ·skip
           refine zan rfl rfl ?_
           go_simp
           refine(bE aU.out.hR).mono ?_;rintro e br ⟨⟨y0,y1,y2,y3,y4,y5,y6,y7,y8,y9⟩,rfl,q35,g35,r35⟩;obtain⟨cy,ca,v2,w1,Wz,ha,ce,cf,cw,ba,av,aR,a5⟩:=zb3 aU bt ((Yo (bn.out.lt bO.out.hR) (by omega))) g35 r35 q35;obtain⟨cE,bW,b5,cu⟩:=av.sl;subst cu;have bl:=J (hc y0 y1 y2 y3 y4 y5 y6 y7 y8 y9 br cE bW b5 Wz ⟨ba,av,g35,aR,a5⟩)
           dsimp only[Qe.cells,paQ] at cy ca ha ce cf cw
           unfold Qe.cells paQ;clear ba av aR q35 g35 r35 a5;refine⟨J trivial,?_⟩;refine wpAnyH_all (rs:=[1,4]) (by kernel_rfl) (by simp) fun i hi=>?_;simp only[List.mem_cons,List.not_mem_nil,or_false] at hi;rcases hi with rfl|rfl
           ·skip
            refine zan rfl rfl ?_
            go_simp
            refine⟨J trivial,?_⟩;refine zac 4 rfl (by kernel_rfl) ?_
            go_simp
            refine⟨J trivial,?_⟩;refine zac 5 rfl (by kernel_rfl) ?_;refine zaf (.tmp 100) (.tmp 103) 61 rfl rfl rfl ha ?_;refine⟨J trivial,?_⟩;simp only[Act.put,sI,sS,sZ];refine zal 6 105 (.pointer (some ⟨(af.heap.size+1),8,none⟩)) rfl (by kernel_rfl) (fun _ _ _ h=>h) (fun w' _=>by first|rfl|(go_simp;done) | (go_simp;rw[Yi];omega)) (J trivial) ?_;simp only[sI,sS,sZ];refine zac 7 rfl (by kernel_rfl) ?_
            go_simp
            refine⟨J trivial,?_⟩;refine wpAnyH_done (by kernel_rfl) ?_ _;exact bl
           ·skip
            refine zan rfl rfl ?_
            go_simp
            refine⟨J trivial,?_⟩;refine zac 1 rfl (by kernel_rfl) ?_
            go_simp
            refine⟨J trivial,?_⟩;refine zac 5 rfl (by kernel_rfl) ?_;refine zaf (.tmp 100) (.tmp 103) 61 rfl rfl rfl ha ?_;refine⟨J trivial,?_⟩;simp only[Act.put,sI,sS,sZ];refine zal 6 105 (.pointer (some ⟨(af.heap.size+1),8,none⟩)) rfl (by kernel_rfl) (fun _ _ _ h=>h) (fun w' _=>by first|rfl|(go_simp;done) | (go_simp;rw[Yi];omega)) (J trivial) ?_;simp only[sI,sS,sZ];refine zac 7 rfl (by kernel_rfl) ?_
            go_simp
            refine⟨J trivial,?_⟩;refine wpAnyH_done (by kernel_rfl) ?_ _;exact bl
         intro y0 y1 y2 y3 y4 y5 y6 y7 y8 y9 br iw il gM ig gp;obtain⟨et,dy,cR,dx,gL⟩:=gp;have dr:=J dy;have dC:=J cR;have eo:=J dx;have bu:=J (et);clear et dy cR dx aU bt f3 bE bO;have cr:=J ((eo (Nat.ne_of_lt fy)).trans ((dC.out.block _ (zaa aH.out) (fun e=>by injection e with e;have:=bu.out.gB;have:=PB.out;omega)).trans aH.out));clear aH dC eo
         go_wp2_with fail
         refine(zas ⟨#[41]⟩ bu.out.hR).mono ?_;rintro e iq ⟨rfl,aX⟩;obtain⟨gf,hi⟩:∃ b,isQ ts s35.p ⟨#[41]⟩=b:=⟨_,rfl⟩;rw[hi];have aD:=J hi
         try rw[hi] at y
         have bs:=J (dr.out.below aX);have aC:=J ((aX.block _ (zaa cr.out)).trans cr.out);have hy:=aX.size;have ai:=J (bu.out.low aX);clear hi aX bu dr cr
         cases gf
         ·skip
          replace y:=J (if_f y (fun h=>by cases h))
          go_wp2_with fail
          refine(zah ⟨#[44]⟩ ai.out.hR).mono ?_;rintro e fq ⟨rfl,a2,eh⟩;obtain⟨gk,ht⟩:∃ t,takT ts ⟨#[44]⟩ s35=t:=⟨_,rfl⟩;obtain⟨al,hs⟩:∃ s2,takS ts ⟨#[44]⟩ s35=s2:=⟨_,rfl⟩;rw[show takT ts ⟨#[44]⟩ ⟨s35.p,s35.bad⟩=gk from ht];have d3:QdS T fq g st cap ts al:=hs ▸ eh;have aB:Hid (LtQ s35 al):=J (hs ▸ zam _ _)
          try rw[ht] at y
          try rw[hs] at y
          have c3:=J (bs.out.grow ai.out.gB a2);have ct:=J ((a2.block _ (zaa aC.out) (fun e=>by injection e with e;have:=ai.out.gB;have:=PB.out;omega)).trans aC.out);have ib:=a2.size;have bG:=J (ai.out.call a2 d3);clear ht hs eh d3 a2 ai bs aC
          go_wp2_with fail
          refine(zas ⟨#[41]⟩ bG.out.hR).mono ?_;rintro e cz ⟨rfl,aP⟩;obtain⟨gu,hi⟩:∃ b,isQ ts al.p ⟨#[41]⟩=b:=⟨_,rfl⟩;rw[hi];have aD:=J hi
          try rw[hi] at y
          have bM:=J (c3.out.below aP);have bm:=J ((aP.block _ (zaa ct.out)).trans ct.out);have iv:=aP.size;have ah:=J (bG.out.low aP);clear hi aP bG c3 ct
          cases gu
          ·skip
           rw[show wrQ false al=al from rfl] at y;have ag:=J (zdo ah.out.hR)
           go_wp2
           go_round
           case rel=>(repeat apply Exists.intro);exact⟨⟨_,_,_,m2,ah.out,bM.out,y.out,by omega,(bn.out.more ak au).le (aB.out.le),bm.out,aV.out.trans (au.out.le.trans aB.out.le)⟩,rfl⟩
           case measure=>
            rw[ag.out,a9.out];exact ze5 ak a7 ah.out.hR.le (au.out.trans (aB.out.le))
          ·skip
           have HW:Hid (LeQ al (wrQ true al)):=J (zqv _ _);obtain⟨gJ,hL,a8,bC⟩:∃ W2,cz.setCell ⟨g,2,none⟩ (.bool true)=W2∧cz.grownBy W2 (some g)∧QdS T W2 g st cap ts (wrQ true al):=⟨_,rfl,zlk cz g,ah.out.hR.wrong⟩;have g0:=ah.out.hR.c2;have hq:=ah.out.hR.z 2;obtain⟨hI,bU⟩:∃ s2,wrQ true al=s2:=⟨_,rfl⟩;rw[bU] at y bC
           try rw[bU] at HW
           have f1:=J (bM.out.grow ah.out.gB a8);have fv:=J ((a8.block _ (zaa bm.out) (fun e=>by injection e with e;have:=ah.out.gB;have:=PB.out;omega)).trans bm.out);have hZ:=a8.size;have b7:=J (ah.out.call a8 bC);clear bU a8 bC ah bM bm;have ag:=J (zdo b7.out.hR)
           go_wp2
           go_round
           case rel=>(repeat apply Exists.intro);exact⟨⟨_,_,_,m2,b7.out,f1.out,y.out,by omega,(bn.out.more ak au).le ((aB.out.le.trans HW)),fv.out,aV.out.trans (au.out.le.trans (aB.out.le.trans HW))⟩,rfl⟩
           case measure=>
            rw[ag.out,a9.out];exact ze5 ak a7 b7.out.hR.le (au.out.trans ((aB.out.le.trans HW)))
         ·skip
          replace y:=J (if_t y (by first|rfl|trivial))
          have hO:=HO.out;obtain⟨rfl,rfl⟩:=Prod.mk.inj (Yl y)
          replace y:=J hO
          clear hO HO
          go_wp2_with fail
          refine(zah ⟨#[41]⟩ ai.out.hR).mono ?_;rintro e fz ⟨rfl,bf,eg⟩;obtain⟨eS,ht⟩:∃ t,takT ts ⟨#[41]⟩ s35=t:=⟨_,rfl⟩;obtain⟨cT,hs⟩:∃ s2,takS ts ⟨#[41]⟩ s35=s2:=⟨_,rfl⟩;rw[show takT ts ⟨#[41]⟩ ⟨s35.p,s35.bad⟩=eS from ht];have cM:QdS T fz g st cap ts cT:=hs ▸ eg;have f9:Hid (LtQ s35 cT):=J (hs ▸ zam _ _)
          try rw[ht] at y
          try rw[hs] at y
          have cA:=J (bs.out.grow ai.out.gB bf);have b8:=J ((bf.block _ (zaa aC.out) (fun e=>by injection e with e;have:=ai.out.gB;have:=PB.out;omega)).trans aC.out);have hK:=bf.size;have d7:=J (ai.out.call bf cM);clear ht hs eg cM bf ai bs aC;obtain⟨fG,gI,eO,fN,eU,gE,gy,eI,eE,gz⟩:=row9 cA.out.row
          go_wp2_with fail
          clear fG gI eO fN eU gE gy eI eE gz;obtain⟨g6,hf,g5,ge,cO⟩:=zbf d7 cA;injection ge with u1 u2 u3;subst u1 u2 u3;refine cO.mono ?_;rintro e ii ⟨hJ,rfl,cF,dJ,dE⟩;have dn:=J dE;have en:=J ((cF.block _ (zaa b8.out)).trans b8.out);have id:=cF.size;have cP:=J (dJ);clear cO cF dJ dE d7 cA b8;obtain⟨it,g7,eT,el,ee⟩:=zhk (e0:=⟨e0,F,K,U,M,Y,D,X,E,I⟩) cP.out PB.out en.out dn;have ar:=J ee;have bQ:=J (el);clear eT el ee cP dn en;have ag:=J (zdo bQ.out.hR)
          go_wp2
          go_round
          case rel=>(repeat apply Exists.intro);exact⟨⟨_,_,m,_,_,bQ.out,ar.out,y.out,by omega⟩,rfl⟩
          case measure=>
           rw[ag.out,ch.out];exact ze5 cv bV bQ.out.hR.le (bp.out.trans ((aV.out.trans au.out.le).trans f9.out.le))
        ·skip
         replace y:=J (if_f y (fun h=>by cases h))
         have hO:=HO.out;obtain⟨rfl,rfl⟩:=Prod.mk.inj (Yl y)
         replace y:=J hO
         clear hO HO
         go_wp2_with fail
         refine(zah ⟨#[41]⟩ am.out.hR).mono ?_;rintro e gD ⟨rfl,aL,d6⟩;obtain⟨gm,ht⟩:∃ t,takT ts ⟨#[41]⟩ q2=t:=⟨_,rfl⟩;obtain⟨em,hs⟩:∃ s2,takS ts ⟨#[41]⟩ q2=s2:=⟨_,rfl⟩;rw[show takT ts ⟨#[41]⟩ ⟨q2.p,q2.bad⟩=gm from ht];have ex:QdS T gD g st cap ts em:=hs ▸ d6;have gi:Hid (LtQ q2 em):=J (hs ▸ zam _ _)
         try rw[ht] at y
         try rw[hs] at y
         have b9:=J (bA.out.grow am.out.gB aL);have bL:=J ((aL.block _ (zaa aH.out) (fun e=>by injection e with e;have:=am.out.gB;have:=PB.out;omega)).trans aH.out);have gT:=aL.size;have dT:=J (am.out.call aL ex);clear ht hs d6 ex aL am bA aH;obtain⟨fB,gw,eX,fh,fA,f7,eZ,eQ,fi,gq⟩:=row9 b9.out.row
         go_wp2_with fail
         clear fB gw eX fh fA f7 eZ eQ fi gq;obtain⟨gU,ia,iu,gb,dL⟩:=zbf dT b9;injection gb with u1 u2 u3;subst u1 u2 u3;refine dL.mono ?_;rintro e im ⟨gQ,rfl,cb,cV,ei⟩;have dB:=J ei;have eC:=J ((cb.block _ (zaa bL.out)).trans bL.out);have g4:=cb.size;have dQ:=J (cV);clear dL cb cV ei dT b9 bL;obtain⟨hA,hn,eH,dc,dH⟩:=zhk (e0:=⟨e0,F,K,U,M,Y,D,X,E,I⟩) dQ.out PB.out eC.out dB;have ar:=J dH;have cC:=J (dc);clear eH dc dH dQ dB eC;have ag:=J (zdo cC.out.hR)
         go_wp2
         go_round
         case rel=>exact⟨_,_,m,_,_,cC.out,ar.out,y.out,by omega⟩
         case measure=>
          rw[ag.out,ch.out];exact ze5 cv bV cC.out.hR.le (bp.out.trans (aV.out.trans gi.out.le))
       ·skip
        replace y:=J (if_f y (fun h=>by cases h))
        have hO:=HO.out;obtain⟨rfl,rfl⟩:=Prod.mk.inj (Yl y)
        replace y:=J hO
        clear hO HO
        go_wp2_with fail
        clear d4;refine(zah ⟨#[41]⟩ ae.out.hR).mono ?_;rintro e fj ⟨rfl,a4,eA⟩;obtain⟨fZ,ht⟩:∃ t,takT ts ⟨#[41]⟩ q2=t:=⟨_,rfl⟩;obtain⟨c4,hs⟩:∃ s2,takS ts ⟨#[41]⟩ q2=s2:=⟨_,rfl⟩;rw[show takT ts ⟨#[41]⟩ ⟨q2.p,q2.bad⟩=fZ from ht];have dO:QdS T fj g st cap ts c4:=hs ▸ eA;have fD:Hid (LtQ q2 c4):=J (hs ▸ zam _ _)
        try rw[ht] at y
        try rw[hs] at y
        have bK:=J (bB.out.grow ae.out.gB a4);have bN:=J ((a4.block _ (zaa aF) (fun e=>by injection e with e;have:=ae.out.gB;have:=PB.out;omega)).trans aF);have gV:=a4.size;have cU:=J (ae.out.call a4 dO);clear ht hs eA dO a4 ae bB aF;obtain⟨fe,fc,gv,f2,fu,gG,fY,eW,f5,gx⟩:=row9 bK.out.row
        go_wp2_with fail
        clear fe fc gv f2 fu gG fY eW f5 gx;obtain⟨gZ,hY,io,gs,ds⟩:=zbf cU bK;injection gs with u1 u2 u3;subst u1 u2 u3;refine ds.mono ?_;rintro e hl ⟨gS,rfl,cg,dd,dP⟩;have dS:=J dP;have eu:=J ((cg.block _ (zaa bN.out)).trans bN.out);have gW:=cg.size;have dw:=J (dd);clear ds cg dd dP cU bK bN;obtain⟨ij,hD,ff,dZ,es⟩:=zhk (e0:=⟨e0,F,K,U,M,Y,D,X,E,I⟩) dw.out PB.out eu.out dS;have ar:=J es;have cp:=J (dZ);clear ff dZ es dw dS eu;have ag:=J (zdo cp.out.hR)
        go_wp2
        go_round
        case rel=>exact⟨_,_,m,_,_,cp.out,ar.out,y.out,by omega⟩
        case measure=>
         rw[ag.out,ch.out];exact ze5 cv bV cp.out.hR.le (bp.out.trans (aV.out.trans fD.out.le))
    ·skip
     replace y:=J (if_t y (by first|rfl|trivial))
     rw[<-(show D=v.bg from aq.out.bg)] at y
     go_wp2_with fail
     refine(zas ⟨#[46]⟩ aI.out.hR).mono ?_;rintro e fV ⟨rfl,aO⟩;rw[aD.out];have bH:=J ((aO.block _ (zaa aE.out)).trans aE.out);have ci:Hid (QV fV pS v ⟨e0,F,K,U,M,Y,D,X,E,I⟩):=J ⟨aq.out.is.keep (fun _ h=>h) fun j Z=>aO.block j (by have:=(PS.out j Z).2.1;omega),aq.out.bg⟩;have ir:=aO.size;have aJ:=J (aI.out.low aO);clear aO aI aE aq
     replace y:=J (if_t y (by first|rfl|trivial))
     go_wp2_with fail
     refine(zah ⟨#[46]⟩ aJ.out.hR).mono ?_;rintro e dt ⟨rfl,aN,dv⟩;obtain⟨f8,ht⟩:∃ t,takT ts ⟨#[46]⟩ q=t:=⟨_,rfl⟩;obtain⟨aw,hs⟩:∃ s2,takS ts ⟨#[46]⟩ q=s2:=⟨_,rfl⟩;rw[show takT ts ⟨#[46]⟩ ⟨q.p,q.bad⟩=f8 from ht];have d5:QdS T dt g st cap ts aw:=hs ▸ dv;have gj:Hid (LtQ q aw):=J (hs ▸ zam _ _)
     try rw[ht] at y
     try rw[hs] at y
     have cn:=J ((aN.block _ (zaa bH.out) (fun e=>by injection e with e;have:=aJ.out.gB;have:=PB.out;omega)).trans bH.out);have b6:Hid (QV dt pS v ⟨e0,F,K,U,M,Y,D,X,E,I⟩):=J ⟨ci.out.is.keep (fun _ h=>h) fun j Z=>aN.block j (by have:=(PS.out j Z).2.1;omega) (fun e=>by injection e with e;have:=aJ.out.gB;have:=(PS.out j Z).1;omega),ci.out.bg⟩;have hS:=aN.size;have a3:=J (aJ.out.call aN d5);clear ht hs dv d5 aN aJ bH ci
     go_wp2_with fail
     refine(zah ⟨#[110,97,109,101]⟩ a3.out.hR).mono ?_;rintro e ed ⟨rfl,a1,de⟩;obtain⟨ac,ht⟩:∃ t,takT ts ⟨#[110,97,109,101]⟩ aw=t:=⟨_,rfl⟩;obtain⟨cH,hs⟩:∃ s2,takS ts ⟨#[110,97,109,101]⟩ aw=s2:=⟨_,rfl⟩;rw[show takT ts ⟨#[110,97,109,101]⟩ ⟨aw.p,aw.bad⟩=ac from ht];have d9:QdS T ed g st cap ts cH:=hs ▸ de;have gC:Hid (LtQ aw cH):=J (hs ▸ zam _ _)
     try rw[ht] at y
     try rw[hs] at y
     have b2:=J ((a1.block _ (zaa cn.out) (fun e=>by injection e with e;have:=a3.out.gB;have:=PB.out;omega)).trans cn.out);have bJ:Hid (QV ed pS v ⟨e0,F,K,U,M,Y,D,X,E,I⟩):=J ⟨b6.out.is.keep (fun _ h=>h) fun j Z=>a1.block j (by have:=(PS.out j Z).2.1;omega) (fun e=>by injection e with e;have:=a3.out.gB;have:=(PS.out j Z).1;omega),b6.out.bg⟩;have hG:=a1.size;have d8:=J (a3.out.call a1 d9);clear ht hs de d9 a1 a3 cn b6;obtain⟨cW,fb,bx,c5,dA⟩:=zea d8 ac;have bT:=J ((bx.block _ (zaa b2.out)).trans b2.out);have cq:Hid (QV cW pS v ⟨e0,F,K,U,M,Y,D,X,E,I⟩):=J ⟨bJ.out.is.keep (fun _ h=>h) fun j Z=>bx.block j (by have:=(PS.out j Z).2.1;omega),bJ.out.bg⟩;have he:=bx.size;have b3:=J dA;have dk:=J (c5);clear bx c5 dA d8 b2 bJ;obtain⟨eF,fs,eL⟩:=b3.out.cells
     go_wp2_with fail
     clear fb eF fs eL;refine(zau 24 ac ac.text cW).mono ?_;rintro e aa ⟨rfl,aA⟩;have hz:=J (b3.out.low aA);have bv:=J ((aA.block _ (zaa bT.out)).trans bT.out);have cl:Hid (QV aa pS v ⟨e0,F,K,U,M,Y,D,X,E,I⟩):=J ⟨cq.out.is.keep (fun _ h=>h) fun j Z=>aA.block j (by have:=(PS.out j Z).2.1;omega),cq.out.bg⟩;have hg:=aA.size;have dW:=J (dk.out.low aA);clear aA dk b3 bT cq;have ao:=zaa bv.out;have eY:N<=aa.heap.size:=by omega
     obtain⟨ab,gh,be,c9,cY⟩:=zdp (z:=W8.heap.size) dW.out ao 24 ac ac.text;have aj:=J ((be.block _ (zaa bv.out)).trans bv.out);have bR:Hid (QV ab pS v ⟨e0,F,K,U,M,Y,D,X,E,I⟩):=J ⟨cl.out.is.keep (fun _ h=>h) fun j Z=>be.block j (by have:=(PS.out j Z).2.1;omega),cl.out.bg⟩;have hH:=be.size;have an:=J cY;have hh:=be.size;have dR:=J (c9);clear be c9 cY dW bv cl;obtain⟨fX,gc,gA,eN,f6,eM,fS,eG,fF,fL⟩:=row9 an.out.row;obtain⟨p0,p1,p2,p3,p4,p5,p6,p7,p8,-⟩:=row9 aj.out;have ap:(ab.alloc (.cells #[.int .i64 e0,.string F,.int .i64 K,.slice none 0 0,.int .i64 U,.int .i64 M,.int .i64 Y,.int .i64 D,.slice X E I] 63)).heap[W8.heap.size]?=some (.cells #[.int .i64 e0,.string F,.int .i64 K,.slice none 0 0,.int .i64 U,.int .i64 M,.int .i64 Y,.int .i64 D,.slice X E I] 63 (0,0)):=(Yn _ _ _ (zaa aj.out)).trans aj.out;have ax:(ab.alloc (.cells #[.int .i64 e0,.string F,.int .i64 K,.slice none 0 0,.int .i64 U,.int .i64 M,.int .i64 Y,.int .i64 D,.slice X E I] 63)).heap[aa.heap.size]?=some (.cells (paQ 24 ac.text 0 ac.pos ac.pos 0 ac.pos (.slice none 0 0)) 63 (0,0)):=(Yn _ _ _ an.out.lt).trans an.out.row;have f0:(ab.alloc (.cells #[.int .i64 e0,.string F,.int .i64 K,.slice none 0 0,.int .i64 U,.int .i64 M,.int .i64 Y,.int .i64 D,.slice X E I] 63)).cell? ⟨W8.heap.size,7,none⟩=some (.int .i64 D):=Yp 7 ap rfl;have fT:(ab.alloc (.cells #[.int .i64 e0,.string F,.int .i64 K,.slice none 0 0,.int .i64 U,.int .i64 M,.int .i64 Y,.int .i64 D,.slice X E I] 63)).cell? ⟨aa.heap.size,5,none⟩=some (.int .i64 ac.pos):=Yp 5 ax rfl;have fC:(ab.alloc (.cells #[.int .i64 e0,.string F,.int .i64 K,.slice none 0 0,.int .i64 U,.int .i64 M,.int .i64 Y,.int .i64 D,.slice X E I] 63)).cell? ⟨aa.heap.size,7,none⟩=some (.int .i64 ac.pos):=Yp 7 ax rfl
     have fd:∀ i,(ab.alloc (.cells #[.int .i64 e0,.string F,.int .i64 K,.slice none 0 0,.int .i64 U,.int .i64 M,.int .i64 Y,.int .i64 D,.slice X E I] 63)).frozen? ⟨aa.heap.size,i,none⟩=false:=fun i=>Yj _ _ _ _ _ ax;clear ap ax;have s5:=(Yb 0 ab).setCell (p:=⟨aa.heap.size,5,none⟩) (Yk _) (.int .i64 D);have bX:=Yf ab aa.heap.size 5 _ _ (.int .i64 D) an.out.row;obtain⟨C,bq⟩:∃ C,C=((ab.setCell ⟨aa.heap.size,5,none⟩ (.int .i64 D)).alloc (.cells #[.int .i64 e0,.string F,.int .i64 K,.slice none 0 0,.int .i64 U,.int .i64 M,.int .i64 Y,.int .i64 D,.slice X E I] 63)):=⟨_,rfl⟩;have bI:C.heap[aa.heap.size]?=some (.cells (paQ 24 ac.text 0 ac.pos D 0 ac.pos (.slice none 0 0)) 63 (0,0)):=bq ▸ (Yn _ _ _ (zaa bX)).trans bX;have dN:C.heap[W8.heap.size]?=some (.cells #[.int .i64 e0,.string F,.int .i64 K,.slice none 0 0,.int .i64 U,.int .i64 M,.int .i64 Y,.int .i64 D,.slice X E I] 63 (0,0)):=bq ▸ (Yn _ _ _ (Yg (zaa aj.out) s5.size)).trans ((Ye _ _ _ _ (Nat.ne_of_lt ao)).trans aj.out);have cJ:C.cell? ⟨W8.heap.size,7,none⟩=some (.int .i64 D):=Yp 7 dN rfl;have dl:C.cell? ⟨aa.heap.size,7,none⟩=some (.int .i64 ac.pos):=Yp 7 bI rfl;have dM:C.frozen? ⟨aa.heap.size,7,none⟩=false:=Yj _ _ _ _ _ bI;rw[bq] at dl dM cJ;have cd:=an.out.lt;have E2:((ab.setCell ⟨aa.heap.size,5,none⟩ (.int .i64 D)).alloc (.cells #[.int .i64 e0,.string F,.int .i64 K,.slice none 0 0,.int .i64 U,.int .i64 M,.int .i64 Y,.int .i64 D,.slice X E I] 63)).setCell ⟨aa.heap.size,7,none⟩ (.int .i64 D)=((ab.setCell ⟨aa.heap.size,5,none⟩ (.int .i64 D)).setCell ⟨aa.heap.size,7,none⟩ (.int .i64 D)).alloc (.cells #[.int .i64 e0,.string F,.int .i64 K,.slice none 0 0,.int .i64 U,.int .i64 M,.int .i64 Y,.int .i64 D,.slice X E I] 63):=zhm _ _ _ _ _ (Yg cd s5.size)
     have E3:((ab.alloc (.cells #[.int .i64 e0,.string F,.int .i64 K,.slice none 0 0,.int .i64 U,.int .i64 M,.int .i64 Y,.int .i64 D,.slice X E I] 63)).setCell ⟨aa.heap.size,5,none⟩ (.int .i64 D)).setCell ⟨aa.heap.size,7,none⟩ (.int .i64 D)=((ab.setCell ⟨aa.heap.size,5,none⟩ (.int .i64 D)).setCell ⟨aa.heap.size,7,none⟩ (.int .i64 D)).alloc (.cells #[.int .i64 e0,.string F,.int .i64 K,.slice none 0 0,.int .i64 U,.int .i64 M,.int .i64 Y,.int .i64 D,.slice X E I] 63):=by rw[zhm _ _ _ _ _ cd];exact E2
     have bD:ab.heap.size=((ab.setCell ⟨aa.heap.size,5,none⟩ (.int .i64 D)).setCell ⟨aa.heap.size,7,none⟩ (.int .i64 D)).heap.size:=by simp
     have dY:(ab.setCell ⟨aa.heap.size,5,none⟩ (.int .i64 D)).heap[W8.heap.size]?=some (.cells #[.int .i64 e0,.string F,.int .i64 K,.slice none 0 0,.int .i64 U,.int .i64 M,.int .i64 Y,.int .i64 D,.slice X E I] 63 (0,0)):=(Ye _ _ _ _ (Nat.ne_of_lt ao)).trans aj.out;obtain⟨y0,y1,y2,y3,y4,y5,y6,y7,y8,-⟩:=row9 dY;clear bI bq dN s5 bX cd dY;obtain⟨bF,c6,cB,bh,cK⟩:∃ W2,((ab.setCell ⟨aa.heap.size,5,none⟩ (.int .i64 D)).setCell ⟨aa.heap.size,7,none⟩ (.int .i64 D))=W2∧Below (aa.heap.size) ab W2∧(∀ j,j≠aa.heap.size->j<ab.heap.size->W2.heap[j]?=ab.heap[j]?)∧W2.heap[aa.heap.size]?=some (.cells (paQ 24 ac.text 0 ac.pos D 0 D (.slice none 0 0)) 63 (0,0)) :=
      ⟨_,rfl,(((Yb _ _).setCell (p:=⟨aa.heap.size,5,none⟩) (Ya _) _).setCell (p:=⟨aa.heap.size,7,none⟩) (Ya _) _),fun j Z _=>(Ye _ _ _ _ Z).trans ((Ye _ _ _ _ Z).trans (rfl)),Yf _ _ 7 _ _ _ (Yf _ _ 5 _ _ _ (an.out.row))⟩
     obtain⟨dX,dK⟩:=zj6 dR an bF cB bh 24 ac.text 0 ac.pos D 0 D cK;have co:=J dK;have bo:=J ((bh _ (Nat.ne_of_lt ao) (zaa aj.out)).trans aj.out);have d2:Hid (QV bF pS v ⟨e0,F,K,U,M,Y,D,X,E,I⟩):=J ⟨bR.out.is.keep (fun _ h=>h) fun j Z=>bh j (by have:=(PS.out j Z).2.1;omega) (by have:=(PS.out j Z).2.1;omega),bR.out.bg⟩;have hM:=cB.size;have ew:=J (dX);clear dX dK cB bh cK dR an aj bR;rw[c6] at E2 E3 bD;have ef:=J bD;clear bD;have a6:bF.heap[W8.heap.size]?=some (.cells #[.int .i64 e0,.string F,.int .i64 K,.slice none 0 0,.int .i64 U,.int .i64 M,.int .i64 Y,.int .i64 D,.slice X E I] 63 (0,0)):=bo.out;obtain⟨u0,u1,u2,u3,u4,u5,u6,u7,u8,-⟩:=row9 a6;clear a6;obtain⟨fH,fK,cD,dV,c8,d0,fk,dg⟩:=ze0 ew co (v:=v) (e:=⟨e0,F,K,U,M,Y,D,X,E,I⟩) (S:=pS) d2.out (fun j Z=>by have hp:=PS.out j Z;have:=co.out.lt;exact⟨hp.1,by omega,by omega,hp.2.2⟩)
     dsimp only[Qe.cells,paQ] at fH fK dV
     have fx:=dV;rw[<-ef.out] at fx;have da:=J d0;have cc:=J ((dg _ (Nat.ne_of_lt ao) (zaa bo.out)).trans bo.out);have dF:=J (c8);clear c8 d0 fk dg ew co bo d2;obtain⟨er,dq⟩:∃ V,cD.drew=V:=⟨_,rfl⟩;have aM:Below cD.heap.size cD er:=dq ▸ (Yb _ _).drew;have cx:=J (da.out.below aM);have cj:=J ((aM.block _ (zaa cc.out)).trans cc.out);have gK:=aM.size;have cS:=J (dF.out.low aM);clear aM dF da cc
     go_wp2_with fail
     apply join1 er
     rotate_left
     ·intro hc;have HC:=J hc;clear hc
      go_region
      all_goals (try rw[<-ef.out])
      all_goals (exact HC)
     clear dq;clear gh fX gc gA eN f6 eM fS eG fF fL f0 fT fC fd cJ dl dM E2 E3 c6;obtain⟨fa,fR,fp,fm,eV,gd,gr,fg,eP,fU⟩:=row9 cx.out.row
     go_wp2_with fail
     clear fa fR fp fm eV gd gr fg eP fU;obtain⟨h9,ho,g3,fO,db⟩:=zbf cS cx;injection fO with u1 u2 u3;subst u1 u2 u3;refine db.mono ?_;rintro e gR ⟨hu,rfl,b0,ec,dh⟩;have ek:=J dh;have ey:=J ((b0.block _ (zaa cj.out)).trans cj.out);have gN:=b0.size;have ez:=J (ec);clear db b0 ec dh cS cx cj;obtain⟨hw,gX,fE,dU,cX⟩:=zhk ez PB.out ey.out ek;have ar:=J cX;have ck:=J (dU);clear fE dU cX ez ek ey;have ag:=J (zdo ck.out.hR)
     go_wp2
     go_round
     case rel=>exact⟨_,_,m,_,_,ck.out,ar.out,y.out,by omega⟩
     case measure=>
      rw[ag.out,a9.out];exact ze5 ak a7 ck.out.hR.le (gj.out.trans gC.out.le)
   ·skip
    replace y:=J (if_f y (fun h=>by cases h))
    obtain⟨h0,h1,h2,h3,h4,h5,h6,h7,h8,-⟩:=row9 PR.out;have HP:=J (ze6 ae (v:=v) (e:=⟨e0,F,K,U,M,Y,D,X,E,I⟩) ⟨PV.out.is.keep (fun j Z=>⟨(PS.out j Z).1,by have:=(PS.out j Z).2.1;omega⟩) fun _ _=>rfl,PV.out.bg⟩)
    go_wp2_with (refine zed (by rfl) (.tmp 2) (.tmp 120) (by rfl) ⟨e0,F,K,U,M,Y,D,X,E,I⟩ (by rfl) (by rfl) ae.out.hZ (by rfl) ?_)
    have hx:=Yl y;exact zao Tryz.results149 rfl (zad ae.out.hZ) (hx ▸ HP.out)
end
section
variable {T:Nat}{w W0 W W':World}{g:Nat}{st:Option Addr}{cap:Nat}{ts:List Tok}{s s':Qs}
theorem zlm {b z:Nat}{k:Int}{x:ByteArray}{n a f t bg:Int}{v:Value}{l:List Pt}{vx:Qv}{e:Qe}{S:Nat->Prop}(h:Fr T w W0 W g st cap ts s)(hQ:Qk W0.heap.size z W b k x n a f t bg v l)(hl:l.length<=200000)(hg:W.grownBy W' (some g))(hR:QdS T W' g st cap ts s')(hv:QV W' S vx e)
  (hS:∀ j,S j->W0.heap.size<=j∧j<W.heap.size∧j≠b∧j≠z∧v.ownBlock≠some j) :
  W'.cell? ⟨b,8,none⟩=some v∧(W'.alloc (.cells e.cells 63)).cell? ⟨b,8,none⟩=some v ∧
  ∃ v' w1 W2,(Builtin.append_ #[61,61] 61 #[v,.slice (some ⟨W'.heap.size,0,none⟩) 1 1]).run Tryz.prog (W'.alloc (.cells e.cells 63))=.ok v' w1∧w1.cell? ⟨b,8,none⟩=some v∧w1.frozen? ⟨b,8,none⟩=false ∧
   w1.setCell ⟨b,8,none⟩ v'=W2∧Fr T w W0 W2 g st cap ts s'∧Qk W0.heap.size z W2 b k x n a f t bg v' (l++[vx.pt])∧(z≠b->W2.heap[z]?=W'.heap[z]?)∧W'.heap.size<=W2.heap.size ∧
   ∀ c,c≠g->c≠b->c<W.heap.size->v.ownBlock≠some c->W'.heap[c]?=W.heap[c]?∧(W'.alloc (.cells e.cells 63)).heap[c]?=W.heap[c]?∧w1.heap[c]?=W.heap[c]?∧W2.heap[c]?=W.heap[c]?:=by
 have A:=hQ.grow h.gB hg;have Z:=h.call hg hR;have hb:=hQ.lt;have ae:=A.lt;have hs:=hg.size;have y:Below W'.heap.size W' (W'.alloc (.cells e.cells 63)):=(Yb _ _).alloc (Ya _) _;have K:=A.below y;have V:∀ j,S j->W0.heap.size<=j∧j<(W'.alloc (.cells e.cells 63)).heap.size∧j≠b∧j≠z∧v.ownBlock≠some j:=fun j C=>by
  have h3:=y.size;have M:=hS j C;exact⟨M.1,by omega,M.2.2⟩
 obtain⟨v',w1,U,F,q3,q4,I,-⟩:=K.app 61 (Yd _ _) (hv.is.keep (fun _ h=>h) fun j C=>y.block j (by have:=hS j C;omega)) V hl;have ac:=y.size;refine⟨Yp 8 A.row rfl,Yp 8 K.row rfl,v',w1,_,U,Yp 8 F rfl,Yj _ _ _ _ _ F,rfl,(Z.low y).on q3,q4,fun hz=>?_,Yo y.size q3.size,fun c Y X ab aa=>?_⟩
 ·have h2:=A.hz;exact(Ye _ _ _ _ hz).trans ((I.block z (by have:=y.size;omega) (fun e=>hQ.oz e.symm)).trans (y.block z h2))
 ·have E:W'.heap[c]?=W.heap[c]?:=hg.block c ab (fun e=>Y (by injection e));have N:(W'.alloc (.cells e.cells 63)).heap[c]?=W.heap[c]?:=(y.block c (by omega)).trans E;have D:w1.heap[c]?=W.heap[c]?:=(I.block c (by omega) (fun e=>aa e.symm)).trans N;exact⟨E,N,D,(Ye _ _ _ _ X).trans D⟩
theorem z3w {b z:Nat}{k:Int}{x:ByteArray}{n a f t bg:Int}{v:Value}{l:List Pt}(h:Fr T w W0 W g st cap ts s)(hQ:Qk W0.heap.size z W b k x n a f t bg v l) :
  ∃ sp len cp,v=.slice sp len cp∧Calls Tryz.prog 49 #[.pointer (some ⟨g,0,none⟩),.agg (paQ k x n a f t bg (.slice sp len cp))] W fun e W'=>∃ q:Qe,e=.returned (.agg q.cells)∧QV W' (fun j=>W0.heap.size<=j∧j<W.heap.size∧j≠z) ⟨k,x,n,a,f,behI ts s.p,bg,l⟩ q∧W.grownBy W' (some g)∧QdS T W' g st cap ts s:=by
 obtain⟨sp,len,cp,C,D⟩:=hQ.fin;refine⟨sp,len,cp,C,(zgd ⟨k,x,n,a,f,t,bg,sp,len,cp⟩ h.hR).mono ?_⟩;rintro e W' ⟨rfl,A⟩;exact⟨_,rfl,⟨D.ends.keep (fun j y=>y) fun j y=>A.block _ y.2.1,rfl⟩,zae A,h.hR.low A⟩
theorem z0v (k:Int)(x:ByteArray)(n a f t bg:Int)(h:Fr T w W0 W g st cap ts s) :
  Calls Tryz.prog 49 #[.pointer (some ⟨g,0,none⟩),.agg (paQ k x n a f t bg (.slice none 0 0))] W fun e W'=>∃ q:Qe,e=.returned (.agg q.cells)∧QV W' (fun _=>False) ⟨k,x,n,a,f,behI ts s.p,bg,[]⟩ q∧W.grownBy W' (some g)∧QdS T W' g st cap ts s:=by
 refine(zgd ⟨k,x,n,a,f,t,bg,none,0,0⟩ h.hR).mono ?_;rintro e W' ⟨rfl,y⟩;exact⟨_,rfl,zeg _ _ _ _ _ _ _,zae y,h.hR.low y⟩
structure R18 (W:World) (g:Nat) (st:Option Addr) (cap:Nat) (ts:List Tok) (s:Qs) (bt:Nat) (t:Tok):Prop where
 t0:W.cell? ⟨bt,0,none⟩=some (.int .i64 t.kind)
 t1:W.cell? ⟨bt,1,none⟩=some (.string t.text)
 c0:W.cell? ⟨g,0,none⟩=some (.slice st ts.length cap)
 c1:W.cell? ⟨g,1,none⟩=some (.int .i64 s.p)
 nx:s.p+1<ts.length->∀ b o,st=some ⟨b,o,none⟩->W.cell? ⟨b,o+(s.p+1) * 3,none⟩=some (.int .i64 (nxT ts (s.p+1)).kind)∧W.cell? ⟨b,o+(s.p+1) * 3+1,none⟩=some (.string (nxT ts (s.p+1)).text)
theorem zym {bt:Nat}{t:Tok}(h:Tl W0 W bt t)(hR:QdS T W g st cap ts s):R18 W g st cap ts s bt t:=by
 refine⟨h.cells.1,h.cells.2.1,hR.c0,hR.c1,fun y b o e=>?_⟩;obtain⟨C,A,E,F,I,-⟩:=hR.tok y;have D:(⟨b,o,none⟩:Addr)=⟨C,A,none⟩:=Yl (e.symm.trans E);injection D with e3 e4;subst e3 e4;exact⟨F,I⟩
theorem z3x (p:Nat)(l:List UInt8):isT ts p l=((nxT ts p).text.data.toList == l):=rfl
theorem z3y (X:ByteArray)(h:QdS T W g st cap ts s):(takT ts X s).text.size<=100000:=by
 unfold takT
 split
 ·exact by decide
 ·exact h.sz
end
end Go.Proofs.YtmclgbkijeidaaaGreatDoor
