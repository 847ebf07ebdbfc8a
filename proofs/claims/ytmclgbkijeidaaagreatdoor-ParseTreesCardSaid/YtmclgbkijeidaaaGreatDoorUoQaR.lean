import Derived.Test.YtmclgbkijeidaaaGreatDoorUob
namespace Go.Proofs.YtmclgbkijeidaaaGreatDoor
set_option maxRecDepth 100000
set_option maxHeartbeats 4000000
open Go.RowKit
section
variable {T:Nat}{w W0 W W':World}{g:Nat}{st:Option Addr}{cap:Nat}{ts:List Tok}{s s':Qs}
abbrev PrQ (T:Nat) (g:Nat) (st:Option Addr) (cap:Nat) (ts:List Tok) (m:Nat):Prop:=∀ (w:World) s r,(dns ts m).prim s=some r->QdS T w g st cap ts s->Calls Tryz.prog 164 #[.pointer (some ⟨g,0,none⟩)] w (QoP T w g st cap ts r)
theorem zqj {n:Nat}{r:Qv × Qs}(hB:s.bad=false)(hU:UnQ T g st cap ts n)(hP:∀ m,m<n->PrQ T g st cap ts m)(hE:∀ m,m<n->ExQ T g st cap ts (dns ts m))(hR:QdS T w g st cap ts s)(hX:(dns ts (n+1)).una s=some r):Calls Tryz.prog 149 #[.pointer (some ⟨g,0,none⟩)] w (QoP T w g st cap ts r):=by
 have HF:=J (zcu hR);have kW:=hR.few;have ki:=hR.le;clear hR;have iR:=J hB;have HU:=J hU;have iJ:=J hP;have HE:=J hE;clear hE hU hP hB;rw[zmy] at hX;have y:=J hX;clear hX
 go_enter Tryz.func149,Tryz.ntmps149
 go_wp2_with fail
 refine zag (fun W=>Fr T w W W g st cap ts s) HF.out ?_;intro W0 hF;clear HF;have HF:=J hF;clear hF;refine(zbk HF.out.hR).mono ?_;rintro e W1 ⟨rfl,b1⟩;obtain⟨t1,Y⟩:∃ t,nxQ ts s.p=t:=⟨_,rfl⟩;rw[Y];have kq:=J Y;have jZ:=J (Y ▸ HF.out.hR.sz)
 try rw[Y] at y
 have fj:=J (HF.out.low b1);clear Y b1 HF;obtain⟨W4,gC,b4,f4,l4⟩:=zea fj t1;have eL:=J l4;have bv:=J (f4);clear b4 f4 l4 fj;obtain⟨dq,bH⟩:∃ b,s.bad=b:=⟨_,rfl⟩;have ga:W4.cell? ⟨g,2,none⟩=some (.bool dq):=bH ▸ bv.out.hR.c2;rw[bH] at y;have al:=J bH;clear bH
 cases dq
 ·skip
  go_wp2_with fail
  clear gC ga;refine(zas ⟨#[45]⟩ bv.out.hR).mono ?_;rintro e W8 ⟨rfl,b8⟩;obtain⟨i8,hi⟩:∃ b,isQ ts s.p ⟨#[45]⟩=b:=⟨_,rfl⟩;rw[hi];have ao:=J hi
  try rw[hi] at y
  have a6:=J (eL.out.low b8);have aB:=J (bv.out.low b8);clear hi b8 bv eL
  cases i8
  ·skip
   go_wp2_with fail
   refine(zas ⟨#[33]⟩ aB.out.hR).mono ?_;rintro e iB ⟨rfl,dg⟩;obtain⟨je,hi⟩:∃ b,isQ ts s.p ⟨#[33]⟩=b:=⟨_,rfl⟩;rw[hi];have ao:=J hi
   try rw[hi] at y
   have cH:=J (a6.out.low dg);have au:=J (aB.out.low dg);clear hi dg aB a6
   cases je
   ·skip
    replace y:=J (if_f y (fun h=>by cases h))
    cases n with
    | zero=>exact absurd y (by intro h;cases h)
    | succ n=>
    have hX:=y.out;rw[zj3] at hX
    replace y:=J hX
    clear hX
    go_wp2_with fail
    rcases hk14:(dns ts n).prim s with _|⟨v14,s14⟩
    ·exact absurd y (by rw[hk14];intro h;cases h)
    rw[hk14] at y
    try simp only[Option.bind_some] at y
    refine(((fun hk=>iJ.out n (Nat.lt_succ_self _) _ _ _ hk au.out.hR) hk14)).mono ?_;rintro e ae ⟨jQ,rfl,dZ,cU,dK⟩;have em:=J dZ;have jH:=cU.size;have f1:=J (au.out.call cU dK);have kj:=au.out.size;clear hk14 dZ cU dK au;obtain⟨kg,jl,gE,er,fb⟩:=zpl f1 (A:=iB) (by omega) em.out;have fd:=J fb;have fA:=J er;clear gE er fb em f1
    go_wp2_with fail
    clear jl;have aN:=J y;clear y
    go_loopw [] (fun wr=>∃ (v:Qv) (q:Qs) (m N:Nat) (e:Qe),Fr T w W0 wr g st cap ts q∧Vl W0 wr (ae.heap.size) N v e∧(dns ts m).posL v q=some r∧m<=n) (fun wr=>muQ ts g wr)
    case atStart=>exact⟨_,_,n,_,_,fA.out,fd.out,aN.out,Ya _⟩
    case round=>
     obtain⟨v,q,m,N,e,hF,hV,hm,iK⟩:=hrel;have af:=J hF;have bk:=J (zdo hF.hR);have bj:q.p<=ts.length:=hF.hR.le;have pR:=hV.row;have PB:=J hV.hB;have kF:=zaa hV.row;have hN:=hV.hN;obtain⟨pS,pV,ej⟩:=hV.ex;have PV:=J pV;have PS:=J ej;have PR:=J pR;clear hF hV pV ej pR fA fd aN
     cases m with
     | zero=>cases hm
     | succ m=>
     rw[zj4] at hm;have y:=J hm;clear hm;obtain⟨e0,I,K,M,Z,e5,D,e7,U,X⟩:=e;obtain⟨eU,bu⟩:∃ b,q.bad=b:=⟨_,rfl⟩;have gM:wr.cell? ⟨g,2,none⟩=some (.bool eU):=bu ▸ af.out.hR.c2;rw[bu] at y;have al:=J bu;clear bu
     cases eU
     ·skip
      go_wp2_with fail
      clear gM;refine(zas ⟨#[46]⟩ af.out.hR).mono ?_;rintro e jh ⟨rfl,a9⟩;obtain⟨id,hi⟩:∃ b,isQ ts q.p ⟨#[46]⟩=b:=⟨_,rfl⟩;rw[hi];have ao:=J hi
      try rw[hi] at y
      have aK:=J ((a9.block _ (zaa PR.out)).trans PR.out);have az:Hid (QV jh pS v ⟨e0,I,K,M,Z,e5,D,e7,U,X⟩):=J ⟨PV.out.is.keep (fun _ h=>h) fun j E=>a9.block j (by have:=(PS.out j E).2.1;omega),PV.out.bg⟩;have j4:=a9.size;have aF:=J (af.out.low a9);clear hi a9 af PR PV
      cases id
      ·skip
       have hG:=ao
       go_wp2_with fail
       refine(zas ⟨#[40]⟩ aF.out.hR).mono ?_;rintro e ib ⟨rfl,bb⟩;obtain⟨iE,hi⟩:∃ b,isQ ts q.p ⟨#[40]⟩=b:=⟨_,rfl⟩;rw[hi];have ao:=J hi
       try rw[hi] at y
       have bB:=J ((bb.block _ (zaa aK.out)).trans aK.out);have aL:Hid (QV ib pS v ⟨e0,I,K,M,Z,e5,D,e7,U,X⟩):=J ⟨az.out.is.keep (fun _ h=>h) fun j E=>bb.block j (by have:=(PS.out j E).2.1;omega),az.out.bg⟩;have k8:=bb.size;have aJ:=J (aF.out.low bb);clear hi bb aF aK az
       cases iE
       ·skip
        replace y:=J (if_f y (fun h=>by cases h))
        obtain⟨h0,h1,h2,h3,h4,h5,h6,h7,h8,-⟩:=row9 bB.out;have HP:=J (ze6 aJ (v:=v) (e:=⟨e0,I,K,M,Z,e5,D,e7,U,X⟩) ⟨aL.out.is.keep (fun j E=>⟨(PS.out j E).1,by have:=(PS.out j E).2.1;omega⟩) fun _ _=>rfl,aL.out.bg⟩)
        go_wp2_with (refine zed (by rfl) (.tmp 2) (.tmp 120) (by rfl) ⟨e0,I,K,M,Z,e5,D,e7,U,X⟩ (by rfl) (by rfl) aJ.out.hZ (by rfl) ?_)
        have hx:=Yl y;exact zao Tryz.results149 rfl (zad aJ.out.hZ) (hx ▸ HP.out)
       ·skip
        replace y:=J (if_t y (by first|rfl|trivial))
        rw[<-(show D=v.bg from aL.out.bg)] at y
        go_wp2_with fail
        refine(zas ⟨#[46]⟩ aJ.out.hR).mono ?_;rintro e iU ⟨rfl,a0⟩;rw[hG.out];have da:=J ((a0.block _ (zaa bB.out)).trans bB.out);have bZ:Hid (QV iU pS v ⟨e0,I,K,M,Z,e5,D,e7,U,X⟩):=J ⟨aL.out.is.keep (fun _ h=>h) fun j E=>a0.block j (by have:=(PS.out j E).2.1;omega),aL.out.bg⟩;have ka:=a0.size;have a1:=J (aJ.out.low a0);clear a0 aJ bB aL
        replace y:=J (if_f y (fun h=>by cases h))
        go_wp2_with fail
        refine(zah ⟨#[40]⟩ a1.out.hR).mono ?_;rintro e ag ⟨rfl,be,ey⟩;obtain⟨jq,Y⟩:∃ t,takT ts ⟨#[40]⟩ q=t:=⟨_,rfl⟩;obtain⟨aZ,F⟩:∃ s2,takS ts ⟨#[40]⟩ q=s2:=⟨_,rfl⟩;rw[show takT ts ⟨#[40]⟩ ⟨q.p,q.bad⟩=jq from Y];have fi:QdS T ag g st cap ts aZ:=F ▸ ey;have bw:Hid (LtQ q aZ):=J (F ▸ zam _ _)
        try rw[Y] at y
        try rw[F] at y
        have bE:=J ((be.block _ (zaa da.out) (fun e=>by injection e with e;have:=a1.out.gB;have:=PB.out;omega)).trans da.out);have ea:Hid (QV ag pS v ⟨e0,I,K,M,Z,e5,D,e7,U,X⟩):=J ⟨bZ.out.is.keep (fun _ h=>h) fun j E=>be.block j (by have:=(PS.out j E).2.1;omega) (fun e=>by injection e with e;have:=a1.out.gB;have:=(PS.out j E).1;omega),bZ.out.bg⟩;have j0:=be.size;have dF:=J (a1.out.call be fi);clear Y F ey fi be a1 da bZ;have aX:ag.heap[ae.heap.size]?=some (.cells #[.int .i64 e0,.string I,.int .i64 K,.slice none 0 0,.int .i64 M,.int .i64 Z,.int .i64 e5,.int .i64 D,.slice e7 U X] 63 (0,0)):=bE.out;obtain⟨p0,p1,p2,p3,p4,p5,p6,p7,p8,-⟩:=row9 aX;clear aX;have ar:=zaa bE.out;have ie:N<=ag.heap.size:=by omega
        have bU:=J (zvd dF ar (v:=v) (e:=⟨e0,I,K,M,Z,e5,D,e7,U,X⟩) ea.out (fun j E=>by have hp:=PS.out j E;exact⟨hp.1,by omega,hp.2.2⟩) 25 ⟨#[]⟩ 0 D D 0 D);have fN:=J ((zep ag (.cells (⟨e0,I,K,M,Z,e5,D,e7,U,X⟩:Qe).cells 63) (.cells (paQ 25 ⟨#[]⟩ 0 D D 0 D (.slice (some ⟨ag.heap.size,0,none⟩) 1 1)) 63)).block _ ar)
        go_wp2_with fail
        clear p0 p1 p2 p3 p4 p5 p6 p7 p8;refine zdq (fun W2=>Fr T w W0 W2 g st cap ts aZ∧Qk W0.heap.size (ae.heap.size) W2 (ag.heap.size+1) 25 ⟨#[]⟩ 0 D D 0 D (.slice (some ⟨ag.heap.size,0,none⟩) 1 1) [v.pt]∧W2.heap[ae.heap.size]?=some (.cells #[.int .i64 e0,.string I,.int .i64 K,.slice none 0 0,.int .i64 M,.int .i64 Z,.int .i64 e5,.int .i64 D,.slice e7 U X] 63 (0,0))) ⟨bU.out.1,bU.out.2,fN.out.trans bE.out⟩ ?_;rintro Wn ⟨fn,qn,rn⟩;have fy:=J fn;have dl:=J qn;have fm:=J rn;have iw:ae.heap.size<ag.heap.size+1:=by omega
        have b9:=bk;have c6:=al;have bV:=bj;clear fn qn rn bU fN dF bE ea
        go_wp2_with fail
        rcases hk35:(dns ts m).argL [v.pt] aZ with _|⟨lf,sf⟩
        ·exact absurd y (by rw[hk35];intro h;cases h)
        rw[hk35] at y;simp only[Option.bind_some] at y;have aN:=J hk35;have HO:=y;clear y hk35
        go_loopw [] (fun wr=>∃ (l2:List Pt) (q2:Qs) (v2:Value) (m2:Nat),Fr T w W0 wr g st cap ts q2∧Qk W0.heap.size (ae.heap.size) wr ((ag.heap.size+1)) 25 ⟨#[]⟩ 0 D D 0 D v2 l2∧(dns ts m2).argL l2 q2=some (lf,sf)∧m2<=m∧Few l2 q2∧wr.heap[ae.heap.size]?=some (.cells #[.int .i64 e0,.string I,.int .i64 K,.slice none 0 0,.int .i64 M,.int .i64 Z,.int .i64 e5,.int .i64 D,.slice e7 U X] 63 (0,0))∧LeQ aZ q2) (fun wr=>muQ ts g wr)
        case atStart=>exact⟨_,_,_,_,fy.out,dl.out,aN.out,Ya _,⟨by simp,fun hb=>by have h:=bw.out.2;rw[hb] at h;simp at h;simp;omega⟩,fm.out,LeQ.rfl _⟩
        case round=>
         obtain⟨l2,q2,v2,m2,hF,hQ,hm,iK,dh,et,eA⟩:=hrel;have af:=J hF;have bJ:=J hQ;have bA:=J dh;have bk:=J (zdo hF.hR);have bj:q2.p<=ts.length:=hF.hR.le;have aH:=J et;have a8:=J eA;obtain⟨i3,ia,gG,hv⟩:=hQ.sl;subst hv;clear hF hQ dh fy dl aN et eA
         cases m2 with
         | zero=>cases hm
         | succ m2=>
         rw[zj5] at hm;have y:=J hm;clear hm;clear fm;obtain⟨eN,bn⟩:∃ b,q2.bad=b:=⟨_,rfl⟩;have d6:wr.cell? ⟨g,2,none⟩=some (.bool eN):=bn ▸ af.out.hR.c2;rw[bn] at y;have al:=J bn;clear bn
         cases eN
         ·skip
          go_wp2_with fail
          clear d6;refine(zas ⟨#[41]⟩ af.out.hR).mono ?_;rintro e aA ⟨rfl,a3⟩;obtain⟨ik,hi⟩:∃ b,isQ ts q2.p ⟨#[41]⟩=b:=⟨_,rfl⟩;rw[hi];have ao:=J hi
          try rw[hi] at y
          have bI:=J (bJ.out.below a3);have aD:=J ((a3.block _ (zaa aH)).trans aH);have kl:=a3.size;have aq:=J (af.out.low a3);clear hi a3 af bJ aH
          cases ik
          ·skip
           replace y:=J (if_t y (by first|rfl|trivial))
           go_wp2_with (fail)
           rcases hk41:(dns ts m2).row 1 q2 with _|⟨v41,s41⟩
           ·exact absurd y (by rw[hk41];intro h;cases h)
           rw[hk41] at y;simp only[Option.bind_some] at y;have aC:=J ((lst (ts:=ts) _).row _ _ _ _ hk41);have cD:=J aq;have cA:Below aA.heap.size aA aA.drew:=(Yb _ _).drew;have a5:=J (aq.out.low cA);have bF:=J (bI.out.below cA);have dd:=J (fun (h:QdS T aA.drew g st cap ts q2)=>(fun hk=>HE.out m2 (by omega) aA.drew _ _ hk h) hk41);clear hk41 cA aq bI;have jb:aA.drew.cell? ⟨(ag.heap.size+1),8,none⟩=some (.slice i3 ia gG):=Yp 8 bF.out.row rfl;apply zb8 (fun y0 y1 y2 y3 y4 y5 y6 y7 y8 y9 Wy sp sn sc Wz=>Fr T w W0 Wz g st cap ts s41∧Qk W0.heap.size (ae.heap.size) Wz ((ag.heap.size+1)) 25 ⟨#[]⟩ 0 D D 0 D (.slice sp sn sc) (l2++[v41.pt])∧aA.drew.grownBy Wy (some g)∧((ae.heap.size)≠(ag.heap.size+1)->Wz.heap[ae.heap.size]?=Wy.heap[ae.heap.size]?)∧Wy.heap.size<=Wz.heap.size)
           rotate_left
           ·intro hc;refine zbc (S:=fun _=>Hid True) 8 rfl (by kernel_rfl) ?_;refine zal 0 99 (.pointer (some ⟨(ag.heap.size+1),8,none⟩)) rfl (by kernel_rfl) (fun _ _ _ h=>h) (fun w' _=>by first|rfl|(go_simp;done) | (go_simp;rw[Yi];omega)) (J trivial) ?_;simp only[sI,sS,sZ];refine zal 2 101 (.pointer (some ⟨g,0,none⟩)) rfl (by kernel_rfl) (fun _ _ _ h=>h) (fun w' _=>by first|rfl|(go_simp;done) | (go_simp;rw[Yi];omega)) (J trivial) ?_;simp only[sI,sS,sZ];refine wpAnyH_all (rs:=[1,3]) (by kernel_rfl) (by simp) fun i hi=>?_;simp only[List.mem_cons,List.not_mem_nil,or_false] at hi;rcases hi with rfl|rfl
            ·skip
             refine zan rfl rfl ?_
             go_simp
             refine⟨J trivial,?_⟩;refine zac 3 rfl (by kernel_rfl) ?_
             go_simp
             refine(dd a5.out.hR).mono ?_;rintro e bC ⟨⟨y0,y1,y2,y3,y4,y5,y6,y7,y8,y9⟩,rfl,q41,g41,r41⟩;obtain⟨ck,cp,v2,w1,Wz,ha,ce,cf,cw,aQ,av,aY,aW⟩:=zb3 a5 bF ((Yo (bA.out.lt cD.out.hR) (by omega))) g41 r41 q41;obtain⟨cn,cK,b3,c5⟩:=av.sl;subst c5;have bm:=J (hc y0 y1 y2 y3 y4 y5 y6 y7 y8 y9 bC cn cK b3 Wz ⟨aQ,av,g41,aY,aW⟩)
             dsimp only[Qe.cells,paQ] at ck cp ha ce cf cw
             unfold Qe.cells paQ;clear aQ av aY q41 g41 r41 aW;refine⟨J trivial,?_⟩;refine zac 4 rfl (by kernel_rfl) ?_
             go_simp
             refine⟨J trivial,?_⟩;refine zac 5 rfl (by kernel_rfl) ?_;refine zaf (.tmp 100) (.tmp 103) 61 rfl rfl rfl ha ?_;refine⟨J trivial,?_⟩;simp only[Act.put,sI,sS,sZ];refine zal 6 105 (.pointer (some ⟨(ag.heap.size+1),8,none⟩)) rfl (by kernel_rfl) (fun _ _ _ h=>h) (fun w' _=>by first|rfl|(go_simp;done) | (go_simp;rw[Yi];omega)) (J trivial) ?_;simp only[sI,sS,sZ];refine zac 7 rfl (by kernel_rfl) ?_
             go_simp
             refine⟨J trivial,?_⟩;refine wpAnyH_done (by kernel_rfl) ?_ _;exact bm
            ·skip
             refine zan rfl rfl ?_
             go_simp
             refine(dd a5.out.hR).mono ?_;rintro e bC ⟨⟨y0,y1,y2,y3,y4,y5,y6,y7,y8,y9⟩,rfl,q41,g41,r41⟩;obtain⟨ck,cp,v2,w1,Wz,ha,ce,cf,cw,aQ,av,aY,aW⟩:=zb3 a5 bF ((Yo (bA.out.lt cD.out.hR) (by omega))) g41 r41 q41;obtain⟨cn,cK,b3,c5⟩:=av.sl;subst c5;have bm:=J (hc y0 y1 y2 y3 y4 y5 y6 y7 y8 y9 bC cn cK b3 Wz ⟨aQ,av,g41,aY,aW⟩)
             dsimp only[Qe.cells,paQ] at ck cp ha ce cf cw
             unfold Qe.cells paQ;clear aQ av aY q41 g41 r41 aW;refine⟨J trivial,?_⟩;refine wpAnyH_all (rs:=[1,4]) (by kernel_rfl) (by simp) fun i hi=>?_;simp only[List.mem_cons,List.not_mem_nil,or_false] at hi;rcases hi with rfl|rfl
             ·skip
              refine zan rfl rfl ?_
              go_simp
              refine⟨J trivial,?_⟩;refine zac 4 rfl (by kernel_rfl) ?_
              go_simp
              refine⟨J trivial,?_⟩;refine zac 5 rfl (by kernel_rfl) ?_;refine zaf (.tmp 100) (.tmp 103) 61 rfl rfl rfl ha ?_;refine⟨J trivial,?_⟩;simp only[Act.put,sI,sS,sZ];refine zal 6 105 (.pointer (some ⟨(ag.heap.size+1),8,none⟩)) rfl (by kernel_rfl) (fun _ _ _ h=>h) (fun w' _=>by first|rfl|(go_simp;done) | (go_simp;rw[Yi];omega)) (J trivial) ?_;simp only[sI,sS,sZ];refine zac 7 rfl (by kernel_rfl) ?_
              go_simp
              refine⟨J trivial,?_⟩;refine wpAnyH_done (by kernel_rfl) ?_ _;exact bm
             ·skip
              refine zan rfl rfl ?_
              go_simp
              refine⟨J trivial,?_⟩;refine zac 1 rfl (by kernel_rfl) ?_
              go_simp
              refine⟨J trivial,?_⟩;refine zac 5 rfl (by kernel_rfl) ?_;refine zaf (.tmp 100) (.tmp 103) 61 rfl rfl rfl ha ?_;refine⟨J trivial,?_⟩;simp only[Act.put,sI,sS,sZ];refine zal 6 105 (.pointer (some ⟨(ag.heap.size+1),8,none⟩)) rfl (by kernel_rfl) (fun _ _ _ h=>h) (fun w' _=>by first|rfl|(go_simp;done) | (go_simp;rw[Yi];omega)) (J trivial) ?_;simp only[sI,sS,sZ];refine zac 7 rfl (by kernel_rfl) ?_
              go_simp
              refine⟨J trivial,?_⟩;refine wpAnyH_done (by kernel_rfl) ?_ _;exact bm
           intro y0 y1 y2 y3 y4 y5 y6 y7 y8 y9 bC k4 kk jM jG gZ;obtain⟨dj,ei,d1,d9,kY⟩:=gZ;have eV:=J ei;have dY:=J d1;have dt:=J d9;have bx:=J (dj);clear dj ei d1 d9 a5 bF jb dd cD;have cg:=J ((dt (Nat.ne_of_lt iw)).trans ((dY.out.block _ (zaa aD.out) (fun e=>by injection e with e;have:=bx.out.gB;have:=PB.out;omega)).trans aD.out));clear aD dY dt
           go_wp2_with fail
           refine(zas ⟨#[41]⟩ bx.out.hR).mono ?_;rintro e jE ⟨rfl,aV⟩;obtain⟨hW,hi⟩:∃ b,isQ ts s41.p ⟨#[41]⟩=b:=⟨_,rfl⟩;rw[hi];have ao:=J hi
           try rw[hi] at y
           have bt:=J (eV.out.below aV);have aI:=J ((aV.block _ (zaa cg.out)).trans cg.out);have k6:=aV.size;have aj:=J (bx.out.low aV);clear hi aV bx eV cg
           cases hW
           ·skip
            replace y:=J (if_f y (fun h=>by cases h))
            go_wp2_with fail
            refine(zah ⟨#[44]⟩ aj.out.hR).mono ?_;rintro e gU ⟨rfl,bl,dr⟩;obtain⟨gj,Y⟩:∃ t,takT ts ⟨#[44]⟩ s41=t:=⟨_,rfl⟩;obtain⟨am,F⟩:∃ s2,takS ts ⟨#[44]⟩ s41=s2:=⟨_,rfl⟩;rw[show takT ts ⟨#[44]⟩ ⟨s41.p,s41.bad⟩=gj from Y];have ev:QdS T gU g st cap ts am:=F ▸ dr;have aE:Hid (LtQ s41 am):=J (F ▸ zam _ _)
            try rw[Y] at y
            try rw[F] at y
            have f2:=J (bt.out.grow aj.out.gB bl);have bM:=J ((bl.block _ (zaa aI.out) (fun e=>by injection e with e;have:=aj.out.gB;have:=PB.out;omega)).trans aI.out);have j2:=bl.size;have cC:=J (aj.out.call bl ev);clear Y F dr ev bl aj bt aI
            go_wp2_with fail
            refine(zas ⟨#[41]⟩ cC.out.hR).mono ?_;rintro e cL ⟨rfl,aM⟩;obtain⟨hD,hi⟩:∃ b,isQ ts am.p ⟨#[41]⟩=b:=⟨_,rfl⟩;rw[hi];have ao:=J hi
            try rw[hi] at y
            have cq:=J (f2.out.below aM);have bo:=J ((aM.block _ (zaa bM.out)).trans bM.out);have kV:=aM.size;have ai:=J (cC.out.low aM);clear hi aM cC f2 bM
            cases hD
            ·skip
             rw[show wrQ false am=am from rfl] at y;have ah:=J (zdo ai.out.hR)
             go_wp2
             go_round
             case rel=>(repeat apply Exists.intro);exact⟨⟨_,_,_,m2,ai.out,cq.out,y.out,by omega,(bA.out.more al aC).le (aE.out.le),bo.out,a8.out.trans (aC.out.le.trans aE.out.le)⟩,rfl⟩
             case measure=>
              rw[ah.out,bk.out];exact ze5 al bj ai.out.hR.le (aC.out.trans (aE.out.le))
            ·skip
             have HW:Hid (LeQ am (wrQ true am)):=J (zqv _ _);obtain⟨kw,ke,aO,cF⟩:∃ W2,cL.setCell ⟨g,2,none⟩ (.bool true)=W2∧cL.grownBy W2 (some g)∧QdS T W2 g st cap ts (wrQ true am):=⟨_,rfl,zlk cL g,ai.out.hR.wrong⟩;have jy:=ai.out.hR.c2;have jv:=ai.out.hR.z 2;obtain⟨jL,bR⟩:∃ s2,wrQ true am=s2:=⟨_,rfl⟩;rw[bR] at y cF
             try rw[bR] at HW
             have ip:=J (cq.out.grow ai.out.gB aO);have jp:=J ((aO.block _ (zaa bo.out) (fun e=>by injection e with e;have:=ai.out.gB;have:=PB.out;omega)).trans bo.out);have k7:=aO.size;have b7:=J (ai.out.call aO cF);clear bR aO cF ai cq bo;have ah:=J (zdo b7.out.hR)
             go_wp2
             go_round
             case rel=>(repeat apply Exists.intro);exact⟨⟨_,_,_,m2,b7.out,ip.out,y.out,by omega,(bA.out.more al aC).le ((aE.out.le.trans HW)),jp.out,a8.out.trans (aC.out.le.trans (aE.out.le.trans HW))⟩,rfl⟩
             case measure=>
              rw[ah.out,bk.out];exact ze5 al bj b7.out.hR.le (aC.out.trans ((aE.out.le.trans HW)))
           ·skip
            replace y:=J (if_t y (by first|rfl|trivial))
            have hO:=HO.out;obtain⟨rfl,rfl⟩:=Prod.mk.inj (Yl y)
            replace y:=J hO
            clear hO HO
            go_wp2_with fail
            refine(zah ⟨#[41]⟩ aj.out.hR).mono ?_;rintro e hI ⟨rfl,aT,dG⟩;obtain⟨hL,Y⟩:∃ t,takT ts ⟨#[41]⟩ s41=t:=⟨_,rfl⟩;obtain⟨f7,F⟩:∃ s2,takS ts ⟨#[41]⟩ s41=s2:=⟨_,rfl⟩;rw[show takT ts ⟨#[41]⟩ ⟨s41.p,s41.bad⟩=hL from Y];have fH:QdS T hI g st cap ts f7:=F ▸ dG;have gy:Hid (LtQ s41 f7):=J (F ▸ zam _ _)
            try rw[Y] at y
            try rw[F] at y
            have cB:=J (bt.out.grow aj.out.gB aT);have bN:=J ((aT.block _ (zaa aI.out) (fun e=>by injection e with e;have:=aj.out.gB;have:=PB.out;omega)).trans aI.out);have jT:=aT.size;have ee:=J (aj.out.call aT fH);clear Y F dG fH aT aj bt aI;obtain⟨gg,gc,gN,iO,ig,iG,iH,ho,iN,jm⟩:=row9 cB.out.row
            go_wp2_with fail
            clear gg gc gN iO ig iG iH ho iN jm;obtain⟨kc,kX,kC,iZ,en⟩:=zbf ee cB;injection iZ with u1 u2 u3;subst u1 u2 u3;refine en.mono ?_;rintro e k5 ⟨j3,rfl,cd,dJ,f5⟩;have fC:=J f5;have eQ:=J ((cd.block _ (zaa bN.out)).trans bN.out);have km:=cd.size;have d7:=J (dJ);clear en cd dJ f5 ee cB bN;obtain⟨jz,ku,hH,fU,ef⟩:=zhk (e0:=⟨e0,I,K,M,Z,e5,D,e7,U,X⟩) d7.out PB.out eQ.out fC;have aw:=J ef;have cQ:=J (fU);clear hH fU ef d7 fC eQ;have ah:=J (zdo cQ.out.hR)
            go_wp2
            go_round
            case rel=>(repeat apply Exists.intro);exact⟨⟨_,_,m,_,_,cQ.out,aw.out,y.out,by omega⟩,rfl⟩
            case measure=>
             rw[ah.out,b9.out];exact ze5 c6 bV cQ.out.hR.le (bw.out.trans ((a8.out.trans aC.out.le).trans gy.out.le))
          ·skip
           replace y:=J (if_f y (fun h=>by cases h))
           have hO:=HO.out;obtain⟨rfl,rfl⟩:=Prod.mk.inj (Yl y)
           replace y:=J hO
           clear hO HO
           go_wp2_with fail
           refine(zah ⟨#[41]⟩ aq.out.hR).mono ?_;rintro e gP ⟨rfl,a7,eW⟩;obtain⟨js,Y⟩:∃ t,takT ts ⟨#[41]⟩ q2=t:=⟨_,rfl⟩;obtain⟨ep,F⟩:∃ s2,takS ts ⟨#[41]⟩ q2=s2:=⟨_,rfl⟩;rw[show takT ts ⟨#[41]⟩ ⟨q2.p,q2.bad⟩=js from Y];have ew:QdS T gP g st cap ts ep:=F ▸ eW;have hM:Hid (LtQ q2 ep):=J (F ▸ zam _ _)
           try rw[Y] at y
           try rw[F] at y
           have bQ:=J (bI.out.grow aq.out.gB a7);have c4:=J ((a7.block _ (zaa aD.out) (fun e=>by injection e with e;have:=aq.out.gB;have:=PB.out;omega)).trans aD.out);have jR:=a7.size;have eB:=J (aq.out.call a7 ew);clear Y F eW ew a7 aq bI aD;obtain⟨gk,hq,gq,i0,ji,g8,ij,ii,g0,jd⟩:=row9 bQ.out.row
           go_wp2_with fail
           clear gk hq gq i0 ji g8 ij ii g0 jd;obtain⟨kr,jP,j8,g5,dv⟩:=zbf eB bQ;injection g5 with u1 u2 u3;subst u1 u2 u3;refine dv.mono ?_;rintro e ks ⟨jI,rfl,cz,fS,d5⟩;have di:=J d5;have eS:=J ((cz.block _ (zaa c4.out)).trans c4.out);have jF:=cz.size;have eO:=J (fS);clear dv cz fS d5 eB bQ c4;obtain⟨kZ,kp,gI,dW,d4⟩:=zhk (e0:=⟨e0,I,K,M,Z,e5,D,e7,U,X⟩) eO.out PB.out eS.out di;have aw:=J d4;have cS:=J (dW);clear gI dW d4 eO di eS;have ah:=J (zdo cS.out.hR)
           go_wp2
           go_round
           case rel=>exact⟨_,_,m,_,_,cS.out,aw.out,y.out,by omega⟩
           case measure=>
            rw[ah.out,b9.out];exact ze5 c6 bV cS.out.hR.le (bw.out.trans (a8.out.trans hM.out.le))
         ·skip
          replace y:=J (if_f y (fun h=>by cases h))
          have hO:=HO.out;obtain⟨rfl,rfl⟩:=Prod.mk.inj (Yl y)
          replace y:=J hO
          clear hO HO
          go_wp2_with fail
          clear d6;refine(zah ⟨#[41]⟩ af.out.hR).mono ?_;rintro e iM ⟨rfl,a2,f6⟩;obtain⟨g9,Y⟩:∃ t,takT ts ⟨#[41]⟩ q2=t:=⟨_,rfl⟩;obtain⟨dO,F⟩:∃ s2,takS ts ⟨#[41]⟩ q2=s2:=⟨_,rfl⟩;rw[show takT ts ⟨#[41]⟩ ⟨q2.p,q2.bad⟩=g9 from Y];have dH:QdS T iM g st cap ts dO:=F ▸ f6;have i2:Hid (LtQ q2 dO):=J (F ▸ zam _ _)
          try rw[Y] at y
          try rw[F] at y
          have dc:=J (bJ.out.grow af.out.gB a2);have bK:=J ((a2.block _ (zaa aH) (fun e=>by injection e with e;have:=af.out.gB;have:=PB.out;omega)).trans aH);have j5:=a2.size;have d8:=J (af.out.call a2 dH);clear Y F f6 dH a2 af bJ aH;obtain⟨hS,hf,it,hu,iT,jn,gV,gr,iF,hC⟩:=row9 dc.out.row
          go_wp2_with fail
          clear hS hf it hu iT jn gV gr iF hC;obtain⟨jW,kf,jA,iA,fs⟩:=zbf d8 dc;injection iA with u1 u2 u3;subst u1 u2 u3;refine fs.mono ?_;rintro e kJ ⟨j6,rfl,bP,eT,dC⟩;have fO:=J dC;have eE:=J ((bP.block _ (zaa bK.out)).trans bK.out);have j7:=bP.size;have eD:=J (eT);clear fs bP eT dC d8 dc bK;obtain⟨kB,k2,hg,fp,f8⟩:=zhk (e0:=⟨e0,I,K,M,Z,e5,D,e7,U,X⟩) eD.out PB.out eE.out fO;have aw:=J f8;have bL:=J (fp);clear hg fp f8 eD fO eE;have ah:=J (zdo bL.out.hR)
          go_wp2
          go_round
          case rel=>exact⟨_,_,m,_,_,bL.out,aw.out,y.out,by omega⟩
          case measure=>
           rw[ah.out,b9.out];exact ze5 c6 bV bL.out.hR.le (bw.out.trans (a8.out.trans i2.out.le))
      ·skip
       replace y:=J (if_t y (by first|rfl|trivial))
       rw[<-(show D=v.bg from az.out.bg)] at y
       go_wp2_with fail
       refine(zas ⟨#[46]⟩ aF.out.hR).mono ?_;rintro e gX ⟨rfl,bf⟩;rw[ao.out];have c9:=J ((bf.block _ (zaa aK.out)).trans aK.out);have cj:Hid (QV gX pS v ⟨e0,I,K,M,Z,e5,D,e7,U,X⟩):=J ⟨az.out.is.keep (fun _ h=>h) fun j E=>bf.block j (by have:=(PS.out j E).2.1;omega),az.out.bg⟩;have kH:=bf.size;have aP:=J (aF.out.low bf);clear bf aF aK az
       replace y:=J (if_t y (by first|rfl|trivial))
       go_wp2_with fail
       refine(zah ⟨#[46]⟩ aP.out.hR).mono ?_;rintro e fg ⟨rfl,ba,fJ⟩;obtain⟨ir,Y⟩:∃ t,takT ts ⟨#[46]⟩ q=t:=⟨_,rfl⟩;obtain⟨ay,F⟩:∃ s2,takS ts ⟨#[46]⟩ q=s2:=⟨_,rfl⟩;rw[show takT ts ⟨#[46]⟩ ⟨q.p,q.bad⟩=ir from Y];have eK:QdS T fg g st cap ts ay:=F ▸ fJ;have gw:Hid (LtQ q ay):=J (F ▸ zam _ _)
       try rw[Y] at y
       try rw[F] at y
       have cO:=J ((ba.block _ (zaa c9.out) (fun e=>by injection e with e;have:=aP.out.gB;have:=PB.out;omega)).trans c9.out);have cP:Hid (QV fg pS v ⟨e0,I,K,M,Z,e5,D,e7,U,X⟩):=J ⟨cj.out.is.keep (fun _ h=>h) fun j E=>ba.block j (by have:=(PS.out j E).2.1;omega) (fun e=>by injection e with e;have:=aP.out.gB;have:=(PS.out j E).1;omega),cj.out.bg⟩;have kt:=ba.size;have bi:=J (aP.out.call ba eK);clear Y F fJ eK ba aP c9 cj
       go_wp2_with fail
       refine(zah ⟨#[110,97,109,101]⟩ bi.out.hR).mono ?_;rintro e eF ⟨rfl,aR,dN⟩;obtain⟨ac,Y⟩:∃ t,takT ts ⟨#[110,97,109,101]⟩ ay=t:=⟨_,rfl⟩;obtain⟨ez,F⟩:∃ s2,takS ts ⟨#[110,97,109,101]⟩ ay=s2:=⟨_,rfl⟩;rw[show takT ts ⟨#[110,97,109,101]⟩ ⟨ay.p,ay.bad⟩=ac from Y];have eY:QdS T eF g st cap ts ez:=F ▸ dN;have iV:Hid (LtQ ay ez):=J (F ▸ zam _ _)
       try rw[Y] at y
       try rw[F] at y
       have ch:=J ((aR.block _ (zaa cO.out) (fun e=>by injection e with e;have:=bi.out.gB;have:=PB.out;omega)).trans cO.out);have cy:Hid (QV eF pS v ⟨e0,I,K,M,Z,e5,D,e7,U,X⟩):=J ⟨cP.out.is.keep (fun _ h=>h) fun j E=>aR.block j (by have:=(PS.out j E).2.1;omega) (fun e=>by injection e with e;have:=bi.out.gB;have:=(PS.out j E).1;omega),cP.out.bg⟩;have k0:=aR.size;have f3:=J (bi.out.call aR eY);clear Y F dN eY aR bi cO cP;obtain⟨dp,hr,bs,eX,f0⟩:=zea f3 ac;have b0:=J ((bs.block _ (zaa ch.out)).trans ch.out);have cX:Hid (QV dp pS v ⟨e0,I,K,M,Z,e5,D,e7,U,X⟩):=J ⟨cy.out.is.keep (fun _ h=>h) fun j E=>bs.block j (by have:=(PS.out j E).2.1;omega),cy.out.bg⟩;have kG:=bs.size;have b6:=J f0;have fe:=J (eX);clear bs eX f0 f3 ch cy;obtain⟨gR,iP,gd⟩:=b6.out.cells
       go_wp2_with fail
       clear hr gR iP gd;refine(zau 24 ac ac.text dp).mono ?_;rintro e aa ⟨rfl,aG⟩;have kn:=J (b6.out.low aG);have bz:=J ((aG.block _ (zaa b0.out)).trans b0.out);have cx:Hid (QV aa pS v ⟨e0,I,K,M,Z,e5,D,e7,U,X⟩):=J ⟨cX.out.is.keep (fun _ h=>h) fun j E=>aG.block j (by have:=(PS.out j E).2.1;omega),cX.out.bg⟩;have kb:=aG.size;have fT:=J (fe.out.low aG);clear aG fe b6 b0 cX;have ar:=zaa bz.out;have ie:N<=aa.heap.size:=by omega
       obtain⟨ab,iS,bc,fc,eH⟩:=zdp (z:=ae.heap.size) fT.out ar 24 ac ac.text;have ak:=J ((bc.block _ (zaa bz.out)).trans bz.out);have cG:Hid (QV ab pS v ⟨e0,I,K,M,Z,e5,D,e7,U,X⟩):=J ⟨cx.out.is.keep (fun _ h=>h) fun j E=>bc.block j (by have:=(PS.out j E).2.1;omega),cx.out.bg⟩;have k3:=bc.size;have an:=J eH;have jO:=bc.size;have fx:=J (fc);clear bc fc eH fT bz cx;obtain⟨gF,gh,hZ,jk,iQ,g2,hh,gW,gS,gY⟩:=row9 an.out.row;obtain⟨p0,p1,p2,p3,p4,p5,p6,p7,p8,-⟩:=row9 ak.out;have ap:(ab.alloc (.cells #[.int .i64 e0,.string I,.int .i64 K,.slice none 0 0,.int .i64 M,.int .i64 Z,.int .i64 e5,.int .i64 D,.slice e7 U X] 63)).heap[ae.heap.size]?=some (.cells #[.int .i64 e0,.string I,.int .i64 K,.slice none 0 0,.int .i64 M,.int .i64 Z,.int .i64 e5,.int .i64 D,.slice e7 U X] 63 (0,0)):=(Yn _ _ _ (zaa ak.out)).trans ak.out;have ax:(ab.alloc (.cells #[.int .i64 e0,.string I,.int .i64 K,.slice none 0 0,.int .i64 M,.int .i64 Z,.int .i64 e5,.int .i64 D,.slice e7 U X] 63)).heap[aa.heap.size]?=some (.cells (paQ 24 ac.text 0 ac.pos ac.pos 0 ac.pos (.slice none 0 0)) 63 (0,0)):=(Yn _ _ _ an.out.lt).trans an.out.row;have iW:(ab.alloc (.cells #[.int .i64 e0,.string I,.int .i64 K,.slice none 0 0,.int .i64 M,.int .i64 Z,.int .i64 e5,.int .i64 D,.slice e7 U X] 63)).cell? ⟨ae.heap.size,7,none⟩=some (.int .i64 D):=Yp 7 ap rfl;have g3:(ab.alloc (.cells #[.int .i64 e0,.string I,.int .i64 K,.slice none 0 0,.int .i64 M,.int .i64 Z,.int .i64 e5,.int .i64 D,.slice e7 U X] 63)).cell? ⟨aa.heap.size,5,none⟩=some (.int .i64 ac.pos):=Yp 5 ax rfl;have iz:(ab.alloc (.cells #[.int .i64 e0,.string I,.int .i64 K,.slice none 0 0,.int .i64 M,.int .i64 Z,.int .i64 e5,.int .i64 D,.slice e7 U X] 63)).cell? ⟨aa.heap.size,7,none⟩=some (.int .i64 ac.pos):=Yp 7 ax rfl
       have gs:∀ i,(ab.alloc (.cells #[.int .i64 e0,.string I,.int .i64 K,.slice none 0 0,.int .i64 M,.int .i64 Z,.int .i64 e5,.int .i64 D,.slice e7 U X] 63)).frozen? ⟨aa.heap.size,i,none⟩=false:=fun i=>Yj _ _ _ _ _ ax;clear ap ax;have s5:=(Yb 0 ab).setCell (p:=⟨aa.heap.size,5,none⟩) (Yk _) (.int .i64 D);have cM:=Yf ab aa.heap.size 5 _ _ (.int .i64 D) an.out.row;obtain⟨C,bp⟩:∃ C,C=((ab.setCell ⟨aa.heap.size,5,none⟩ (.int .i64 D)).alloc (.cells #[.int .i64 e0,.string I,.int .i64 K,.slice none 0 0,.int .i64 M,.int .i64 Z,.int .i64 e5,.int .i64 D,.slice e7 U X] 63)):=⟨_,rfl⟩;have cu:C.heap[aa.heap.size]?=some (.cells (paQ 24 ac.text 0 ac.pos D 0 ac.pos (.slice none 0 0)) 63 (0,0)):=bp ▸ (Yn _ _ _ (zaa cM)).trans cM;have d3:C.heap[ae.heap.size]?=some (.cells #[.int .i64 e0,.string I,.int .i64 K,.slice none 0 0,.int .i64 M,.int .i64 Z,.int .i64 e5,.int .i64 D,.slice e7 U X] 63 (0,0)):=bp ▸ (Yn _ _ _ (Yg (zaa ak.out) s5.size)).trans ((Ye _ _ _ _ (Nat.ne_of_lt ar)).trans ak.out);have eC:C.cell? ⟨ae.heap.size,7,none⟩=some (.int .i64 D):=Yp 7 d3 rfl;have fh:C.cell? ⟨aa.heap.size,7,none⟩=some (.int .i64 ac.pos):=Yp 7 cu rfl;have d2:C.frozen? ⟨aa.heap.size,7,none⟩=false:=Yj _ _ _ _ _ cu;rw[bp] at fh d2 eC;have cV:=an.out.lt;have E2:((ab.setCell ⟨aa.heap.size,5,none⟩ (.int .i64 D)).alloc (.cells #[.int .i64 e0,.string I,.int .i64 K,.slice none 0 0,.int .i64 M,.int .i64 Z,.int .i64 e5,.int .i64 D,.slice e7 U X] 63)).setCell ⟨aa.heap.size,7,none⟩ (.int .i64 D)=((ab.setCell ⟨aa.heap.size,5,none⟩ (.int .i64 D)).setCell ⟨aa.heap.size,7,none⟩ (.int .i64 D)).alloc (.cells #[.int .i64 e0,.string I,.int .i64 K,.slice none 0 0,.int .i64 M,.int .i64 Z,.int .i64 e5,.int .i64 D,.slice e7 U X] 63):=zhm _ _ _ _ _ (Yg cV s5.size)
       have E3:((ab.alloc (.cells #[.int .i64 e0,.string I,.int .i64 K,.slice none 0 0,.int .i64 M,.int .i64 Z,.int .i64 e5,.int .i64 D,.slice e7 U X] 63)).setCell ⟨aa.heap.size,5,none⟩ (.int .i64 D)).setCell ⟨aa.heap.size,7,none⟩ (.int .i64 D)=((ab.setCell ⟨aa.heap.size,5,none⟩ (.int .i64 D)).setCell ⟨aa.heap.size,7,none⟩ (.int .i64 D)).alloc (.cells #[.int .i64 e0,.string I,.int .i64 K,.slice none 0 0,.int .i64 M,.int .i64 Z,.int .i64 e5,.int .i64 D,.slice e7 U X] 63):=by rw[zhm _ _ _ _ _ cV];exact E2
       have cr:ab.heap.size=((ab.setCell ⟨aa.heap.size,5,none⟩ (.int .i64 D)).setCell ⟨aa.heap.size,7,none⟩ (.int .i64 D)).heap.size:=by simp
       have fM:(ab.setCell ⟨aa.heap.size,5,none⟩ (.int .i64 D)).heap[ae.heap.size]?=some (.cells #[.int .i64 e0,.string I,.int .i64 K,.slice none 0 0,.int .i64 M,.int .i64 Z,.int .i64 e5,.int .i64 D,.slice e7 U X] 63 (0,0)):=(Ye _ _ _ _ (Nat.ne_of_lt ar)).trans ak.out;obtain⟨y0,y1,y2,y3,y4,y5,y6,y7,y8,-⟩:=row9 fM;clear cu bp d3 s5 cM cV fM;obtain⟨cN,dL,cR,bD,fu⟩:∃ W2,((ab.setCell ⟨aa.heap.size,5,none⟩ (.int .i64 D)).setCell ⟨aa.heap.size,7,none⟩ (.int .i64 D))=W2∧Below (aa.heap.size) ab W2∧(∀ j,j≠aa.heap.size->j<ab.heap.size->W2.heap[j]?=ab.heap[j]?)∧W2.heap[aa.heap.size]?=some (.cells (paQ 24 ac.text 0 ac.pos D 0 D (.slice none 0 0)) 63 (0,0)) :=
        ⟨_,rfl,(((Yb _ _).setCell (p:=⟨aa.heap.size,5,none⟩) (Ya _) _).setCell (p:=⟨aa.heap.size,7,none⟩) (Ya _) _),fun j E _=>(Ye _ _ _ _ E).trans ((Ye _ _ _ _ E).trans (rfl)),Yf _ _ 7 _ _ _ (Yf _ _ 5 _ _ _ (an.out.row))⟩
       obtain⟨fP,ds⟩:=zj6 fx an cN cR bD 24 ac.text 0 ac.pos D 0 D fu;have ct:=J ds;have br:=J ((bD _ (Nat.ne_of_lt ar) (zaa ak.out)).trans ak.out);have eP:Hid (QV cN pS v ⟨e0,I,K,M,Z,e5,D,e7,U,X⟩):=J ⟨cG.out.is.keep (fun _ h=>h) fun j E=>bD j (by have:=(PS.out j E).2.1;omega) (by have:=(PS.out j E).2.1;omega),cG.out.bg⟩;have jw:=cR.size;have eJ:=J (fP);clear fP ds cR bD fu fx an ak cG;rw[dL] at E2 E3 cr;have eo:=J cr;clear cr;have aX:cN.heap[ae.heap.size]?=some (.cells #[.int .i64 e0,.string I,.int .i64 K,.slice none 0 0,.int .i64 M,.int .i64 Z,.int .i64 e5,.int .i64 D,.slice e7 U X] 63 (0,0)):=br.out;obtain⟨u0,u1,u2,u3,u4,u5,u6,u7,u8,-⟩:=row9 aX;clear aX;obtain⟨gp,io,db,es,dT,dx,gx,fX⟩:=ze0 eJ ct (v:=v) (e:=⟨e0,I,K,M,Z,e5,D,e7,U,X⟩) (S:=pS) eP.out (fun j E=>by have hp:=PS.out j E;have:=ct.out.lt;exact⟨hp.1,by omega,by omega,hp.2.2⟩)
       dsimp only[Qe.cells,paQ] at gp io es
       have gK:=es;rw[<-eo.out] at gK;have ex:=J dx;have bT:=J ((fX _ (Nat.ne_of_lt ar) (zaa br.out)).trans br.out);have dS:=J (dT);clear dT dx gx fX eJ ct br eP;obtain⟨dy,eI⟩:∃ V,db.drew=V:=⟨_,rfl⟩;have aU:Below db.heap.size db dy:=eI ▸ (Yb _ _).drew;have bS:=J (ex.out.below aU);have bO:=J ((aU.block _ (zaa bT.out)).trans bT.out);have jB:=aU.size;have fW:=J (dS.out.low aU);clear aU dS ex bT
       go_wp2_with fail
       apply join1 dy
       rotate_left
       ·intro hc;have HC:=J hc;clear hc
        go_region
        all_goals (try rw[<-eo.out])
        all_goals (exact HC)
       clear eI;clear iS gF gh hZ jk iQ g2 hh gW gS gY iW g3 iz gs eC fh d2 E2 E3 dL;obtain⟨gu,gm,iI,jt,hn,hw,gT,g7,g6,hy⟩:=row9 bS.out.row
       go_wp2_with fail
       clear gu gm iI jt hn hw gT g7 g6 hy;obtain⟨jY,kU,kM,ix,eM⟩:=zbf fW bS;injection ix with u1 u2 u3;subst u1 u2 u3;refine eM.mono ?_;rintro e jD ⟨jJ,rfl,cI,fG,eu⟩;have fl:=J eu;have fq:=J ((cI.block _ (zaa bO.out)).trans bO.out);have kP:=cI.size;have fI:=J (fG);clear eM cI fG eu fW bS bO;obtain⟨kR,kQ,i5,dQ,fZ⟩:=zhk fI PB.out fq.out fl;have aw:=J fZ;have bX:=J (dQ);clear i5 dQ fZ fI fl fq;have ah:=J (zdo bX.out.hR)
       go_wp2
       go_round
       case rel=>exact⟨_,_,m,_,_,bX.out,aw.out,y.out,by omega⟩
       case measure=>
        rw[ah.out,bk.out];exact ze5 al bj bX.out.hR.le (gw.out.trans iV.out.le)
     ·skip
      replace y:=J (if_f y (fun h=>by cases h))
      obtain⟨h0,h1,h2,h3,h4,h5,h6,h7,h8,-⟩:=row9 PR.out;have HP:=J (ze6 af (v:=v) (e:=⟨e0,I,K,M,Z,e5,D,e7,U,X⟩) ⟨PV.out.is.keep (fun j E=>⟨(PS.out j E).1,by have:=(PS.out j E).2.1;omega⟩) fun _ _=>rfl,PV.out.bg⟩)
      go_wp2_with (refine zed (by rfl) (.tmp 2) (.tmp 120) (by rfl) ⟨e0,I,K,M,Z,e5,D,e7,U,X⟩ (by rfl) (by rfl) af.out.hZ (by rfl) ?_)
      have hx:=Yl y;exact zao Tryz.results149 rfl (zad af.out.hZ) (hx ▸ HP.out)
   ·skip
    replace y:=J (if_t y (by first|rfl|trivial))
    obtain⟨gn,hY,jr⟩:=cH.out.cells
    go_wp2_with fail
    clear gn hY jr;refine(zah t1.text au.out.hR).mono ?_;rintro e fk ⟨rfl,bY,dM⟩;obtain⟨hK,Y⟩:∃ t,takT ts t1.text s=t:=⟨_,rfl⟩;obtain⟨c3,F⟩:∃ s2,takS ts t1.text s=s2:=⟨_,rfl⟩;rw[show takT ts t1.text ⟨s.p,s.bad⟩=hK from Y];have dP:QdS T fk g st cap ts c3:=F ▸ dM;have kO:Hid (LtQ s c3):=J (F ▸ zam _ _)
    try rw[Y] at y
    try rw[F] at y
    have c7:=J (cH.out.call au.out.gB bY);have dA:=J (au.out.call bY dP);clear Y F dM dP bY au cH;obtain⟨il,ju,i6⟩:=c7.out.cells
    go_wp2_with fail
    clear il ju i6;refine(zau 26 t1 t1.text fk).mono ?_;rintro e jX ⟨rfl,cl⟩;have fF:=J (c7.out.low cl);have cE:=J (dA.out.low cl);clear cl dA c7;obtain⟨gQ,hT,cT,du,dI⟩:=zdp (z:=w.heap.size) cE.out (zaa cE.out.hZ) 26 t1 t1.text;have ko:=J (fF.out.low cT);have cJ:=J dI;have kd:=cT.size;have bh:=J (du);clear cT du dI cE fF
    go_wp2_with fail
    clear hT;rcases hk145:(dns ts n).una c3 with _|⟨v145,s145⟩
    ·exact absurd y (by rw[hk145];intro h;cases h)
    rw[hk145] at y
    try simp only[Option.bind_some] at y
    refine(((fun hk=>HU.out _ _ _ hk bh.out.hR) hk145)).mono ?_;rintro e gJ ⟨dk,rfl,eh,bG,eg⟩;have eZ:=J eh;have kD:=cJ.out.lt;have cW:=J (cJ.out.grow bh.out.gB bG);have kT:=bG.size;have b2:=J (bh.out.call bG eg);have jV:=bh.out.size;clear hk145 eh bG eg bh cJ;obtain⟨fz,ff,kK,fB,fD,fE,g1,jf⟩:=ze0 b2 cW (v:=v145) (e:=dk) (S:=(fun j=>gQ.heap.size<=j∧j<gJ.heap.size)) eZ.out (fun j E=>by have:=cW.out.lt;have:=b2.out.s0;exact⟨by omega,E.2,by omega,by omega⟩);have c8:=J fE;have eb:=J (fD);obtain⟨e0,I,K,M,Z,e5,D,e7,U,X⟩:=dk
    dsimp only[Qe.cells,paQ] at fz ff fB
    try unfold Qe.cells paQ
    clear eZ fD fE g1 jf b2 cW;obtain⟨gb,hJ,hz,gz,gO,hA,jc,iy,i9,i7⟩:=row9 c8.out.row
    go_wp2_with fail
    clear fz ff fB gb hJ hz gz gO hA jc iy i9 i7;obtain⟨kv,jK,kN,iu,ec⟩:=zbf eb c8;injection iu with u1 u2 u3;subst u1 u2 u3;refine ec.mono ?_;rintro e jS ⟨jN,rfl,ja,fK,dX⟩;have fo:=J dX;have gv:=J (fK);clear ec ja fK dX eb c8;obtain⟨kS,k1,dw,ed⟩:=zbb gv (v:=(⟨26,t1.text,0,t1.pos,t1.pos,behI ts s145.p,t1.pos,[v145.pt]⟩:Qv)) ⟨fo.out.is.keep (fun j E=>⟨E.1,E.2.1⟩) fun _ _=>rfl,fo.out.bg⟩;have HP:=J ed;have cb:=J dw;clear ed dw
    go_wp2
    have hx:=Yl y;exact zao Tryz.results149 rfl cb (hx ▸ HP.out)
  ·skip
   replace y:=J (if_t y (by first|rfl|trivial))
   obtain⟨jg,iq,iX⟩:=a6.out.cells
   go_wp2_with fail
   clear jg iq iX;refine(zah t1.text aB.out.hR).mono ?_;rintro e fR ⟨rfl,co,fY⟩;obtain⟨i4,Y⟩:∃ t,takT ts t1.text s=t:=⟨_,rfl⟩;obtain⟨cv,F⟩:∃ s2,takS ts t1.text s=s2:=⟨_,rfl⟩;rw[show takT ts t1.text ⟨s.p,s.bad⟩=i4 from Y];have dn:QdS T fR g st cap ts cv:=F ▸ fY;have kz:Hid (LtQ s cv):=J (F ▸ zam _ _)
   try rw[Y] at y
   try rw[F] at y
   have cY:=J (a6.out.call aB.out.gB co);have f9:=J (aB.out.call co dn);clear Y F fY dn co aB a6;obtain⟨he,iY,gi⟩:=cY.out.cells
   go_wp2_with fail
   clear he iY gi;refine(zau 26 t1 t1.text fR).mono ?_;rintro e j9 ⟨rfl,cZ⟩;have dz:=J (cY.out.low cZ);have b5:=J (f9.out.low cZ);clear cZ f9 cY;obtain⟨iv,gA,bW,ft,dR⟩:=zdp (z:=w.heap.size) b5.out (zaa b5.out.hZ) 26 t1 t1.text;have jC:=J (dz.out.low bW);have cc:=J dR;have la:=bW.size;have a4:=J (ft);clear bW ft dR b5 dz
   go_wp2_with fail
   clear gA;rcases hk166:(dns ts n).una cv with _|⟨v166,s166⟩
   ·exact absurd y (by rw[hk166];intro h;cases h)
   rw[hk166] at y
   try simp only[Option.bind_some] at y
   refine(((fun hk=>HU.out _ _ _ hk a4.out.hR) hk166)).mono ?_;rintro e gD ⟨dD,rfl,fr,bq,eG⟩;have eR:=J fr;have kE:=cc.out.lt;have de:=J (cc.out.grow a4.out.gB bq);have jU:=bq.size;have ca:=J (a4.out.call bq eG);have kI:=a4.out.size;clear hk166 fr bq eG a4 cc;obtain⟨ek,fQ,j1,d0,dV,dU,jj,ic⟩:=ze0 ca de (v:=v166) (e:=dD) (S:=(fun j=>iv.heap.size<=j∧j<gD.heap.size)) eR.out (fun j E=>by have:=de.out.lt;have:=ca.out.s0;exact⟨by omega,E.2,by omega,by omega⟩);have ci:=J dU;have fa:=J (dV);obtain⟨e0,I,K,M,Z,e5,D,e7,U,X⟩:=dD
   dsimp only[Qe.cells,paQ] at ek fQ d0
   try unfold Qe.cells paQ
   clear eR dV dU jj ic ca de;obtain⟨g4,ge,i1,gL,gf,gH,iC,iL,hl,iD⟩:=row9 ci.out.row
   go_wp2_with fail
   clear ek fQ d0 g4 ge i1 gL gf gH iC iL hl iD;obtain⟨k9,kL,kA,jo,fL⟩:=zbf fa ci;injection jo with u1 u2 u3;subst u1 u2 u3;refine fL.mono ?_;rintro e kh ⟨jx,rfl,im,el,dE⟩;have fV:=J dE;have h9:=J (el);clear fL im el dE fa ci;obtain⟨ky,kx,fv,dB⟩:=zbb h9 (v:=(⟨26,t1.text,0,t1.pos,t1.pos,behI ts s166.p,t1.pos,[v166.pt]⟩:Qv)) ⟨fV.out.is.keep (fun j E=>⟨E.1,E.2.1⟩) fun _ _=>rfl,fV.out.bg⟩;have HP:=J dB;have cb:=J fv;clear dB fv
   go_wp2
   have hx:=Yl y;exact zao Tryz.results149 rfl cb (hx ▸ HP.out)
 ·skip
  exact absurd (al.out.symm.trans iR) (by simp)
end
end Go.Proofs.YtmclgbkijeidaaaGreatDoor
