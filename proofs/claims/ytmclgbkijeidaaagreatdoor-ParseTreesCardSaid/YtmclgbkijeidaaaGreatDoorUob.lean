import Derived.Test.YtmclgbkijeidaaaGreatDoorUoa
namespace Go.Proofs.YtmclgbkijeidaaaGreatDoor
set_option maxRecDepth 100000
set_option maxHeartbeats 4000000
open Go.RowKit
section
variable {T:Nat}{w W0 W W':World}{g:Nat}{st:Option Addr}{cap:Nat}{ts:List Tok}{s s':Qs}
abbrev UnQ (T:Nat) (g:Nat) (st:Option Addr) (cap:Nat) (ts:List Tok) (m:Nat):Prop:=∀ (w:World) s r,(dns ts m).una s=some r->QdS T w g st cap ts s->Calls Tryz.prog 149 #[.pointer (some ⟨g,0,none⟩)] w (QoP T w g st cap ts r)
theorem zvc {n k:Nat}(kk:Int){r:Qv × Qs}(hkk:kk=k)(hk1:1<=k)(hk6:k<=6)(hU:UnQ T g st cap ts n)(hE:∀ m,m<=n->RwQ T g st cap ts m)(hR:QdS T w g st cap ts s)(hX:(dns ts (n+1)).row k s=some r):Calls Tryz.prog 128 #[.pointer (some ⟨g,0,none⟩),.int .i64 kk] w (QoP T w g st cap ts r):=by
 have HF:=J (zcu hR);have dZ:=hR.few;have dA:=hR.le;clear hR;have HE:=J hE;have HU:=J hU;clear hE hU;rw[zu0] at hX;have C:=J hX;clear hX
 go_enter Tryz.func128,Tryz.ntmps128
 have aD:(kk == 6)=decide (k=6):=by rw[hkk,Bool.eq_iff_iff];simp;omega
 have aK:=J hkk
 by_cases h6:k=6
 ·skip
  have hq:(kk == 6)=true:=by rw[aD];simpa using h6
  clear aD hkk
  replace C:=J (if_t C h6)
  go_wp2_with fail
  refine zag (fun W=>Fr T w W W g st cap ts s) HF.out ?_;intro W0 hF;clear HF;have HF:=J hF;clear hF;clear hq;refine(HU W0 _ _ C HF.out.hR).mono ?_;rintro e W1 ⟨I,rfl,q1,g1,r1⟩;obtain⟨v1,s1⟩:=r;have bS:=J q1;have du:=HF.out.size;have dr:=J (HF.out.call g1 r1);clear q1 g1 r1;obtain⟨W2,dR,hr,hp⟩:=zbb dr (v:=v1) ⟨bS.out.is.keep (fun j y=>⟨by omega,y.2⟩) fun _ _=>rfl,bS.out.bg⟩;have HP:=J hp;have cU:=J hr;clear hp hr
  go_wp2
  exact zao Tryz.results128 rfl cU HP
 ·skip
  have hq:(kk == 6)=false:=by rw[aD];simpa using h6
  have d2:k<=5:=by omega
  have dU:1<=kk:=by omega
  have dv:kk<=6:=by omega
  clear aD hkk
  replace C:=J (if_f C h6)
  go_wp2_with fail
  clear hq;refine zag (fun W=>Fr T w W W g st cap ts s) HF.out ?_;intro W0 hF;clear HF;have HF:=J hF;clear hF;rcases hk:(dns ts n).row (k+1) s with _|⟨v2,s2⟩
  ·exact absurd C (by rw[hk];intro h;cases h)
  rw[hk] at C;simp only[Option.bind_some] at C;refine(HE n (Ya _) _ _ _ (k+1) (kk+1) (by rw[aK.out];push_cast;rfl) (by omega) (by omega) hk HF.out.hR).mono ?_;rintro e W2 ⟨K,rfl,q2,g2,r2⟩;have bB:=J q2;have dY:=HF.out.size;have bG:=J (HF.out.call g2 r2);clear q2 g2 r2 hk HF;obtain⟨W4,cD,b4,f4,l4⟩:=zpl bG (A:=W0) (Ya _) bB.out;have bD:=J l4;have bQ:=J f4;clear b4 f4 l4 bB bG
  go_wp2_with fail
  clear cD;have bJ:=J C;clear C
  go_loopw [] (fun wr=>∃ (v:Qv) (q:Qs) (m N:Nat) (e:Qe),Fr T w W0 wr g st cap ts q∧Vl W0 wr (W2.heap.size) N v e∧(dns ts m).rowL k v q=some r∧m<=n) (fun wr=>muQ ts g wr)
  case atStart=>exact⟨_,_,n,_,_,bQ.out,bD.out,bJ.out,Ya _⟩
  case round=>
   obtain⟨v,q,m,N,e,hF,hV,hm,dM⟩:=hrel;have aa:=J hF;have da:=J (zdo hF.hR);have c3:q.p<=ts.length:=hF.hR.le;have pR:=hV.row;have PB:=J hV.hB;have dN:=zaa hV.row;have hN:=hV.hN;obtain⟨pS,pV,b5⟩:=hV.ex;have PV:=J pV;have F:=J b5;have PR:=J pR;clear hF hV pV b5 pR bQ bD bJ
   cases m with
   | zero=>cases hm
   | succ m=>
   rw[zqw] at hm;have C:=J hm;clear hm;obtain⟨e0,I,K,V,U,e5,D,Y,Z,M⟩:=e;obtain⟨b8,az⟩:∃ b,q.bad=b:=⟨_,rfl⟩;have cZ:wr.cell? ⟨g,2,none⟩=some (.bool b8):=az ▸ aa.out.hR.c2;rw[az] at C;have cT:=J az;clear az
   cases b8
   ·skip
    go_wp2_with fail
    clear cZ;refine(zbk aa.out.hR).mono ?_;rintro e W6 ⟨rfl,b6⟩;obtain⟨E,ht⟩:∃ t,nxQ ts q.p=t:=⟨_,rfl⟩;rw[ht];have bI:=J ht;have dJ:=J (ht ▸ aa.out.hR.sz)
    try rw[ht] at C
    have aN:=J ((b6.block _ (zaa PR.out)).trans PR.out);have av:Hid (QV W6 pS v ⟨e0,I,K,V,U,e5,D,Y,Z,M⟩):=J ⟨PV.out.is.keep (fun _ h=>h) fun j y=>b6.block j (by have:=(F.out j y).2.1;omega),PV.out.bg⟩;have dP:=b6.size;have ai:=J (aa.out.low b6);clear ht b6 aa PR PV;have c7:∀ (a b c:Value) (W:World),(Instr.field 38 (.agg #[a,b,c]) 0).run Tryz.prog W=.ok a W:=fun _ _ _ _=>rfl;have cE:∀ (a b c:Value) (W:World),(Instr.field 38 (.agg #[a,b,c]) 1).run Tryz.prog W=.ok b W:=fun _ _ _ _=>rfl
    try unfold Tok.cells
    obtain⟨k4,bV⟩:∃ b,(E.kind == 4)=b:=⟨_,rfl⟩;rw[bV] at C
    cases k4
    ·skip
     replace C:=J (if_f C (fun h=>by cases h))
     obtain⟨h0,h1,h2,h3,h4,h5,h6,h7,h8,-⟩:=row9 aN.out;have HP:=J (ze6 ai (v:=v) (e:=⟨e0,I,K,V,U,e5,D,Y,Z,M⟩) ⟨av.out.is.keep (fun j y=>⟨(F.out j y).1,by have:=(F.out j y).2.1;omega⟩) fun _ _=>rfl,av.out.bg⟩)
     go_wp2_with (refine zed (by rfl) (.tmp 4) (.tmp 72) (by rfl) ⟨e0,I,K,V,U,e5,D,Y,Z,M⟩ (by rfl) (by rfl) ai.out.hZ (by rfl) ?_)
     have hx:=Yl C;exact zao Tryz.results128 rfl (zad ai.out.hZ) (hx ▸ HP.out)
    ·skip
     go_wp2_with fail
     clear bV;refine(zbk ai.out.hR).mono ?_;rintro e bP ⟨rfl,aw⟩;rw[bI.out];have aV:=J ((aw.block _ (zaa aN.out)).trans aN.out);have aY:Hid (QV bP pS v ⟨e0,I,K,V,U,e5,D,Y,Z,M⟩):=J ⟨av.out.is.keep (fun _ h=>h) fun j y=>aw.block j (by have:=(F.out j y).2.1;omega),av.out.bg⟩;have dT:=aw.size;have cg:=J (ai.out.low aw);clear aw ai aN av
     try unfold Tok.cells
     go_wp2_with fail
     refine(zq9 E.text bP).mono ?_;rintro e dk ⟨rfl,an⟩;have aJ:=J ((an.block _ (zaa aV.out)).trans aV.out);have ah:Hid (QV dk pS v ⟨e0,I,K,V,U,e5,D,Y,Z,M⟩):=J ⟨aY.out.is.keep (fun _ h=>h) fun j y=>an.block j (by have:=(F.out j y).2.1;omega),aY.out.bg⟩;have dW:=an.size;have ae:=J (cg.out.low an);clear an cg aV aY;obtain⟨rk,aX⟩:∃ b,(rowQ E.text == (k:Int))=b:=⟨_,rfl⟩;rw[aX] at C;have cV:(rowQ E.text == kk)=rk:=by rw[aK.out];exact aX
     cases rk
     ·skip
      replace C:=J (if_f C (fun h=>by cases h))
      obtain⟨h0,h1,h2,h3,h4,h5,h6,h7,h8,-⟩:=row9 aJ.out;have HP:=J (ze6 ae (v:=v) (e:=⟨e0,I,K,V,U,e5,D,Y,Z,M⟩) ⟨ah.out.is.keep (fun j y=>⟨(F.out j y).1,by have:=(F.out j y).2.1;omega⟩) fun _ _=>rfl,ah.out.bg⟩)
      go_wp2_with (refine zed (by rfl) (.tmp 4) (.tmp 72) (by rfl) ⟨e0,I,K,V,U,e5,D,Y,Z,M⟩ (by rfl) (by rfl) ae.out.hZ (by rfl) ?_)
      have hx:=Yl C;exact zao Tryz.results128 rfl (zad ae.out.hZ) (hx ▸ HP.out)
     ·skip
      replace C:=J (if_t C rfl)
      rw[<-(show D=v.bg from ah.out.bg)] at C
      go_wp2_with fail
      clear aX cV c7 cE;refine(zbk ae.out.hR).mono ?_;rintro e cS ⟨rfl,al⟩;rw[bI.out];have bh:=J ((al.block _ (zaa aJ.out)).trans aJ.out);have bl:Hid (QV cS pS v ⟨e0,I,K,V,U,e5,D,Y,Z,M⟩):=J ⟨ah.out.is.keep (fun _ h=>h) fun j y=>al.block j (by have:=(F.out j y).2.1;omega),ah.out.bg⟩;have dz:=al.size;have bZ:=J (ae.out.low al);clear al ae aJ ah;obtain⟨dj,cF,aB,bA,b3⟩:=zea bZ E;have a5:=J ((aB.block _ (zaa bh.out)).trans bh.out);have a1:Hid (QV dj pS v ⟨e0,I,K,V,U,e5,D,Y,Z,M⟩):=J ⟨bl.out.is.keep (fun _ h=>h) fun j y=>aB.block j (by have:=(F.out j y).2.1;omega),bl.out.bg⟩;have dI:=aB.size;have a6:=J b3;have aj:=J (bA);clear aB bA b3 bZ bh bl;obtain⟨cP,cN,de⟩:=a6.out.cells
      go_wp2_with fail
      clear cF cP cN de;refine(zah E.text aj.out.hR).mono ?_;rintro e a8 ⟨rfl,ak,bz⟩;obtain⟨co,ht⟩:∃ t,takT ts E.text q=t:=⟨_,rfl⟩;obtain⟨aE,hs⟩:∃ s2,takS ts E.text q=s2:=⟨_,rfl⟩;rw[show takT ts E.text ⟨q.p,q.bad⟩=co from ht];have bX:QdS T a8 g st cap ts aE:=hs ▸ bz;have cz:Hid (LtQ q aE):=J (hs ▸ zam _ _)
      try rw[ht] at C
      try rw[hs] at C
      have aZ:=J (a6.out.call aj.out.gB ak);have bm:=J ((ak.block _ (zaa a5.out) (fun e=>by injection e with e;have:=aj.out.gB;have:=PB.out;omega)).trans a5.out);have a2:Hid (QV a8 pS v ⟨e0,I,K,V,U,e5,D,Y,Z,M⟩):=J ⟨a1.out.is.keep (fun _ h=>h) fun j y=>ak.block j (by have:=(F.out j y).2.1;omega) (fun e=>by injection e with e;have:=aj.out.gB;have:=(F.out j y).1;omega),a1.out.bg⟩;have d5:=ak.size;have bp:=J (aj.out.call ak bX);clear ht hs bz bX ak aj a6 a5 a1;obtain⟨dg,cY,cC⟩:=aZ.out.cells
      go_wp2_with fail
      clear dg cY cC;refine(zau 27 E E.text a8).mono ?_;rintro e X ⟨rfl,af⟩;have dF:=J (aZ.out.low af);have aH:=J ((af.block _ (zaa bm.out)).trans bm.out);have a7:Hid (QV X pS v ⟨e0,I,K,V,U,e5,D,Y,Z,M⟩):=J ⟨a2.out.is.keep (fun _ h=>h) fun j y=>af.block j (by have:=(F.out j y).2.1;omega),a2.out.bg⟩;have dD:=af.size;have br:=J (bp.out.low af);clear af bp aZ bm a2;have aL:=zaa aH.out;have dC:N<=X.heap.size:=by omega
      obtain⟨ax,ci,ap,cc,bs⟩:=zdp (z:=W2.heap.size) br.out aL 27 E E.text;have aI:=J ((ap.block _ (zaa aH.out)).trans aH.out);have bk:Hid (QV ax pS v ⟨e0,I,K,V,U,e5,D,Y,Z,M⟩):=J ⟨a7.out.is.keep (fun _ h=>h) fun j y=>ap.block j (by have:=(F.out j y).2.1;omega),a7.out.bg⟩;have dG:=ap.size;have aF:=J bs;have dE:=ap.size;have bt:=J (cc);clear ap cc bs br aH a7;obtain⟨cu,dl,cH,cv,ck,ct,cM,cj,dd,cQ⟩:=row9 aF.out.row;obtain⟨p0,p1,p2,p3,p4,p5,p6,p7,p8,-⟩:=row9 aI.out
      go_wp2_with fail
      go_region
      obtain⟨bH,b0,aU,aG,b7⟩:∃ W2,((ax.setCell ⟨X.heap.size,5,none⟩ (.int .i64 D)).setCell ⟨X.heap.size,7,none⟩ (.int .i64 D)).drew=W2∧Below (X.heap.size) ax W2∧(∀ j,j≠X.heap.size->j<ax.heap.size->W2.heap[j]?=ax.heap[j]?)∧W2.heap[X.heap.size]?=some (.cells (paQ 27 E.text 0 E.pos D 0 D (.slice none 0 0)) 63 (0,0)) :=
       ⟨_,rfl,(((Yb _ _).setCell (p:=⟨X.heap.size,5,none⟩) (Ya _) _).setCell (p:=⟨X.heap.size,7,none⟩) (Ya _) _).drew,fun j y _=>(Ye _ _ _ _ y).trans ((Ye _ _ _ _ y).trans (rfl)),Yf _ _ 7 _ _ _ (Yf _ _ 5 _ _ _ (aF.out.row))⟩
      obtain⟨bM,b1⟩:=zj6 bt aF bH aU aG 27 E.text 0 E.pos D 0 D b7;have aA:=J b1;have ba:=J ((aG _ (Nat.ne_of_lt aL) (zaa aI.out)).trans aI.out);have bO:Hid (QV bH pS v ⟨e0,I,K,V,U,e5,D,Y,Z,M⟩):=J ⟨bk.out.is.keep (fun _ h=>h) fun j y=>aG j (by have:=(F.out j y).2.1;omega) (by have:=(F.out j y).2.1;omega),bk.out.bg⟩;have d3:=aU.size;have bY:=J (bM);clear bM b1 aU aG b7 bt aF aI bk;rw[b0];clear b0 ci cu dl cH cv ck ct cM cj dd cQ p0 p1 p2 p3 p4 p5 p6 p7 p8;obtain⟨cL,ds,c6,dc,cp,cJ,dn,c5,db,cB⟩:=row9 aA.out.row;obtain⟨p0,p1,p2,p3,p4,p5,p6,p7,p8,-⟩:=row9 ba.out;obtain⟨cx,cn,dq,dt,ab,be,bN,bT,bK,bo,bW,cd⟩:=z0o (vx:=v) (e:=⟨e0,I,K,V,U,e5,D,Y,Z,M⟩) bY.out aA (by simp) bO.out (fun j y=>by have hp:=F.out j y;have:=aA.out.lt;exact⟨hp.1,by omega,by omega,hp.2.2,by simp[Value.ownBlock]⟩)
      dsimp only[Qe.cells,paQ] at be bN bT bK
      have ca:=J bW;have bf:=J ((cd (Nat.ne_of_lt aL)).trans ba.out);have aP:=J (bo);clear bo bW cd bY aA ba bO
      go_wp2_with (refine za8 (.tmp 53) (.tmp 55) 61 (by rfl) (by rfl) (by rfl) (by rfl) be ?_)
      clear cL ds c6 dc cp cJ dn c5 db cB p0 p1 p2 p3 p4 p5 p6 p7 p8 be bN bT bK;rcases hk46:(dns ts m).row (k+1) aE with _|⟨v46,s46⟩
      ·exact absurd C (by rw[hk46];intro h;cases h)
      rw[hk46] at C;simp only[Option.bind_some] at C;have c9:=J ((lst (ts:=ts) _).row _ _ _ _ hk46);have cr:=J aP;have aR:Below ab.heap.size ab ab.drew:=(Yb _ _).drew;have ao:=J (aP.out.low aR);have ay:=J (ca.out.below aR);have bi:=J (fun (h:QdS T ab.drew g st cap ts aE)=>(fun hk=>HE.out m (by omega) ab.drew _ _ (k+1) (kk+1) (by rw[aK.out];push_cast;rfl) (by omega) (by omega) hk h) hk46);clear hk46 aR aP ca;have cK:ab.drew.cell? ⟨X.heap.size,8,none⟩=some (.slice cx cn dq):=Yp 8 ay.out.row rfl;apply zb8 (fun y0 y1 y2 y3 y4 y5 y6 y7 y8 y9 Wy sp sn sc Wz=>Fr T w W0 Wz g st cap ts s46∧Qk W0.heap.size (W2.heap.size) Wz (X.heap.size) 27 E.text 0 E.pos D 0 D (.slice sp sn sc) (([]++[v.pt])++[v46.pt])∧ab.drew.grownBy Wy (some g)∧((W2.heap.size)≠X.heap.size->Wz.heap[W2.heap.size]?=Wy.heap[W2.heap.size]?)∧Wy.heap.size<=Wz.heap.size)
      rotate_left
      ·intro hc;refine zbc (S:=fun _=>Hid True) 10 rfl (by kernel_rfl) ?_;refine zal 0 58 (.pointer (some ⟨X.heap.size,8,none⟩)) rfl (by kernel_rfl) (fun _ _ _ h=>h) (fun w' _=>by first|rfl|(go_simp;done) | (go_simp;rw[Yi];omega)) (J trivial) ?_;simp only[sI,sS,sZ];refine zal 2 60 (.pointer (some ⟨g,0,none⟩)) rfl (by kernel_rfl) (fun _ _ _ h=>h) (fun w' _=>by first|rfl|(go_simp;done) | (go_simp;rw[Yi];omega)) (J trivial) ?_;simp only[sI,sS,sZ];refine zal 3 61 (.int .i64 kk) rfl (by kernel_rfl) (fun _ _ _ h=>h) (fun w' _=>by first|rfl|(go_simp;done) | (go_simp;rw[Yi];omega)) (J trivial) ?_;simp only[sI,sS,sZ];refine zal 4 62 (.int .i64 (kk+1)) rfl (by kernel_rfl) (fun _ _ _ h=>h) (fun w' _=>by first|rfl|(go_simp;done) | (go_simp;rw[Yi];omega)) (J trivial) ?_;simp only[sI,sS,sZ];refine wpAnyH_all (rs:=[1,5]) (by kernel_rfl) (by simp) fun i hi=>?_;simp only[List.mem_cons,List.not_mem_nil,or_false] at hi;rcases hi with rfl|rfl
       ·skip
        refine zan rfl rfl ?_
        go_simp
        refine⟨J trivial,?_⟩;refine zac 5 rfl (by kernel_rfl) ?_
        go_simp
        refine(bi ao.out.hR).mono ?_;rintro e aO ⟨⟨y0,y1,y2,y3,y4,y5,y6,y7,y8,y9⟩,rfl,q46,g46,r46⟩;obtain⟨a3,a9,v2,w1,Wz,ha,ce,cf,cw,am,ac,aq,au⟩:=zb3 ao ay (by simp) g46 r46 q46;obtain⟨bn,a0,a4,bj⟩:=ac.sl;subst bj;have aC:=J (hc y0 y1 y2 y3 y4 y5 y6 y7 y8 y9 aO bn a0 a4 Wz ⟨am,ac,g46,aq,au⟩)
        dsimp only[Qe.cells,paQ] at a3 a9 ha ce cf cw
        unfold Qe.cells paQ;clear am ac aq q46 g46 r46 au;refine⟨J trivial,?_⟩;refine zac 6 rfl (by kernel_rfl) ?_
        go_simp
        refine⟨J trivial,?_⟩;refine zac 7 rfl (by kernel_rfl) ?_;refine zaf (.tmp 59) (.tmp 64) 61 rfl rfl rfl ha ?_;refine⟨J trivial,?_⟩;simp only[Act.put,sI,sS,sZ];refine zal 8 66 (.pointer (some ⟨X.heap.size,8,none⟩)) rfl (by kernel_rfl) (fun _ _ _ h=>h) (fun w' _=>by first|rfl|(go_simp;done) | (go_simp;rw[Yi];omega)) (J trivial) ?_;simp only[sI,sS,sZ];refine zac 9 rfl (by kernel_rfl) ?_
        go_simp
        refine⟨J trivial,?_⟩;refine wpAnyH_done (by kernel_rfl) ?_ _;exact aC
       ·skip
        refine zan rfl rfl ?_
        go_simp
        refine(bi ao.out.hR).mono ?_;rintro e aO ⟨⟨y0,y1,y2,y3,y4,y5,y6,y7,y8,y9⟩,rfl,q46,g46,r46⟩;obtain⟨a3,a9,v2,w1,Wz,ha,ce,cf,cw,am,ac,aq,au⟩:=zb3 ao ay (by simp) g46 r46 q46;obtain⟨bn,a0,a4,bj⟩:=ac.sl;subst bj;have aC:=J (hc y0 y1 y2 y3 y4 y5 y6 y7 y8 y9 aO bn a0 a4 Wz ⟨am,ac,g46,aq,au⟩)
        dsimp only[Qe.cells,paQ] at a3 a9 ha ce cf cw
        unfold Qe.cells paQ;clear am ac aq q46 g46 r46 au;refine⟨J trivial,?_⟩;refine wpAnyH_all (rs:=[1,6]) (by kernel_rfl) (by simp) fun i hi=>?_;simp only[List.mem_cons,List.not_mem_nil,or_false] at hi;rcases hi with rfl|rfl
        ·skip
         refine zan rfl rfl ?_
         go_simp
         refine⟨J trivial,?_⟩;refine zac 6 rfl (by kernel_rfl) ?_
         go_simp
         refine⟨J trivial,?_⟩;refine zac 7 rfl (by kernel_rfl) ?_;refine zaf (.tmp 59) (.tmp 64) 61 rfl rfl rfl ha ?_;refine⟨J trivial,?_⟩;simp only[Act.put,sI,sS,sZ];refine zal 8 66 (.pointer (some ⟨X.heap.size,8,none⟩)) rfl (by kernel_rfl) (fun _ _ _ h=>h) (fun w' _=>by first|rfl|(go_simp;done) | (go_simp;rw[Yi];omega)) (J trivial) ?_;simp only[sI,sS,sZ];refine zac 9 rfl (by kernel_rfl) ?_
         go_simp
         refine⟨J trivial,?_⟩;refine wpAnyH_done (by kernel_rfl) ?_ _;exact aC
        ·skip
         refine zan rfl rfl ?_
         go_simp
         refine⟨J trivial,?_⟩;refine zac 1 rfl (by kernel_rfl) ?_
         go_simp
         refine⟨J trivial,?_⟩;refine zac 7 rfl (by kernel_rfl) ?_;refine zaf (.tmp 59) (.tmp 64) 61 rfl rfl rfl ha ?_;refine⟨J trivial,?_⟩;simp only[Act.put,sI,sS,sZ];refine zal 8 66 (.pointer (some ⟨X.heap.size,8,none⟩)) rfl (by kernel_rfl) (fun _ _ _ h=>h) (fun w' _=>by first|rfl|(go_simp;done) | (go_simp;rw[Yi];omega)) (J trivial) ?_;simp only[sI,sS,sZ];refine zac 9 rfl (by kernel_rfl) ?_
         go_simp
         refine⟨J trivial,?_⟩;refine wpAnyH_done (by kernel_rfl) ?_ _;exact aC
      intro y0 y1 y2 y3 y4 y5 y6 y7 y8 y9 aO dX dK dV dO c8;obtain⟨bw,bL,bU,bu,d4⟩:=c8;have aW:=J bL;have bq:=J bU;have bx:=J bu;have aT:=J (bw);clear bw bL bU bu ao ay cK bi cr;have bc:=J ((bx (Nat.ne_of_lt aL)).trans ((bq.out.block _ (zaa bf.out) (fun e=>by injection e with e;have:=aT.out.gB;have:=PB.out;omega)).trans bf.out));clear bf bq bx;obtain⟨c4,ch,cG,cR,cW,cy,cI,cO,cq,dp⟩:=row9 aW.out.row
      go_wp2_with fail
      clear c4 ch cG cR cW cy cI cO cq dp;obtain⟨dS,d1,dQ,di,bC⟩:=zbf aT aW;injection di with u1 u2 u3;subst u1 u2 u3;refine bC.mono ?_;rintro e dw ⟨dh,rfl,aQ,b9,cb⟩;have bF:=J cb;have bE:=J ((aQ.block _ (zaa bc.out)).trans bc.out);have d0:=aQ.size;have bR:=J (b9);clear bC aQ b9 cb aT aW bc;obtain⟨dH,dy,cX,bv,b2⟩:=zhk bR PB.out bE.out bF;have ar:=J b2;have ag:=J (bv);clear cX bv b2 bR bF bE;have aM:(kk == 3)=decide (k=3):=by rw[aK.out,Bool.eq_iff_iff];simp;omega
      by_cases h3:k=3
      ·skip
       have cl:(kk == 3)=true:=by rw[aM];simpa using h3
       clear aM
       replace C:=J (if_t C h3)
       obtain⟨g0,g1,g2,g3,g4,g5,g6,g7,g8,g9⟩:=dh;obtain⟨h0,h1,h2,dL,h4,h5,dx,h7,h8,-⟩:=row9 ar.out.row;obtain⟨nS,nV,bb⟩:=ar.out.ex;have dB:=ar.out.hN;have HP:=J (ze6 ag (v:=(⟨27,E.text,0,E.pos,D,behI ts s46.p,D,(([]++[v.pt])++[v46.pt])⟩:Qv)) (e:=⟨g0,g1,g2,g3,g4,g5,g6,g7,g8,g9⟩) ⟨nV.is.keep (fun j y=>⟨(bb j y).1,by have:=(bb j y).2.1;omega⟩) fun _ _=>rfl,nV.bg⟩);clear nV bb ar
       go_wp2_with (refine zed (by rfl) (.tmp 4) (.tmp 72) (by rfl) ⟨g0,g1,g2,g3,g4,g5,g6,g7,g8,g9⟩ (by rfl) (by rfl) ag.out.hZ (by rfl) ?_)
       have hx:=Yl C;exact zao Tryz.results128 rfl (zad ag.out.hZ) (by have h:=HP.out;rw[<-hx];exact h)
      ·skip
       have cl:(kk == 3)=false:=by rw[aM];simpa using h3
       clear aM
       replace C:=J (if_f C h3)
       have cA:=J (zdo ag.out.hR)
       go_wp2
       go_round
       case rel=>exact⟨_,_,_,_,_,_,_,_,_,_,_,_,_,_,_,_,_,_,_,_,_,_,_,_,_,_,_,_,_,_,_,_,_,_,_,_,_,_,_,_,_,_,_,_,_,_,_,_,_,_,_,_,_,_,_,_,_,_,⟨_,_,m,_,_,ag.out,ar.out,C.out,by omega⟩,rfl⟩
       case measure=>
        rw[cA.out,da.out];exact ze5 cT c3 ag.out.hR.le (cz.out.trans c9.out.le)
   ·skip
    replace C:=J (if_f C (fun h=>by cases h))
    obtain⟨h0,h1,h2,h3,h4,h5,h6,h7,h8,-⟩:=row9 PR.out;have HP:=J (ze6 aa (v:=v) (e:=⟨e0,I,K,V,U,e5,D,Y,Z,M⟩) ⟨PV.out.is.keep (fun j y=>⟨(F.out j y).1,by have:=(F.out j y).2.1;omega⟩) fun _ _=>rfl,PV.out.bg⟩)
    go_wp2_with (refine zed (by rfl) (.tmp 4) (.tmp 72) (by rfl) ⟨e0,I,K,V,U,e5,D,Y,Z,M⟩ (by rfl) (by rfl) aa.out.hZ (by rfl) ?_)
    have hx:=Yl C;exact zao Tryz.results128 rfl (zad aa.out.hZ) (hx ▸ HP.out)
end
theorem join1 {R:Prop}(x:World) (G:World->Prop)(hc:G x)(hb:G x->R):R:=hb hc
theorem zhm (W:World)(o:Obj)(b i:Nat)(v:Value)(hb:b<W.heap.size):(W.alloc o).setCell ⟨b,i,none⟩ v=(W.setCell ⟨b,i,none⟩ v).alloc o:=World.setCell_alloc_past _ _ _ _ hb
section
variable {T:Nat}{w W0 W W':World}{g:Nat}{st:Option Addr}{cap:Nat}{ts:List Tok}{s s':Qs}
theorem zvd {z:Nat}{v:Qv}{e:Qe}{S:Nat->Prop}(h:Fr T w W0 W g st cap ts s)(hz:z<W.heap.size)(hv:QV W S v e)(hS:∀ j,S j->W0.heap.size<=j∧j<W.heap.size∧j≠z)(k:Int)(x:ByteArray)(n a f t bg:Int) :
  Fr T w W0 ((W.alloc (.cells e.cells 63)).alloc (.cells (paQ k x n a f t bg (.slice (some ⟨W.heap.size,0,none⟩) 1 1)) 63)) g st cap ts s ∧
  Qk W0.heap.size z ((W.alloc (.cells e.cells 63)).alloc (.cells (paQ k x n a f t bg (.slice (some ⟨W.heap.size,0,none⟩) 1 1)) 63)) (W.heap.size+1) k x n a f t bg (.slice (some ⟨W.heap.size,0,none⟩) 1 1) [v.pt]:=by
 have A:=zep W (.cells e.cells 63) (.cells (paQ k x n a f t bg (.slice (some ⟨W.heap.size,0,none⟩) 1 1)) 63);have F:=A.size;have E:=h.size;refine⟨h.low A,by omega,zgc _ _ _,by omega,fun e=>?_,fun e=>?_,[e],S,⟨by simp[flatG,Qe.cells,paQ],.inr ⟨W.heap.size,1,e.cells,rfl,E,zfa _ _ _,Ya _,by decide,rfl,by simp[flatG,Qe.cells,paQ]⟩⟩,(QsAt.nil _ _).snoc (hv.is.keep (fun _ h=>h) fun j y=>A.block j (hS j y).2.1),fun j y=>?_⟩
 ·injection e with e;have D:W.heap.size=W.heap.size+1:=e;omega
 ·injection e with e;have D:W.heap.size=z:=e;omega
 ·have C:=hS j y;refine⟨C.1,by omega,by omega,C.2.2,fun e=>?_⟩;injection e with e;have D:W.heap.size=j:=e;omega
end
end Go.Proofs.YtmclgbkijeidaaaGreatDoor
