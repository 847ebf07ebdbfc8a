import Derived.Test.YtmclgbkijeidaaaGreatDoorUnQaR
import Derived.Test.YtmclgbkijeidaaaGreatDoorUnV
namespace Go.Proofs.YtmclgbkijeidaaaGreatDoor
set_option maxRecDepth 100000
set_option maxHeartbeats 4000000
open Go.RowKit
section
variable {T:Nat}{w W0 W W':World}{g:Nat}{st:Option Addr}{cap:Nat}{ts:List Tok}{s s':Qs}
theorem zki {n:Nat}{r:Qv × Qs}(hB:s.bad=true)(hU:UnQ T g st cap ts n)(hP:∀ m,m<n->PrQ T g st cap ts m)(hE:∀ m,m<n->ExQ T g st cap ts (dns ts m))(hR:QdS T w g st cap ts s)(hX:(dns ts (n+1)).una s=some r):Calls Tryz.prog 149 #[.pointer (some ⟨g,0,none⟩)] w (QoP T w g st cap ts r):=by
 have HF:=hid (zb9 hR);have hfe:=hR.few;have hle:=hR.le;clear hR;have HB0:=hid hB;have HU:=hid hU;have HP0:=hid hP;have HE:=hid hE;clear hE hU hP hB;rw[zji] at hX;have HX:=hid hX;clear hX
 go_enter Tryz.func149,Tryz.ntmps149
 go_wp2_with fail
 refine zaf (fun W=>Fr T w W W g st cap ts s) HF.out ?_;intro W0 hF;clear HF;have HF:=hid hF;clear hF;refine(zbe HF.out.hR).mono ?_;rintro e W1 ⟨rfl,b1⟩;obtain⟨t1,ht⟩:∃ t,nxQ ts s.p=t:=⟨_,rfl⟩;rw[ht];have HNX1:=hid ht;have HZ1:=hid (ht ▸ HF.out.hR.sz)
 try rw[ht] at HX
 have HF3:=hid (HF.out.low b1);clear ht b1 HF;obtain⟨W4,hst4,b4,f4,l4⟩:=zdg HF3.out t1;have Ht4t:=hid l4;have HF6:=hid (f4);clear b4 f4 l4 HF3;obtain⟨qb7,hqb7⟩:∃ b,s.bad=b:=⟨_,rfl⟩;have wc7:W4.cell? ⟨g,2,none⟩=some (.bool qb7):=hqb7 ▸ HF6.out.hR.c2;rw[hqb7] at HX;have HQB:=hid hqb7;clear hqb7
 cases qb7
 ·skip
  exact absurd (HQB.out.symm.trans HB0.out) (by simp)
 ·skip
  replace HX:=hid (if_f HX.out (fun h=>by cases h))
  cases n with
  | zero=>exact absurd HX.out (by intro h;cases h)
  | succ n=>
  have hX:=HX.out;rw[zhw] at hX
  replace HX:=hid hX
  clear hX
  go_wp2_with fail
  clear hst4 wc7;rcases hk8:(dns ts n).prim s with _|⟨v8,s8⟩
  ·exact absurd HX.out (by rw[hk8];intro h;cases h)
  rw[hk8] at HX
  try simp only[Option.bind_some] at HX
  refine(((fun hk=>HP0.out n (Nat.lt_succ_self _) _ _ _ hk HF6.out.hR) hk8)).mono ?_;rintro e W8 ⟨e8,rfl,q8,g8,r8⟩;have HV8:=hid q8;have hs8:=g8.size;have HF10:=hid (HF6.out.call g8 r8);have hl8:=HF6.out.size;clear hk8 q8 g8 r8 HF6;obtain⟨W11,hst11,b11,f11,l11⟩:=zk2 HF10.out (A:=W4) (by omega) HV8.out;have HVL:=hid l11;have HFV:=hid f11;clear b11 f11 l11 HV8 HF10
  go_wp2_with fail
  clear hst11;have HRL:=hid HX.out;clear HX
  go_loopw [] (fun wr=>∃ (v:Qv) (q:Qs) (m N:Nat) (e:Qe),Fr T w W0 wr g st cap ts q∧Vl W0 wr (W8.heap.size) N v e∧(dns ts m).posL v q=some r∧m<=n) (fun wr=>muQ ts g wr)
  case atStart=>exact⟨_,_,n,_,_,HFV.out,HVL.out,HRL.out,Nat.le_refl _⟩
  case round=>
   obtain⟨v,q,m,N,e,hF,hV,hm,hmn⟩:=hrel;have HFr:=hid hF;have HMU:=hid (zc1 hF.hR);have hqle:q.p<=ts.length:=hF.hR.le;have pR:=hV.row;have PB:=hid hV.hB;have hbl:=zaa hV.row;have hN:=hV.hN;obtain⟨pS,pV,pS2⟩:=hV.ex;have PV:=hid pV;have PS:=hid pS2;have PR:=hid pR;clear hF hV pV pS2 pR HFV HVL HRL
   cases m with
   | zero=>cases hm
   | succ m=>
   rw[zhx] at hm;have HX:=hid hm;clear hm;obtain⟨e0,e1,e2,e3,e4,e5,e6,e7,e8,e9⟩:=e;obtain⟨qb12,hqb12⟩:∃ b,q.bad=b:=⟨_,rfl⟩;have wc12:wr.cell? ⟨g,2,none⟩=some (.bool qb12):=hqb12 ▸ HFr.out.hR.c2;rw[hqb12] at HX;have HQB:=hid hqb12;clear hqb12
   cases qb12
   ·skip
    go_wp2_with fail
    clear wc12;refine(zar ⟨#[46]⟩ HFr.out.hR).mono ?_;rintro e W13 ⟨rfl,b13⟩;obtain⟨i13,hi⟩:∃ b,isQ ts q.p ⟨#[46]⟩=b:=⟨_,rfl⟩;rw[hi];have HIS:=hid hi
    try rw[hi] at HX
    have PR15:=hid ((b13.block _ (zaa PR.out)).trans PR.out);have PV15:Hid (QV W13 pS v ⟨e0,e1,e2,e3,e4,e5,e6,e7,e8,e9⟩):=hid ⟨PV.out.is.keep (fun _ h=>h) fun j hj=>b13.block j (by have:=(PS.out j hj).2.1;omega),PV.out.bg⟩;have pz15:=b13.size;have HF16:=hid (HFr.out.low b13);clear hi b13 HFr PR PV
    cases i13
    ·skip
     have HISD:=HIS
     go_wp2_with fail
     refine(zar ⟨#[40]⟩ HF16.out.hR).mono ?_;rintro e W17 ⟨rfl,b17⟩;obtain⟨i17,hi⟩:∃ b,isQ ts q.p ⟨#[40]⟩=b:=⟨_,rfl⟩;rw[hi];have HIS:=hid hi
     try rw[hi] at HX
     have PR19:=hid ((b17.block _ (zaa PR15.out)).trans PR15.out);have PV19:Hid (QV W17 pS v ⟨e0,e1,e2,e3,e4,e5,e6,e7,e8,e9⟩):=hid ⟨PV15.out.is.keep (fun _ h=>h) fun j hj=>b17.block j (by have:=(PS.out j hj).2.1;omega),PV15.out.bg⟩;have pz19:=b17.size;have HF20:=hid (HF16.out.low b17);clear hi b17 HF16 PR15 PV15
     cases i17
     ·skip
      replace HX:=hid (if_f HX.out (fun h=>by cases h))
      obtain⟨h0,h1,h2,h3,h4,h5,h6,h7,h8,-⟩:=row9 PR19.out;have HP:=hid (zd4 HF20.out (v:=v) (e:=⟨e0,e1,e2,e3,e4,e5,e6,e7,e8,e9⟩) ⟨PV19.out.is.keep (fun j hj=>⟨(PS.out j hj).1,by have:=(PS.out j hj).2.1;omega⟩) fun _ _=>rfl,PV19.out.bg⟩)
      go_wp2_with (refine zdj (by rfl) (.tmp 2) (.tmp 120) (by rfl) ⟨e0,e1,e2,e3,e4,e5,e6,e7,e8,e9⟩ (by rfl) (by rfl) HF20.out.hZ (by rfl) ?_)
      have hx:=Option.some.inj HX.out;exact zan Tryz.results149 rfl (zad HF20.out.hZ) (hx ▸ HP.out)
     ·skip
      replace HX:=hid (if_t HX.out (by first|rfl|trivial))
      rw[<-(show e6=v.bg from PV19.out.bg)] at HX
      go_wp2_with fail
      refine(zar ⟨#[46]⟩ HF20.out.hR).mono ?_;rintro e W21 ⟨rfl,b21⟩;rw[HISD.out];have PR23:=hid ((b21.block _ (zaa PR19.out)).trans PR19.out);have PV23:Hid (QV W21 pS v ⟨e0,e1,e2,e3,e4,e5,e6,e7,e8,e9⟩):=hid ⟨PV19.out.is.keep (fun _ h=>h) fun j hj=>b21.block j (by have:=(PS.out j hj).2.1;omega),PV19.out.bg⟩;have pz23:=b21.size;have HF24:=hid (HF20.out.low b21);clear b21 HF20 PR19 PV19
      replace HX:=hid (if_f HX.out (fun h=>by cases h))
      go_wp2_with fail
      refine(zag ⟨#[40]⟩ HF24.out.hR).mono ?_;rintro e W25 ⟨rfl,g25,r25⟩;obtain⟨t25,ht⟩:∃ t,takT ts ⟨#[40]⟩ q=t:=⟨_,rfl⟩;obtain⟨s25,hs⟩:∃ s2,takS ts ⟨#[40]⟩ q=s2:=⟨_,rfl⟩;rw[show takT ts ⟨#[40]⟩ ⟨q.p,q.bad⟩=t25 from ht];have q25:QdS T W25 g st cap ts s25:=hs ▸ r25;have HT25:Hid (LtQ q s25):=hid (hs ▸ zal _ _)
      try rw[ht] at HX
      try rw[hs] at HX
      have PR27:=hid ((g25.block _ (zaa PR23.out) (fun e=>by injection e with e;have:=HF24.out.gB;have:=PB.out;omega)).trans PR23.out);have PV27:Hid (QV W25 pS v ⟨e0,e1,e2,e3,e4,e5,e6,e7,e8,e9⟩):=hid ⟨PV23.out.is.keep (fun _ h=>h) fun j hj=>g25.block j (by have:=(PS.out j hj).2.1;omega) (fun e=>by injection e with e;have:=HF24.out.gB;have:=(PS.out j hj).1;omega),PV23.out.bg⟩;have pz27:=g25.size;have HF28:=hid (HF24.out.call g25 q25);clear ht hs r25 q25 g25 HF24 PR23 PV23;have upr:W25.heap[W8.heap.size]?=some (.cells #[.int .i64 e0,.string e1,.int .i64 e2,.slice none 0 0,.int .i64 e3,.int .i64 e4,.int .i64 e5,.int .i64 e6,.slice e7 e8 e9] 63 (0,0)):=PR27.out;obtain⟨p0,p1,p2,p3,p4,p5,p6,p7,p8,-⟩:=row9 upr;clear upr;have hbx:=zaa PR27.out;have hNx:N<=W25.heap.size:=by omega
      have HN1:=hid (zoj HF28.out hbx (v:=v) (e:=⟨e0,e1,e2,e3,e4,e5,e6,e7,e8,e9⟩) PV27.out (fun j hj=>by have hp:=PS.out j hj;exact⟨hp.1,by omega,hp.2.2⟩) 25 ⟨#[]⟩ 0 e6 e6 0 e6);have HPRR:=hid ((zdr W25 (.cells (⟨e0,e1,e2,e3,e4,e5,e6,e7,e8,e9⟩:Qe).cells 63) (.cells (paQ 25 ⟨#[]⟩ 0 e6 e6 0 e6 (.slice (some ⟨W25.heap.size,0,none⟩) 1 1)) 63)).block _ hbx)
      go_wp2_with fail
      clear p0 p1 p2 p3 p4 p5 p6 p7 p8;refine zdd (fun W2=>Fr T w W0 W2 g st cap ts s25∧Qk W0.heap.size (W8.heap.size) W2 (W25.heap.size+1) 25 ⟨#[]⟩ 0 e6 e6 0 e6 (.slice (some ⟨W25.heap.size,0,none⟩) 1 1) [v.pt]∧W2.heap[W8.heap.size]?=some (.cells #[.int .i64 e0,.string e1,.int .i64 e2,.slice none 0 0,.int .i64 e3,.int .i64 e4,.int .i64 e5,.int .i64 e6,.slice e7 e8 e9] 63 (0,0))) ⟨HN1.out.1,HN1.out.2,HPRR.out.trans PR27.out⟩ ?_;rintro Wn ⟨fn,qn,rn⟩;have HFn:=hid fn;have HQn:=hid qn;have HRn:=hid rn;have hbx2:W8.heap.size<W25.heap.size+1:=by omega
      have HMU0:=HMU;have HQB0:=HQB;have hqle0:=hqle;clear fn qn rn HN1 HPRR HF28 PR27 PV27
      go_wp2_with fail
      rcases hk29:(dns ts m).argL [v.pt] s25 with _|⟨lf,sf⟩
      ·exact absurd HX.out (by rw[hk29];intro h;cases h)
      rw[hk29] at HX;simp only[Option.bind_some] at HX;have HRL:=hid hk29;have HO:=HX;clear HX hk29
      go_loopw [] (fun wr=>∃ (l2:List Pt) (q2:Qs) (v2:Value) (m2:Nat),Fr T w W0 wr g st cap ts q2∧Qk W0.heap.size (W8.heap.size) wr ((W25.heap.size+1)) 25 ⟨#[]⟩ 0 e6 e6 0 e6 v2 l2∧(dns ts m2).argL l2 q2=some (lf,sf)∧m2<=m∧Few l2 q2∧wr.heap[W8.heap.size]?=some (.cells #[.int .i64 e0,.string e1,.int .i64 e2,.slice none 0 0,.int .i64 e3,.int .i64 e4,.int .i64 e5,.int .i64 e6,.slice e7 e8 e9] 63 (0,0))∧LeQ s25 q2) (fun wr=>muQ ts g wr)
      case atStart=>exact⟨_,_,_,_,HFn.out,HQn.out,HRL.out,Nat.le_refl _,⟨by simp,fun hb=>by have h:=HT25.out.2;rw[hb] at h;simp at h;simp;omega⟩,HRn.out,LeQ.rfl _⟩
      case round=>
       obtain⟨l2,q2,v2,m2,hF,hQ,hm,hmn,hfw,hx0,hx1⟩:=hrel;have HFr:=hid hF;have HQr:=hid hQ;have HFw:=hid hfw;have HMU:=hid (zc1 hF.hR);have hqle:q2.p<=ts.length:=hF.hR.le;have HXX0:=hid hx0;have HXX1:=hid hx1;obtain⟨vsp,vsn,vsc,hv⟩:=hQ.sl;subst hv;clear hF hQ hfw HFn HQn HRL hx0 hx1
       cases m2 with
       | zero=>cases hm
       | succ m2=>
       rw[zhy] at hm;have HX:=hid hm;clear hm;clear HRn;obtain⟨qb30,hqb30⟩:∃ b,q2.bad=b:=⟨_,rfl⟩;have wc30:wr.cell? ⟨g,2,none⟩=some (.bool qb30):=hqb30 ▸ HFr.out.hR.c2;rw[hqb30] at HX;have HQB:=hid hqb30;clear hqb30
       cases qb30
       ·skip
        go_wp2_with fail
        clear wc30;refine(zar ⟨#[41]⟩ HFr.out.hR).mono ?_;rintro e W31 ⟨rfl,b31⟩;obtain⟨i31,hi⟩:∃ b,isQ ts q2.p ⟨#[41]⟩=b:=⟨_,rfl⟩;rw[hi];have HIS:=hid hi
        try rw[hi] at HX
        have Hp32x:=hid (HQr.out.below b31);have PR33:=hid ((b31.block _ (zaa HXX0.out)).trans HXX0.out);have pz33:=b31.size;have HF34:=hid (HFr.out.low b31);clear hi b31 HFr HQr HXX0
        cases i31
        ·skip
         replace HX:=hid (if_t HX.out (by first|rfl|trivial))
         go_wp2_with (fail)
         rcases hk35:(dns ts m2).row 1 q2 with _|⟨v35,s35⟩
         ·exact absurd HX.out (by rw[hk35];intro h;cases h)
         rw[hk35] at HX;simp only[Option.bind_some] at HX;have HLT:=hid ((lst (ts:=ts) _).row _ _ _ _ hk35);have HFr2:=hid HF34.out;have hd35:Below W31.heap.size W31 W31.drew:=(Below.refl _ _).drew;have HD35:=hid (HF34.out.low hd35);have HE35:=hid (Hp32x.out.below hd35);have HK35:=hid (fun (h:QdS T W31.drew g st cap ts q2)=>(fun hk=>HE.out m2 (by omega) W31.drew _ _ hk h) hk35);clear hk35 hd35 HF34 Hp32x;have c835:W31.drew.cell? ⟨(W25.heap.size+1),8,none⟩=some (.slice vsp vsn vsc):=(cell_of_row _ _ 8 _ _ _ HE35.out.row).trans rfl;apply zby (fun y0 y1 y2 y3 y4 y5 y6 y7 y8 y9 Wy sp sn sc Wz=>Fr T w W0 Wz g st cap ts s35∧Qk W0.heap.size (W8.heap.size) Wz ((W25.heap.size+1)) 25 ⟨#[]⟩ 0 e6 e6 0 e6 (.slice sp sn sc) (l2++[v35.pt])∧W31.drew.grownBy Wy (some g)∧((W8.heap.size)≠(W25.heap.size+1)->Wz.heap[W8.heap.size]?=Wy.heap[W8.heap.size]?)∧Wy.heap.size<=Wz.heap.size)
         rotate_left
         ·intro hc;refine zbg (S:=fun _=>Hid True) 8 rfl (by kernel_rfl) ?_;refine zao 0 99 (.pointer (some ⟨(W25.heap.size+1),8,none⟩)) rfl (by kernel_rfl) (by kernel_rfl) (by kernel_rfl) (fun _ _ _ h=>h) (fun w' _=>by first|rfl|(go_simp;done) | (go_simp;rw[IntKind.wrap_i64];omega)) (hid trivial) ?_;simp only[sI,sS,sZ];refine zao 2 101 (.pointer (some ⟨g,0,none⟩)) rfl (by kernel_rfl) (by kernel_rfl) (by kernel_rfl) (fun _ _ _ h=>h) (fun w' _=>by first|rfl|(go_simp;done) | (go_simp;rw[IntKind.wrap_i64];omega)) (hid trivial) ?_;simp only[sI,sS,sZ];refine wpAnyH_all (rs:=[1,3]) (by kernel_rfl) (by simp) fun i hi=>?_;simp only[List.mem_cons,List.not_mem_nil,or_false] at hi;rcases hi with rfl|rfl
          ·skip
           refine zam rfl rfl ?_
           go_simp
           refine⟨hid trivial,?_⟩;refine zac 3 rfl (by kernel_rfl) ?_
           go_simp
           refine(HK35.out HD35.out.hR).mono ?_;rintro e W35 ⟨⟨y0,y1,y2,y3,y4,y5,y6,y7,y8,y9⟩,rfl,q35,g35,r35⟩;obtain⟨c35,d35,v2,w1,Wz,ha,ce,cf,cw,f35,k35,z35,hsz⟩:=zbt HD35.out HE35.out ((Nat.le_trans (HFw.out.lt HFr2.out.hR) (by omega))) g35 r35 q35;obtain⟨sp2,sn2,sc2,hv2⟩:=k35.sl;subst hv2;have HFIN:=hid (hc y0 y1 y2 y3 y4 y5 y6 y7 y8 y9 W35 sp2 sn2 sc2 Wz ⟨f35,k35,g35,z35,hsz⟩)
           dsimp only[Qe.cells,paQ] at c35 d35 ha ce cf cw
           unfold Qe.cells paQ;clear f35 k35 z35 q35 g35 r35 hsz;refine⟨hid trivial,?_⟩;refine zac 4 rfl (by kernel_rfl) ?_
           go_simp
           refine⟨hid trivial,?_⟩;refine zac 5 rfl (by kernel_rfl) ?_;refine zak (.tmp 100) (.tmp 103) 61 rfl rfl rfl ha ?_;refine⟨hid trivial,?_⟩;simp only[Act.put,List.setIfInBounds_toArray,List.set_cons_succ,List.set_cons_zero];refine zao 6 105 (.pointer (some ⟨(W25.heap.size+1),8,none⟩)) rfl (by kernel_rfl) (by kernel_rfl) (by kernel_rfl) (fun _ _ _ h=>h) (fun w' _=>by first|rfl|(go_simp;done) | (go_simp;rw[IntKind.wrap_i64];omega)) (hid trivial) ?_;simp only[sI,sS,sZ];refine zac 7 rfl (by kernel_rfl) ?_
           go_simp
           refine⟨hid trivial,?_⟩;refine wpAnyH_done (by kernel_rfl) ?_ _;exact HFIN.out
          ·skip
           refine zam rfl rfl ?_
           go_simp
           refine(HK35.out HD35.out.hR).mono ?_;rintro e W35 ⟨⟨y0,y1,y2,y3,y4,y5,y6,y7,y8,y9⟩,rfl,q35,g35,r35⟩;obtain⟨c35,d35,v2,w1,Wz,ha,ce,cf,cw,f35,k35,z35,hsz⟩:=zbt HD35.out HE35.out ((Nat.le_trans (HFw.out.lt HFr2.out.hR) (by omega))) g35 r35 q35;obtain⟨sp2,sn2,sc2,hv2⟩:=k35.sl;subst hv2;have HFIN:=hid (hc y0 y1 y2 y3 y4 y5 y6 y7 y8 y9 W35 sp2 sn2 sc2 Wz ⟨f35,k35,g35,z35,hsz⟩)
           dsimp only[Qe.cells,paQ] at c35 d35 ha ce cf cw
           unfold Qe.cells paQ;clear f35 k35 z35 q35 g35 r35 hsz;refine⟨hid trivial,?_⟩;refine wpAnyH_all (rs:=[1,4]) (by kernel_rfl) (by simp) fun i hi=>?_;simp only[List.mem_cons,List.not_mem_nil,or_false] at hi;rcases hi with rfl|rfl
           ·skip
            refine zam rfl rfl ?_
            go_simp
            refine⟨hid trivial,?_⟩;refine zac 4 rfl (by kernel_rfl) ?_
            go_simp
            refine⟨hid trivial,?_⟩;refine zac 5 rfl (by kernel_rfl) ?_;refine zak (.tmp 100) (.tmp 103) 61 rfl rfl rfl ha ?_;refine⟨hid trivial,?_⟩;simp only[Act.put,List.setIfInBounds_toArray,List.set_cons_succ,List.set_cons_zero];refine zao 6 105 (.pointer (some ⟨(W25.heap.size+1),8,none⟩)) rfl (by kernel_rfl) (by kernel_rfl) (by kernel_rfl) (fun _ _ _ h=>h) (fun w' _=>by first|rfl|(go_simp;done) | (go_simp;rw[IntKind.wrap_i64];omega)) (hid trivial) ?_;simp only[sI,sS,sZ];refine zac 7 rfl (by kernel_rfl) ?_
            go_simp
            refine⟨hid trivial,?_⟩;refine wpAnyH_done (by kernel_rfl) ?_ _;exact HFIN.out
           ·skip
            refine zam rfl rfl ?_
            go_simp
            refine⟨hid trivial,?_⟩;refine zac 1 rfl (by kernel_rfl) ?_
            go_simp
            refine⟨hid trivial,?_⟩;refine zac 5 rfl (by kernel_rfl) ?_;refine zak (.tmp 100) (.tmp 103) 61 rfl rfl rfl ha ?_;refine⟨hid trivial,?_⟩;simp only[Act.put,List.setIfInBounds_toArray,List.set_cons_succ,List.set_cons_zero];refine zao 6 105 (.pointer (some ⟨(W25.heap.size+1),8,none⟩)) rfl (by kernel_rfl) (by kernel_rfl) (by kernel_rfl) (fun _ _ _ h=>h) (fun w' _=>by first|rfl|(go_simp;done) | (go_simp;rw[IntKind.wrap_i64];omega)) (hid trivial) ?_;simp only[sI,sS,sZ];refine zac 7 rfl (by kernel_rfl) ?_
            go_simp
            refine⟨hid trivial,?_⟩;refine wpAnyH_done (by kernel_rfl) ?_ _;exact HFIN.out
         intro y0 y1 y2 y3 y4 y5 y6 y7 y8 y9 W35 sp36 sn36 sc36 W36 hF36;obtain⟨f36,k36,g36,z36,y36⟩:=hF36;have Hp36x:=hid k36;have HG36:=hid g36;have HZ36:=hid z36;have HF37:=hid (f36);clear f36 k36 g36 z36 HD35 HE35 c835 HK35 HFr2;have PRz:=hid ((HZ36.out (Nat.ne_of_lt hbx2)).trans ((HG36.out.block _ (zaa PR33.out) (fun e=>by injection e with e;have:=HF37.out.gB;have:=PB.out;omega)).trans PR33.out));clear PR33 HG36 HZ36
         go_wp2_with fail
         refine(zar ⟨#[41]⟩ HF37.out.hR).mono ?_;rintro e W38 ⟨rfl,b38⟩;obtain⟨i38,hi⟩:∃ b,isQ ts s35.p ⟨#[41]⟩=b:=⟨_,rfl⟩;rw[hi];have HIS:=hid hi
         try rw[hi] at HX
         have Hp39x:=hid (Hp36x.out.below b38);have PR40:=hid ((b38.block _ (zaa PRz.out)).trans PRz.out);have pz40:=b38.size;have HF41:=hid (HF37.out.low b38);clear hi b38 HF37 Hp36x PRz
         cases i38
         ·skip
          replace HX:=hid (if_f HX.out (fun h=>by cases h))
          go_wp2_with fail
          refine(zag ⟨#[44]⟩ HF41.out.hR).mono ?_;rintro e W42 ⟨rfl,g42,r42⟩;obtain⟨t42,ht⟩:∃ t,takT ts ⟨#[44]⟩ s35=t:=⟨_,rfl⟩;obtain⟨s42,hs⟩:∃ s2,takS ts ⟨#[44]⟩ s35=s2:=⟨_,rfl⟩;rw[show takT ts ⟨#[44]⟩ ⟨s35.p,s35.bad⟩=t42 from ht];have q42:QdS T W42 g st cap ts s42:=hs ▸ r42;have HT42:Hid (LtQ s35 s42):=hid (hs ▸ zal _ _)
          try rw[ht] at HX
          try rw[hs] at HX
          have Hp43x:=hid (Hp39x.out.grow HF41.out.gB g42);have PR44:=hid ((g42.block _ (zaa PR40.out) (fun e=>by injection e with e;have:=HF41.out.gB;have:=PB.out;omega)).trans PR40.out);have pz44:=g42.size;have HF45:=hid (HF41.out.call g42 q42);clear ht hs r42 q42 g42 HF41 Hp39x PR40
          go_wp2_with fail
          refine(zar ⟨#[41]⟩ HF45.out.hR).mono ?_;rintro e W46 ⟨rfl,b46⟩;obtain⟨i46,hi⟩:∃ b,isQ ts s42.p ⟨#[41]⟩=b:=⟨_,rfl⟩;rw[hi];have HIS:=hid hi
          try rw[hi] at HX
          have Hp47x:=hid (Hp43x.out.below b46);have PR48:=hid ((b46.block _ (zaa PR44.out)).trans PR44.out);have pz48:=b46.size;have HF49:=hid (HF45.out.low b46);clear hi b46 HF45 Hp43x PR44
          cases i46
          ·skip
           rw[show wrQ false s42=s42 from rfl] at HX;have HMV:=hid (zc1 HF49.out.hR)
           go_wp2
           go_round
           case rel=>(repeat apply Exists.intro);exact⟨⟨_,_,_,m2,HF49.out,Hp47x.out,HX.out,by omega,(HFw.out.more HQB.out HLT.out).le (HT42.out.le),PR48.out,HXX1.out.trans (HLT.out.le.trans HT42.out.le)⟩,rfl⟩
           case measure=>
            rw[HMV.out,HMU.out];exact zd3 HQB.out hqle HF49.out.hR.le (HLT.out.trans (HT42.out.le))
          ·skip
           have HW:Hid (LeQ s42 (wrQ true s42)):=hid (zlr _ _);obtain⟨W50,hw50,g50,r50⟩:∃ W2,W46.setCell ⟨g,2,none⟩ (.bool true)=W2∧W46.grownBy W2 (some g)∧QdS T W2 g st cap ts (wrQ true s42):=⟨_,rfl,zin W46 g,HF49.out.hR.wrong⟩;have wc50:=HF49.out.hR.c2;have wz50:=HF49.out.hR.z 2;obtain⟨s50,hs50⟩:∃ s2,wrQ true s42=s2:=⟨_,rfl⟩;rw[hs50] at HX r50
           try rw[hs50] at HW
           have Hp51x:=hid (Hp47x.out.grow HF49.out.gB g50);have PR52:=hid ((g50.block _ (zaa PR48.out) (fun e=>by injection e with e;have:=HF49.out.gB;have:=PB.out;omega)).trans PR48.out);have pz52:=g50.size;have HF53:=hid (HF49.out.call g50 r50);clear hs50 g50 r50 HF49 Hp47x PR48;have HMV:=hid (zc1 HF53.out.hR)
           go_wp2
           go_round
           case rel=>(repeat apply Exists.intro);exact⟨⟨_,_,_,m2,HF53.out,Hp51x.out,HX.out,by omega,(HFw.out.more HQB.out HLT.out).le ((HT42.out.le.trans HW.out)),PR52.out,HXX1.out.trans (HLT.out.le.trans (HT42.out.le.trans HW.out))⟩,rfl⟩
           case measure=>
            rw[HMV.out,HMU.out];exact zd3 HQB.out hqle HF53.out.hR.le (HLT.out.trans ((HT42.out.le.trans HW.out)))
         ·skip
          replace HX:=hid (if_t HX.out (by first|rfl|trivial))
          have hO:=HO.out;obtain⟨rfl,rfl⟩:=Prod.mk.inj (Option.some.inj HX.out)
          replace HX:=hid hO
          clear hO HO
          go_wp2_with fail
          refine(zag ⟨#[41]⟩ HF41.out.hR).mono ?_;rintro e W54 ⟨rfl,g54,r54⟩;obtain⟨t54,ht⟩:∃ t,takT ts ⟨#[41]⟩ s35=t:=⟨_,rfl⟩;obtain⟨s54,hs⟩:∃ s2,takS ts ⟨#[41]⟩ s35=s2:=⟨_,rfl⟩;rw[show takT ts ⟨#[41]⟩ ⟨s35.p,s35.bad⟩=t54 from ht];have q54:QdS T W54 g st cap ts s54:=hs ▸ r54;have HT54:Hid (LtQ s35 s54):=hid (hs ▸ zal _ _)
          try rw[ht] at HX
          try rw[hs] at HX
          have Hp55x:=hid (Hp39x.out.grow HF41.out.gB g54);have PR56:=hid ((g54.block _ (zaa PR40.out) (fun e=>by injection e with e;have:=HF41.out.gB;have:=PB.out;omega)).trans PR40.out);have pz56:=g54.size;have HF57:=hid (HF41.out.call g54 q54);clear ht hs r54 q54 g54 HF41 Hp39x PR40;obtain⟨r58a,r58b,r58c,r58d,r58e,r58f,r58g,r58h,r58i,r58z⟩:=row9 Hp55x.out.row
          go_wp2_with fail
          clear r58a r58b r58c r58d r58e r58f r58g r58h r58i r58z;obtain⟨sp59,ln59,cp59,hv59,hd59⟩:=za7 HF57.out Hp55x.out;injection hv59 with u1 u2 u3;subst u1 u2 u3;refine hd59.mono ?_;rintro e W59 ⟨e59,rfl,b59,f59,q59⟩;have HV59:=hid q59;have PR61:=hid ((b59.block _ (zaa PR56.out)).trans PR56.out);have pz61:=b59.size;have HF62:=hid (f59);clear hd59 b59 f59 q59 HF57 Hp55x PR56;obtain⟨W63,hst63,b63,f63,l63⟩:=zfr (e0:=⟨e0,e1,e2,e3,e4,e5,e6,e7,e8,e9⟩) HF62.out PB.out PR61.out HV59.out;have HVN:=hid l63;have HF64:=hid (f63);clear b63 f63 l63 HF62 HV59 PR61;have HMV:=hid (zc1 HF64.out.hR)
          go_wp2
          go_round
          case rel=>(repeat apply Exists.intro);exact⟨⟨_,_,m,_,_,HF64.out,HVN.out,HX.out,by omega⟩,rfl⟩
          case measure=>
           rw[HMV.out,HMU0.out];exact zd3 HQB0.out hqle0 HF64.out.hR.le (HT25.out.trans ((HXX1.out.trans HLT.out.le).trans HT54.out.le))
        ·skip
         replace HX:=hid (if_f HX.out (fun h=>by cases h))
         have hO:=HO.out;obtain⟨rfl,rfl⟩:=Prod.mk.inj (Option.some.inj HX.out)
         replace HX:=hid hO
         clear hO HO
         go_wp2_with fail
         refine(zag ⟨#[41]⟩ HF34.out.hR).mono ?_;rintro e W65 ⟨rfl,g65,r65⟩;obtain⟨t65,ht⟩:∃ t,takT ts ⟨#[41]⟩ q2=t:=⟨_,rfl⟩;obtain⟨s65,hs⟩:∃ s2,takS ts ⟨#[41]⟩ q2=s2:=⟨_,rfl⟩;rw[show takT ts ⟨#[41]⟩ ⟨q2.p,q2.bad⟩=t65 from ht];have q65:QdS T W65 g st cap ts s65:=hs ▸ r65;have HT65:Hid (LtQ q2 s65):=hid (hs ▸ zal _ _)
         try rw[ht] at HX
         try rw[hs] at HX
         have Hp66x:=hid (Hp32x.out.grow HF34.out.gB g65);have PR67:=hid ((g65.block _ (zaa PR33.out) (fun e=>by injection e with e;have:=HF34.out.gB;have:=PB.out;omega)).trans PR33.out);have pz67:=g65.size;have HF68:=hid (HF34.out.call g65 q65);clear ht hs r65 q65 g65 HF34 Hp32x PR33;obtain⟨r69a,r69b,r69c,r69d,r69e,r69f,r69g,r69h,r69i,r69z⟩:=row9 Hp66x.out.row
         go_wp2_with fail
         clear r69a r69b r69c r69d r69e r69f r69g r69h r69i r69z;obtain⟨sp70,ln70,cp70,hv70,hd70⟩:=za7 HF68.out Hp66x.out;injection hv70 with u1 u2 u3;subst u1 u2 u3;refine hd70.mono ?_;rintro e W70 ⟨e70,rfl,b70,f70,q70⟩;have HV70:=hid q70;have PR72:=hid ((b70.block _ (zaa PR67.out)).trans PR67.out);have pz72:=b70.size;have HF73:=hid (f70);clear hd70 b70 f70 q70 HF68 Hp66x PR67;obtain⟨W74,hst74,b74,f74,l74⟩:=zfr (e0:=⟨e0,e1,e2,e3,e4,e5,e6,e7,e8,e9⟩) HF73.out PB.out PR72.out HV70.out;have HVN:=hid l74;have HF75:=hid (f74);clear b74 f74 l74 HF73 HV70 PR72;have HMV:=hid (zc1 HF75.out.hR)
         go_wp2
         go_round
         case rel=>exact⟨_,_,m,_,_,HF75.out,HVN.out,HX.out,by omega⟩
         case measure=>
          rw[HMV.out,HMU0.out];exact zd3 HQB0.out hqle0 HF75.out.hR.le (HT25.out.trans (HXX1.out.trans HT65.out.le))
       ·skip
        replace HX:=hid (if_f HX.out (fun h=>by cases h))
        have hO:=HO.out;obtain⟨rfl,rfl⟩:=Prod.mk.inj (Option.some.inj HX.out)
        replace HX:=hid hO
        clear hO HO
        go_wp2_with fail
        clear wc30;refine(zag ⟨#[41]⟩ HFr.out.hR).mono ?_;rintro e W76 ⟨rfl,g76,r76⟩;obtain⟨t76,ht⟩:∃ t,takT ts ⟨#[41]⟩ q2=t:=⟨_,rfl⟩;obtain⟨s76,hs⟩:∃ s2,takS ts ⟨#[41]⟩ q2=s2:=⟨_,rfl⟩;rw[show takT ts ⟨#[41]⟩ ⟨q2.p,q2.bad⟩=t76 from ht];have q76:QdS T W76 g st cap ts s76:=hs ▸ r76;have HT76:Hid (LtQ q2 s76):=hid (hs ▸ zal _ _)
        try rw[ht] at HX
        try rw[hs] at HX
        have Hp77x:=hid (HQr.out.grow HFr.out.gB g76);have PR78:=hid ((g76.block _ (zaa HXX0.out) (fun e=>by injection e with e;have:=HFr.out.gB;have:=PB.out;omega)).trans HXX0.out);have pz78:=g76.size;have HF79:=hid (HFr.out.call g76 q76);clear ht hs r76 q76 g76 HFr HQr HXX0;obtain⟨r80a,r80b,r80c,r80d,r80e,r80f,r80g,r80h,r80i,r80z⟩:=row9 Hp77x.out.row
        go_wp2_with fail
        clear r80a r80b r80c r80d r80e r80f r80g r80h r80i r80z;obtain⟨sp81,ln81,cp81,hv81,hd81⟩:=za7 HF79.out Hp77x.out;injection hv81 with u1 u2 u3;subst u1 u2 u3;refine hd81.mono ?_;rintro e W81 ⟨e81,rfl,b81,f81,q81⟩;have HV81:=hid q81;have PR83:=hid ((b81.block _ (zaa PR78.out)).trans PR78.out);have pz83:=b81.size;have HF84:=hid (f81);clear hd81 b81 f81 q81 HF79 Hp77x PR78;obtain⟨W85,hst85,b85,f85,l85⟩:=zfr (e0:=⟨e0,e1,e2,e3,e4,e5,e6,e7,e8,e9⟩) HF84.out PB.out PR83.out HV81.out;have HVN:=hid l85;have HF86:=hid (f85);clear b85 f85 l85 HF84 HV81 PR83;have HMV:=hid (zc1 HF86.out.hR)
        go_wp2
        go_round
        case rel=>exact⟨_,_,m,_,_,HF86.out,HVN.out,HX.out,by omega⟩
        case measure=>
         rw[HMV.out,HMU0.out];exact zd3 HQB0.out hqle0 HF86.out.hR.le (HT25.out.trans (HXX1.out.trans HT76.out.le))
    ·skip
     replace HX:=hid (if_t HX.out (by first|rfl|trivial))
     rw[<-(show e6=v.bg from PV15.out.bg)] at HX
     go_wp2_with fail
     refine(zar ⟨#[46]⟩ HF16.out.hR).mono ?_;rintro e W87 ⟨rfl,b87⟩;rw[HIS.out];have PR89:=hid ((b87.block _ (zaa PR15.out)).trans PR15.out);have PV89:Hid (QV W87 pS v ⟨e0,e1,e2,e3,e4,e5,e6,e7,e8,e9⟩):=hid ⟨PV15.out.is.keep (fun _ h=>h) fun j hj=>b87.block j (by have:=(PS.out j hj).2.1;omega),PV15.out.bg⟩;have pz89:=b87.size;have HF90:=hid (HF16.out.low b87);clear b87 HF16 PR15 PV15
     replace HX:=hid (if_t HX.out (by first|rfl|trivial))
     go_wp2_with fail
     refine(zag ⟨#[46]⟩ HF90.out.hR).mono ?_;rintro e W91 ⟨rfl,g91,r91⟩;obtain⟨t91,ht⟩:∃ t,takT ts ⟨#[46]⟩ q=t:=⟨_,rfl⟩;obtain⟨s91,hs⟩:∃ s2,takS ts ⟨#[46]⟩ q=s2:=⟨_,rfl⟩;rw[show takT ts ⟨#[46]⟩ ⟨q.p,q.bad⟩=t91 from ht];have q91:QdS T W91 g st cap ts s91:=hs ▸ r91;have HT91:Hid (LtQ q s91):=hid (hs ▸ zal _ _)
     try rw[ht] at HX
     try rw[hs] at HX
     have PR93:=hid ((g91.block _ (zaa PR89.out) (fun e=>by injection e with e;have:=HF90.out.gB;have:=PB.out;omega)).trans PR89.out);have PV93:Hid (QV W91 pS v ⟨e0,e1,e2,e3,e4,e5,e6,e7,e8,e9⟩):=hid ⟨PV89.out.is.keep (fun _ h=>h) fun j hj=>g91.block j (by have:=(PS.out j hj).2.1;omega) (fun e=>by injection e with e;have:=HF90.out.gB;have:=(PS.out j hj).1;omega),PV89.out.bg⟩;have pz93:=g91.size;have HF94:=hid (HF90.out.call g91 q91);clear ht hs r91 q91 g91 HF90 PR89 PV89
     go_wp2_with fail
     refine(zag ⟨#[110,97,109,101]⟩ HF94.out.hR).mono ?_;rintro e W95 ⟨rfl,g95,r95⟩;obtain⟨t95,ht⟩:∃ t,takT ts ⟨#[110,97,109,101]⟩ s91=t:=⟨_,rfl⟩;obtain⟨s95,hs⟩:∃ s2,takS ts ⟨#[110,97,109,101]⟩ s91=s2:=⟨_,rfl⟩;rw[show takT ts ⟨#[110,97,109,101]⟩ ⟨s91.p,s91.bad⟩=t95 from ht];have q95:QdS T W95 g st cap ts s95:=hs ▸ r95;have HT95:Hid (LtQ s91 s95):=hid (hs ▸ zal _ _)
     try rw[ht] at HX
     try rw[hs] at HX
     have PR97:=hid ((g95.block _ (zaa PR93.out) (fun e=>by injection e with e;have:=HF94.out.gB;have:=PB.out;omega)).trans PR93.out);have PV97:Hid (QV W95 pS v ⟨e0,e1,e2,e3,e4,e5,e6,e7,e8,e9⟩):=hid ⟨PV93.out.is.keep (fun _ h=>h) fun j hj=>g95.block j (by have:=(PS.out j hj).2.1;omega) (fun e=>by injection e with e;have:=HF94.out.gB;have:=(PS.out j hj).1;omega),PV93.out.bg⟩;have pz97:=g95.size;have HF98:=hid (HF94.out.call g95 q95);clear ht hs r95 q95 g95 HF94 PR93 PV93;obtain⟨W99,hst99,b99,f99,l99⟩:=zdg HF98.out t95;have PR101:=hid ((b99.block _ (zaa PR97.out)).trans PR97.out);have PV101:Hid (QV W99 pS v ⟨e0,e1,e2,e3,e4,e5,e6,e7,e8,e9⟩):=hid ⟨PV97.out.is.keep (fun _ h=>h) fun j hj=>b99.block j (by have:=(PS.out j hj).2.1;omega),PV97.out.bg⟩;have pz101:=b99.size;have Ht99n:=hid l99;have HF102:=hid (f99);clear b99 f99 l99 HF98 PR97 PV97;obtain⟨c103a,c103b,c103c⟩:=Ht99n.out.cells
     go_wp2_with fail
     clear hst99 c103a c103b c103c;refine(zat 24 t95 t95.text W99).mono ?_;rintro e W104 ⟨rfl,b104⟩;have Ht105n:=hid (Ht99n.out.low b104);have PR106:=hid ((b104.block _ (zaa PR101.out)).trans PR101.out);have PV106:Hid (QV W104 pS v ⟨e0,e1,e2,e3,e4,e5,e6,e7,e8,e9⟩):=hid ⟨PV101.out.is.keep (fun _ h=>h) fun j hj=>b104.block j (by have:=(PS.out j hj).2.1;omega),PV101.out.bg⟩;have pz106:=b104.size;have HF107:=hid (HF102.out.low b104);clear b104 HF102 Ht99n PR101 PV101;have hbx:=zaa PR106.out;have hNx:N<=W104.heap.size:=by omega
     obtain⟨W108,hst108,b108,f108,l108⟩:=zc2 (z:=W8.heap.size) HF107.out hbx 24 t95 t95.text;have PR110:=hid ((b108.block _ (zaa PR106.out)).trans PR106.out);have PV110:Hid (QV W108 pS v ⟨e0,e1,e2,e3,e4,e5,e6,e7,e8,e9⟩):=hid ⟨PV106.out.is.keep (fun _ h=>h) fun j hj=>b108.block j (by have:=(PS.out j hj).2.1;omega),PV106.out.bg⟩;have pz110:=b108.size;have Hp108x:=hid l108;have hn108:=b108.size;have HF111:=hid (f108);clear b108 f108 l108 HF107 PR106 PV106;obtain⟨r112a,r112b,r112c,r112d,r112e,r112f,r112g,r112h,r112i,r112z⟩:=row9 Hp108x.out.row;obtain⟨p0,p1,p2,p3,p4,p5,p6,p7,p8,-⟩:=row9 PR110.out;have ap:(W108.alloc (.cells #[.int .i64 e0,.string e1,.int .i64 e2,.slice none 0 0,.int .i64 e3,.int .i64 e4,.int .i64 e5,.int .i64 e6,.slice e7 e8 e9] 63)).heap[W8.heap.size]?=some (.cells #[.int .i64 e0,.string e1,.int .i64 e2,.slice none 0 0,.int .i64 e3,.int .i64 e4,.int .i64 e5,.int .i64 e6,.slice e7 e8 e9] 63 (0,0)):=(Below.heap_alloc _ _ _ (zaa PR110.out)).trans PR110.out;have ax:(W108.alloc (.cells #[.int .i64 e0,.string e1,.int .i64 e2,.slice none 0 0,.int .i64 e3,.int .i64 e4,.int .i64 e5,.int .i64 e6,.slice e7 e8 e9] 63)).heap[W104.heap.size]?=some (.cells (paQ 24 t95.text 0 t95.pos t95.pos 0 t95.pos (.slice none 0 0)) 63 (0,0)):=(Below.heap_alloc _ _ _ Hp108x.out.lt).trans Hp108x.out.row;have ap7:(W108.alloc (.cells #[.int .i64 e0,.string e1,.int .i64 e2,.slice none 0 0,.int .i64 e3,.int .i64 e4,.int .i64 e5,.int .i64 e6,.slice e7 e8 e9] 63)).cell? ⟨W8.heap.size,7,none⟩=some (.int .i64 e6):=(cell_of_row _ _ 7 _ _ _ ap).trans rfl;have ax5:(W108.alloc (.cells #[.int .i64 e0,.string e1,.int .i64 e2,.slice none 0 0,.int .i64 e3,.int .i64 e4,.int .i64 e5,.int .i64 e6,.slice e7 e8 e9] 63)).cell? ⟨W104.heap.size,5,none⟩=some (.int .i64 t95.pos):=(cell_of_row _ _ 5 _ _ _ ax).trans rfl;have ax7:(W108.alloc (.cells #[.int .i64 e0,.string e1,.int .i64 e2,.slice none 0 0,.int .i64 e3,.int .i64 e4,.int .i64 e5,.int .i64 e6,.slice e7 e8 e9] 63)).cell? ⟨W104.heap.size,7,none⟩=some (.int .i64 t95.pos):=(cell_of_row _ _ 7 _ _ _ ax).trans rfl
     have axz:∀ i,(W108.alloc (.cells #[.int .i64 e0,.string e1,.int .i64 e2,.slice none 0 0,.int .i64 e3,.int .i64 e4,.int .i64 e5,.int .i64 e6,.slice e7 e8 e9] 63)).frozen? ⟨W104.heap.size,i,none⟩=false:=fun i=>frozen_of_row _ _ _ _ _ ax;clear ap ax;have s5:=(Below.refl 0 W108).setCell (p:=⟨W104.heap.size,5,none⟩) (Nat.zero_le _) (.int .i64 e6);have sxr:=heap_setCell_same W108 W104.heap.size 5 _ _ (.int .i64 e6) Hp108x.out.row;obtain⟨C,hCd⟩:∃ C,C=((W108.setCell ⟨W104.heap.size,5,none⟩ (.int .i64 e6)).alloc (.cells #[.int .i64 e0,.string e1,.int .i64 e2,.slice none 0 0,.int .i64 e3,.int .i64 e4,.int .i64 e5,.int .i64 e6,.slice e7 e8 e9] 63)):=⟨_,rfl⟩;have cxr:C.heap[W104.heap.size]?=some (.cells (paQ 24 t95.text 0 t95.pos e6 0 t95.pos (.slice none 0 0)) 63 (0,0)):=hCd ▸ (Below.heap_alloc _ _ _ (zaa sxr)).trans sxr;have cpr:C.heap[W8.heap.size]?=some (.cells #[.int .i64 e0,.string e1,.int .i64 e2,.slice none 0 0,.int .i64 e3,.int .i64 e4,.int .i64 e5,.int .i64 e6,.slice e7 e8 e9] 63 (0,0)):=hCd ▸ (Below.heap_alloc _ _ _ (Nat.lt_of_lt_of_le (zaa PR110.out) s5.size)).trans ((heap_setCell_other _ _ _ _ (Nat.ne_of_lt hbx)).trans PR110.out);have cp7:C.cell? ⟨W8.heap.size,7,none⟩=some (.int .i64 e6):=(cell_of_row _ _ 7 _ _ _ cpr).trans rfl;have cx7:C.cell? ⟨W104.heap.size,7,none⟩=some (.int .i64 t95.pos):=(cell_of_row _ _ 7 _ _ _ cxr).trans rfl;have cxz7:C.frozen? ⟨W104.heap.size,7,none⟩=false:=frozen_of_row _ _ _ _ _ cxr;rw[hCd] at cx7 cxz7 cp7;have hbxl:=Hp108x.out.lt;have E2:((W108.setCell ⟨W104.heap.size,5,none⟩ (.int .i64 e6)).alloc (.cells #[.int .i64 e0,.string e1,.int .i64 e2,.slice none 0 0,.int .i64 e3,.int .i64 e4,.int .i64 e5,.int .i64 e6,.slice e7 e8 e9] 63)).setCell ⟨W104.heap.size,7,none⟩ (.int .i64 e6)=((W108.setCell ⟨W104.heap.size,5,none⟩ (.int .i64 e6)).setCell ⟨W104.heap.size,7,none⟩ (.int .i64 e6)).alloc (.cells #[.int .i64 e0,.string e1,.int .i64 e2,.slice none 0 0,.int .i64 e3,.int .i64 e4,.int .i64 e5,.int .i64 e6,.slice e7 e8 e9] 63):=zf0 _ _ _ _ _ (Nat.lt_of_lt_of_le hbxl s5.size)
     have E3:((W108.alloc (.cells #[.int .i64 e0,.string e1,.int .i64 e2,.slice none 0 0,.int .i64 e3,.int .i64 e4,.int .i64 e5,.int .i64 e6,.slice e7 e8 e9] 63)).setCell ⟨W104.heap.size,5,none⟩ (.int .i64 e6)).setCell ⟨W104.heap.size,7,none⟩ (.int .i64 e6)=((W108.setCell ⟨W104.heap.size,5,none⟩ (.int .i64 e6)).setCell ⟨W104.heap.size,7,none⟩ (.int .i64 e6)).alloc (.cells #[.int .i64 e0,.string e1,.int .i64 e2,.slice none 0 0,.int .i64 e3,.int .i64 e4,.int .i64 e5,.int .i64 e6,.slice e7 e8 e9] 63):=by rw[zf0 _ _ _ _ _ hbxl];exact E2
     have h48:W108.heap.size=((W108.setCell ⟨W104.heap.size,5,none⟩ (.int .i64 e6)).setCell ⟨W104.heap.size,7,none⟩ (.int .i64 e6)).heap.size:=by simp
     have spr:(W108.setCell ⟨W104.heap.size,5,none⟩ (.int .i64 e6)).heap[W8.heap.size]?=some (.cells #[.int .i64 e0,.string e1,.int .i64 e2,.slice none 0 0,.int .i64 e3,.int .i64 e4,.int .i64 e5,.int .i64 e6,.slice e7 e8 e9] 63 (0,0)):=(heap_setCell_other _ _ _ _ (Nat.ne_of_lt hbx)).trans PR110.out;obtain⟨y0,y1,y2,y3,y4,y5,y6,y7,y8,-⟩:=row9 spr;clear cxr hCd cpr s5 sxr hbxl spr;obtain⟨W113,hw113,b113,o113,r113⟩:∃ W2,((W108.setCell ⟨W104.heap.size,5,none⟩ (.int .i64 e6)).setCell ⟨W104.heap.size,7,none⟩ (.int .i64 e6))=W2∧Below (W104.heap.size) W108 W2∧(∀ j,j≠W104.heap.size->j<W108.heap.size->W2.heap[j]?=W108.heap[j]?)∧W2.heap[W104.heap.size]?=some (.cells (paQ 24 t95.text 0 t95.pos e6 0 e6 (.slice none 0 0)) 63 (0,0)) :=
      ⟨_,rfl,(((Below.refl _ _).setCell (p:=⟨W104.heap.size,5,none⟩) (Nat.le_refl _) _).setCell (p:=⟨W104.heap.size,7,none⟩) (Nat.le_refl _) _),fun j hj _=>(heap_setCell_other _ _ _ _ hj).trans ((heap_setCell_other _ _ _ _ hj).trans (rfl)),heap_setCell_same _ _ 7 _ _ _ (heap_setCell_same _ _ 5 _ _ _ (Hp108x.out.row))⟩
     obtain⟨f113,q113⟩:=zhz HF111.out Hp108x.out W113 b113 o113 24 t95.text 0 t95.pos e6 0 e6 r113;have Hp113x:=hid q113;have PR113:=hid ((o113 _ (Nat.ne_of_lt hbx) (zaa PR110.out)).trans PR110.out);have PV113:Hid (QV W113 pS v ⟨e0,e1,e2,e3,e4,e5,e6,e7,e8,e9⟩):=hid ⟨PV110.out.is.keep (fun _ h=>h) fun j hj=>o113 j (by have:=(PS.out j hj).2.1;omega) (by have:=(PS.out j hj).2.1;omega),PV110.out.bg⟩;have pz113:=b113.size;have HF114:=hid (f113);clear f113 q113 b113 o113 r113 HF111 Hp108x PR110 PV110;rw[hw113] at E2 E3 h48;have H48:=hid h48;clear h48;have upr:W113.heap[W8.heap.size]?=some (.cells #[.int .i64 e0,.string e1,.int .i64 e2,.slice none 0 0,.int .i64 e3,.int .i64 e4,.int .i64 e5,.int .i64 e6,.slice e7 e8 e9] 63 (0,0)):=PR113.out;obtain⟨u0,u1,u2,u3,u4,u5,u6,u7,u8,-⟩:=row9 upr;clear upr;obtain⟨c115,f115,W115,hw115,g115,q115,b115,o115⟩:=zdy HF114.out Hp113x.out (v:=v) (e:=⟨e0,e1,e2,e3,e4,e5,e6,e7,e8,e9⟩) (S:=pS) PV113.out (fun j hj=>by have hp:=PS.out j hj;have:=Hp113x.out.lt;exact⟨hp.1,by omega,by omega,hp.2.2⟩)
     dsimp only[Qe.cells,paQ] at c115 f115 hw115
     have hwb:=hw115;rw[<-H48.out] at hwb;have Hp115x:=hid q115;have PR115:=hid ((o115 _ (Nat.ne_of_lt hbx) (zaa PR113.out)).trans PR113.out);have HF116:=hid (g115);clear g115 q115 b115 o115 HF114 Hp113x PR113 PV113;obtain⟨W117,hd117⟩:∃ V,W115.drew=V:=⟨_,rfl⟩;have bd117:Below W115.heap.size W115 W117:=hd117 ▸ (Below.refl _ _).drew;have Hp118x:=hid (Hp115x.out.below bd117);have PR119:=hid ((bd117.block _ (zaa PR115.out)).trans PR115.out);have pz119:=bd117.size;have HF120:=hid (HF116.out.low bd117);clear bd117 HF116 Hp115x PR115
     go_wp2_with fail
     apply join1 W117
     rotate_left
     ·intro hc;have HC:=hid hc;clear hc
      go_region
      all_goals (try rw[<-H48.out])
      all_goals (exact HC.out)
     clear hd117;clear hst108 r112a r112b r112c r112d r112e r112f r112g r112h r112i r112z ap7 ax5 ax7 axz cp7 cx7 cxz7 E2 E3 hw113;obtain⟨r121a,r121b,r121c,r121d,r121e,r121f,r121g,r121h,r121i,r121z⟩:=row9 Hp118x.out.row
     go_wp2_with fail
     clear r121a r121b r121c r121d r121e r121f r121g r121h r121i r121z;obtain⟨sp122,ln122,cp122,hv122,hd122⟩:=za7 HF120.out Hp118x.out;injection hv122 with u1 u2 u3;subst u1 u2 u3;refine hd122.mono ?_;rintro e W122 ⟨e122,rfl,b122,f122,q122⟩;have HV122:=hid q122;have PR124:=hid ((b122.block _ (zaa PR119.out)).trans PR119.out);have pz124:=b122.size;have HF125:=hid (f122);clear hd122 b122 f122 q122 HF120 Hp118x PR119;obtain⟨W126,hst126,b126,f126,l126⟩:=zfr HF125.out PB.out PR124.out HV122.out;have HVN:=hid l126;have HF127:=hid (f126);clear b126 f126 l126 HF125 HV122 PR124;have HMV:=hid (zc1 HF127.out.hR)
     go_wp2
     go_round
     case rel=>exact⟨_,_,m,_,_,HF127.out,HVN.out,HX.out,by omega⟩
     case measure=>
      rw[HMV.out,HMU.out];exact zd3 HQB.out hqle HF127.out.hR.le (HT91.out.trans HT95.out.le)
   ·skip
    replace HX:=hid (if_f HX.out (fun h=>by cases h))
    obtain⟨h0,h1,h2,h3,h4,h5,h6,h7,h8,-⟩:=row9 PR.out;have HP:=hid (zd4 HFr.out (v:=v) (e:=⟨e0,e1,e2,e3,e4,e5,e6,e7,e8,e9⟩) ⟨PV.out.is.keep (fun j hj=>⟨(PS.out j hj).1,by have:=(PS.out j hj).2.1;omega⟩) fun _ _=>rfl,PV.out.bg⟩)
    go_wp2_with (refine zdj (by rfl) (.tmp 2) (.tmp 120) (by rfl) ⟨e0,e1,e2,e3,e4,e5,e6,e7,e8,e9⟩ (by rfl) (by rfl) HFr.out.hZ (by rfl) ?_)
    have hx:=Option.some.inj HX.out;exact zan Tryz.results149 rfl (zad HFr.out.hZ) (hx ▸ HP.out)
end
section
variable {T:Nat}{w W0 W W':World}{g:Nat}{st:Option Addr}{cap:Nat}{ts:List Tok}{s s':Qs}
theorem zi1 {b z:Nat}{k:Int}{x:ByteArray}{n a f t bg:Int}{v:Value}{l:List Pt}{vx:Qv}{e:Qe}{S:Nat->Prop}(h:Fr T w W0 W g st cap ts s)(hQ:Qk W0.heap.size z W b k x n a f t bg v l)(hl:l.length<=200000)(hg:W.grownBy W' (some g))(hR:QdS T W' g st cap ts s')(hv:QV W' S vx e)
  (hS:∀ j,S j->W0.heap.size<=j∧j<W.heap.size∧j≠b∧j≠z∧v.ownBlock≠some j) :
  W'.cell? ⟨b,8,none⟩=some v∧(W'.alloc (.cells e.cells 63)).cell? ⟨b,8,none⟩=some v ∧
  ∃ v' w1 W2,(Builtin.append_ #[61,61] 61 #[v,.slice (some ⟨W'.heap.size,0,none⟩) 1 1]).run Tryz.prog (W'.alloc (.cells e.cells 63))=.ok v' w1∧w1.cell? ⟨b,8,none⟩=some v∧w1.frozen? ⟨b,8,none⟩=false ∧
   w1.setCell ⟨b,8,none⟩ v'=W2∧Fr T w W0 W2 g st cap ts s'∧Qk W0.heap.size z W2 b k x n a f t bg v' (l++[vx.pt])∧(z≠b->W2.heap[z]?=W'.heap[z]?)∧W'.heap.size<=W2.heap.size ∧
   ∀ c,c≠g->c≠b->c<W.heap.size->v.ownBlock≠some c->W'.heap[c]?=W.heap[c]?∧(W'.alloc (.cells e.cells 63)).heap[c]?=W.heap[c]?∧w1.heap[c]?=W.heap[c]?∧W2.heap[c]?=W.heap[c]?:=by
 have hQ':=hQ.grow h.gB hg;have hF':=h.call hg hR;have hb:=hQ.lt;have hb':=hQ'.lt;have hs:=hg.size;have ha:Below W'.heap.size W' (W'.alloc (.cells e.cells 63)):=(Below.refl _ _).alloc (Nat.le_refl _) _;have hQa:=hQ'.below ha;have hS':∀ j,S j->W0.heap.size<=j∧j<(W'.alloc (.cells e.cells 63)).heap.size∧j≠b∧j≠z∧v.ownBlock≠some j:=fun j hj=>by
  have h3:=ha.size;have h4:=hS j hj;exact⟨h4.1,by omega,h4.2.2⟩
 obtain⟨v',w1,q1,q2,q3,q4,q5,-⟩:=hQa.app 61 (heap_alloc_new _ _) (hv.is.keep (fun _ h=>h) fun j hj=>ha.block j (by have:=hS j hj;omega)) hS' hl;have hsz:=ha.size;refine⟨(cell_of_row _ _ 8 _ _ _ hQ'.row).trans rfl,(cell_of_row _ _ 8 _ _ _ hQa.row).trans rfl,v',w1,_,q1,(cell_of_row _ _ 8 _ _ _ q2).trans rfl,frozen_of_row _ _ _ _ _ q2,rfl,(hF'.low ha).on q3,q4,fun hz=>?_,Nat.le_trans ha.size q3.size,fun c hcg hcb hcl hcv=>?_⟩
 ·have h2:=hQ'.hz;exact(heap_setCell_other _ _ _ _ hz).trans ((q5.block z (by have:=ha.size;omega) (fun e=>hQ.oz e.symm)).trans (ha.block z h2))
 ·have e1:W'.heap[c]?=W.heap[c]?:=hg.block c hcl (fun e=>hcg (by injection e));have e2:(W'.alloc (.cells e.cells 63)).heap[c]?=W.heap[c]?:=(ha.block c (by omega)).trans e1;have e3:w1.heap[c]?=W.heap[c]?:=(q5.block c (by omega) (fun e=>hcv e.symm)).trans e2;exact⟨e1,e2,e3,(heap_setCell_other _ _ _ _ hcb).trans e3⟩
theorem zsq {b z:Nat}{k:Int}{x:ByteArray}{n a f t bg:Int}{v:Value}{l:List Pt}(h:Fr T w W0 W g st cap ts s)(hQ:Qk W0.heap.size z W b k x n a f t bg v l) :
  ∃ sp len cp,v=.slice sp len cp∧Calls Tryz.prog 49 #[.pointer (some ⟨g,0,none⟩),.agg (paQ k x n a f t bg (.slice sp len cp))] W fun e W'=>∃ q:Qe,e=.returned (.agg q.cells)∧QV W' (fun j=>W0.heap.size<=j∧j<W.heap.size∧j≠z) ⟨k,x,n,a,f,behI ts s.p,bg,l⟩ q∧W.grownBy W' (some g)∧QdS T W' g st cap ts s:=by
 obtain⟨sp,len,cp,hv,hat⟩:=hQ.fin;refine⟨sp,len,cp,hv,(ze0 ⟨k,x,n,a,f,t,bg,sp,len,cp⟩ h.hR).mono ?_⟩;rintro e W' ⟨rfl,hb⟩;exact⟨_,rfl,⟨hat.ends.keep (fun j hj=>hj) fun j hj=>hb.block _ hj.2.1,rfl⟩,zae hb,h.hR.low hb⟩
theorem zq9 (k:Int)(x:ByteArray)(n a f t bg:Int)(h:Fr T w W0 W g st cap ts s) :
  Calls Tryz.prog 49 #[.pointer (some ⟨g,0,none⟩),.agg (paQ k x n a f t bg (.slice none 0 0))] W fun e W'=>∃ q:Qe,e=.returned (.agg q.cells)∧QV W' (fun _=>False) ⟨k,x,n,a,f,behI ts s.p,bg,[]⟩ q∧W.grownBy W' (some g)∧QdS T W' g st cap ts s:=by
 refine(ze0 ⟨k,x,n,a,f,t,bg,none,0,0⟩ h.hR).mono ?_;rintro e W' ⟨rfl,hb⟩;exact⟨_,rfl,zdk _ _ _ _ _ _ _,zae hb,h.hR.low hb⟩
structure R18 (W:World) (g:Nat) (st:Option Addr) (cap:Nat) (ts:List Tok) (s:Qs) (bt:Nat) (t:Tok):Prop where
 t0:W.cell? ⟨bt,0,none⟩=some (.int .i64 t.kind)
 t1:W.cell? ⟨bt,1,none⟩=some (.string t.text)
 c0:W.cell? ⟨g,0,none⟩=some (.slice st ts.length cap)
 c1:W.cell? ⟨g,1,none⟩=some (.int .i64 s.p)
 nx:s.p+1<ts.length->∀ b o,st=some ⟨b,o,none⟩->W.cell? ⟨b,o+(s.p+1) * 3,none⟩=some (.int .i64 (nxT ts (s.p+1)).kind)∧W.cell? ⟨b,o+(s.p+1) * 3+1,none⟩=some (.string (nxT ts (s.p+1)).text)
theorem zqi {bt:Nat}{t:Tok}(h:Tl W0 W bt t)(hR:QdS T W g st cap ts s):R18 W g st cap ts s bt t:=by
 refine⟨h.cells.1,h.cells.2.1,hR.c0,hR.c1,fun hlt b o e=>?_⟩;obtain⟨b',o',e',h1,h2,-⟩:=hR.tok hlt;have e2:(⟨b,o,none⟩:Addr)=⟨b',o',none⟩:=Option.some.inj (e.symm.trans e');injection e2 with e3 e4;subst e3 e4;exact⟨h1,h2⟩
theorem zsr (p:Nat)(l:List UInt8):isT ts p l=((nxT ts p).text.data.toList == l):=rfl
theorem zss (X:ByteArray)(h:QdS T W g st cap ts s):(takT ts X s).text.size<=100000:=by
 unfold takT
 split
 ·exact by decide
 ·exact h.sz
end
end Go.Proofs.YtmclgbkijeidaaaGreatDoor
