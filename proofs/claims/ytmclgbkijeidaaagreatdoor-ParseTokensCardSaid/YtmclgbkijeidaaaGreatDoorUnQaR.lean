import Derived.Test.YtmclgbkijeidaaaGreatDoorUnV
namespace Go.Proofs.YtmclgbkijeidaaaGreatDoor
set_option maxRecDepth 100000
set_option maxHeartbeats 4000000
open Go.RowKit
section
variable {T:Nat}{w W0 W W':World}{g:Nat}{st:Option Addr}{cap:Nat}{ts:List Tok}{s s':Qs}
abbrev PrQ (T:Nat) (g:Nat) (st:Option Addr) (cap:Nat) (ts:List Tok) (m:Nat):Prop:=∀ (w:World) s r,(dns ts m).prim s=some r->QdS T w g st cap ts s->Calls Tryz.prog 164 #[.pointer (some ⟨g,0,none⟩)] w (QoP T w g st cap ts r)
theorem zmc {n:Nat}{r:Qv × Qs}(hB:s.bad=false)(hU:UnQ T g st cap ts n)(hP:∀ m,m<n->PrQ T g st cap ts m)(hE:∀ m,m<n->ExQ T g st cap ts (dns ts m))(hR:QdS T w g st cap ts s)(hX:(dns ts (n+1)).una s=some r):Calls Tryz.prog 149 #[.pointer (some ⟨g,0,none⟩)] w (QoP T w g st cap ts r):=by
 have HF:=hid (zb9 hR);have hfe:=hR.few;have hle:=hR.le;clear hR;have HB0:=hid hB;have HU:=hid hU;have HP0:=hid hP;have HE:=hid hE;clear hE hU hP hB;rw[zji] at hX;have HX:=hid hX;clear hX
 go_enter Tryz.func149,Tryz.ntmps149
 go_wp2_with fail
 refine zaf (fun W=>Fr T w W W g st cap ts s) HF.out ?_;intro W0 hF;clear HF;have HF:=hid hF;clear hF;refine(zbe HF.out.hR).mono ?_;rintro e W1 ⟨rfl,b1⟩;obtain⟨t1,ht⟩:∃ t,nxQ ts s.p=t:=⟨_,rfl⟩;rw[ht];have HNX1:=hid ht;have HZ1:=hid (ht ▸ HF.out.hR.sz)
 try rw[ht] at HX
 have HF3:=hid (HF.out.low b1);clear ht b1 HF;obtain⟨W4,hst4,b4,f4,l4⟩:=zdg HF3.out t1;have Ht4t:=hid l4;have HF6:=hid (f4);clear b4 f4 l4 HF3;obtain⟨qb7,hqb7⟩:∃ b,s.bad=b:=⟨_,rfl⟩;have wc7:W4.cell? ⟨g,2,none⟩=some (.bool qb7):=hqb7 ▸ HF6.out.hR.c2;rw[hqb7] at HX;have HQB:=hid hqb7;clear hqb7
 cases qb7
 ·skip
  go_wp2_with fail
  clear hst4 wc7;refine(zar ⟨#[45]⟩ HF6.out.hR).mono ?_;rintro e W8 ⟨rfl,b8⟩;obtain⟨i8,hi⟩:∃ b,isQ ts s.p ⟨#[45]⟩=b:=⟨_,rfl⟩;rw[hi];have HIS:=hid hi
  try rw[hi] at HX
  have Ht9t:=hid (Ht4t.out.low b8);have HF10:=hid (HF6.out.low b8);clear hi b8 HF6 Ht4t
  cases i8
  ·skip
   go_wp2_with fail
   refine(zar ⟨#[33]⟩ HF10.out.hR).mono ?_;rintro e W11 ⟨rfl,b11⟩;obtain⟨i11,hi⟩:∃ b,isQ ts s.p ⟨#[33]⟩=b:=⟨_,rfl⟩;rw[hi];have HIS:=hid hi
   try rw[hi] at HX
   have Ht12t:=hid (Ht9t.out.low b11);have HF13:=hid (HF10.out.low b11);clear hi b11 HF10 Ht9t
   cases i11
   ·skip
    replace HX:=hid (if_f HX.out (fun h=>by cases h))
    cases n with
    | zero=>exact absurd HX.out (by intro h;cases h)
    | succ n=>
    have hX:=HX.out;rw[zhw] at hX
    replace HX:=hid hX
    clear hX
    go_wp2_with fail
    rcases hk14:(dns ts n).prim s with _|⟨v14,s14⟩
    ·exact absurd HX.out (by rw[hk14];intro h;cases h)
    rw[hk14] at HX
    try simp only[Option.bind_some] at HX
    refine(((fun hk=>HP0.out n (Nat.lt_succ_self _) _ _ _ hk HF13.out.hR) hk14)).mono ?_;rintro e W14 ⟨e14,rfl,q14,g14,r14⟩;have HV14:=hid q14;have hs14:=g14.size;have HF16:=hid (HF13.out.call g14 r14);have hl14:=HF13.out.size;clear hk14 q14 g14 r14 HF13;obtain⟨W17,hst17,b17,f17,l17⟩:=zk2 HF16.out (A:=W11) (by omega) HV14.out;have HVL:=hid l17;have HFV:=hid f17;clear b17 f17 l17 HV14 HF16
    go_wp2_with fail
    clear hst17;have HRL:=hid HX.out;clear HX
    go_loopw [] (fun wr=>∃ (v:Qv) (q:Qs) (m N:Nat) (e:Qe),Fr T w W0 wr g st cap ts q∧Vl W0 wr (W14.heap.size) N v e∧(dns ts m).posL v q=some r∧m<=n) (fun wr=>muQ ts g wr)
    case atStart=>exact⟨_,_,n,_,_,HFV.out,HVL.out,HRL.out,Nat.le_refl _⟩
    case round=>
     obtain⟨v,q,m,N,e,hF,hV,hm,hmn⟩:=hrel;have HFr:=hid hF;have HMU:=hid (zc1 hF.hR);have hqle:q.p<=ts.length:=hF.hR.le;have pR:=hV.row;have PB:=hid hV.hB;have hbl:=zaa hV.row;have hN:=hV.hN;obtain⟨pS,pV,pS2⟩:=hV.ex;have PV:=hid pV;have PS:=hid pS2;have PR:=hid pR;clear hF hV pV pS2 pR HFV HVL HRL
     cases m with
     | zero=>cases hm
     | succ m=>
     rw[zhx] at hm;have HX:=hid hm;clear hm;obtain⟨e0,e1,e2,e3,e4,e5,e6,e7,e8,e9⟩:=e;obtain⟨qb18,hqb18⟩:∃ b,q.bad=b:=⟨_,rfl⟩;have wc18:wr.cell? ⟨g,2,none⟩=some (.bool qb18):=hqb18 ▸ HFr.out.hR.c2;rw[hqb18] at HX;have HQB:=hid hqb18;clear hqb18
     cases qb18
     ·skip
      go_wp2_with fail
      clear wc18;refine(zar ⟨#[46]⟩ HFr.out.hR).mono ?_;rintro e W19 ⟨rfl,b19⟩;obtain⟨i19,hi⟩:∃ b,isQ ts q.p ⟨#[46]⟩=b:=⟨_,rfl⟩;rw[hi];have HIS:=hid hi
      try rw[hi] at HX
      have PR21:=hid ((b19.block _ (zaa PR.out)).trans PR.out);have PV21:Hid (QV W19 pS v ⟨e0,e1,e2,e3,e4,e5,e6,e7,e8,e9⟩):=hid ⟨PV.out.is.keep (fun _ h=>h) fun j hj=>b19.block j (by have:=(PS.out j hj).2.1;omega),PV.out.bg⟩;have pz21:=b19.size;have HF22:=hid (HFr.out.low b19);clear hi b19 HFr PR PV
      cases i19
      ·skip
       have HISD:=HIS
       go_wp2_with fail
       refine(zar ⟨#[40]⟩ HF22.out.hR).mono ?_;rintro e W23 ⟨rfl,b23⟩;obtain⟨i23,hi⟩:∃ b,isQ ts q.p ⟨#[40]⟩=b:=⟨_,rfl⟩;rw[hi];have HIS:=hid hi
       try rw[hi] at HX
       have PR25:=hid ((b23.block _ (zaa PR21.out)).trans PR21.out);have PV25:Hid (QV W23 pS v ⟨e0,e1,e2,e3,e4,e5,e6,e7,e8,e9⟩):=hid ⟨PV21.out.is.keep (fun _ h=>h) fun j hj=>b23.block j (by have:=(PS.out j hj).2.1;omega),PV21.out.bg⟩;have pz25:=b23.size;have HF26:=hid (HF22.out.low b23);clear hi b23 HF22 PR21 PV21
       cases i23
       ·skip
        replace HX:=hid (if_f HX.out (fun h=>by cases h))
        obtain⟨h0,h1,h2,h3,h4,h5,h6,h7,h8,-⟩:=row9 PR25.out;have HP:=hid (zd4 HF26.out (v:=v) (e:=⟨e0,e1,e2,e3,e4,e5,e6,e7,e8,e9⟩) ⟨PV25.out.is.keep (fun j hj=>⟨(PS.out j hj).1,by have:=(PS.out j hj).2.1;omega⟩) fun _ _=>rfl,PV25.out.bg⟩)
        go_wp2_with (refine zdj (by rfl) (.tmp 2) (.tmp 120) (by rfl) ⟨e0,e1,e2,e3,e4,e5,e6,e7,e8,e9⟩ (by rfl) (by rfl) HF26.out.hZ (by rfl) ?_)
        have hx:=Option.some.inj HX.out;exact zan Tryz.results149 rfl (zad HF26.out.hZ) (hx ▸ HP.out)
       ·skip
        replace HX:=hid (if_t HX.out (by first|rfl|trivial))
        rw[<-(show e6=v.bg from PV25.out.bg)] at HX
        go_wp2_with fail
        refine(zar ⟨#[46]⟩ HF26.out.hR).mono ?_;rintro e W27 ⟨rfl,b27⟩;rw[HISD.out];have PR29:=hid ((b27.block _ (zaa PR25.out)).trans PR25.out);have PV29:Hid (QV W27 pS v ⟨e0,e1,e2,e3,e4,e5,e6,e7,e8,e9⟩):=hid ⟨PV25.out.is.keep (fun _ h=>h) fun j hj=>b27.block j (by have:=(PS.out j hj).2.1;omega),PV25.out.bg⟩;have pz29:=b27.size;have HF30:=hid (HF26.out.low b27);clear b27 HF26 PR25 PV25
        replace HX:=hid (if_f HX.out (fun h=>by cases h))
        go_wp2_with fail
        refine(zag ⟨#[40]⟩ HF30.out.hR).mono ?_;rintro e W31 ⟨rfl,g31,r31⟩;obtain⟨t31,ht⟩:∃ t,takT ts ⟨#[40]⟩ q=t:=⟨_,rfl⟩;obtain⟨s31,hs⟩:∃ s2,takS ts ⟨#[40]⟩ q=s2:=⟨_,rfl⟩;rw[show takT ts ⟨#[40]⟩ ⟨q.p,q.bad⟩=t31 from ht];have q31:QdS T W31 g st cap ts s31:=hs ▸ r31;have HT31:Hid (LtQ q s31):=hid (hs ▸ zal _ _)
        try rw[ht] at HX
        try rw[hs] at HX
        have PR33:=hid ((g31.block _ (zaa PR29.out) (fun e=>by injection e with e;have:=HF30.out.gB;have:=PB.out;omega)).trans PR29.out);have PV33:Hid (QV W31 pS v ⟨e0,e1,e2,e3,e4,e5,e6,e7,e8,e9⟩):=hid ⟨PV29.out.is.keep (fun _ h=>h) fun j hj=>g31.block j (by have:=(PS.out j hj).2.1;omega) (fun e=>by injection e with e;have:=HF30.out.gB;have:=(PS.out j hj).1;omega),PV29.out.bg⟩;have pz33:=g31.size;have HF34:=hid (HF30.out.call g31 q31);clear ht hs r31 q31 g31 HF30 PR29 PV29;have upr:W31.heap[W14.heap.size]?=some (.cells #[.int .i64 e0,.string e1,.int .i64 e2,.slice none 0 0,.int .i64 e3,.int .i64 e4,.int .i64 e5,.int .i64 e6,.slice e7 e8 e9] 63 (0,0)):=PR33.out;obtain⟨p0,p1,p2,p3,p4,p5,p6,p7,p8,-⟩:=row9 upr;clear upr;have hbx:=zaa PR33.out;have hNx:N<=W31.heap.size:=by omega
        have HN1:=hid (zoj HF34.out hbx (v:=v) (e:=⟨e0,e1,e2,e3,e4,e5,e6,e7,e8,e9⟩) PV33.out (fun j hj=>by have hp:=PS.out j hj;exact⟨hp.1,by omega,hp.2.2⟩) 25 ⟨#[]⟩ 0 e6 e6 0 e6);have HPRR:=hid ((zdr W31 (.cells (⟨e0,e1,e2,e3,e4,e5,e6,e7,e8,e9⟩:Qe).cells 63) (.cells (paQ 25 ⟨#[]⟩ 0 e6 e6 0 e6 (.slice (some ⟨W31.heap.size,0,none⟩) 1 1)) 63)).block _ hbx)
        go_wp2_with fail
        clear p0 p1 p2 p3 p4 p5 p6 p7 p8;refine zdd (fun W2=>Fr T w W0 W2 g st cap ts s31∧Qk W0.heap.size (W14.heap.size) W2 (W31.heap.size+1) 25 ⟨#[]⟩ 0 e6 e6 0 e6 (.slice (some ⟨W31.heap.size,0,none⟩) 1 1) [v.pt]∧W2.heap[W14.heap.size]?=some (.cells #[.int .i64 e0,.string e1,.int .i64 e2,.slice none 0 0,.int .i64 e3,.int .i64 e4,.int .i64 e5,.int .i64 e6,.slice e7 e8 e9] 63 (0,0))) ⟨HN1.out.1,HN1.out.2,HPRR.out.trans PR33.out⟩ ?_;rintro Wn ⟨fn,qn,rn⟩;have HFn:=hid fn;have HQn:=hid qn;have HRn:=hid rn;have hbx2:W14.heap.size<W31.heap.size+1:=by omega
        have HMU0:=HMU;have HQB0:=HQB;have hqle0:=hqle;clear fn qn rn HN1 HPRR HF34 PR33 PV33
        go_wp2_with fail
        rcases hk35:(dns ts m).argL [v.pt] s31 with _|⟨lf,sf⟩
        ·exact absurd HX.out (by rw[hk35];intro h;cases h)
        rw[hk35] at HX;simp only[Option.bind_some] at HX;have HRL:=hid hk35;have HO:=HX;clear HX hk35
        go_loopw [] (fun wr=>∃ (l2:List Pt) (q2:Qs) (v2:Value) (m2:Nat),Fr T w W0 wr g st cap ts q2∧Qk W0.heap.size (W14.heap.size) wr ((W31.heap.size+1)) 25 ⟨#[]⟩ 0 e6 e6 0 e6 v2 l2∧(dns ts m2).argL l2 q2=some (lf,sf)∧m2<=m∧Few l2 q2∧wr.heap[W14.heap.size]?=some (.cells #[.int .i64 e0,.string e1,.int .i64 e2,.slice none 0 0,.int .i64 e3,.int .i64 e4,.int .i64 e5,.int .i64 e6,.slice e7 e8 e9] 63 (0,0))∧LeQ s31 q2) (fun wr=>muQ ts g wr)
        case atStart=>exact⟨_,_,_,_,HFn.out,HQn.out,HRL.out,Nat.le_refl _,⟨by simp,fun hb=>by have h:=HT31.out.2;rw[hb] at h;simp at h;simp;omega⟩,HRn.out,LeQ.rfl _⟩
        case round=>
         obtain⟨l2,q2,v2,m2,hF,hQ,hm,hmn,hfw,hx0,hx1⟩:=hrel;have HFr:=hid hF;have HQr:=hid hQ;have HFw:=hid hfw;have HMU:=hid (zc1 hF.hR);have hqle:q2.p<=ts.length:=hF.hR.le;have HXX0:=hid hx0;have HXX1:=hid hx1;obtain⟨vsp,vsn,vsc,hv⟩:=hQ.sl;subst hv;clear hF hQ hfw HFn HQn HRL hx0 hx1
         cases m2 with
         | zero=>cases hm
         | succ m2=>
         rw[zhy] at hm;have HX:=hid hm;clear hm;clear HRn;obtain⟨qb36,hqb36⟩:∃ b,q2.bad=b:=⟨_,rfl⟩;have wc36:wr.cell? ⟨g,2,none⟩=some (.bool qb36):=hqb36 ▸ HFr.out.hR.c2;rw[hqb36] at HX;have HQB:=hid hqb36;clear hqb36
         cases qb36
         ·skip
          go_wp2_with fail
          clear wc36;refine(zar ⟨#[41]⟩ HFr.out.hR).mono ?_;rintro e W37 ⟨rfl,b37⟩;obtain⟨i37,hi⟩:∃ b,isQ ts q2.p ⟨#[41]⟩=b:=⟨_,rfl⟩;rw[hi];have HIS:=hid hi
          try rw[hi] at HX
          have Hp38x:=hid (HQr.out.below b37);have PR39:=hid ((b37.block _ (zaa HXX0.out)).trans HXX0.out);have pz39:=b37.size;have HF40:=hid (HFr.out.low b37);clear hi b37 HFr HQr HXX0
          cases i37
          ·skip
           replace HX:=hid (if_t HX.out (by first|rfl|trivial))
           go_wp2_with (fail)
           rcases hk41:(dns ts m2).row 1 q2 with _|⟨v41,s41⟩
           ·exact absurd HX.out (by rw[hk41];intro h;cases h)
           rw[hk41] at HX;simp only[Option.bind_some] at HX;have HLT:=hid ((lst (ts:=ts) _).row _ _ _ _ hk41);have HFr2:=hid HF40.out;have hd41:Below W37.heap.size W37 W37.drew:=(Below.refl _ _).drew;have HD41:=hid (HF40.out.low hd41);have HE41:=hid (Hp38x.out.below hd41);have HK41:=hid (fun (h:QdS T W37.drew g st cap ts q2)=>(fun hk=>HE.out m2 (by omega) W37.drew _ _ hk h) hk41);clear hk41 hd41 HF40 Hp38x;have c841:W37.drew.cell? ⟨(W31.heap.size+1),8,none⟩=some (.slice vsp vsn vsc):=(cell_of_row _ _ 8 _ _ _ HE41.out.row).trans rfl;apply zby (fun y0 y1 y2 y3 y4 y5 y6 y7 y8 y9 Wy sp sn sc Wz=>Fr T w W0 Wz g st cap ts s41∧Qk W0.heap.size (W14.heap.size) Wz ((W31.heap.size+1)) 25 ⟨#[]⟩ 0 e6 e6 0 e6 (.slice sp sn sc) (l2++[v41.pt])∧W37.drew.grownBy Wy (some g)∧((W14.heap.size)≠(W31.heap.size+1)->Wz.heap[W14.heap.size]?=Wy.heap[W14.heap.size]?)∧Wy.heap.size<=Wz.heap.size)
           rotate_left
           ·intro hc;refine zbg (S:=fun _=>Hid True) 8 rfl (by kernel_rfl) ?_;refine zao 0 99 (.pointer (some ⟨(W31.heap.size+1),8,none⟩)) rfl (by kernel_rfl) (by kernel_rfl) (by kernel_rfl) (fun _ _ _ h=>h) (fun w' _=>by first|rfl|(go_simp;done) | (go_simp;rw[IntKind.wrap_i64];omega)) (hid trivial) ?_;simp only[sI,sS,sZ];refine zao 2 101 (.pointer (some ⟨g,0,none⟩)) rfl (by kernel_rfl) (by kernel_rfl) (by kernel_rfl) (fun _ _ _ h=>h) (fun w' _=>by first|rfl|(go_simp;done) | (go_simp;rw[IntKind.wrap_i64];omega)) (hid trivial) ?_;simp only[sI,sS,sZ];refine wpAnyH_all (rs:=[1,3]) (by kernel_rfl) (by simp) fun i hi=>?_;simp only[List.mem_cons,List.not_mem_nil,or_false] at hi;rcases hi with rfl|rfl
            ·skip
             refine zam rfl rfl ?_
             go_simp
             refine⟨hid trivial,?_⟩;refine zac 3 rfl (by kernel_rfl) ?_
             go_simp
             refine(HK41.out HD41.out.hR).mono ?_;rintro e W41 ⟨⟨y0,y1,y2,y3,y4,y5,y6,y7,y8,y9⟩,rfl,q41,g41,r41⟩;obtain⟨c41,d41,v2,w1,Wz,ha,ce,cf,cw,f41,k41,z41,hsz⟩:=zbt HD41.out HE41.out ((Nat.le_trans (HFw.out.lt HFr2.out.hR) (by omega))) g41 r41 q41;obtain⟨sp2,sn2,sc2,hv2⟩:=k41.sl;subst hv2;have HFIN:=hid (hc y0 y1 y2 y3 y4 y5 y6 y7 y8 y9 W41 sp2 sn2 sc2 Wz ⟨f41,k41,g41,z41,hsz⟩)
             dsimp only[Qe.cells,paQ] at c41 d41 ha ce cf cw
             unfold Qe.cells paQ;clear f41 k41 z41 q41 g41 r41 hsz;refine⟨hid trivial,?_⟩;refine zac 4 rfl (by kernel_rfl) ?_
             go_simp
             refine⟨hid trivial,?_⟩;refine zac 5 rfl (by kernel_rfl) ?_;refine zak (.tmp 100) (.tmp 103) 61 rfl rfl rfl ha ?_;refine⟨hid trivial,?_⟩;simp only[Act.put,List.setIfInBounds_toArray,List.set_cons_succ,List.set_cons_zero];refine zao 6 105 (.pointer (some ⟨(W31.heap.size+1),8,none⟩)) rfl (by kernel_rfl) (by kernel_rfl) (by kernel_rfl) (fun _ _ _ h=>h) (fun w' _=>by first|rfl|(go_simp;done) | (go_simp;rw[IntKind.wrap_i64];omega)) (hid trivial) ?_;simp only[sI,sS,sZ];refine zac 7 rfl (by kernel_rfl) ?_
             go_simp
             refine⟨hid trivial,?_⟩;refine wpAnyH_done (by kernel_rfl) ?_ _;exact HFIN.out
            ·skip
             refine zam rfl rfl ?_
             go_simp
             refine(HK41.out HD41.out.hR).mono ?_;rintro e W41 ⟨⟨y0,y1,y2,y3,y4,y5,y6,y7,y8,y9⟩,rfl,q41,g41,r41⟩;obtain⟨c41,d41,v2,w1,Wz,ha,ce,cf,cw,f41,k41,z41,hsz⟩:=zbt HD41.out HE41.out ((Nat.le_trans (HFw.out.lt HFr2.out.hR) (by omega))) g41 r41 q41;obtain⟨sp2,sn2,sc2,hv2⟩:=k41.sl;subst hv2;have HFIN:=hid (hc y0 y1 y2 y3 y4 y5 y6 y7 y8 y9 W41 sp2 sn2 sc2 Wz ⟨f41,k41,g41,z41,hsz⟩)
             dsimp only[Qe.cells,paQ] at c41 d41 ha ce cf cw
             unfold Qe.cells paQ;clear f41 k41 z41 q41 g41 r41 hsz;refine⟨hid trivial,?_⟩;refine wpAnyH_all (rs:=[1,4]) (by kernel_rfl) (by simp) fun i hi=>?_;simp only[List.mem_cons,List.not_mem_nil,or_false] at hi;rcases hi with rfl|rfl
             ·skip
              refine zam rfl rfl ?_
              go_simp
              refine⟨hid trivial,?_⟩;refine zac 4 rfl (by kernel_rfl) ?_
              go_simp
              refine⟨hid trivial,?_⟩;refine zac 5 rfl (by kernel_rfl) ?_;refine zak (.tmp 100) (.tmp 103) 61 rfl rfl rfl ha ?_;refine⟨hid trivial,?_⟩;simp only[Act.put,List.setIfInBounds_toArray,List.set_cons_succ,List.set_cons_zero];refine zao 6 105 (.pointer (some ⟨(W31.heap.size+1),8,none⟩)) rfl (by kernel_rfl) (by kernel_rfl) (by kernel_rfl) (fun _ _ _ h=>h) (fun w' _=>by first|rfl|(go_simp;done) | (go_simp;rw[IntKind.wrap_i64];omega)) (hid trivial) ?_;simp only[sI,sS,sZ];refine zac 7 rfl (by kernel_rfl) ?_
              go_simp
              refine⟨hid trivial,?_⟩;refine wpAnyH_done (by kernel_rfl) ?_ _;exact HFIN.out
             ·skip
              refine zam rfl rfl ?_
              go_simp
              refine⟨hid trivial,?_⟩;refine zac 1 rfl (by kernel_rfl) ?_
              go_simp
              refine⟨hid trivial,?_⟩;refine zac 5 rfl (by kernel_rfl) ?_;refine zak (.tmp 100) (.tmp 103) 61 rfl rfl rfl ha ?_;refine⟨hid trivial,?_⟩;simp only[Act.put,List.setIfInBounds_toArray,List.set_cons_succ,List.set_cons_zero];refine zao 6 105 (.pointer (some ⟨(W31.heap.size+1),8,none⟩)) rfl (by kernel_rfl) (by kernel_rfl) (by kernel_rfl) (fun _ _ _ h=>h) (fun w' _=>by first|rfl|(go_simp;done) | (go_simp;rw[IntKind.wrap_i64];omega)) (hid trivial) ?_;simp only[sI,sS,sZ];refine zac 7 rfl (by kernel_rfl) ?_
              go_simp
              refine⟨hid trivial,?_⟩;refine wpAnyH_done (by kernel_rfl) ?_ _;exact HFIN.out
           intro y0 y1 y2 y3 y4 y5 y6 y7 y8 y9 W41 sp42 sn42 sc42 W42 hF42;obtain⟨f42,k42,g42,z42,y42⟩:=hF42;have Hp42x:=hid k42;have HG42:=hid g42;have HZ42:=hid z42;have HF43:=hid (f42);clear f42 k42 g42 z42 HD41 HE41 c841 HK41 HFr2;have PRz:=hid ((HZ42.out (Nat.ne_of_lt hbx2)).trans ((HG42.out.block _ (zaa PR39.out) (fun e=>by injection e with e;have:=HF43.out.gB;have:=PB.out;omega)).trans PR39.out));clear PR39 HG42 HZ42
           go_wp2_with fail
           refine(zar ⟨#[41]⟩ HF43.out.hR).mono ?_;rintro e W44 ⟨rfl,b44⟩;obtain⟨i44,hi⟩:∃ b,isQ ts s41.p ⟨#[41]⟩=b:=⟨_,rfl⟩;rw[hi];have HIS:=hid hi
           try rw[hi] at HX
           have Hp45x:=hid (Hp42x.out.below b44);have PR46:=hid ((b44.block _ (zaa PRz.out)).trans PRz.out);have pz46:=b44.size;have HF47:=hid (HF43.out.low b44);clear hi b44 HF43 Hp42x PRz
           cases i44
           ·skip
            replace HX:=hid (if_f HX.out (fun h=>by cases h))
            go_wp2_with fail
            refine(zag ⟨#[44]⟩ HF47.out.hR).mono ?_;rintro e W48 ⟨rfl,g48,r48⟩;obtain⟨t48,ht⟩:∃ t,takT ts ⟨#[44]⟩ s41=t:=⟨_,rfl⟩;obtain⟨s48,hs⟩:∃ s2,takS ts ⟨#[44]⟩ s41=s2:=⟨_,rfl⟩;rw[show takT ts ⟨#[44]⟩ ⟨s41.p,s41.bad⟩=t48 from ht];have q48:QdS T W48 g st cap ts s48:=hs ▸ r48;have HT48:Hid (LtQ s41 s48):=hid (hs ▸ zal _ _)
            try rw[ht] at HX
            try rw[hs] at HX
            have Hp49x:=hid (Hp45x.out.grow HF47.out.gB g48);have PR50:=hid ((g48.block _ (zaa PR46.out) (fun e=>by injection e with e;have:=HF47.out.gB;have:=PB.out;omega)).trans PR46.out);have pz50:=g48.size;have HF51:=hid (HF47.out.call g48 q48);clear ht hs r48 q48 g48 HF47 Hp45x PR46
            go_wp2_with fail
            refine(zar ⟨#[41]⟩ HF51.out.hR).mono ?_;rintro e W52 ⟨rfl,b52⟩;obtain⟨i52,hi⟩:∃ b,isQ ts s48.p ⟨#[41]⟩=b:=⟨_,rfl⟩;rw[hi];have HIS:=hid hi
            try rw[hi] at HX
            have Hp53x:=hid (Hp49x.out.below b52);have PR54:=hid ((b52.block _ (zaa PR50.out)).trans PR50.out);have pz54:=b52.size;have HF55:=hid (HF51.out.low b52);clear hi b52 HF51 Hp49x PR50
            cases i52
            ·skip
             rw[show wrQ false s48=s48 from rfl] at HX;have HMV:=hid (zc1 HF55.out.hR)
             go_wp2
             go_round
             case rel=>(repeat apply Exists.intro);exact⟨⟨_,_,_,m2,HF55.out,Hp53x.out,HX.out,by omega,(HFw.out.more HQB.out HLT.out).le (HT48.out.le),PR54.out,HXX1.out.trans (HLT.out.le.trans HT48.out.le)⟩,rfl⟩
             case measure=>
              rw[HMV.out,HMU.out];exact zd3 HQB.out hqle HF55.out.hR.le (HLT.out.trans (HT48.out.le))
            ·skip
             have HW:Hid (LeQ s48 (wrQ true s48)):=hid (zlr _ _);obtain⟨W56,hw56,g56,r56⟩:∃ W2,W52.setCell ⟨g,2,none⟩ (.bool true)=W2∧W52.grownBy W2 (some g)∧QdS T W2 g st cap ts (wrQ true s48):=⟨_,rfl,zin W52 g,HF55.out.hR.wrong⟩;have wc56:=HF55.out.hR.c2;have wz56:=HF55.out.hR.z 2;obtain⟨s56,hs56⟩:∃ s2,wrQ true s48=s2:=⟨_,rfl⟩;rw[hs56] at HX r56
             try rw[hs56] at HW
             have Hp57x:=hid (Hp53x.out.grow HF55.out.gB g56);have PR58:=hid ((g56.block _ (zaa PR54.out) (fun e=>by injection e with e;have:=HF55.out.gB;have:=PB.out;omega)).trans PR54.out);have pz58:=g56.size;have HF59:=hid (HF55.out.call g56 r56);clear hs56 g56 r56 HF55 Hp53x PR54;have HMV:=hid (zc1 HF59.out.hR)
             go_wp2
             go_round
             case rel=>(repeat apply Exists.intro);exact⟨⟨_,_,_,m2,HF59.out,Hp57x.out,HX.out,by omega,(HFw.out.more HQB.out HLT.out).le ((HT48.out.le.trans HW.out)),PR58.out,HXX1.out.trans (HLT.out.le.trans (HT48.out.le.trans HW.out))⟩,rfl⟩
             case measure=>
              rw[HMV.out,HMU.out];exact zd3 HQB.out hqle HF59.out.hR.le (HLT.out.trans ((HT48.out.le.trans HW.out)))
           ·skip
            replace HX:=hid (if_t HX.out (by first|rfl|trivial))
            have hO:=HO.out;obtain⟨rfl,rfl⟩:=Prod.mk.inj (Option.some.inj HX.out)
            replace HX:=hid hO
            clear hO HO
            go_wp2_with fail
            refine(zag ⟨#[41]⟩ HF47.out.hR).mono ?_;rintro e W60 ⟨rfl,g60,r60⟩;obtain⟨t60,ht⟩:∃ t,takT ts ⟨#[41]⟩ s41=t:=⟨_,rfl⟩;obtain⟨s60,hs⟩:∃ s2,takS ts ⟨#[41]⟩ s41=s2:=⟨_,rfl⟩;rw[show takT ts ⟨#[41]⟩ ⟨s41.p,s41.bad⟩=t60 from ht];have q60:QdS T W60 g st cap ts s60:=hs ▸ r60;have HT60:Hid (LtQ s41 s60):=hid (hs ▸ zal _ _)
            try rw[ht] at HX
            try rw[hs] at HX
            have Hp61x:=hid (Hp45x.out.grow HF47.out.gB g60);have PR62:=hid ((g60.block _ (zaa PR46.out) (fun e=>by injection e with e;have:=HF47.out.gB;have:=PB.out;omega)).trans PR46.out);have pz62:=g60.size;have HF63:=hid (HF47.out.call g60 q60);clear ht hs r60 q60 g60 HF47 Hp45x PR46;obtain⟨r64a,r64b,r64c,r64d,r64e,r64f,r64g,r64h,r64i,r64z⟩:=row9 Hp61x.out.row
            go_wp2_with fail
            clear r64a r64b r64c r64d r64e r64f r64g r64h r64i r64z;obtain⟨sp65,ln65,cp65,hv65,hd65⟩:=za7 HF63.out Hp61x.out;injection hv65 with u1 u2 u3;subst u1 u2 u3;refine hd65.mono ?_;rintro e W65 ⟨e65,rfl,b65,f65,q65⟩;have HV65:=hid q65;have PR67:=hid ((b65.block _ (zaa PR62.out)).trans PR62.out);have pz67:=b65.size;have HF68:=hid (f65);clear hd65 b65 f65 q65 HF63 Hp61x PR62;obtain⟨W69,hst69,b69,f69,l69⟩:=zfr (e0:=⟨e0,e1,e2,e3,e4,e5,e6,e7,e8,e9⟩) HF68.out PB.out PR67.out HV65.out;have HVN:=hid l69;have HF70:=hid (f69);clear b69 f69 l69 HF68 HV65 PR67;have HMV:=hid (zc1 HF70.out.hR)
            go_wp2
            go_round
            case rel=>(repeat apply Exists.intro);exact⟨⟨_,_,m,_,_,HF70.out,HVN.out,HX.out,by omega⟩,rfl⟩
            case measure=>
             rw[HMV.out,HMU0.out];exact zd3 HQB0.out hqle0 HF70.out.hR.le (HT31.out.trans ((HXX1.out.trans HLT.out.le).trans HT60.out.le))
          ·skip
           replace HX:=hid (if_f HX.out (fun h=>by cases h))
           have hO:=HO.out;obtain⟨rfl,rfl⟩:=Prod.mk.inj (Option.some.inj HX.out)
           replace HX:=hid hO
           clear hO HO
           go_wp2_with fail
           refine(zag ⟨#[41]⟩ HF40.out.hR).mono ?_;rintro e W71 ⟨rfl,g71,r71⟩;obtain⟨t71,ht⟩:∃ t,takT ts ⟨#[41]⟩ q2=t:=⟨_,rfl⟩;obtain⟨s71,hs⟩:∃ s2,takS ts ⟨#[41]⟩ q2=s2:=⟨_,rfl⟩;rw[show takT ts ⟨#[41]⟩ ⟨q2.p,q2.bad⟩=t71 from ht];have q71:QdS T W71 g st cap ts s71:=hs ▸ r71;have HT71:Hid (LtQ q2 s71):=hid (hs ▸ zal _ _)
           try rw[ht] at HX
           try rw[hs] at HX
           have Hp72x:=hid (Hp38x.out.grow HF40.out.gB g71);have PR73:=hid ((g71.block _ (zaa PR39.out) (fun e=>by injection e with e;have:=HF40.out.gB;have:=PB.out;omega)).trans PR39.out);have pz73:=g71.size;have HF74:=hid (HF40.out.call g71 q71);clear ht hs r71 q71 g71 HF40 Hp38x PR39;obtain⟨r75a,r75b,r75c,r75d,r75e,r75f,r75g,r75h,r75i,r75z⟩:=row9 Hp72x.out.row
           go_wp2_with fail
           clear r75a r75b r75c r75d r75e r75f r75g r75h r75i r75z;obtain⟨sp76,ln76,cp76,hv76,hd76⟩:=za7 HF74.out Hp72x.out;injection hv76 with u1 u2 u3;subst u1 u2 u3;refine hd76.mono ?_;rintro e W76 ⟨e76,rfl,b76,f76,q76⟩;have HV76:=hid q76;have PR78:=hid ((b76.block _ (zaa PR73.out)).trans PR73.out);have pz78:=b76.size;have HF79:=hid (f76);clear hd76 b76 f76 q76 HF74 Hp72x PR73;obtain⟨W80,hst80,b80,f80,l80⟩:=zfr (e0:=⟨e0,e1,e2,e3,e4,e5,e6,e7,e8,e9⟩) HF79.out PB.out PR78.out HV76.out;have HVN:=hid l80;have HF81:=hid (f80);clear b80 f80 l80 HF79 HV76 PR78;have HMV:=hid (zc1 HF81.out.hR)
           go_wp2
           go_round
           case rel=>exact⟨_,_,m,_,_,HF81.out,HVN.out,HX.out,by omega⟩
           case measure=>
            rw[HMV.out,HMU0.out];exact zd3 HQB0.out hqle0 HF81.out.hR.le (HT31.out.trans (HXX1.out.trans HT71.out.le))
         ·skip
          replace HX:=hid (if_f HX.out (fun h=>by cases h))
          have hO:=HO.out;obtain⟨rfl,rfl⟩:=Prod.mk.inj (Option.some.inj HX.out)
          replace HX:=hid hO
          clear hO HO
          go_wp2_with fail
          clear wc36;refine(zag ⟨#[41]⟩ HFr.out.hR).mono ?_;rintro e W82 ⟨rfl,g82,r82⟩;obtain⟨t82,ht⟩:∃ t,takT ts ⟨#[41]⟩ q2=t:=⟨_,rfl⟩;obtain⟨s82,hs⟩:∃ s2,takS ts ⟨#[41]⟩ q2=s2:=⟨_,rfl⟩;rw[show takT ts ⟨#[41]⟩ ⟨q2.p,q2.bad⟩=t82 from ht];have q82:QdS T W82 g st cap ts s82:=hs ▸ r82;have HT82:Hid (LtQ q2 s82):=hid (hs ▸ zal _ _)
          try rw[ht] at HX
          try rw[hs] at HX
          have Hp83x:=hid (HQr.out.grow HFr.out.gB g82);have PR84:=hid ((g82.block _ (zaa HXX0.out) (fun e=>by injection e with e;have:=HFr.out.gB;have:=PB.out;omega)).trans HXX0.out);have pz84:=g82.size;have HF85:=hid (HFr.out.call g82 q82);clear ht hs r82 q82 g82 HFr HQr HXX0;obtain⟨r86a,r86b,r86c,r86d,r86e,r86f,r86g,r86h,r86i,r86z⟩:=row9 Hp83x.out.row
          go_wp2_with fail
          clear r86a r86b r86c r86d r86e r86f r86g r86h r86i r86z;obtain⟨sp87,ln87,cp87,hv87,hd87⟩:=za7 HF85.out Hp83x.out;injection hv87 with u1 u2 u3;subst u1 u2 u3;refine hd87.mono ?_;rintro e W87 ⟨e87,rfl,b87,f87,q87⟩;have HV87:=hid q87;have PR89:=hid ((b87.block _ (zaa PR84.out)).trans PR84.out);have pz89:=b87.size;have HF90:=hid (f87);clear hd87 b87 f87 q87 HF85 Hp83x PR84;obtain⟨W91,hst91,b91,f91,l91⟩:=zfr (e0:=⟨e0,e1,e2,e3,e4,e5,e6,e7,e8,e9⟩) HF90.out PB.out PR89.out HV87.out;have HVN:=hid l91;have HF92:=hid (f91);clear b91 f91 l91 HF90 HV87 PR89;have HMV:=hid (zc1 HF92.out.hR)
          go_wp2
          go_round
          case rel=>exact⟨_,_,m,_,_,HF92.out,HVN.out,HX.out,by omega⟩
          case measure=>
           rw[HMV.out,HMU0.out];exact zd3 HQB0.out hqle0 HF92.out.hR.le (HT31.out.trans (HXX1.out.trans HT82.out.le))
      ·skip
       replace HX:=hid (if_t HX.out (by first|rfl|trivial))
       rw[<-(show e6=v.bg from PV21.out.bg)] at HX
       go_wp2_with fail
       refine(zar ⟨#[46]⟩ HF22.out.hR).mono ?_;rintro e W93 ⟨rfl,b93⟩;rw[HIS.out];have PR95:=hid ((b93.block _ (zaa PR21.out)).trans PR21.out);have PV95:Hid (QV W93 pS v ⟨e0,e1,e2,e3,e4,e5,e6,e7,e8,e9⟩):=hid ⟨PV21.out.is.keep (fun _ h=>h) fun j hj=>b93.block j (by have:=(PS.out j hj).2.1;omega),PV21.out.bg⟩;have pz95:=b93.size;have HF96:=hid (HF22.out.low b93);clear b93 HF22 PR21 PV21
       replace HX:=hid (if_t HX.out (by first|rfl|trivial))
       go_wp2_with fail
       refine(zag ⟨#[46]⟩ HF96.out.hR).mono ?_;rintro e W97 ⟨rfl,g97,r97⟩;obtain⟨t97,ht⟩:∃ t,takT ts ⟨#[46]⟩ q=t:=⟨_,rfl⟩;obtain⟨s97,hs⟩:∃ s2,takS ts ⟨#[46]⟩ q=s2:=⟨_,rfl⟩;rw[show takT ts ⟨#[46]⟩ ⟨q.p,q.bad⟩=t97 from ht];have q97:QdS T W97 g st cap ts s97:=hs ▸ r97;have HT97:Hid (LtQ q s97):=hid (hs ▸ zal _ _)
       try rw[ht] at HX
       try rw[hs] at HX
       have PR99:=hid ((g97.block _ (zaa PR95.out) (fun e=>by injection e with e;have:=HF96.out.gB;have:=PB.out;omega)).trans PR95.out);have PV99:Hid (QV W97 pS v ⟨e0,e1,e2,e3,e4,e5,e6,e7,e8,e9⟩):=hid ⟨PV95.out.is.keep (fun _ h=>h) fun j hj=>g97.block j (by have:=(PS.out j hj).2.1;omega) (fun e=>by injection e with e;have:=HF96.out.gB;have:=(PS.out j hj).1;omega),PV95.out.bg⟩;have pz99:=g97.size;have HF100:=hid (HF96.out.call g97 q97);clear ht hs r97 q97 g97 HF96 PR95 PV95
       go_wp2_with fail
       refine(zag ⟨#[110,97,109,101]⟩ HF100.out.hR).mono ?_;rintro e W101 ⟨rfl,g101,r101⟩;obtain⟨t101,ht⟩:∃ t,takT ts ⟨#[110,97,109,101]⟩ s97=t:=⟨_,rfl⟩;obtain⟨s101,hs⟩:∃ s2,takS ts ⟨#[110,97,109,101]⟩ s97=s2:=⟨_,rfl⟩;rw[show takT ts ⟨#[110,97,109,101]⟩ ⟨s97.p,s97.bad⟩=t101 from ht];have q101:QdS T W101 g st cap ts s101:=hs ▸ r101;have HT101:Hid (LtQ s97 s101):=hid (hs ▸ zal _ _)
       try rw[ht] at HX
       try rw[hs] at HX
       have PR103:=hid ((g101.block _ (zaa PR99.out) (fun e=>by injection e with e;have:=HF100.out.gB;have:=PB.out;omega)).trans PR99.out);have PV103:Hid (QV W101 pS v ⟨e0,e1,e2,e3,e4,e5,e6,e7,e8,e9⟩):=hid ⟨PV99.out.is.keep (fun _ h=>h) fun j hj=>g101.block j (by have:=(PS.out j hj).2.1;omega) (fun e=>by injection e with e;have:=HF100.out.gB;have:=(PS.out j hj).1;omega),PV99.out.bg⟩;have pz103:=g101.size;have HF104:=hid (HF100.out.call g101 q101);clear ht hs r101 q101 g101 HF100 PR99 PV99;obtain⟨W105,hst105,b105,f105,l105⟩:=zdg HF104.out t101;have PR107:=hid ((b105.block _ (zaa PR103.out)).trans PR103.out);have PV107:Hid (QV W105 pS v ⟨e0,e1,e2,e3,e4,e5,e6,e7,e8,e9⟩):=hid ⟨PV103.out.is.keep (fun _ h=>h) fun j hj=>b105.block j (by have:=(PS.out j hj).2.1;omega),PV103.out.bg⟩;have pz107:=b105.size;have Ht105n:=hid l105;have HF108:=hid (f105);clear b105 f105 l105 HF104 PR103 PV103;obtain⟨c109a,c109b,c109c⟩:=Ht105n.out.cells
       go_wp2_with fail
       clear hst105 c109a c109b c109c;refine(zat 24 t101 t101.text W105).mono ?_;rintro e W110 ⟨rfl,b110⟩;have Ht111n:=hid (Ht105n.out.low b110);have PR112:=hid ((b110.block _ (zaa PR107.out)).trans PR107.out);have PV112:Hid (QV W110 pS v ⟨e0,e1,e2,e3,e4,e5,e6,e7,e8,e9⟩):=hid ⟨PV107.out.is.keep (fun _ h=>h) fun j hj=>b110.block j (by have:=(PS.out j hj).2.1;omega),PV107.out.bg⟩;have pz112:=b110.size;have HF113:=hid (HF108.out.low b110);clear b110 HF108 Ht105n PR107 PV107;have hbx:=zaa PR112.out;have hNx:N<=W110.heap.size:=by omega
       obtain⟨W114,hst114,b114,f114,l114⟩:=zc2 (z:=W14.heap.size) HF113.out hbx 24 t101 t101.text;have PR116:=hid ((b114.block _ (zaa PR112.out)).trans PR112.out);have PV116:Hid (QV W114 pS v ⟨e0,e1,e2,e3,e4,e5,e6,e7,e8,e9⟩):=hid ⟨PV112.out.is.keep (fun _ h=>h) fun j hj=>b114.block j (by have:=(PS.out j hj).2.1;omega),PV112.out.bg⟩;have pz116:=b114.size;have Hp114x:=hid l114;have hn114:=b114.size;have HF117:=hid (f114);clear b114 f114 l114 HF113 PR112 PV112;obtain⟨r118a,r118b,r118c,r118d,r118e,r118f,r118g,r118h,r118i,r118z⟩:=row9 Hp114x.out.row;obtain⟨p0,p1,p2,p3,p4,p5,p6,p7,p8,-⟩:=row9 PR116.out;have ap:(W114.alloc (.cells #[.int .i64 e0,.string e1,.int .i64 e2,.slice none 0 0,.int .i64 e3,.int .i64 e4,.int .i64 e5,.int .i64 e6,.slice e7 e8 e9] 63)).heap[W14.heap.size]?=some (.cells #[.int .i64 e0,.string e1,.int .i64 e2,.slice none 0 0,.int .i64 e3,.int .i64 e4,.int .i64 e5,.int .i64 e6,.slice e7 e8 e9] 63 (0,0)):=(Below.heap_alloc _ _ _ (zaa PR116.out)).trans PR116.out;have ax:(W114.alloc (.cells #[.int .i64 e0,.string e1,.int .i64 e2,.slice none 0 0,.int .i64 e3,.int .i64 e4,.int .i64 e5,.int .i64 e6,.slice e7 e8 e9] 63)).heap[W110.heap.size]?=some (.cells (paQ 24 t101.text 0 t101.pos t101.pos 0 t101.pos (.slice none 0 0)) 63 (0,0)):=(Below.heap_alloc _ _ _ Hp114x.out.lt).trans Hp114x.out.row;have ap7:(W114.alloc (.cells #[.int .i64 e0,.string e1,.int .i64 e2,.slice none 0 0,.int .i64 e3,.int .i64 e4,.int .i64 e5,.int .i64 e6,.slice e7 e8 e9] 63)).cell? ⟨W14.heap.size,7,none⟩=some (.int .i64 e6):=(cell_of_row _ _ 7 _ _ _ ap).trans rfl;have ax5:(W114.alloc (.cells #[.int .i64 e0,.string e1,.int .i64 e2,.slice none 0 0,.int .i64 e3,.int .i64 e4,.int .i64 e5,.int .i64 e6,.slice e7 e8 e9] 63)).cell? ⟨W110.heap.size,5,none⟩=some (.int .i64 t101.pos):=(cell_of_row _ _ 5 _ _ _ ax).trans rfl;have ax7:(W114.alloc (.cells #[.int .i64 e0,.string e1,.int .i64 e2,.slice none 0 0,.int .i64 e3,.int .i64 e4,.int .i64 e5,.int .i64 e6,.slice e7 e8 e9] 63)).cell? ⟨W110.heap.size,7,none⟩=some (.int .i64 t101.pos):=(cell_of_row _ _ 7 _ _ _ ax).trans rfl
       have axz:∀ i,(W114.alloc (.cells #[.int .i64 e0,.string e1,.int .i64 e2,.slice none 0 0,.int .i64 e3,.int .i64 e4,.int .i64 e5,.int .i64 e6,.slice e7 e8 e9] 63)).frozen? ⟨W110.heap.size,i,none⟩=false:=fun i=>frozen_of_row _ _ _ _ _ ax;clear ap ax;have s5:=(Below.refl 0 W114).setCell (p:=⟨W110.heap.size,5,none⟩) (Nat.zero_le _) (.int .i64 e6);have sxr:=heap_setCell_same W114 W110.heap.size 5 _ _ (.int .i64 e6) Hp114x.out.row;obtain⟨C,hCd⟩:∃ C,C=((W114.setCell ⟨W110.heap.size,5,none⟩ (.int .i64 e6)).alloc (.cells #[.int .i64 e0,.string e1,.int .i64 e2,.slice none 0 0,.int .i64 e3,.int .i64 e4,.int .i64 e5,.int .i64 e6,.slice e7 e8 e9] 63)):=⟨_,rfl⟩;have cxr:C.heap[W110.heap.size]?=some (.cells (paQ 24 t101.text 0 t101.pos e6 0 t101.pos (.slice none 0 0)) 63 (0,0)):=hCd ▸ (Below.heap_alloc _ _ _ (zaa sxr)).trans sxr;have cpr:C.heap[W14.heap.size]?=some (.cells #[.int .i64 e0,.string e1,.int .i64 e2,.slice none 0 0,.int .i64 e3,.int .i64 e4,.int .i64 e5,.int .i64 e6,.slice e7 e8 e9] 63 (0,0)):=hCd ▸ (Below.heap_alloc _ _ _ (Nat.lt_of_lt_of_le (zaa PR116.out) s5.size)).trans ((heap_setCell_other _ _ _ _ (Nat.ne_of_lt hbx)).trans PR116.out);have cp7:C.cell? ⟨W14.heap.size,7,none⟩=some (.int .i64 e6):=(cell_of_row _ _ 7 _ _ _ cpr).trans rfl;have cx7:C.cell? ⟨W110.heap.size,7,none⟩=some (.int .i64 t101.pos):=(cell_of_row _ _ 7 _ _ _ cxr).trans rfl;have cxz7:C.frozen? ⟨W110.heap.size,7,none⟩=false:=frozen_of_row _ _ _ _ _ cxr;rw[hCd] at cx7 cxz7 cp7;have hbxl:=Hp114x.out.lt;have E2:((W114.setCell ⟨W110.heap.size,5,none⟩ (.int .i64 e6)).alloc (.cells #[.int .i64 e0,.string e1,.int .i64 e2,.slice none 0 0,.int .i64 e3,.int .i64 e4,.int .i64 e5,.int .i64 e6,.slice e7 e8 e9] 63)).setCell ⟨W110.heap.size,7,none⟩ (.int .i64 e6)=((W114.setCell ⟨W110.heap.size,5,none⟩ (.int .i64 e6)).setCell ⟨W110.heap.size,7,none⟩ (.int .i64 e6)).alloc (.cells #[.int .i64 e0,.string e1,.int .i64 e2,.slice none 0 0,.int .i64 e3,.int .i64 e4,.int .i64 e5,.int .i64 e6,.slice e7 e8 e9] 63):=zf0 _ _ _ _ _ (Nat.lt_of_lt_of_le hbxl s5.size)
       have E3:((W114.alloc (.cells #[.int .i64 e0,.string e1,.int .i64 e2,.slice none 0 0,.int .i64 e3,.int .i64 e4,.int .i64 e5,.int .i64 e6,.slice e7 e8 e9] 63)).setCell ⟨W110.heap.size,5,none⟩ (.int .i64 e6)).setCell ⟨W110.heap.size,7,none⟩ (.int .i64 e6)=((W114.setCell ⟨W110.heap.size,5,none⟩ (.int .i64 e6)).setCell ⟨W110.heap.size,7,none⟩ (.int .i64 e6)).alloc (.cells #[.int .i64 e0,.string e1,.int .i64 e2,.slice none 0 0,.int .i64 e3,.int .i64 e4,.int .i64 e5,.int .i64 e6,.slice e7 e8 e9] 63):=by rw[zf0 _ _ _ _ _ hbxl];exact E2
       have h48:W114.heap.size=((W114.setCell ⟨W110.heap.size,5,none⟩ (.int .i64 e6)).setCell ⟨W110.heap.size,7,none⟩ (.int .i64 e6)).heap.size:=by simp
       have spr:(W114.setCell ⟨W110.heap.size,5,none⟩ (.int .i64 e6)).heap[W14.heap.size]?=some (.cells #[.int .i64 e0,.string e1,.int .i64 e2,.slice none 0 0,.int .i64 e3,.int .i64 e4,.int .i64 e5,.int .i64 e6,.slice e7 e8 e9] 63 (0,0)):=(heap_setCell_other _ _ _ _ (Nat.ne_of_lt hbx)).trans PR116.out;obtain⟨y0,y1,y2,y3,y4,y5,y6,y7,y8,-⟩:=row9 spr;clear cxr hCd cpr s5 sxr hbxl spr;obtain⟨W119,hw119,b119,o119,r119⟩:∃ W2,((W114.setCell ⟨W110.heap.size,5,none⟩ (.int .i64 e6)).setCell ⟨W110.heap.size,7,none⟩ (.int .i64 e6))=W2∧Below (W110.heap.size) W114 W2∧(∀ j,j≠W110.heap.size->j<W114.heap.size->W2.heap[j]?=W114.heap[j]?)∧W2.heap[W110.heap.size]?=some (.cells (paQ 24 t101.text 0 t101.pos e6 0 e6 (.slice none 0 0)) 63 (0,0)) :=
        ⟨_,rfl,(((Below.refl _ _).setCell (p:=⟨W110.heap.size,5,none⟩) (Nat.le_refl _) _).setCell (p:=⟨W110.heap.size,7,none⟩) (Nat.le_refl _) _),fun j hj _=>(heap_setCell_other _ _ _ _ hj).trans ((heap_setCell_other _ _ _ _ hj).trans (rfl)),heap_setCell_same _ _ 7 _ _ _ (heap_setCell_same _ _ 5 _ _ _ (Hp114x.out.row))⟩
       obtain⟨f119,q119⟩:=zhz HF117.out Hp114x.out W119 b119 o119 24 t101.text 0 t101.pos e6 0 e6 r119;have Hp119x:=hid q119;have PR119:=hid ((o119 _ (Nat.ne_of_lt hbx) (zaa PR116.out)).trans PR116.out);have PV119:Hid (QV W119 pS v ⟨e0,e1,e2,e3,e4,e5,e6,e7,e8,e9⟩):=hid ⟨PV116.out.is.keep (fun _ h=>h) fun j hj=>o119 j (by have:=(PS.out j hj).2.1;omega) (by have:=(PS.out j hj).2.1;omega),PV116.out.bg⟩;have pz119:=b119.size;have HF120:=hid (f119);clear f119 q119 b119 o119 r119 HF117 Hp114x PR116 PV116;rw[hw119] at E2 E3 h48;have H48:=hid h48;clear h48;have upr:W119.heap[W14.heap.size]?=some (.cells #[.int .i64 e0,.string e1,.int .i64 e2,.slice none 0 0,.int .i64 e3,.int .i64 e4,.int .i64 e5,.int .i64 e6,.slice e7 e8 e9] 63 (0,0)):=PR119.out;obtain⟨u0,u1,u2,u3,u4,u5,u6,u7,u8,-⟩:=row9 upr;clear upr;obtain⟨c121,f121,W121,hw121,g121,q121,b121,o121⟩:=zdy HF120.out Hp119x.out (v:=v) (e:=⟨e0,e1,e2,e3,e4,e5,e6,e7,e8,e9⟩) (S:=pS) PV119.out (fun j hj=>by have hp:=PS.out j hj;have:=Hp119x.out.lt;exact⟨hp.1,by omega,by omega,hp.2.2⟩)
       dsimp only[Qe.cells,paQ] at c121 f121 hw121
       have hwb:=hw121;rw[<-H48.out] at hwb;have Hp121x:=hid q121;have PR121:=hid ((o121 _ (Nat.ne_of_lt hbx) (zaa PR119.out)).trans PR119.out);have HF122:=hid (g121);clear g121 q121 b121 o121 HF120 Hp119x PR119 PV119;obtain⟨W123,hd123⟩:∃ V,W121.drew=V:=⟨_,rfl⟩;have bd123:Below W121.heap.size W121 W123:=hd123 ▸ (Below.refl _ _).drew;have Hp124x:=hid (Hp121x.out.below bd123);have PR125:=hid ((bd123.block _ (zaa PR121.out)).trans PR121.out);have pz125:=bd123.size;have HF126:=hid (HF122.out.low bd123);clear bd123 HF122 Hp121x PR121
       go_wp2_with fail
       apply join1 W123
       rotate_left
       ·intro hc;have HC:=hid hc;clear hc
        go_region
        all_goals (try rw[<-H48.out])
        all_goals (exact HC.out)
       clear hd123;clear hst114 r118a r118b r118c r118d r118e r118f r118g r118h r118i r118z ap7 ax5 ax7 axz cp7 cx7 cxz7 E2 E3 hw119;obtain⟨r127a,r127b,r127c,r127d,r127e,r127f,r127g,r127h,r127i,r127z⟩:=row9 Hp124x.out.row
       go_wp2_with fail
       clear r127a r127b r127c r127d r127e r127f r127g r127h r127i r127z;obtain⟨sp128,ln128,cp128,hv128,hd128⟩:=za7 HF126.out Hp124x.out;injection hv128 with u1 u2 u3;subst u1 u2 u3;refine hd128.mono ?_;rintro e W128 ⟨e128,rfl,b128,f128,q128⟩;have HV128:=hid q128;have PR130:=hid ((b128.block _ (zaa PR125.out)).trans PR125.out);have pz130:=b128.size;have HF131:=hid (f128);clear hd128 b128 f128 q128 HF126 Hp124x PR125;obtain⟨W132,hst132,b132,f132,l132⟩:=zfr HF131.out PB.out PR130.out HV128.out;have HVN:=hid l132;have HF133:=hid (f132);clear b132 f132 l132 HF131 HV128 PR130;have HMV:=hid (zc1 HF133.out.hR)
       go_wp2
       go_round
       case rel=>exact⟨_,_,m,_,_,HF133.out,HVN.out,HX.out,by omega⟩
       case measure=>
        rw[HMV.out,HMU.out];exact zd3 HQB.out hqle HF133.out.hR.le (HT97.out.trans HT101.out.le)
     ·skip
      replace HX:=hid (if_f HX.out (fun h=>by cases h))
      obtain⟨h0,h1,h2,h3,h4,h5,h6,h7,h8,-⟩:=row9 PR.out;have HP:=hid (zd4 HFr.out (v:=v) (e:=⟨e0,e1,e2,e3,e4,e5,e6,e7,e8,e9⟩) ⟨PV.out.is.keep (fun j hj=>⟨(PS.out j hj).1,by have:=(PS.out j hj).2.1;omega⟩) fun _ _=>rfl,PV.out.bg⟩)
      go_wp2_with (refine zdj (by rfl) (.tmp 2) (.tmp 120) (by rfl) ⟨e0,e1,e2,e3,e4,e5,e6,e7,e8,e9⟩ (by rfl) (by rfl) HFr.out.hZ (by rfl) ?_)
      have hx:=Option.some.inj HX.out;exact zan Tryz.results149 rfl (zad HFr.out.hZ) (hx ▸ HP.out)
   ·skip
    replace HX:=hid (if_t HX.out (by first|rfl|trivial))
    obtain⟨c134a,c134b,c134c⟩:=Ht12t.out.cells
    go_wp2_with fail
    clear c134a c134b c134c;refine(zag t1.text HF13.out.hR).mono ?_;rintro e W135 ⟨rfl,g135,r135⟩;obtain⟨t135,ht⟩:∃ t,takT ts t1.text s=t:=⟨_,rfl⟩;obtain⟨s135,hs⟩:∃ s2,takS ts t1.text s=s2:=⟨_,rfl⟩;rw[show takT ts t1.text ⟨s.p,s.bad⟩=t135 from ht];have q135:QdS T W135 g st cap ts s135:=hs ▸ r135;have HT135:Hid (LtQ s s135):=hid (hs ▸ zal _ _)
    try rw[ht] at HX
    try rw[hs] at HX
    have Ht136t:=hid (Ht12t.out.call HF13.out.gB g135);have HF137:=hid (HF13.out.call g135 q135);clear ht hs r135 q135 g135 HF13 Ht12t;obtain⟨c138a,c138b,c138c⟩:=Ht136t.out.cells
    go_wp2_with fail
    clear c138a c138b c138c;refine(zat 26 t1 t1.text W135).mono ?_;rintro e W139 ⟨rfl,b139⟩;have Ht140t:=hid (Ht136t.out.low b139);have HF141:=hid (HF137.out.low b139);clear b139 HF137 Ht136t;obtain⟨W142,hst142,b142,f142,l142⟩:=zc2 (z:=w.heap.size) HF141.out (zaa HF141.out.hZ) 26 t1 t1.text;have Ht143t:=hid (Ht140t.out.low b142);have Hp142p:=hid l142;have hn142:=b142.size;have HF144:=hid (f142);clear b142 f142 l142 HF141 Ht140t
    go_wp2_with fail
    clear hst142;rcases hk145:(dns ts n).una s135 with _|⟨v145,s145⟩
    ·exact absurd HX.out (by rw[hk145];intro h;cases h)
    rw[hk145] at HX
    try simp only[Option.bind_some] at HX
    refine(((fun hk=>HU.out _ _ _ hk HF144.out.hR) hk145)).mono ?_;rintro e W145 ⟨e145,rfl,q145,g145,r145⟩;have HV145:=hid q145;have hb145p:=Hp142p.out.lt;have Hp146p:=hid (Hp142p.out.grow HF144.out.gB g145);have hs145:=g145.size;have HF147:=hid (HF144.out.call g145 r145);have hl145:=HF144.out.size;clear hk145 q145 g145 r145 HF144 Hp142p;obtain⟨c148,f148,W148,hw148,g148,q148,b148,o148⟩:=zdy HF147.out Hp146p.out (v:=v145) (e:=e145) (S:=(fun j=>W142.heap.size<=j∧j<W145.heap.size)) HV145.out (fun j hj=>by have:=Hp146p.out.lt;have:=HF147.out.s0;exact⟨by omega,hj.2,by omega,by omega⟩);have Hp148p:=hid q148;have HF149:=hid (g148);obtain⟨e0,e1,e2,e3,e4,e5,e6,e7,e8,e9⟩:=e145
    dsimp only[Qe.cells,paQ] at c148 f148 hw148
    try unfold Qe.cells paQ
    clear HV145 g148 q148 b148 o148 HF147 Hp146p;obtain⟨r150a,r150b,r150c,r150d,r150e,r150f,r150g,r150h,r150i,r150z⟩:=row9 Hp148p.out.row
    go_wp2_with fail
    clear c148 f148 hw148 r150a r150b r150c r150d r150e r150f r150g r150h r150i r150z;obtain⟨sp151,ln151,cp151,hv151,hd151⟩:=za7 HF149.out Hp148p.out;injection hv151 with u1 u2 u3;subst u1 u2 u3;refine hd151.mono ?_;rintro e W151 ⟨e151,rfl,b151,f151,q151⟩;have HV151:=hid q151;have HF153:=hid (f151);clear hd151 b151 f151 q151 HF149 Hp148p;obtain⟨W154,hst154,hr154,hp154⟩:=za5 HF153.out (v:=(⟨26,t1.text,0,t1.pos,t1.pos,behI ts s145.p,t1.pos,[v145.pt]⟩:Qv)) ⟨HV151.out.is.keep (fun j hj=>⟨hj.1,hj.2.1⟩) fun _ _=>rfl,HV151.out.bg⟩;have HP:=hid hp154;have HRR:=hid hr154;clear hp154 hr154
    go_wp2
    have hx:=Option.some.inj HX.out;exact zan Tryz.results149 rfl HRR.out (hx ▸ HP.out)
  ·skip
   replace HX:=hid (if_t HX.out (by first|rfl|trivial))
   obtain⟨c155a,c155b,c155c⟩:=Ht9t.out.cells
   go_wp2_with fail
   clear c155a c155b c155c;refine(zag t1.text HF10.out.hR).mono ?_;rintro e W156 ⟨rfl,g156,r156⟩;obtain⟨t156,ht⟩:∃ t,takT ts t1.text s=t:=⟨_,rfl⟩;obtain⟨s156,hs⟩:∃ s2,takS ts t1.text s=s2:=⟨_,rfl⟩;rw[show takT ts t1.text ⟨s.p,s.bad⟩=t156 from ht];have q156:QdS T W156 g st cap ts s156:=hs ▸ r156;have HT156:Hid (LtQ s s156):=hid (hs ▸ zal _ _)
   try rw[ht] at HX
   try rw[hs] at HX
   have Ht157t:=hid (Ht9t.out.call HF10.out.gB g156);have HF158:=hid (HF10.out.call g156 q156);clear ht hs r156 q156 g156 HF10 Ht9t;obtain⟨c159a,c159b,c159c⟩:=Ht157t.out.cells
   go_wp2_with fail
   clear c159a c159b c159c;refine(zat 26 t1 t1.text W156).mono ?_;rintro e W160 ⟨rfl,b160⟩;have Ht161t:=hid (Ht157t.out.low b160);have HF162:=hid (HF158.out.low b160);clear b160 HF158 Ht157t;obtain⟨W163,hst163,b163,f163,l163⟩:=zc2 (z:=w.heap.size) HF162.out (zaa HF162.out.hZ) 26 t1 t1.text;have Ht164t:=hid (Ht161t.out.low b163);have Hp163p:=hid l163;have hn163:=b163.size;have HF165:=hid (f163);clear b163 f163 l163 HF162 Ht161t
   go_wp2_with fail
   clear hst163;rcases hk166:(dns ts n).una s156 with _|⟨v166,s166⟩
   ·exact absurd HX.out (by rw[hk166];intro h;cases h)
   rw[hk166] at HX
   try simp only[Option.bind_some] at HX
   refine(((fun hk=>HU.out _ _ _ hk HF165.out.hR) hk166)).mono ?_;rintro e W166 ⟨e166,rfl,q166,g166,r166⟩;have HV166:=hid q166;have hb166p:=Hp163p.out.lt;have Hp167p:=hid (Hp163p.out.grow HF165.out.gB g166);have hs166:=g166.size;have HF168:=hid (HF165.out.call g166 r166);have hl166:=HF165.out.size;clear hk166 q166 g166 r166 HF165 Hp163p;obtain⟨c169,f169,W169,hw169,g169,q169,b169,o169⟩:=zdy HF168.out Hp167p.out (v:=v166) (e:=e166) (S:=(fun j=>W163.heap.size<=j∧j<W166.heap.size)) HV166.out (fun j hj=>by have:=Hp167p.out.lt;have:=HF168.out.s0;exact⟨by omega,hj.2,by omega,by omega⟩);have Hp169p:=hid q169;have HF170:=hid (g169);obtain⟨e0,e1,e2,e3,e4,e5,e6,e7,e8,e9⟩:=e166
   dsimp only[Qe.cells,paQ] at c169 f169 hw169
   try unfold Qe.cells paQ
   clear HV166 g169 q169 b169 o169 HF168 Hp167p;obtain⟨r171a,r171b,r171c,r171d,r171e,r171f,r171g,r171h,r171i,r171z⟩:=row9 Hp169p.out.row
   go_wp2_with fail
   clear c169 f169 hw169 r171a r171b r171c r171d r171e r171f r171g r171h r171i r171z;obtain⟨sp172,ln172,cp172,hv172,hd172⟩:=za7 HF170.out Hp169p.out;injection hv172 with u1 u2 u3;subst u1 u2 u3;refine hd172.mono ?_;rintro e W172 ⟨e172,rfl,b172,f172,q172⟩;have HV172:=hid q172;have HF174:=hid (f172);clear hd172 b172 f172 q172 HF170 Hp169p;obtain⟨W175,hst175,hr175,hp175⟩:=za5 HF174.out (v:=(⟨26,t1.text,0,t1.pos,t1.pos,behI ts s166.p,t1.pos,[v166.pt]⟩:Qv)) ⟨HV172.out.is.keep (fun j hj=>⟨hj.1,hj.2.1⟩) fun _ _=>rfl,HV172.out.bg⟩;have HP:=hid hp175;have HRR:=hid hr175;clear hp175 hr175
   go_wp2
   have hx:=Option.some.inj HX.out;exact zan Tryz.results149 rfl HRR.out (hx ▸ HP.out)
 ·skip
  exact absurd (HQB.out.symm.trans HB0.out) (by simp)
end
end Go.Proofs.YtmclgbkijeidaaaGreatDoor
