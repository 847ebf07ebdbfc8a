import Derived.Test.YtmclgbkijeidaaaGreatDoorUnW
import Derived.Deep.DeepCutAuto
import Derived.Deep.Cut
import Derived.Deep.CutRange
import Derived.Deep.CutBlock
namespace Go.Proofs.YtmclgbkijeidaaaGreatDoor
set_option maxRecDepth 100000
set_option maxHeartbeats 4000000
open Go.RowKit
section
variable {T:Nat}{w W0 W W':World}{g:Nat}{st:Option Addr}{cap:Nat}{ts:List Tok}{s s':Qs}
abbrev FuQ (T:Nat) (g:Nat) (st:Option Addr) (cap:Nat) (ts:List Tok) (m:Nat):Prop:=∀ (w:World) s r,funD ts (dns ts m) s=some r->QdS T w g st cap ts s->Calls Tryz.prog 72 #[.pointer (some ⟨g,0,none⟩)] w (QoP T w g st cap ts r)
abbrev DeQ (T:Nat) (g:Nat) (st:Option Addr) (cap:Nat) (ts:List Tok) (m:Nat):Prop:=∀ (w:World) s r,decD ts (dns ts m) s=some r->QdS T w g st cap ts s->Calls Tryz.prog 50 #[.pointer (some ⟨g,0,none⟩)] w (QoP T w g st cap ts r)
theorem zmi {n:Nat}{r:Qv × Qs}(hE:ExQ T g st cap ts (dns ts n))(hU:FuQ T g st cap ts n)(hR:QdS T w g st cap ts s)(hX:decD ts (dns ts n) s=some r):Calls Tryz.prog 50 #[.pointer (some ⟨g,0,none⟩)] w (QoP T w g st cap ts r):=by
 have HF:=hid (zb9 hR);have hfe:=hR.few;have hle:=hR.le;clear hR;have HE:=hid hE;have HU:=hid hU;clear hE hU;unfold decD at hX
 skip
 have HX:=hid hX;clear hX
 go_enter Tryz.func50,Tryz.ntmps50
 go_wp2_with fail
 refine zaf (fun W=>Fr T w W W g st cap ts s) HF.out ?_;intro W0 hF;clear HF;have HF:=hid hF;clear hF;refine(zar ⟨#[99,111,110,115,116]⟩ HF.out.hR).mono ?_;rintro e W1 ⟨rfl,b1⟩;obtain⟨i1,hi⟩:∃ b,isQ ts s.p ⟨#[99,111,110,115,116]⟩=b:=⟨_,rfl⟩;rw[hi];have HIS:=hid hi
 try rw[hi] at HX
 have HF3:=hid (HF.out.low b1);clear hi b1 HF
 cases i1
 ·skip
  replace HX:=hid (if_f HX.out (fun h=>by cases h))
  go_wp2_with fail
  refine(zar ⟨#[118,97,114]⟩ HF3.out.hR).mono ?_;rintro e W4 ⟨rfl,b4⟩;obtain⟨i4,hi⟩:∃ b,isQ ts s.p ⟨#[118,97,114]⟩=b:=⟨_,rfl⟩;rw[hi];have HIS:=hid hi
  try rw[hi] at HX
  have HF6:=hid (HF3.out.low b4);clear hi b4 HF3
  cases i4
  ·skip
   replace HX:=hid (if_f HX.out (fun h=>by cases h))
   go_wp2_with fail
   refine(zar ⟨#[116,121,112,101]⟩ HF6.out.hR).mono ?_;rintro e W7 ⟨rfl,b7⟩;obtain⟨i7,hi⟩:∃ b,isQ ts s.p ⟨#[116,121,112,101]⟩=b:=⟨_,rfl⟩;rw[hi];have HIS:=hid hi
   try rw[hi] at HX
   have HF9:=hid (HF6.out.low b7);clear hi b7 HF6
   cases i7
   ·skip
    replace HX:=hid (if_f HX.out (fun h=>by cases h))
    go_wp2_with fail
    rcases hk10:funD ts (dns ts n) s with _|⟨v10,s10⟩
    ·exact absurd HX.out (by rw[hk10];intro h;cases h)
    rw[hk10] at HX
    try simp only[Option.bind_some] at HX
    refine(((fun hk=>HU.out _ _ _ hk HF9.out.hR) hk10)).mono ?_;rintro e W10 ⟨e10,rfl,q10,g10,r10⟩;have HV10:=hid q10;have hs10:=g10.size;have HF12:=hid (HF9.out.call g10 r10);have hl10:=HF9.out.size;clear hk10 q10 g10 r10 HF9;obtain⟨W13,hst13,hr13,hp13⟩:=za5 HF12.out (v:=v10) ⟨HV10.out.is.keep (fun j hj=>⟨by omega,hj.2⟩) fun _ _=>rfl,HV10.out.bg⟩;have HP:=hid hp13;have HRR:=hid hr13;clear hp13 hr13
    go_wp2
    have hx:=Option.some.inj HX.out;exact zan Tryz.results50 rfl HRR.out (hx ▸ HP.out)
   ·skip
    replace HX:=hid (if_t HX.out (by first|rfl|trivial))
    have hX:=HX.out;unfold strD at hX
    dsimp only[tak] at hX
    replace HX:=hid hX
    clear hX
    go_wp2_with fail
    refine(zd0 5 ⟨#[116,121,112,101]⟩ HF9.out.hR).mono ?_;rintro e W14 ⟨rfl,g14,r14⟩;obtain⟨⟨v14,s14⟩,hk14⟩:∃ r,worD ts 5 ⟨#[116,121,112,101]⟩ s=r:=⟨_,rfl⟩;rw[hk14] at HX r14;rw[hk14]
    try dsimp only at HX
    have HF16:=hid (HF9.out.call g14 r14);clear hk14 g14 r14 HF9;obtain⟨W17,hst17,b17,f17,l17⟩:=zgc HF16.out (⟨5,v14.x,0,v14.a,v14.f,0,v14.bg,none,0,0⟩:Qe);have Hq17p:Hid (Tq W0 W17 W14.heap.size (⟨5,v14.x,0,v14.a,v14.f,0,v14.bg,none,0,0⟩:Qe)):=hid l17;have HF19:=hid (f17);clear b17 f17 l17 HF16;have Hp20p:=hid (Hq17p.out.qk (z:=w.heap.size) (zaa HF19.out.hZ));clear Hq17p
    go_wp2_with fail
    clear hst17;refine(zag ⟨#[115,116,114,117,99,116]⟩ HF19.out.hR).mono ?_;rintro e W21 ⟨rfl,g21,r21⟩;obtain⟨t21,ht⟩:∃ t,takT ts ⟨#[115,116,114,117,99,116]⟩ s14=t:=⟨_,rfl⟩;obtain⟨s21,hs⟩:∃ s2,takS ts ⟨#[115,116,114,117,99,116]⟩ s14=s2:=⟨_,rfl⟩;rw[show takT ts ⟨#[115,116,114,117,99,116]⟩ ⟨s14.p,s14.bad⟩=t21 from ht];have q21:QdS T W21 g st cap ts s21:=hs ▸ r21;have HT21:Hid (LtQ s14 s21):=hid (hs ▸ zal _ _)
    try rw[ht] at HX
    try rw[hs] at HX
    have Hp22p:=hid (Hp20p.out.grow HF19.out.gB g21);have HF23:=hid (HF19.out.call g21 q21);clear ht hs r21 q21 g21 HF19 Hp20p
    go_wp2_with fail
    refine(zag ⟨#[123]⟩ HF23.out.hR).mono ?_;rintro e W24 ⟨rfl,g24,r24⟩;obtain⟨t24,ht⟩:∃ t,takT ts ⟨#[123]⟩ s21=t:=⟨_,rfl⟩;obtain⟨s24,hs⟩:∃ s2,takS ts ⟨#[123]⟩ s21=s2:=⟨_,rfl⟩;rw[show takT ts ⟨#[123]⟩ ⟨s21.p,s21.bad⟩=t24 from ht];have q24:QdS T W24 g st cap ts s24:=hs ▸ r24;have HT24:Hid (LtQ s21 s24):=hid (hs ▸ zal _ _)
    try rw[ht] at HX
    try rw[hs] at HX
    have Hp25p:=hid (Hp22p.out.grow HF23.out.gB g24);have HF26:=hid (HF23.out.call g24 q24);clear ht hs r24 q24 g24 HF23 Hp22p
    go_wp2_with fail
    rcases hk27:(dns ts n).fieL [] s24 with _|⟨lf,sf⟩
    ·exact absurd HX.out (by rw[hk27];intro h;cases h)
    rw[hk27] at HX;simp only[Option.bind_some] at HX;have HRL:=hid hk27;have HO:=HX;clear HX hk27
    go_loopw [] (fun wr=>∃ (l:List Pt) (q:Qs) (v:Value) (m:Nat),Fr T w W0 wr g st cap ts q∧Qk W0.heap.size (w.heap.size) wr (W14.heap.size) 5 v14.x 0 v14.a v14.f 0 v14.bg v l∧(dns ts m).fieL l q=some (lf,sf)∧m<=n∧Few l q) (fun wr=>muQ ts g wr)
    case atStart=>exact⟨_,_,_,_,HF26.out,Hp25p.out,HRL.out,Nat.le_refl _,⟨Nat.zero_le _,fun _=>Nat.zero_le _⟩⟩
    case round=>
     obtain⟨l,q,v,m,hF,hQ,hm,hmn,hfw⟩:=hrel;have HFr:=hid hF;have HQr:=hid hQ;have HFw:=hid hfw;have HMU:=hid (zc1 hF.hR);have hqle:q.p<=ts.length:=hF.hR.le;obtain⟨vsp,vsn,vsc,hv⟩:=hQ.sl;subst hv;clear hF hQ hfw HF26 Hp25p HRL
     cases m with
     | zero=>cases hm
     | succ m=>
     rw[zlv] at hm;have HX:=hid hm;clear hm;obtain⟨qb28,hqb28⟩:∃ b,q.bad=b:=⟨_,rfl⟩;have wc28:wr.cell? ⟨g,2,none⟩=some (.bool qb28):=hqb28 ▸ HFr.out.hR.c2;rw[hqb28] at HX;have HQB:=hid hqb28;clear hqb28
     cases qb28
     ·skip
      go_wp2_with fail
      clear wc28;refine(zar ⟨#[125]⟩ HFr.out.hR).mono ?_;rintro e W29 ⟨rfl,b29⟩;obtain⟨i29,hi⟩:∃ b,isQ ts q.p ⟨#[125]⟩=b:=⟨_,rfl⟩;rw[hi];have HIS:=hid hi
      try rw[hi] at HX
      have Hp30p:=hid (HQr.out.below b29);have HF31:=hid (HFr.out.low b29);clear hi b29 HFr HQr
      cases i29
      ·skip
       replace HX:=hid (if_t HX.out (by first|rfl|trivial))
       have hX:=HX.out
       try dsimp only[tak] at hX
       replace HX:=hid hX
       clear hX
       go_wp2_with (fail)
       obtain⟨⟨v32,s32⟩,hk32⟩:∃ r,tydD ts 6 q=r:=⟨_,rfl⟩;rw[hk32] at HX
       try dsimp only at HX
       have HLT:=hid (show LtQ q s32 from by have h:=zjh (ts:=ts) 6 q;rw[hk32] at h;exact h);have HFr2:=hid HF31.out;have hd32:Below W29.heap.size W29 W29.drew:=(Below.refl _ _).drew;have HD32:=hid (HF31.out.low hd32);have HE32:=hid (Hp30p.out.below hd32);have HK32:=hid (fun (h:QdS T W29.drew g st cap ts q)=>zg5 6 (fun w s=>ze4) h);rw[hk32] at HK32;clear hk32 hd32 HF31 Hp30p;have c832:W29.drew.cell? ⟨W14.heap.size,8,none⟩=some (.slice vsp vsn vsc):=(cell_of_row _ _ 8 _ _ _ HE32.out.row).trans rfl;apply zby (fun y0 y1 y2 y3 y4 y5 y6 y7 y8 y9 Wy sp sn sc Wz=>Fr T w W0 Wz g st cap ts s32∧Qk W0.heap.size (w.heap.size) Wz (W14.heap.size) 5 v14.x 0 v14.a v14.f 0 v14.bg (.slice sp sn sc) (l++[v32.pt])∧W29.drew.grownBy Wy (some g)∧((w.heap.size)≠W14.heap.size->Wz.heap[w.heap.size]?=Wy.heap[w.heap.size]?)∧Wy.heap.size<=Wz.heap.size)
       rotate_left
       ·intro hc;refine zbg (S:=fun _=>Hid True) 8 rfl (by kernel_rfl) ?_;refine zao 0 40 (.pointer (some ⟨W14.heap.size,8,none⟩)) rfl (by kernel_rfl) (by kernel_rfl) (by kernel_rfl) (fun _ _ _ h=>h) (fun w' _=>by first|rfl|(go_simp;done) | (go_simp;rw[IntKind.wrap_i64];omega)) (hid trivial) ?_;simp only[sI,sS,sZ];refine zao 2 42 (.pointer (some ⟨g,0,none⟩)) rfl (by kernel_rfl) (by kernel_rfl) (by kernel_rfl) (fun _ _ _ h=>h) (fun w' _=>by first|rfl|(go_simp;done) | (go_simp;rw[IntKind.wrap_i64];omega)) (hid trivial) ?_;simp only[sI,sS,sZ];refine wpAnyH_all (rs:=[1,3]) (by kernel_rfl) (by simp) fun i hi=>?_;simp only[List.mem_cons,List.not_mem_nil,or_false] at hi;rcases hi with rfl|rfl
        ·skip
         refine zam rfl rfl ?_
         go_simp
         refine⟨hid trivial,?_⟩;refine zac 3 rfl (by kernel_rfl) ?_
         go_simp
         refine(HK32.out HD32.out.hR).mono ?_;rintro e W32 ⟨⟨y0,y1,y2,y3,y4,y5,y6,y7,y8,y9⟩,rfl,q32,g32,r32⟩;obtain⟨c32,d32,v2,w1,Wz,ha,ce,cf,cw,f32,k32,z32,hsz⟩:=zbt HD32.out HE32.out ((Nat.le_trans (HFw.out.lt HFr2.out.hR) (by omega))) g32 r32 q32;obtain⟨sp2,sn2,sc2,hv2⟩:=k32.sl;subst hv2;have HFIN:=hid (hc y0 y1 y2 y3 y4 y5 y6 y7 y8 y9 W32 sp2 sn2 sc2 Wz ⟨f32,k32,g32,z32,hsz⟩)
         dsimp only[Qe.cells,paQ] at c32 d32 ha ce cf cw
         unfold Qe.cells paQ;clear f32 k32 z32 q32 g32 r32 hsz;refine⟨hid trivial,?_⟩;refine zac 4 rfl (by kernel_rfl) ?_
         go_simp
         refine⟨hid trivial,?_⟩;refine zac 5 rfl (by kernel_rfl) ?_;refine zak (.tmp 41) (.tmp 44) 61 rfl rfl rfl ha ?_;refine⟨hid trivial,?_⟩;simp only[Act.put,List.setIfInBounds_toArray,List.set_cons_succ,List.set_cons_zero];refine zao 6 46 (.pointer (some ⟨W14.heap.size,8,none⟩)) rfl (by kernel_rfl) (by kernel_rfl) (by kernel_rfl) (fun _ _ _ h=>h) (fun w' _=>by first|rfl|(go_simp;done) | (go_simp;rw[IntKind.wrap_i64];omega)) (hid trivial) ?_;simp only[sI,sS,sZ];refine zac 7 rfl (by kernel_rfl) ?_
         go_simp
         refine⟨hid trivial,?_⟩;refine wpAnyH_done (by kernel_rfl) ?_ _;exact HFIN.out
        ·skip
         refine zam rfl rfl ?_
         go_simp
         refine(HK32.out HD32.out.hR).mono ?_;rintro e W32 ⟨⟨y0,y1,y2,y3,y4,y5,y6,y7,y8,y9⟩,rfl,q32,g32,r32⟩;obtain⟨c32,d32,v2,w1,Wz,ha,ce,cf,cw,f32,k32,z32,hsz⟩:=zbt HD32.out HE32.out ((Nat.le_trans (HFw.out.lt HFr2.out.hR) (by omega))) g32 r32 q32;obtain⟨sp2,sn2,sc2,hv2⟩:=k32.sl;subst hv2;have HFIN:=hid (hc y0 y1 y2 y3 y4 y5 y6 y7 y8 y9 W32 sp2 sn2 sc2 Wz ⟨f32,k32,g32,z32,hsz⟩)
         dsimp only[Qe.cells,paQ] at c32 d32 ha ce cf cw
         unfold Qe.cells paQ;clear f32 k32 z32 q32 g32 r32 hsz;refine⟨hid trivial,?_⟩;refine wpAnyH_all (rs:=[1,4]) (by kernel_rfl) (by simp) fun i hi=>?_;simp only[List.mem_cons,List.not_mem_nil,or_false] at hi;rcases hi with rfl|rfl
         ·skip
          refine zam rfl rfl ?_
          go_simp
          refine⟨hid trivial,?_⟩;refine zac 4 rfl (by kernel_rfl) ?_
          go_simp
          refine⟨hid trivial,?_⟩;refine zac 5 rfl (by kernel_rfl) ?_;refine zak (.tmp 41) (.tmp 44) 61 rfl rfl rfl ha ?_;refine⟨hid trivial,?_⟩;simp only[Act.put,List.setIfInBounds_toArray,List.set_cons_succ,List.set_cons_zero];refine zao 6 46 (.pointer (some ⟨W14.heap.size,8,none⟩)) rfl (by kernel_rfl) (by kernel_rfl) (by kernel_rfl) (fun _ _ _ h=>h) (fun w' _=>by first|rfl|(go_simp;done) | (go_simp;rw[IntKind.wrap_i64];omega)) (hid trivial) ?_;simp only[sI,sS,sZ];refine zac 7 rfl (by kernel_rfl) ?_
          go_simp
          refine⟨hid trivial,?_⟩;refine wpAnyH_done (by kernel_rfl) ?_ _;exact HFIN.out
         ·skip
          refine zam rfl rfl ?_
          go_simp
          refine⟨hid trivial,?_⟩;refine zac 1 rfl (by kernel_rfl) ?_
          go_simp
          refine⟨hid trivial,?_⟩;refine zac 5 rfl (by kernel_rfl) ?_;refine zak (.tmp 41) (.tmp 44) 61 rfl rfl rfl ha ?_;refine⟨hid trivial,?_⟩;simp only[Act.put,List.setIfInBounds_toArray,List.set_cons_succ,List.set_cons_zero];refine zao 6 46 (.pointer (some ⟨W14.heap.size,8,none⟩)) rfl (by kernel_rfl) (by kernel_rfl) (by kernel_rfl) (fun _ _ _ h=>h) (fun w' _=>by first|rfl|(go_simp;done) | (go_simp;rw[IntKind.wrap_i64];omega)) (hid trivial) ?_;simp only[sI,sS,sZ];refine zac 7 rfl (by kernel_rfl) ?_
          go_simp
          refine⟨hid trivial,?_⟩;refine wpAnyH_done (by kernel_rfl) ?_ _;exact HFIN.out
       intro y0 y1 y2 y3 y4 y5 y6 y7 y8 y9 W32 sp33 sn33 sc33 W33 hF33;obtain⟨f33,k33,g33,z33,y33⟩:=hF33;have Hp33p:=hid k33;have HG33:=hid g33;have HZ33:=hid z33;have HF34:=hid (f33);clear f33 k33 g33 z33 HD32 HE32 c832 HK32 HFr2
       go_wp2_with fail
       refine(zar ⟨#[125]⟩ HF34.out.hR).mono ?_;rintro e W35 ⟨rfl,b35⟩;obtain⟨i35,hi⟩:∃ b,isQ ts s32.p ⟨#[125]⟩=b:=⟨_,rfl⟩;rw[hi];have HIS:=hid hi
       try rw[hi] at HX
       have Hp36p:=hid (Hp33p.out.below b35);have HF37:=hid (HF34.out.low b35);clear hi b35 HF34 Hp33p
       cases i35
       ·skip
        go_wp2_with fail
        refine(zag ⟨#[101,110,100]⟩ HF37.out.hR).mono ?_;rintro e W38 ⟨rfl,g38,r38⟩;obtain⟨t38,ht⟩:∃ t,takT ts ⟨#[101,110,100]⟩ s32=t:=⟨_,rfl⟩;obtain⟨s38,hs⟩:∃ s2,takS ts ⟨#[101,110,100]⟩ s32=s2:=⟨_,rfl⟩;rw[show takT ts ⟨#[101,110,100]⟩ ⟨s32.p,s32.bad⟩=t38 from ht];have q38:QdS T W38 g st cap ts s38:=hs ▸ r38;have HT38:Hid (LtQ s32 s38):=hid (hs ▸ zal _ _)
        try rw[ht] at HX
        try rw[hs] at HX
        have Hp39p:=hid (Hp36p.out.grow HF37.out.gB g38);have HF40:=hid (HF37.out.call g38 q38);clear ht hs r38 q38 g38 HF37 Hp36p;have HMV:=hid (zc1 HF40.out.hR)
        go_wp2
        go_round
        case rel=>(repeat apply Exists.intro);exact⟨⟨_,_,_,m,HF40.out,Hp39p.out,HX.out,by omega,(HFw.out.more HQB.out HLT.out).le HT38.out.le⟩,rfl⟩
        case measure=>
         rw[HMV.out,HMU.out];exact zd3 HQB.out hqle HF40.out.hR.le (HLT.out.trans HT38.out.le)
       ·skip
        have HMV:=hid (zc1 HF37.out.hR)
        go_wp2
        go_round
        case rel=>(repeat apply Exists.intro);exact⟨⟨_,_,_,m,HF37.out,Hp36p.out,HX.out,by omega,HFw.out.more HQB.out HLT.out⟩,rfl⟩
        case measure=>
         rw[HMV.out,HMU.out];exact zd3 HQB.out hqle HF37.out.hR.le (HLT.out)
      ·skip
       replace HX:=hid (if_f HX.out (fun h=>by cases h))
       have hO:=HO.out;obtain⟨rfl,rfl⟩:=Prod.mk.inj (Option.some.inj HX.out)
       replace HX:=hid hO
       clear hO HO
       go_wp2_with fail
       refine(zag ⟨#[125]⟩ HF31.out.hR).mono ?_;rintro e W41 ⟨rfl,g41,r41⟩;obtain⟨t41,ht⟩:∃ t,takT ts ⟨#[125]⟩ q=t:=⟨_,rfl⟩;obtain⟨s41,hs⟩:∃ s2,takS ts ⟨#[125]⟩ q=s2:=⟨_,rfl⟩;rw[show takT ts ⟨#[125]⟩ ⟨q.p,q.bad⟩=t41 from ht];have q41:QdS T W41 g st cap ts s41:=hs ▸ r41;have HT41:Hid (LtQ q s41):=hid (hs ▸ zal _ _)
       try rw[ht] at HX
       try rw[hs] at HX
       have Hp42p:=hid (Hp30p.out.grow HF31.out.gB g41);have HF43:=hid (HF31.out.call g41 q41);clear ht hs r41 q41 g41 HF31 Hp30p;obtain⟨r44a,r44b,r44c,r44d,r44e,r44f,r44g,r44h,r44i,r44z⟩:=row9 Hp42p.out.row
       go_wp2_with fail
       clear r44a r44b r44c r44d r44e r44f r44g r44h r44i r44z;obtain⟨sp45,ln45,cp45,hv45,hd45⟩:=za7 HF43.out Hp42p.out;injection hv45 with u1 u2 u3;subst u1 u2 u3;refine hd45.mono ?_;rintro e W45 ⟨e45,rfl,b45,f45,q45⟩;have HV45:=hid q45;have HF47:=hid (f45);clear hd45 b45 f45 q45 HF43 Hp42p;obtain⟨W48,hst48,hr48,hp48⟩:=za5 HF47.out (v:=(⟨5,v14.x,0,v14.a,v14.f,behI ts s41.p,v14.bg,l⟩:Qv)) ⟨HV45.out.is.keep (fun j hj=>⟨hj.1,hj.2.1⟩) fun _ _=>rfl,HV45.out.bg⟩;have HP:=hid hp48;have HRR:=hid hr48;clear hp48 hr48
       go_wp2
       have hx:=Option.some.inj HX.out;exact zan Tryz.results50 rfl HRR.out (hx ▸ HP.out)
     ·skip
      replace HX:=hid (if_f HX.out (fun h=>by cases h))
      have hO:=HO.out;obtain⟨rfl,rfl⟩:=Prod.mk.inj (Option.some.inj HX.out)
      replace HX:=hid hO
      clear hO HO
      go_wp2_with fail
      clear wc28;refine(zag ⟨#[125]⟩ HFr.out.hR).mono ?_;rintro e W49 ⟨rfl,g49,r49⟩;obtain⟨t49,ht⟩:∃ t,takT ts ⟨#[125]⟩ q=t:=⟨_,rfl⟩;obtain⟨s49,hs⟩:∃ s2,takS ts ⟨#[125]⟩ q=s2:=⟨_,rfl⟩;rw[show takT ts ⟨#[125]⟩ ⟨q.p,q.bad⟩=t49 from ht];have q49:QdS T W49 g st cap ts s49:=hs ▸ r49;have HT49:Hid (LtQ q s49):=hid (hs ▸ zal _ _)
      try rw[ht] at HX
      try rw[hs] at HX
      have Hp50p:=hid (HQr.out.grow HFr.out.gB g49);have HF51:=hid (HFr.out.call g49 q49);clear ht hs r49 q49 g49 HFr HQr;obtain⟨r52a,r52b,r52c,r52d,r52e,r52f,r52g,r52h,r52i,r52z⟩:=row9 Hp50p.out.row
      go_wp2_with fail
      clear r52a r52b r52c r52d r52e r52f r52g r52h r52i r52z;obtain⟨sp53,ln53,cp53,hv53,hd53⟩:=za7 HF51.out Hp50p.out;injection hv53 with u1 u2 u3;subst u1 u2 u3;refine hd53.mono ?_;rintro e W53 ⟨e53,rfl,b53,f53,q53⟩;have HV53:=hid q53;have HF55:=hid (f53);clear hd53 b53 f53 q53 HF51 Hp50p;obtain⟨W56,hst56,hr56,hp56⟩:=za5 HF55.out (v:=(⟨5,v14.x,0,v14.a,v14.f,behI ts s49.p,v14.bg,l⟩:Qv)) ⟨HV53.out.is.keep (fun j hj=>⟨hj.1,hj.2.1⟩) fun _ _=>rfl,HV53.out.bg⟩;have HP:=hid hp56;have HRR:=hid hr56;clear hp56 hr56
      go_wp2
      have hx:=Option.some.inj HX.out;exact zan Tryz.results50 rfl HRR.out (hx ▸ HP.out)
  ·skip
   replace HX:=hid (if_t HX.out (by first|rfl|trivial))
   go_wp2_with fail
   rcases hk57:varD ts (dns ts n) s with _|⟨v57,s57⟩
   ·exact absurd HX.out (by rw[hk57];intro h;cases h)
   rw[hk57] at HX
   try simp only[Option.bind_some] at HX
   refine(((fun hk=>ze8 HE.out HF6.out.hR hk) hk57)).mono ?_;rintro e W57 ⟨e57,rfl,q57,g57,r57⟩;have HV57:=hid q57;have hs57:=g57.size;have HF59:=hid (HF6.out.call g57 r57);have hl57:=HF6.out.size;clear hk57 q57 g57 r57 HF6;obtain⟨W60,hst60,hr60,hp60⟩:=za5 HF59.out (v:=v57) ⟨HV57.out.is.keep (fun j hj=>⟨by omega,hj.2⟩) fun _ _=>rfl,HV57.out.bg⟩;have HP:=hid hp60;have HRR:=hid hr60;clear hp60 hr60
   go_wp2
   have hx:=Option.some.inj HX.out;exact zan Tryz.results50 rfl HRR.out (hx ▸ HP.out)
 ·skip
  replace HX:=hid (if_t HX.out (by first|rfl|trivial))
  have hX:=HX.out;unfold conD at hX
  dsimp only[tak] at hX
  replace HX:=hid hX
  clear hX
  go_wp2_with fail
  refine(zd0 3 ⟨#[99,111,110,115,116]⟩ HF3.out.hR).mono ?_;rintro e W61 ⟨rfl,g61,r61⟩;obtain⟨⟨v61,s61⟩,hk61⟩:∃ r,worD ts 3 ⟨#[99,111,110,115,116]⟩ s=r:=⟨_,rfl⟩;rw[hk61] at HX r61;rw[hk61]
  try dsimp only at HX
  have HF63:=hid (HF3.out.call g61 r61);clear hk61 g61 r61 HF3;obtain⟨W64,hst64,b64,f64,l64⟩:=zgc HF63.out (⟨3,v61.x,0,v61.a,v61.f,0,v61.bg,none,0,0⟩:Qe);have Hq64p:Hid (Tq W0 W64 W61.heap.size (⟨3,v61.x,0,v61.a,v61.f,0,v61.bg,none,0,0⟩:Qe)):=hid l64;have HF66:=hid (f64);clear b64 f64 l64 HF63;have Hp67p:=hid (Hq64p.out.qk (z:=w.heap.size) (zaa HF66.out.hZ));clear Hq64p
  go_wp2_with fail
  clear hst64;refine(zag ⟨#[61]⟩ HF66.out.hR).mono ?_;rintro e W68 ⟨rfl,g68,r68⟩;obtain⟨t68,ht⟩:∃ t,takT ts ⟨#[61]⟩ s61=t:=⟨_,rfl⟩;obtain⟨s68,hs⟩:∃ s2,takS ts ⟨#[61]⟩ s61=s2:=⟨_,rfl⟩;rw[show takT ts ⟨#[61]⟩ ⟨s61.p,s61.bad⟩=t68 from ht];have q68:QdS T W68 g st cap ts s68:=hs ▸ r68;have HT68:Hid (LtQ s61 s68):=hid (hs ▸ zal _ _)
  try rw[ht] at HX
  try rw[hs] at HX
  have Hp69p:=hid (Hp67p.out.grow HF66.out.gB g68);have HF70:=hid (HF66.out.call g68 q68);clear ht hs r68 q68 g68 HF66 Hp67p
  go_wp2_with fail
  refine(zkg HF70.out.hR).mono ?_;rintro e W71 ⟨e71,rfl,q71,g71,r71⟩;obtain⟨⟨v71,s71⟩,hk71⟩:∃ r,valD ts s68=r:=⟨_,rfl⟩;rw[hk71] at HX q71 r71
  try dsimp only at HX
  have HV71:=hid q71;have hb71p:=Hp69p.out.lt;have Hp72p:=hid (Hp69p.out.grow HF70.out.gB g71);have hs71:=g71.size;have HF73:=hid (HF70.out.call g71 r71);have hl71:=HF70.out.size;clear hk71 q71 g71 r71 HF70 Hp69p;obtain⟨c74,f74,W74,hw74,g74,q74,b74,o74⟩:=zdy HF73.out Hp72p.out (v:=v71) (e:=e71) (S:=(fun j=>W68.heap.size<=j∧j<W71.heap.size)) HV71.out (fun j hj=>by have:=Hp72p.out.lt;have:=HF73.out.s0;exact⟨by omega,hj.2,by omega,by omega⟩);have Hp74p:=hid q74;have HF75:=hid (g74);obtain⟨e0,e1,e2,e3,e4,e5,e6,e7,e8,e9⟩:=e71
  dsimp only[Qe.cells,paQ] at c74 f74 hw74
  try unfold Qe.cells paQ
  clear HV71 g74 q74 b74 o74 HF73 Hp72p;obtain⟨r76a,r76b,r76c,r76d,r76e,r76f,r76g,r76h,r76i,r76z⟩:=row9 Hp74p.out.row
  go_wp2_with fail
  clear c74 f74 hw74 r76a r76b r76c r76d r76e r76f r76g r76h r76i r76z;obtain⟨sp77,ln77,cp77,hv77,hd77⟩:=za7 HF75.out Hp74p.out;injection hv77 with u1 u2 u3;subst u1 u2 u3;refine hd77.mono ?_;rintro e W77 ⟨e77,rfl,b77,f77,q77⟩;have HV77:=hid q77;have HF79:=hid (f77);clear hd77 b77 f77 q77 HF75 Hp74p;obtain⟨W80,hst80,hr80,hp80⟩:=za5 HF79.out (v:=(⟨3,v61.x,0,v61.a,v61.f,behI ts s71.p,v61.bg,[v71.pt]⟩:Qv)) ⟨HV77.out.is.keep (fun j hj=>⟨hj.1,hj.2.1⟩) fun _ _=>rfl,HV77.out.bg⟩;have HP:=hid hp80;have HRR:=hid hr80;clear hp80 hr80
  go_wp2
  have hx:=Option.some.inj HX.out;exact zan Tryz.results50 rfl HRR.out (hx ▸ HP.out)
end
theorem zhf {B:Nat}(w:World)(n:Nat):Below B w (w.drewN n):=⟨rfl,rfl,rfl,Nat.le_refl _,fun _ _=>rfl⟩
section
variable {T:Nat}{w W0 W W':World}{g:Nat}{st:Option Addr}{cap:Nat}{ts:List Tok}{s s':Qs}
set_option maxHeartbeats 8000000 in
theorem zkj {n:Nat}{r:Qv × Qs}(hD:∀ m,m<n->DeQ T g st cap ts m)(hR:QdS T w g st cap ts s)(hX:filD ts n s=some r):Calls Tryz.prog 24 #[.pointer (some ⟨g,0,none⟩)] w (QoP T w g st cap ts r):=by
 have HF:=hid (zb9 hR);have hfe:=hR.few;have hle:=hR.le;clear hR;have HD:=hid hD;clear hD;unfold filD at hX
 skip
 have HX:=hid hX;clear hX
 go_enter Tryz.func24,Tryz.ntmps24
 go_wp2_with fail
 refine zaf (fun W=>Fr T w W W g st cap ts s) HF.out ?_;intro W0 hF;clear HF;have HF:=hid hF;clear hF;refine(zd0 1 ⟨#[112,97,99,107,97,103,101]⟩ HF.out.hR).mono ?_;rintro e W1 ⟨rfl,g1,r1⟩;obtain⟨⟨v1,s1⟩,hk1⟩:∃ r,worD ts 1 ⟨#[112,97,99,107,97,103,101]⟩ s=r:=⟨_,rfl⟩;rw[hk1] at HX r1;rw[hk1]
 try dsimp only at HX
 have HF3:=hid (HF.out.call g1 r1);clear hk1 g1 r1 HF;obtain⟨W4,hst4,b4,f4,l4⟩:=zgc HF3.out (⟨1,v1.x,0,v1.a,v1.f,0,v1.bg,none,0,0⟩:Qe);have Hq4p:Hid (Tq W0 W4 W1.heap.size (⟨1,v1.x,0,v1.a,v1.f,0,v1.bg,none,0,0⟩:Qe)):=hid l4;have HF6:=hid (f4);clear b4 f4 l4 HF3;have Hp7p:=hid (Hq4p.out.qk (z:=w.heap.size) (zaa HF6.out.hZ));clear Hq4p
 go_wp2_with fail
 clear hst4;refine(zag ⟨#[101,110,100]⟩ HF6.out.hR).mono ?_;rintro e W8 ⟨rfl,g8,r8⟩;obtain⟨t8,ht⟩:∃ t,takT ts ⟨#[101,110,100]⟩ s1=t:=⟨_,rfl⟩;obtain⟨s8,hs⟩:∃ s2,takS ts ⟨#[101,110,100]⟩ s1=s2:=⟨_,rfl⟩;rw[show takT ts ⟨#[101,110,100]⟩ ⟨s1.p,s1.bad⟩=t8 from ht];have q8:QdS T W8 g st cap ts s8:=hs ▸ r8;have HT8:Hid (LtQ s1 s8):=hid (hs ▸ zal _ _)
 try rw[ht] at HX
 try rw[hs] at HX
 have Hp9p:=hid (Hp7p.out.grow HF6.out.gB g8);have HF10:=hid (HF6.out.call g8 q8);clear ht hs r8 q8 g8 HF6 Hp7p
 go_upto_block 0 with fail
 rcases hk11:(dns ts n).impL [] s8 with _|⟨lf,sf⟩
 ·exact absurd HX.out (by rw[hk11];intro h;cases h)
 rw[hk11] at HX;simp only[Option.bind_some] at HX;have HRL:=hid hk11;have HOX:=HX;clear HX hk11
 go_cut [] (fun wc=>∃ v,Fr T w W0 wc g st cap ts sf∧Qk W0.heap.size (w.heap.size) wc (W1.heap.size) 1 v1.x 0 v1.a v1.f 0 v1.bg v lf∧Few lf sf)
 case first=>
  clear HOX
  go_wp2_with fail
  go_loopw [] (fun wr=>∃ (l:List Pt) (q:Qs) (v:Value) (m:Nat),Fr T w W0 wr g st cap ts q∧Qk W0.heap.size (w.heap.size) wr (W1.heap.size) 1 v1.x 0 v1.a v1.f 0 v1.bg v l∧(dns ts m).impL l q=some (lf,sf)∧m<=n∧Few l q) (fun wr=>muQ ts g wr)
  case atStart=>exact⟨_,_,_,_,HF10.out,Hp9p.out,HRL.out,Nat.le_refl _,⟨Nat.zero_le _,fun _=>Nat.zero_le _⟩⟩
  case round=>
   obtain⟨l,q,v,m,hF,hQ,hm,hmn,hfw⟩:=hrel;have HFr:=hid hF;have HQr:=hid hQ;have HFw:=hid hfw;have HMU:=hid (zc1 hF.hR);have hqle:q.p<=ts.length:=hF.hR.le;obtain⟨vsp,vsn,vsc,hv⟩:=hQ.sl;subst hv;clear hF hQ hfw HF10 Hp9p HRL
   cases m with
   | zero=>cases hm
   | succ m=>
   rw[zlx] at hm;have HX:=hid hm;clear hm;have HLB:=hid (HFw.out.lt HFr.out.hR);obtain⟨qb12,hqb12⟩:∃ b,q.bad=b:=⟨_,rfl⟩;have wc12:wr.cell? ⟨g,2,none⟩=some (.bool qb12):=hqb12 ▸ HFr.out.hR.c2;rw[hqb12] at HX;have HQB:=hid hqb12;clear hqb12
   cases qb12
   ·skip
    go_wp2_with fail
    clear wc12;refine(zar ⟨#[105,109,112,111,114,116]⟩ HFr.out.hR).mono ?_;rintro e W13 ⟨rfl,b13⟩;obtain⟨i13,hi⟩:∃ b,isQ ts q.p ⟨#[105,109,112,111,114,116]⟩=b:=⟨_,rfl⟩;rw[hi];have HIS:=hid hi
    try rw[hi] at HX
    have Hp14p:=hid (HQr.out.below b13);have HF15:=hid (HFr.out.low b13);clear hi b13 HFr HQr
    cases i13
    ·skip
     replace HX:=hid (if_f HX.out (fun h=>by cases h))
     obtain⟨rfl,rfl⟩:=Prod.mk.inj (Option.some.inj HX.out)
     go_wp2_with fail
     go_meet
     case rel=>exact⟨_,HF15.out,Hp14p.out,HFw.out⟩
    ·skip
     replace HX:=hid (if_t HX.out (by first|rfl|trivial))
     have hX:=HX.out;unfold impD at hX
     dsimp only[tak] at hX
     replace HX:=hid hX
     clear hX
     go_wp2_with fail
     refine(zag ⟨#[105,109,112,111,114,116]⟩ HF15.out.hR).mono ?_;rintro e W16 ⟨rfl,g16,r16⟩;obtain⟨t16,ht⟩:∃ t,takT ts ⟨#[105,109,112,111,114,116]⟩ q=t:=⟨_,rfl⟩;obtain⟨s16,hs⟩:∃ s2,takS ts ⟨#[105,109,112,111,114,116]⟩ q=s2:=⟨_,rfl⟩;rw[show takT ts ⟨#[105,109,112,111,114,116]⟩ ⟨q.p,q.bad⟩=t16 from ht];have q16:QdS T W16 g st cap ts s16:=hs ▸ r16;have HT16:Hid (LtQ q s16):=hid (hs ▸ zal _ _)
     try rw[ht] at HX
     try rw[hs] at HX
     have Hp17p:=hid (Hp14p.out.grow HF15.out.gB g16);have HF18:=hid (HF15.out.call g16 q16);clear ht hs r16 q16 g16 HF15 Hp14p
     go_wp2_with fail
     refine(zat 2 t16 ⟨#[]⟩ W16).mono ?_;rintro e W19 ⟨rfl,b19⟩;have Hp20p:=hid (Hp17p.out.below b19);have HF21:=hid (HF18.out.low b19);clear b19 HF18 Hp17p;have HSN22:=hid (zbp W19 g);have HFZ22:=Hp20p;clear Hp20p;have hsl23:=HSN22.out.size;have hbl23:=HFZ22.out.lt;have hne23:W19.heap.size≠W1.heap.size:=by omega
     have hzl23:W1.heap.size<W19.heap.size:=by omega
     have hov23:(Value.slice vsp vsn vsc).ownBlock≠some (W19.heap.size):=fun e=>by have h:=(HFZ22.out.own e).2;omega
     obtain⟨W24,hst24,b24,f24,l24⟩:=zgc HF21.out (begE 2 t16 ⟨#[]⟩);have HS25p:=hid (zab HSN22.out (zae b24));have Hq24i:Hid (Tq W0 W24 W19.heap.size (⟨2,⟨#[]⟩,0,t16.pos,t16.pos,0,t16.pos,none,0,0⟩:Qe)):=hid l24;have HF26:=hid (f24);clear b24 f24 l24 HF21 HSN22;have HSZ:=hid (zss ⟨#[116,101,120,116]⟩ HF26.out.hR)
     go_wp2_with fail
     clear hst24;refine(zag ⟨#[116,101,120,116]⟩ HF26.out.hR).mono ?_;rintro e W27 ⟨rfl,g27,r27⟩;obtain⟨t27,ht⟩:∃ t,takT ts ⟨#[116,101,120,116]⟩ s16=t:=⟨_,rfl⟩;obtain⟨s27,hs⟩:∃ s2,takS ts ⟨#[116,101,120,116]⟩ s16=s2:=⟨_,rfl⟩;rw[show takT ts ⟨#[116,101,120,116]⟩ ⟨s16.p,s16.bad⟩=t27 from ht];have q27:QdS T W27 g st cap ts s27:=hs ▸ r27;have HT27:Hid (LtQ s16 s27):=hid (hs ▸ zal _ _)
     try rw[ht] at HX
     try rw[hs] at HX
     try rw[ht] at HSZ
     try rw[hs] at HSZ
     have Hq28i:=hid (Hq24i.out.call HF26.out.gB g27);have HS28p:=hid (zab HS25p.out g27);have HF29:=hid (HF26.out.call g27 q27);clear ht hs r27 q27 g27 HF26 Hq24i HS25p;obtain⟨W30,hst30,b30,f30,l30⟩:=zdg HF29.out t27;have Hq31i:=hid (Hq28i.out.low b30);have HS31p:=hid (zab HS28p.out (zae b30));have Ht30t:=hid l30;have HF32:=hid (f30);clear b30 f30 l30 HF29 Hq28i HS28p;obtain⟨c33a,c33b,c33c⟩:=Ht30t.out.cells
     go_wp2_with fail
     clear hst30 c33a c33b c33c;refine(zjy t27 W30 HSZ.out).mono ?_;rintro e W34 ⟨rfl,b34⟩;rw[zoh];have Ht35t:=hid (Ht30t.out.low b34);have Hq35i:=hid (Hq31i.out.low b34);have HS35p:=hid (zab HS31p.out (zae b34));have HF36:=hid (HF32.out.low b34);clear b34 HF32 Ht30t Hq31i HS31p;obtain⟨r37a,r37b,r37c,r37d,r37e,r37f,r37g,r37h,r37i,r37z⟩:=row9 Hq35i.out.row;obtain⟨W38,hw38,b38,o38,r38⟩:∃ W2,(W34.setCell ⟨W19.heap.size,1,none⟩ (.string (valT t27)))=W2∧Below (W19.heap.size) W34 W2∧(∀ j,j≠W19.heap.size->j<W34.heap.size->W2.heap[j]?=W34.heap[j]?)∧W2.heap[W19.heap.size]?=some (.cells (⟨2,(valT t27),0,t16.pos,t16.pos,0,t16.pos,none,0,0⟩:Qe).cells 63 (0,0)) :=
      ⟨_,rfl,((Below.refl _ _).setCell (p:=⟨W19.heap.size,1,none⟩) (Nat.le_refl _) _),fun j hj _=>(heap_setCell_other _ _ _ _ hj).trans (rfl),heap_setCell_same _ _ 1 _ _ _ (Hq35i.out.row)⟩
     have Ht38t:Hid (Tl W0 W38 W27.heap.size t27):=hid ⟨Ht35t.out.hB,(o38 _ (zge Ht35t.out Hq35i.out.row) (zaa Ht35t.out.row)).trans Ht35t.out.row⟩;have HS38p:=hid (zav HS35p.out (b38.mono hsl23));have Hq38i:Hid (Tq W0 W38 W19.heap.size (⟨2,(valT t27),0,t16.pos,t16.pos,0,t16.pos,none,0,0⟩:Qe)):=hid ⟨Hq35i.out.hB,r38⟩;have HF39:=hid (HF36.out.on (b38.mono Hq35i.out.hB));clear b38 o38 r38 HF36 Hq35i Ht35t HS35p;obtain⟨c40a,c40b,c40c⟩:=Ht38t.out.cells;obtain⟨r41a,r41b,r41c,r41d,r41e,r41f,r41g,r41h,r41i,r41z⟩:=row9 Hq38i.out.row;obtain⟨W42,hw42,b42,o42,r42⟩:∃ W2,(W38.setCell ⟨W19.heap.size,4,none⟩ (.int .i64 t27.pos))=W2∧Below (W19.heap.size) W38 W2∧(∀ j,j≠W19.heap.size->j<W38.heap.size->W2.heap[j]?=W38.heap[j]?)∧W2.heap[W19.heap.size]?=some (.cells (⟨2,(valT t27),0,t27.pos,t16.pos,0,t16.pos,none,0,0⟩:Qe).cells 63 (0,0)) :=
      ⟨_,rfl,((Below.refl _ _).setCell (p:=⟨W19.heap.size,4,none⟩) (Nat.le_refl _) _),fun j hj _=>(heap_setCell_other _ _ _ _ hj).trans (rfl),heap_setCell_same _ _ 4 _ _ _ (Hq38i.out.row)⟩
     have Ht42t:Hid (Tl W0 W42 W27.heap.size t27):=hid ⟨Ht38t.out.hB,(o42 _ (zge Ht38t.out Hq38i.out.row) (zaa Ht38t.out.row)).trans Ht38t.out.row⟩;have HS42p:=hid (zav HS38p.out (b42.mono hsl23));have Hq42i:Hid (Tq W0 W42 W19.heap.size (⟨2,(valT t27),0,t27.pos,t16.pos,0,t16.pos,none,0,0⟩:Qe)):=hid ⟨Hq38i.out.hB,r42⟩;have HF43:=hid (HF39.out.on (b42.mono Hq38i.out.hB));clear b42 o42 r42 HF39 Hq38i Ht38t HS38p;obtain⟨r44a,r44b,r44c,r44d,r44e,r44f,r44g,r44h,r44i,r44z⟩:=row9 Hq42i.out.row;have Hp45p:=hid (HFZ22.out.grow HF43.out.gB HS42p.out);clear HS42p HFZ22
     go_wp2_with fail
     clear r37a r37b r37c r37d r37e r37f r37g r37h r37i r37z hw38 c40a c40b c40c r41a r41b r41c r41d r41e r41f r41g r41h r41i r41z hw42 r44a r44b r44c r44d r44e r44f r44g r44h r44i r44z;have hd46:Below W42.heap.size W42 W42.drew:=(Below.refl _ _).drew;have HD46:=hid (HF43.out.low hd46);have HE46:=hid (Hp45p.out.below hd46);have HY46:=hid (Hq42i.out.low hd46);have HK46:=hid (zq9 2 (valT t27) 0 t27.pos t16.pos 0 t16.pos HD46.out);have HX0:Hid (Hid (W42.drew.heap[W19.heap.size]?=some (.cells (paQ 2 (valT t27) 0 t27.pos t16.pos 0 t16.pos (.slice none 0 0)) 63 (0,0)))):=hid (hid HY46.out.row);have hx1:W19.heap.size≠g:=by have h1:=HY46.out.hB;have h2:=HD46.out.gB;omega
     clear hd46 HF43 Hp45p Hq42i;have c846:W42.drew.cell? ⟨W1.heap.size,8,none⟩=some (Value.slice vsp vsn vsc):=(cell_of_row _ _ 8 _ _ _ HE46.out.row).trans rfl;apply zby (fun y0 y1 y2 y3 y4 y5 y6 y7 y8 y9 Wy sp sn sc Wz=>Fr T w W0 Wz g st cap ts s27∧Qk W0.heap.size (w.heap.size) Wz (W1.heap.size) 1 v1.x 0 v1.a v1.f 0 v1.bg (.slice sp sn sc) (l++[(⟨2,(valT t27),0,t27.pos,t16.pos,behI ts s27.p,t16.pos,[]⟩:Qv).pt])∧W42.drew.grownBy Wy (some g)∧((w.heap.size)≠W1.heap.size->Wz.heap[w.heap.size]?=Wy.heap[w.heap.size]?)∧Wy.heap.size<=Wz.heap.size)
     rotate_left
     ·intro hc;refine zbg (S:=fun W'=>Hid (W'.heap[W19.heap.size]?=some (.cells (paQ 2 (valT t27) 0 t27.pos t16.pos 0 t16.pos (.slice none 0 0)) 63 (0,0)))) 9 rfl (by kernel_rfl) ?_;refine zao 0 35 (.pointer (some ⟨W1.heap.size,8,none⟩)) rfl (by kernel_rfl) (by kernel_rfl) (by kernel_rfl) (fun _ _ _ h=>h) (fun w' _=>by first|rfl|(go_simp;done)) HX0.out ?_;simp only[sI,sS,sZ];refine zao 2 37 (.pointer (some ⟨g,0,none⟩)) rfl (by kernel_rfl) (by kernel_rfl) (by kernel_rfl) (fun _ _ _ h=>h) (fun w' _=>by first|rfl|(go_simp;done)) HX0.out ?_;simp only[sI,sS,sZ];refine zp4 3 38 63 _ rfl (W19.heap.size) 63 (paQ 2 (valT t27) 0 t27.pos t16.pos 0 t16.pos (.slice none 0 0)) (0,0) rfl (by kernel_rfl) (by kernel_rfl) (by kernel_rfl) (fun _ _ _ h=>h) _ (fun w' hw'=>hw'.out) Tryz.underlying63 rfl (by kernel_rfl) HX0.out ?_;simp only[sI,sS,sZ];refine wpAnyH_all (rs:=[1,4]) (by kernel_rfl) (by simp) fun i hi=>?_;simp only[List.mem_cons,List.not_mem_nil,or_false] at hi;rcases hi with rfl|rfl
      ·skip
       refine zam rfl rfl ?_
       go_simp
       refine⟨HX0.out,?_⟩;refine zac 4 rfl (by kernel_rfl) ?_
       go_simp
       refine HK46.out.mono ?_;rintro e W46 ⟨⟨y0,y1,y2,y3,y4,y5,y6,y7,y8,y9⟩,rfl,q46,g46,r46⟩;obtain⟨c46,d46,v2,w1,Wz,ha,ce,cf,cw,f46,k46,z46,hsz,hot⟩:=zi1 HD46.out HE46.out ((Nat.le_trans HLB.out (by omega))) g46 r46 q46 (fun _ h=>h.elim);obtain⟨x1,x2,x3,x4⟩:=hot (W19.heap.size) hx1 hne23 (zaa HX0.out.out) hov23;have HX1:=hid (hid (x1.trans HX0.out.out));have HX2:=hid (hid (x2.trans HX0.out.out));have HX3:=hid (hid (x3.trans HX0.out.out));have HX4:=hid (hid (x4.trans HX0.out.out));obtain⟨sp2,sn2,sc2,hv2⟩:=k46.sl;subst hv2;have HFIN:=hid (hc y0 y1 y2 y3 y4 y5 y6 y7 y8 y9 W46 sp2 sn2 sc2 Wz ⟨f46,k46,g46,z46,hsz⟩)
       dsimp only[Qe.cells,paQ] at c46 d46 ha ce cf cw
       unfold Qe.cells paQ;clear f46 k46 z46 q46 g46 r46 hsz hot x1 x2 x3 x4;refine⟨HX1.out,?_⟩;refine zac 5 rfl (by kernel_rfl) ?_
       go_simp
       refine⟨HX2.out,?_⟩;refine zac 6 rfl (by kernel_rfl) ?_;refine zak (.tmp 36) (.tmp 40) 61 rfl rfl rfl ha ?_;refine⟨HX3.out,?_⟩;simp only[Act.put,List.setIfInBounds_toArray,List.set_cons_succ,List.set_cons_zero];refine zao 7 42 (.pointer (some ⟨W1.heap.size,8,none⟩)) rfl (by kernel_rfl) (by kernel_rfl) (by kernel_rfl) (fun _ _ _ h=>h) (fun w' _=>by first|rfl|(go_simp;done)) HX3.out ?_;simp only[sI,sS,sZ];refine zac 8 rfl (by kernel_rfl) ?_
       go_simp
       refine⟨HX4.out,?_⟩;refine wpAnyH_done (by kernel_rfl) ?_ _;exact HFIN.out
      ·skip
       refine zam rfl rfl ?_
       go_simp
       refine HK46.out.mono ?_;rintro e W46 ⟨⟨y0,y1,y2,y3,y4,y5,y6,y7,y8,y9⟩,rfl,q46,g46,r46⟩;obtain⟨c46,d46,v2,w1,Wz,ha,ce,cf,cw,f46,k46,z46,hsz,hot⟩:=zi1 HD46.out HE46.out ((Nat.le_trans HLB.out (by omega))) g46 r46 q46 (fun _ h=>h.elim);obtain⟨x1,x2,x3,x4⟩:=hot (W19.heap.size) hx1 hne23 (zaa HX0.out.out) hov23;have HX1:=hid (hid (x1.trans HX0.out.out));have HX2:=hid (hid (x2.trans HX0.out.out));have HX3:=hid (hid (x3.trans HX0.out.out));have HX4:=hid (hid (x4.trans HX0.out.out));obtain⟨sp2,sn2,sc2,hv2⟩:=k46.sl;subst hv2;have HFIN:=hid (hc y0 y1 y2 y3 y4 y5 y6 y7 y8 y9 W46 sp2 sn2 sc2 Wz ⟨f46,k46,g46,z46,hsz⟩)
       dsimp only[Qe.cells,paQ] at c46 d46 ha ce cf cw
       unfold Qe.cells paQ;clear f46 k46 z46 q46 g46 r46 hsz hot x1 x2 x3 x4;refine⟨HX1.out,?_⟩;refine wpAnyH_all (rs:=[1,5]) (by kernel_rfl) (by simp) fun i hi=>?_;simp only[List.mem_cons,List.not_mem_nil,or_false] at hi;rcases hi with rfl|rfl
       ·skip
        refine zam rfl rfl ?_
        go_simp
        refine⟨HX1.out,?_⟩;refine zac 5 rfl (by kernel_rfl) ?_
        go_simp
        refine⟨HX2.out,?_⟩;refine zac 6 rfl (by kernel_rfl) ?_;refine zak (.tmp 36) (.tmp 40) 61 rfl rfl rfl ha ?_;refine⟨HX3.out,?_⟩;simp only[Act.put,List.setIfInBounds_toArray,List.set_cons_succ,List.set_cons_zero];refine zao 7 42 (.pointer (some ⟨W1.heap.size,8,none⟩)) rfl (by kernel_rfl) (by kernel_rfl) (by kernel_rfl) (fun _ _ _ h=>h) (fun w' _=>by first|rfl|(go_simp;done)) HX3.out ?_;simp only[sI,sS,sZ];refine zac 8 rfl (by kernel_rfl) ?_
        go_simp
        refine⟨HX4.out,?_⟩;refine wpAnyH_done (by kernel_rfl) ?_ _;exact HFIN.out
       ·skip
        refine zam rfl rfl ?_
        go_simp
        refine⟨HX2.out,?_⟩;refine zac 1 rfl (by kernel_rfl) ?_
        go_simp
        refine⟨HX2.out,?_⟩;refine zac 6 rfl (by kernel_rfl) ?_;refine zak (.tmp 36) (.tmp 40) 61 rfl rfl rfl ha ?_;refine⟨HX3.out,?_⟩;simp only[Act.put,List.setIfInBounds_toArray,List.set_cons_succ,List.set_cons_zero];refine zao 7 42 (.pointer (some ⟨W1.heap.size,8,none⟩)) rfl (by kernel_rfl) (by kernel_rfl) (by kernel_rfl) (fun _ _ _ h=>h) (fun w' _=>by first|rfl|(go_simp;done)) HX3.out ?_;simp only[sI,sS,sZ];refine zac 8 rfl (by kernel_rfl) ?_
        go_simp
        refine⟨HX4.out,?_⟩;refine wpAnyH_done (by kernel_rfl) ?_ _;exact HFIN.out
     intro y0 y1 y2 y3 y4 y5 y6 y7 y8 y9 W46 sp47 sn47 sc47 W47 hF47;obtain⟨f47,k47,g47,z47,y47⟩:=hF47;have Hp47p:=hid k47;have HF48:=hid (f47);clear f47 k47 g47 z47 HD46 HE46 c846 HK46 HX0 hx1 HY46
     go_wp2_with fail
     refine(zag ⟨#[101,110,100]⟩ HF48.out.hR).mono ?_;rintro e W49 ⟨rfl,g49,r49⟩;obtain⟨t49,ht⟩:∃ t,takT ts ⟨#[101,110,100]⟩ s27=t:=⟨_,rfl⟩;obtain⟨s49,hs⟩:∃ s2,takS ts ⟨#[101,110,100]⟩ s27=s2:=⟨_,rfl⟩;rw[show takT ts ⟨#[101,110,100]⟩ ⟨s27.p,s27.bad⟩=t49 from ht];have q49:QdS T W49 g st cap ts s49:=hs ▸ r49;have HT49:Hid (LtQ s27 s49):=hid (hs ▸ zal _ _)
     try rw[ht] at HX
     try rw[hs] at HX
     have Hp50p:=hid (Hp47p.out.grow HF48.out.gB g49);have HF51:=hid (HF48.out.call g49 q49);clear ht hs r49 q49 g49 HF48 Hp47p;have HMV:=hid (zc1 HF51.out.hR)
     go_wp2
     go_round
     case rel=>(repeat apply Exists.intro);exact⟨⟨_,_,_,m,HF51.out,Hp50p.out,HX.out,by omega,(HFw.out.more HQB.out (HT16.out.trans HT27.out.le)).le HT49.out.le⟩,rfl⟩
     case measure=>
      rw[HMV.out,HMU.out];exact zd3 HQB.out hqle HF51.out.hR.le ((HT16.out.trans HT27.out.le).trans HT49.out.le)
   ·skip
    replace HX:=hid (if_f HX.out (fun h=>by cases h))
    obtain⟨rfl,rfl⟩:=Prod.mk.inj (Option.some.inj HX.out)
    go_wp2_with fail
    clear wc12
    go_meet
    case rel=>exact⟨_,HFr.out,HQr.out,HFw.out⟩
 case rest=>
  obtain⟨vl,hfl,hql,hfe⟩:=hcut;obtain⟨asp,asn,asc,hv⟩:=hql.sl;subst hv;have HFQ:=hid hfl;have HQQ:=hid hql;have HFE:=hid hfe;clear hfe hfl hql HF10 Hp9p HRL;have HX:=HOX;clear HOX
  go_upto_block 2 with fail
  rcases hk52:(dns ts n).decL lf sf with _|⟨lf2,sf2⟩
  ·exact absurd HX.out (by rw[hk52];intro h;cases h)
  rw[hk52] at HX;simp only[Option.bind_some] at HX;have HRL:=hid hk52;have HOX:=HX;clear HX hk52
  go_cut [] (fun wc=>∃ v,Fr T w W0 wc g st cap ts sf2∧Qk W0.heap.size (w.heap.size) wc (W1.heap.size) 1 v1.x 0 v1.a v1.f 0 v1.bg v lf2∧Few lf2 sf2)
  case first=>
   clear HOX
   go_wp2_with fail
   go_loopw [] (fun wr=>∃ (l:List Pt) (q:Qs) (v:Value) (m:Nat),Fr T w W0 wr g st cap ts q∧Qk W0.heap.size (w.heap.size) wr (W1.heap.size) 1 v1.x 0 v1.a v1.f 0 v1.bg v l∧(dns ts m).decL l q=some (lf2,sf2)∧m<=n∧Few l q) (fun wr=>muQ ts g wr)
   case atStart=>exact⟨_,_,_,_,HFQ.out,HQQ.out,HRL.out,Nat.le_refl _,HFE.out⟩
   case round=>
    obtain⟨l,q,v,m,hF,hQ,hm,hmn,hfw⟩:=hrel;have HFr:=hid hF;have HQr:=hid hQ;have HFw:=hid hfw;have HMU:=hid (zc1 hF.hR);have hqle:q.p<=ts.length:=hF.hR.le;obtain⟨vsp,vsn,vsc,hv⟩:=hQ.sl;subst hv;clear hF hQ hfw HFQ HQQ HRL
    cases m with
    | zero=>cases hm
    | succ m=>
    rw[zly] at hm;have HX:=hid hm;clear hm;have HLB:=hid (HFw.out.lt HFr.out.hR);obtain⟨qb53,hqb53⟩:∃ b,q.bad=b:=⟨_,rfl⟩;have wc53:wr.cell? ⟨g,2,none⟩=some (.bool qb53):=hqb53 ▸ HFr.out.hR.c2;rw[hqb53] at HX;have HQB:=hid hqb53;clear hqb53
    cases qb53
    ·skip
     obtain⟨qd,hqd⟩:∃ b,decide (q.p<ts.length)=b:=⟨_,rfl⟩;rw[hqd] at HX;have hqe:decide ((q.p:Int)<ts.length)=qd:=by rw[<-hqd];exact decide_eq_decide.mpr Int.ofNat_lt
     have wc0:=HFr.out.hR.c0;have wc1:=HFr.out.hR.c1
     cases qd
     ·skip
      replace HX:=hid (if_f HX.out (fun h=>by cases h))
      go_wp2_with fail
      go_quiet (fail)
      clear wc53 hqd hqe wc0 wc1;obtain⟨W54,hWD⟩:∃ W,wr.drewN nq=W:=⟨_,rfl⟩;rw[hWD];have bD:Below wr.heap.size wr W54:=hWD ▸ zhf _ _;have Hp55p:=hid (HQr.out.below bD);have HF56:=hid (HFr.out.low bD);clear hWD bD HFr HQr;obtain⟨rfl,rfl⟩:=Prod.mk.inj (Option.some.inj HX.out)
      go_wp2_with fail
      go_meet
      case rel=>exact⟨_,HF56.out,Hp55p.out,HFw.out⟩
     ·skip
      replace HX:=hid (if_t HX.out (by first|rfl|trivial))
      go_wp2_with fail
      go_quiet (fail)
      clear wc53 hqd hqe wc0 wc1;obtain⟨W57,hWD⟩:∃ W,wr.drewN nq=W:=⟨_,rfl⟩;rw[hWD];have bD:Below wr.heap.size wr W57:=hWD ▸ zhf _ _;have Hp58p:=hid (HQr.out.below bD);have HF59:=hid (HFr.out.low bD);clear hWD bD HFr HQr
      go_wp2_with (fail)
      rcases hk60:decD ts (dns ts m) q with _|⟨v60,s60⟩
      ·exact absurd HX.out (by rw[hk60];intro h;cases h)
      rw[hk60] at HX;simp only[Option.bind_some] at HX;have HLT:=hid (zqa (lst m) _ _ _ hk60);have HFr2:=hid HF59.out;have hd60:Below W57.heap.size W57 W57.drew:=(Below.refl _ _).drew;have HD60:=hid (HF59.out.low hd60);have HE60:=hid (Hp58p.out.below hd60);have HK60:=hid (fun (h:QdS T W57.drew g st cap ts q)=>(fun hk=>HD.out m (by omega) W57.drew _ _ hk h) hk60);clear hk60 hd60 HF59 Hp58p;have c860:W57.drew.cell? ⟨W1.heap.size,8,none⟩=some (Value.slice vsp vsn vsc):=(cell_of_row _ _ 8 _ _ _ HE60.out.row).trans rfl;apply zby (fun y0 y1 y2 y3 y4 y5 y6 y7 y8 y9 Wy sp sn sc Wz=>Fr T w W0 Wz g st cap ts s60∧Qk W0.heap.size (w.heap.size) Wz (W1.heap.size) 1 v1.x 0 v1.a v1.f 0 v1.bg (.slice sp sn sc) (l++[v60.pt])∧W57.drew.grownBy Wy (some g)∧((w.heap.size)≠W1.heap.size->Wz.heap[w.heap.size]?=Wy.heap[w.heap.size]?)∧Wy.heap.size<=Wz.heap.size)
      rotate_left
      ·intro hc;refine zbg (S:=fun _=>Hid True) 8 rfl (by kernel_rfl) ?_;refine zao 0 62 (.pointer (some ⟨W1.heap.size,8,none⟩)) rfl (by kernel_rfl) (by kernel_rfl) (by kernel_rfl) (fun _ _ _ h=>h) (fun w' _=>by first|rfl|(go_simp;done) | (go_simp;rw[IntKind.wrap_i64];omega)) (hid trivial) ?_;simp only[sI,sS,sZ];refine zao 2 64 (.pointer (some ⟨g,0,none⟩)) rfl (by kernel_rfl) (by kernel_rfl) (by kernel_rfl) (fun _ _ _ h=>h) (fun w' _=>by first|rfl|(go_simp;done) | (go_simp;rw[IntKind.wrap_i64];omega)) (hid trivial) ?_;simp only[sI,sS,sZ];refine wpAnyH_all (rs:=[1,3]) (by kernel_rfl) (by simp) fun i hi=>?_;simp only[List.mem_cons,List.not_mem_nil,or_false] at hi;rcases hi with rfl|rfl
       ·skip
        refine zam rfl rfl ?_
        go_simp
        refine⟨hid trivial,?_⟩;refine zac 3 rfl (by kernel_rfl) ?_
        go_simp
        refine(HK60.out HD60.out.hR).mono ?_;rintro e W60 ⟨⟨y0,y1,y2,y3,y4,y5,y6,y7,y8,y9⟩,rfl,q60,g60,r60⟩;obtain⟨c60,d60,v2,w1,Wz,ha,ce,cf,cw,f60,k60,z60,hsz⟩:=zbt HD60.out HE60.out ((Nat.le_trans (HFw.out.lt HFr2.out.hR) (by omega))) g60 r60 q60;obtain⟨sp2,sn2,sc2,hv2⟩:=k60.sl;subst hv2;have HFIN:=hid (hc y0 y1 y2 y3 y4 y5 y6 y7 y8 y9 W60 sp2 sn2 sc2 Wz ⟨f60,k60,g60,z60,hsz⟩)
        dsimp only[Qe.cells,paQ] at c60 d60 ha ce cf cw
        unfold Qe.cells paQ;clear f60 k60 z60 q60 g60 r60 hsz;refine⟨hid trivial,?_⟩;refine zac 4 rfl (by kernel_rfl) ?_
        go_simp
        refine⟨hid trivial,?_⟩;refine zac 5 rfl (by kernel_rfl) ?_;refine zak (.tmp 63) (.tmp 66) 61 rfl rfl rfl ha ?_;refine⟨hid trivial,?_⟩;simp only[Act.put,List.setIfInBounds_toArray,List.set_cons_succ,List.set_cons_zero];refine zao 6 68 (.pointer (some ⟨W1.heap.size,8,none⟩)) rfl (by kernel_rfl) (by kernel_rfl) (by kernel_rfl) (fun _ _ _ h=>h) (fun w' _=>by first|rfl|(go_simp;done) | (go_simp;rw[IntKind.wrap_i64];omega)) (hid trivial) ?_;simp only[sI,sS,sZ];refine zac 7 rfl (by kernel_rfl) ?_
        go_simp
        refine⟨hid trivial,?_⟩;refine wpAnyH_done (by kernel_rfl) ?_ _;exact HFIN.out
       ·skip
        refine zam rfl rfl ?_
        go_simp
        refine(HK60.out HD60.out.hR).mono ?_;rintro e W60 ⟨⟨y0,y1,y2,y3,y4,y5,y6,y7,y8,y9⟩,rfl,q60,g60,r60⟩;obtain⟨c60,d60,v2,w1,Wz,ha,ce,cf,cw,f60,k60,z60,hsz⟩:=zbt HD60.out HE60.out ((Nat.le_trans (HFw.out.lt HFr2.out.hR) (by omega))) g60 r60 q60;obtain⟨sp2,sn2,sc2,hv2⟩:=k60.sl;subst hv2;have HFIN:=hid (hc y0 y1 y2 y3 y4 y5 y6 y7 y8 y9 W60 sp2 sn2 sc2 Wz ⟨f60,k60,g60,z60,hsz⟩)
        dsimp only[Qe.cells,paQ] at c60 d60 ha ce cf cw
        unfold Qe.cells paQ;clear f60 k60 z60 q60 g60 r60 hsz;refine⟨hid trivial,?_⟩;refine wpAnyH_all (rs:=[1,4]) (by kernel_rfl) (by simp) fun i hi=>?_;simp only[List.mem_cons,List.not_mem_nil,or_false] at hi;rcases hi with rfl|rfl
        ·skip
         refine zam rfl rfl ?_
         go_simp
         refine⟨hid trivial,?_⟩;refine zac 4 rfl (by kernel_rfl) ?_
         go_simp
         refine⟨hid trivial,?_⟩;refine zac 5 rfl (by kernel_rfl) ?_;refine zak (.tmp 63) (.tmp 66) 61 rfl rfl rfl ha ?_;refine⟨hid trivial,?_⟩;simp only[Act.put,List.setIfInBounds_toArray,List.set_cons_succ,List.set_cons_zero];refine zao 6 68 (.pointer (some ⟨W1.heap.size,8,none⟩)) rfl (by kernel_rfl) (by kernel_rfl) (by kernel_rfl) (fun _ _ _ h=>h) (fun w' _=>by first|rfl|(go_simp;done) | (go_simp;rw[IntKind.wrap_i64];omega)) (hid trivial) ?_;simp only[sI,sS,sZ];refine zac 7 rfl (by kernel_rfl) ?_
         go_simp
         refine⟨hid trivial,?_⟩;refine wpAnyH_done (by kernel_rfl) ?_ _;exact HFIN.out
        ·skip
         refine zam rfl rfl ?_
         go_simp
         refine⟨hid trivial,?_⟩;refine zac 1 rfl (by kernel_rfl) ?_
         go_simp
         refine⟨hid trivial,?_⟩;refine zac 5 rfl (by kernel_rfl) ?_;refine zak (.tmp 63) (.tmp 66) 61 rfl rfl rfl ha ?_;refine⟨hid trivial,?_⟩;simp only[Act.put,List.setIfInBounds_toArray,List.set_cons_succ,List.set_cons_zero];refine zao 6 68 (.pointer (some ⟨W1.heap.size,8,none⟩)) rfl (by kernel_rfl) (by kernel_rfl) (by kernel_rfl) (fun _ _ _ h=>h) (fun w' _=>by first|rfl|(go_simp;done) | (go_simp;rw[IntKind.wrap_i64];omega)) (hid trivial) ?_;simp only[sI,sS,sZ];refine zac 7 rfl (by kernel_rfl) ?_
         go_simp
         refine⟨hid trivial,?_⟩;refine wpAnyH_done (by kernel_rfl) ?_ _;exact HFIN.out
      intro y0 y1 y2 y3 y4 y5 y6 y7 y8 y9 W60 sp61 sn61 sc61 W61 hF61;obtain⟨f61,k61,g61,z61,y61⟩:=hF61;have Hp61p:=hid k61;have HG61:=hid g61;have HZ61:=hid z61;have HF62:=hid (f61);clear f61 k61 g61 z61 HD60 HE60 c860 HK60 HFr2
      go_wp2_with fail
      refine(zag ⟨#[101,110,100]⟩ HF62.out.hR).mono ?_;rintro e W63 ⟨rfl,g63,r63⟩;obtain⟨t63,ht⟩:∃ t,takT ts ⟨#[101,110,100]⟩ s60=t:=⟨_,rfl⟩;obtain⟨s63,hs⟩:∃ s2,takS ts ⟨#[101,110,100]⟩ s60=s2:=⟨_,rfl⟩;rw[show takT ts ⟨#[101,110,100]⟩ ⟨s60.p,s60.bad⟩=t63 from ht];have q63:QdS T W63 g st cap ts s63:=hs ▸ r63;have HT63:Hid (LtQ s60 s63):=hid (hs ▸ zal _ _)
      try rw[ht] at HX
      try rw[hs] at HX
      have Hp64p:=hid (Hp61p.out.grow HF62.out.gB g63);have HF65:=hid (HF62.out.call g63 q63);clear ht hs r63 q63 g63 HF62 Hp61p;have HMV:=hid (zc1 HF65.out.hR)
      go_wp2
      go_round
      case rel=>(repeat apply Exists.intro);exact⟨⟨_,_,_,m,HF65.out,Hp64p.out,HX.out,by omega,(HFw.out.more HQB.out HLT.out).le HT63.out.le⟩,rfl⟩
      case measure=>
       rw[HMV.out,HMU.out];exact zd3 HQB.out hqle HF65.out.hR.le (HLT.out.trans HT63.out.le)
    ·skip
     replace HX:=hid (if_f HX.out (fun h=>by cases h))
     go_wp2_with fail
     go_quiet (fail)
     clear wc53;obtain⟨W66,hWD⟩:∃ W,wr.drewN nq=W:=⟨_,rfl⟩;rw[hWD];have bD:Below wr.heap.size wr W66:=hWD ▸ zhf _ _;have Hp67p:=hid (HQr.out.below bD);have HF68:=hid (HFr.out.low bD);clear hWD bD HFr HQr;obtain⟨rfl,rfl⟩:=Prod.mk.inj (Option.some.inj HX.out)
     go_wp2_with fail
     go_meet
     case rel=>exact⟨_,HF68.out,Hp67p.out,HFw.out⟩
  case rest=>
   obtain⟨vl,hfl,hql,hfe⟩:=hcut;obtain⟨asp,asn,asc,hv⟩:=hql.sl;subst hv;have HFQ2:=hid hfl;have HQQ2:=hid hql;have HFE2:=hid hfe;clear hfe hfl hql HFQ HQQ HRL;have HX:=HOX;clear HOX;obtain⟨r69a,r69b,r69c,r69d,r69e,r69f,r69g,r69h,r69i,r69z⟩:=row9 HQQ2.out.row
   go_wp2_with fail
   clear r69a r69b r69c r69d r69e r69f r69g r69h r69i r69z;obtain⟨sp70,ln70,cp70,hv70,hd70⟩:=za7 HFQ2.out HQQ2.out;injection hv70 with u1 u2 u3;subst u1 u2 u3;refine hd70.mono ?_;rintro e W70 ⟨e70,rfl,b70,f70,q70⟩;have HV70:=hid q70;have HF72:=hid (f70);clear hd70 b70 f70 q70 HFQ2 HQQ2;obtain⟨W73,hst73,hr73,hp73⟩:=za5 HF72.out (v:=(⟨1,v1.x,0,v1.a,v1.f,behI ts sf2.p,v1.bg,lf2⟩:Qv)) ⟨HV70.out.is.keep (fun j hj=>⟨hj.1,hj.2.1⟩) fun _ _=>rfl,HV70.out.bg⟩;have HP:=hid hp73;have HRR:=hid hr73;clear hp73 hr73
   go_wp2
   have hx:=Option.some.inj HX.out;exact zan Tryz.results24 rfl HRR.out (hx ▸ HP.out)
end
end Go.Proofs.YtmclgbkijeidaaaGreatDoor
