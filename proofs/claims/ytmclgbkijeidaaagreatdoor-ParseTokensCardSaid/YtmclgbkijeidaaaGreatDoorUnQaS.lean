import Derived.Test.YtmclgbkijeidaaaGreatDoorUnW
import Derived.Deep.DeepCutAuto
import Derived.Deep.Cut
import Derived.Deep.CutRange
import Derived.Deep.CutBlock
namespace Go.Proofs.YtmclgbkijeidaaaGreatDoor
set_option maxRecDepth 100000
set_option maxHeartbeats 4000000
open Go.RowKit
section
variable {T:Nat}{w W0 W W':World}{g:Nat}{st:Option Addr}{cap:Nat}{ts:List Tok}{s s':Qs}
set_option maxHeartbeats 10000000 in
theorem zhm {n:Nat}{r:Qv × Qs}(hB:BlQ T g st cap ts n)(hR:QdS T w g st cap ts s)(hX:funD ts (dns ts n) s=some r):Calls Tryz.prog 72 #[.pointer (some ⟨g,0,none⟩)] w (QoP T w g st cap ts r):=by
 have HF:=hid (zb9 hR);have hfe:=hR.few;have hle:=hR.le;clear hR;have HB:=hid hB;clear hB;unfold funD at hX
 dsimp only[tak] at hX
 have HX:=hid hX;clear hX
 go_enter Tryz.func72,Tryz.ntmps72
 go_wp2_with fail
 refine zaf (fun W=>Fr T w W W g st cap ts s) HF.out ?_;intro W0 hF;clear HF;have HF:=hid hF;clear hF;refine(zag ⟨#[102,117,110,99]⟩ HF.out.hR).mono ?_;rintro e W1 ⟨rfl,g1,r1⟩;obtain⟨t1,ht⟩:∃ t,takT ts ⟨#[102,117,110,99]⟩ s=t:=⟨_,rfl⟩;obtain⟨s1,hs⟩:∃ s2,takS ts ⟨#[102,117,110,99]⟩ s=s2:=⟨_,rfl⟩;rw[show takT ts ⟨#[102,117,110,99]⟩ ⟨s.p,s.bad⟩=t1 from ht];have q1:QdS T W1 g st cap ts s1:=hs ▸ r1;have HT1:Hid (LtQ s s1):=hid (hs ▸ zal _ _)
 try rw[ht] at HX
 try rw[hs] at HX
 have HF3:=hid (HF.out.call g1 q1);clear ht hs r1 q1 g1 HF
 go_wp2_with fail
 refine(zat 7 t1 ⟨#[]⟩ W1).mono ?_;rintro e W4 ⟨rfl,b4⟩;have HF6:=hid (HF3.out.low b4);clear b4 HF3;obtain⟨W7,hst7,b7,f7,l7⟩:=zc2 (z:=w.heap.size) HF6.out (zaa HF6.out.hZ) 7 t1 ⟨#[]⟩;have Hp7p:=hid l7;have hn7:=b7.size;have HF9:=hid (f7);clear b7 f7 l7 HF6;obtain⟨⟨lr,sr⟩,hrec⟩:∃ r,recD ts s1=r:=⟨_,rfl⟩;rw[hrec] at HX;have HREC:=hid hrec;clear hrec
 try dsimp only at HX
 go_wp2_with fail
 clear hst7;refine(zar ⟨#[40]⟩ HF9.out.hR).mono ?_;rintro e W10 ⟨rfl,b10⟩;obtain⟨i10,hi⟩:∃ b,isQ ts s1.p ⟨#[40]⟩=b:=⟨_,rfl⟩;rw[hi];have HIS:=hid hi
 try rw[hi] at HX
 have Hp11p:=hid (Hp7p.out.below b10);have HF12:=hid (HF9.out.low b10);clear hi b10 HF9 Hp7p;have hrec:=HREC.out;unfold recD at hrec;rw[HIS.out] at hrec
 dsimp only[tak] at hrec
 clear HREC;have HREC:=hid hrec;clear hrec
 go_upto_if 12 with fail
 go_cut [] (fun wc=>∃ v,Fr T w W0 wc g st cap ts sr∧Qk W0.heap.size (w.heap.size) wc (W4.heap.size) 7 ⟨#[]⟩ 0 t1.pos t1.pos 0 t1.pos v lr∧Few lr sr)
 case first=>
  clear HX
  cases i10
  ·skip
   obtain⟨rfl,rfl⟩:=Prod.mk.inj (show(([]:List Pt),s1)=(lr,sr) from HREC.out);clear HREC
   go_wp2_with fail
   go_meet
   case rel=>exact⟨_,HF12.out,Hp11p.out,⟨Nat.zero_le _,fun _=>Nat.zero_le _⟩⟩
  ·skip
   go_wp2_with fail
   refine(zag ⟨#[40]⟩ HF12.out.hR).mono ?_;rintro e W13 ⟨rfl,g13,r13⟩;obtain⟨t13,ht⟩:∃ t,takT ts ⟨#[40]⟩ s1=t:=⟨_,rfl⟩;obtain⟨s13,hs⟩:∃ s2,takS ts ⟨#[40]⟩ s1=s2:=⟨_,rfl⟩;rw[show takT ts ⟨#[40]⟩ ⟨s1.p,s1.bad⟩=t13 from ht];have q13:QdS T W13 g st cap ts s13:=hs ▸ r13;have HT13:Hid (LtQ s1 s13):=hid (hs ▸ zal _ _)
   try rw[ht] at HX
   try rw[hs] at HX
   try rw[ht] at HREC
   try rw[hs] at HREC
   have Hp14p:=hid (Hp11p.out.grow HF12.out.gB g13);have HF15:=hid (HF12.out.call g13 q13);clear ht hs r13 q13 g13 HF12 Hp11p
   go_wp2_with fail
   refine(zag ⟨#[110,97,109,101]⟩ HF15.out.hR).mono ?_;rintro e W16 ⟨rfl,g16,r16⟩;obtain⟨t16,ht⟩:∃ t,takT ts ⟨#[110,97,109,101]⟩ s13=t:=⟨_,rfl⟩;obtain⟨s16,hs⟩:∃ s2,takS ts ⟨#[110,97,109,101]⟩ s13=s2:=⟨_,rfl⟩;rw[show takT ts ⟨#[110,97,109,101]⟩ ⟨s13.p,s13.bad⟩=t16 from ht];have q16:QdS T W16 g st cap ts s16:=hs ▸ r16;have HT16:Hid (LtQ s13 s16):=hid (hs ▸ zal _ _)
   try rw[ht] at HX
   try rw[hs] at HX
   try rw[ht] at HREC
   try rw[hs] at HREC
   have Hp17p:=hid (Hp14p.out.grow HF15.out.gB g16);have HF18:=hid (HF15.out.call g16 q16);clear ht hs r16 q16 g16 HF15 Hp14p;obtain⟨W19,hst19,b19,f19,l19⟩:=zdg HF18.out t16;have Hp20p:=hid (Hp17p.out.below b19);have Ht19n:=hid l19;have HF21:=hid (f19);clear b19 f19 l19 HF18 Hp17p;obtain⟨c22a,c22b,c22c⟩:=Ht19n.out.cells
   go_wp2_with fail
   clear hst19 c22a c22b c22c;refine(zat 8 t16 t16.text W19).mono ?_;rintro e W23 ⟨rfl,b23⟩;have Ht24n:=hid (Ht19n.out.low b23);have Hp24p:=hid (Hp20p.out.below b23);have HF25:=hid (HF21.out.low b23);clear b23 HF21 Ht19n Hp20p;have HSN26:=hid (zbp W23 g);have HFZ26:=Hp24p;clear Hp24p;have hsl27:=HSN26.out.size;have hbl27:=HFZ26.out.lt;have hne27:W23.heap.size≠W4.heap.size:=by omega
   have hzl27:W4.heap.size<W23.heap.size:=by omega
   have hov27:(Value.slice none 0 0).ownBlock≠some (W23.heap.size):=fun e=>by have h:=(HFZ26.out.own e).2;omega
   obtain⟨W28,hst28,b28,f28,l28⟩:=zc2 (z:=W4.heap.size) HF25.out hzl27 8 t16 t16.text;have HS29p:=hid (zab HSN26.out (zae b28));have Hp28x:=hid l28;have hn28:=b28.size;have HF30:=hid (f28);clear b28 f28 l28 HF25 HSN26
   go_wp2_with fail
   clear hst28;refine(zag ⟨#[110,97,109,101]⟩ HF30.out.hR).mono ?_;rintro e W31 ⟨rfl,g31,r31⟩;obtain⟨t31,ht⟩:∃ t,takT ts ⟨#[110,97,109,101]⟩ s16=t:=⟨_,rfl⟩;obtain⟨s31,hs⟩:∃ s2,takS ts ⟨#[110,97,109,101]⟩ s16=s2:=⟨_,rfl⟩;rw[show takT ts ⟨#[110,97,109,101]⟩ ⟨s16.p,s16.bad⟩=t31 from ht];have q31:QdS T W31 g st cap ts s31:=hs ▸ r31;have HT31:Hid (LtQ s16 s31):=hid (hs ▸ zal _ _)
   try rw[ht] at HX
   try rw[hs] at HX
   try rw[ht] at HREC
   try rw[hs] at HREC
   have Hp32x:=hid (Hp28x.out.grow HF30.out.gB g31);have HS32p:=hid (zab HS29p.out g31);have HF33:=hid (HF30.out.call g31 q31);clear ht hs r31 q31 g31 HF30 Hp28x HS29p;obtain⟨W34,hst34,b34,f34,l34⟩:=zdg HF33.out t31;have Hp35x:=hid (Hp32x.out.below b34);have HS35p:=hid (zab HS32p.out (zae b34));have Ht34t:=hid l34;have HF36:=hid (f34);clear b34 f34 l34 HF33 Hp32x HS32p;obtain⟨c37a,c37b,c37c⟩:=Ht34t.out.cells
   go_wp2_with fail
   clear hst34 c37a c37b c37c;refine(zat 11 t31 t31.text W34).mono ?_;rintro e W38 ⟨rfl,b38⟩;have Ht39t:=hid (Ht34t.out.low b38);have Hp39x:=hid (Hp35x.out.below b38);have HS39p:=hid (zab HS35p.out (zae b38));have HF40:=hid (HF36.out.low b38);clear b38 HF36 Ht34t Hp35x HS35p
   go_wp2_with fail
   refine(zd5 HF40.out 11 t31 t31.text).mono ?_;rintro e W41 ⟨rfl,b41,f41⟩;have Hp42x:=hid (Hp39x.out.below b41);have HS42p:=hid (zab HS39p.out (zae b41));have HF43:=hid (f41);clear b41 f41 HF40 Hp39x HS39p;obtain⟨c44,f44,W44,hw44,g44,q44,b44,o44⟩:=zdy HF43.out Hp42x.out (v:=(⟨11,t31.text,0,t31.pos,t31.pos,(behI ts s31.p),t31.pos,[]⟩:Qv)) (e:=(⟨11,t31.text,0,t31.pos,t31.pos,(behI ts s31.p),t31.pos,none,0,0⟩:Qe)) (S:=(fun _=>False)) (hid (zdk _ _ _ _ _ _ _)).out (fun _ h=>h.elim);have Hp44x:=hid q44;have HS44p:=hid (zav HS42p.out (b44.mono hsl27));have HF45:=hid (g44)
   dsimp only[Qe.cells,paQ] at c44 f44 hw44
   clear g44 q44 b44 o44 HF43 Hp42x HS42p;unfold Qe.cells paQ;have Hp46p:=hid (HFZ26.out.grow HF45.out.gB HS44p.out);clear HS44p HFZ26;obtain⟨r47a,r47b,r47c,r47d,r47e,r47f,r47g,r47h,r47i,r47z⟩:=row9 Hp44x.out.row
   go_wp2_with fail
   clear c44 f44 hw44 r47a r47b r47c r47d r47e r47f r47g r47h r47i r47z;have hd48:Below W44.heap.size W44 W44.drew:=(Below.refl _ _).drew;have HD48:=hid (HF45.out.low hd48);have HE48:=hid (Hp46p.out.below hd48);have HY48:=hid (Hp44x.out.below hd48);obtain⟨sp48,ln48,cp48,hv48,hk48⟩:=zsq HD48.out HY48.out;injection hv48 with u1 u2 u3;subst u1 u2 u3;have HK48:=hid hk48;clear hk48;have HX0:Hid (Hid (W44.drew.heap[W23.heap.size]?=some (.cells (paQ 8 t16.text 0 t16.pos t16.pos 0 t16.pos (.slice (some ⟨W41.heap.size,0,none⟩) 1 1)) 63 (0,0)))):=hid (hid HY48.out.row);have hx1:W23.heap.size≠g:=by have h1:=HY48.out.hB;have h2:=HD48.out.gB;omega
   clear hd48 HF45 Hp46p Hp44x;have c848:W44.drew.cell? ⟨W4.heap.size,8,none⟩=some (.slice none 0 0):=(cell_of_row _ _ 8 _ _ _ HE48.out.row).trans rfl;apply zby (fun y0 y1 y2 y3 y4 y5 y6 y7 y8 y9 Wy sp sn sc Wz=>Fr T w W0 Wz g st cap ts s31∧Qk W0.heap.size (w.heap.size) Wz (W4.heap.size) 7 ⟨#[]⟩ 0 t1.pos t1.pos 0 t1.pos (.slice sp sn sc) ([]++[(⟨8,t16.text,0,t16.pos,t16.pos,behI ts s31.p,t16.pos,[(⟨11,t31.text,0,t31.pos,t31.pos,(behI ts s31.p),t31.pos,[]⟩:Qv).pt]⟩:Qv).pt])∧W44.drew.grownBy Wy (some g)∧((w.heap.size)≠W4.heap.size->Wz.heap[w.heap.size]?=Wy.heap[w.heap.size]?)∧Wy.heap.size<=Wz.heap.size)
   rotate_left
   ·intro hc;refine zbg (S:=fun W'=>Hid (W'.heap[W23.heap.size]?=some (.cells (paQ 8 t16.text 0 t16.pos t16.pos 0 t16.pos (.slice (some ⟨W41.heap.size,0,none⟩) 1 1)) 63 (0,0)))) 9 rfl (by kernel_rfl) ?_;refine zao 0 31 (.pointer (some ⟨W4.heap.size,8,none⟩)) rfl (by kernel_rfl) (by kernel_rfl) (by kernel_rfl) (fun _ _ _ h=>h) (fun w' _=>by first|rfl|(go_simp;done)) HX0.out ?_;simp only[sI,sS,sZ];refine zao 2 33 (.pointer (some ⟨g,0,none⟩)) rfl (by kernel_rfl) (by kernel_rfl) (by kernel_rfl) (fun _ _ _ h=>h) (fun w' _=>by first|rfl|(go_simp;done)) HX0.out ?_;simp only[sI,sS,sZ];refine zp4 3 34 63 _ rfl (W23.heap.size) 63 (paQ 8 t16.text 0 t16.pos t16.pos 0 t16.pos (.slice (some ⟨W41.heap.size,0,none⟩) 1 1)) (0,0) rfl (by kernel_rfl) (by kernel_rfl) (by kernel_rfl) (fun _ _ _ h=>h) _ (fun w' hw'=>hw'.out) Tryz.underlying63 rfl (by kernel_rfl) HX0.out ?_;simp only[sI,sS,sZ];refine wpAnyH_all (rs:=[1,4]) (by kernel_rfl) (by simp) fun i hi=>?_;simp only[List.mem_cons,List.not_mem_nil,or_false] at hi;rcases hi with rfl|rfl
    ·skip
     refine zam rfl rfl ?_
     go_simp
     refine⟨HX0.out,?_⟩;refine zac 4 rfl (by kernel_rfl) ?_
     go_simp
     refine HK48.out.mono ?_;rintro e W48 ⟨⟨y0,y1,y2,y3,y4,y5,y6,y7,y8,y9⟩,rfl,q48,g48,r48⟩;obtain⟨c48,d48,v2,w1,Wz,ha,ce,cf,cw,f48,k48,z48,hsz,hot⟩:=zi1 HD48.out HE48.out (by simp) g48 r48 q48 (fun j hj=>⟨hj.1,hj.2.1,hj.2.2,by have:=HD48.out.s0;omega,by simp[Value.ownBlock]⟩);obtain⟨x1,x2,x3,x4⟩:=hot (W23.heap.size) hx1 hne27 (zaa HX0.out.out) (by simp[Value.ownBlock]);have HX1:=hid (hid (x1.trans HX0.out.out));have HX2:=hid (hid (x2.trans HX0.out.out));have HX3:=hid (hid (x3.trans HX0.out.out));have HX4:=hid (hid (x4.trans HX0.out.out));obtain⟨sp2,sn2,sc2,hv2⟩:=k48.sl;subst hv2;have HFIN:=hid (hc y0 y1 y2 y3 y4 y5 y6 y7 y8 y9 W48 sp2 sn2 sc2 Wz ⟨f48,k48,g48,z48,hsz⟩)
     dsimp only[Qe.cells,paQ] at c48 d48 ha ce cf cw
     unfold Qe.cells paQ;clear f48 k48 z48 q48 g48 r48 hsz hot x1 x2 x3 x4;refine⟨HX1.out,?_⟩;refine zac 5 rfl (by kernel_rfl) ?_
     go_simp
     refine⟨HX2.out,?_⟩;refine zac 6 rfl (by kernel_rfl) ?_;refine zak (.tmp 32) (.tmp 36) 61 rfl rfl rfl ha ?_;refine⟨HX3.out,?_⟩;simp only[Act.put,List.setIfInBounds_toArray,List.set_cons_succ,List.set_cons_zero];refine zao 7 38 (.pointer (some ⟨W4.heap.size,8,none⟩)) rfl (by kernel_rfl) (by kernel_rfl) (by kernel_rfl) (fun _ _ _ h=>h) (fun w' _=>by first|rfl|(go_simp;done)) HX3.out ?_;simp only[sI,sS,sZ];refine zac 8 rfl (by kernel_rfl) ?_
     go_simp
     refine⟨HX4.out,?_⟩;refine wpAnyH_done (by kernel_rfl) ?_ _;exact HFIN.out
    ·skip
     refine zam rfl rfl ?_
     go_simp
     refine HK48.out.mono ?_;rintro e W48 ⟨⟨y0,y1,y2,y3,y4,y5,y6,y7,y8,y9⟩,rfl,q48,g48,r48⟩;obtain⟨c48,d48,v2,w1,Wz,ha,ce,cf,cw,f48,k48,z48,hsz,hot⟩:=zi1 HD48.out HE48.out (by simp) g48 r48 q48 (fun j hj=>⟨hj.1,hj.2.1,hj.2.2,by have:=HD48.out.s0;omega,by simp[Value.ownBlock]⟩);obtain⟨x1,x2,x3,x4⟩:=hot (W23.heap.size) hx1 hne27 (zaa HX0.out.out) (by simp[Value.ownBlock]);have HX1:=hid (hid (x1.trans HX0.out.out));have HX2:=hid (hid (x2.trans HX0.out.out));have HX3:=hid (hid (x3.trans HX0.out.out));have HX4:=hid (hid (x4.trans HX0.out.out));obtain⟨sp2,sn2,sc2,hv2⟩:=k48.sl;subst hv2;have HFIN:=hid (hc y0 y1 y2 y3 y4 y5 y6 y7 y8 y9 W48 sp2 sn2 sc2 Wz ⟨f48,k48,g48,z48,hsz⟩)
     dsimp only[Qe.cells,paQ] at c48 d48 ha ce cf cw
     unfold Qe.cells paQ;clear f48 k48 z48 q48 g48 r48 hsz hot x1 x2 x3 x4;refine⟨HX1.out,?_⟩;refine wpAnyH_all (rs:=[1,5]) (by kernel_rfl) (by simp) fun i hi=>?_;simp only[List.mem_cons,List.not_mem_nil,or_false] at hi;rcases hi with rfl|rfl
     ·skip
      refine zam rfl rfl ?_
      go_simp
      refine⟨HX1.out,?_⟩;refine zac 5 rfl (by kernel_rfl) ?_
      go_simp
      refine⟨HX2.out,?_⟩;refine zac 6 rfl (by kernel_rfl) ?_;refine zak (.tmp 32) (.tmp 36) 61 rfl rfl rfl ha ?_;refine⟨HX3.out,?_⟩;simp only[Act.put,List.setIfInBounds_toArray,List.set_cons_succ,List.set_cons_zero];refine zao 7 38 (.pointer (some ⟨W4.heap.size,8,none⟩)) rfl (by kernel_rfl) (by kernel_rfl) (by kernel_rfl) (fun _ _ _ h=>h) (fun w' _=>by first|rfl|(go_simp;done)) HX3.out ?_;simp only[sI,sS,sZ];refine zac 8 rfl (by kernel_rfl) ?_
      go_simp
      refine⟨HX4.out,?_⟩;refine wpAnyH_done (by kernel_rfl) ?_ _;exact HFIN.out
     ·skip
      refine zam rfl rfl ?_
      go_simp
      refine⟨HX2.out,?_⟩;refine zac 1 rfl (by kernel_rfl) ?_
      go_simp
      refine⟨HX2.out,?_⟩;refine zac 6 rfl (by kernel_rfl) ?_;refine zak (.tmp 32) (.tmp 36) 61 rfl rfl rfl ha ?_;refine⟨HX3.out,?_⟩;simp only[Act.put,List.setIfInBounds_toArray,List.set_cons_succ,List.set_cons_zero];refine zao 7 38 (.pointer (some ⟨W4.heap.size,8,none⟩)) rfl (by kernel_rfl) (by kernel_rfl) (by kernel_rfl) (fun _ _ _ h=>h) (fun w' _=>by first|rfl|(go_simp;done)) HX3.out ?_;simp only[sI,sS,sZ];refine zac 8 rfl (by kernel_rfl) ?_
      go_simp
      refine⟨HX4.out,?_⟩;refine wpAnyH_done (by kernel_rfl) ?_ _;exact HFIN.out
   intro y0 y1 y2 y3 y4 y5 y6 y7 y8 y9 W48 sp49 sn49 sc49 W49 hF49;obtain⟨f49,k49,g49,z49,y49⟩:=hF49;have Hp49p:=hid k49;have HF50:=hid (f49);clear f49 k49 g49 z49 HD48 HE48 c848 HK48 HX0 hx1 HY48
   go_wp2_with fail
   refine(zag ⟨#[41]⟩ HF50.out.hR).mono ?_;rintro e W51 ⟨rfl,g51,r51⟩;obtain⟨t51,ht⟩:∃ t,takT ts ⟨#[41]⟩ s31=t:=⟨_,rfl⟩;obtain⟨s51,hs⟩:∃ s2,takS ts ⟨#[41]⟩ s31=s2:=⟨_,rfl⟩;rw[show takT ts ⟨#[41]⟩ ⟨s31.p,s31.bad⟩=t51 from ht];have q51:QdS T W51 g st cap ts s51:=hs ▸ r51;have HT51:Hid (LtQ s31 s51):=hid (hs ▸ zal _ _)
   try rw[ht] at HX
   try rw[hs] at HX
   try rw[ht] at HREC
   try rw[hs] at HREC
   have Hp52p:=hid (Hp49p.out.grow HF50.out.gB g51);have HF53:=hid (HF50.out.call g51 q51);clear ht hs r51 q51 g51 HF50 Hp49p;obtain⟨rfl,rfl⟩:=Prod.mk.inj (show((([]++[(⟨8,t16.text,0,t16.pos,t16.pos,behI ts s31.p,t16.pos,[(⟨11,t31.text,0,t31.pos,t31.pos,(behI ts s31.p),t31.pos,[]⟩:Qv).pt]⟩:Qv).pt]):List Pt),s51)=(lr,sr) from HREC.out);clear HREC
   go_wp2_with fail
   go_meet
   case rel=>exact⟨_,HF53.out,Hp52p.out,⟨by simp,fun hb=>by have h:=HT51.out.2;rw[hb] at h;simp at h;simp;omega⟩⟩
 case rest=>
  obtain⟨vl0,hfl,hql,hfw0⟩:=hcut;obtain⟨xsp,xsn,xsc,hv⟩:=hql.sl;subst hv;have HFP:=hid hfl;have HQP:=hid hql;have HFW0:=hid hfw0;clear hfl hql hfw0 HF12 Hp11p HREC
  go_wp2_with fail
  refine(zag ⟨#[110,97,109,101]⟩ HFP.out.hR).mono ?_;rintro e W54 ⟨rfl,g54,r54⟩;obtain⟨t54,ht⟩:∃ t,takT ts ⟨#[110,97,109,101]⟩ sr=t:=⟨_,rfl⟩;obtain⟨s54,hs⟩:∃ s2,takS ts ⟨#[110,97,109,101]⟩ sr=s2:=⟨_,rfl⟩;rw[show takT ts ⟨#[110,97,109,101]⟩ ⟨sr.p,sr.bad⟩=t54 from ht];have q54:QdS T W54 g st cap ts s54:=hs ▸ r54;have HT54:Hid (LtQ sr s54):=hid (hs ▸ zal _ _)
  try rw[ht] at HX
  try rw[hs] at HX
  have Hp55p:=hid (HQP.out.grow HFP.out.gB g54);have HF56:=hid (HFP.out.call g54 q54);clear ht hs r54 q54 g54 HFP HQP;obtain⟨W57,hst57,b57,f57,l57⟩:=zdg HF56.out t54;have Hp58p:=hid (Hp55p.out.below b57);have Ht57m:=hid l57;have HF59:=hid (f57);clear b57 f57 l57 HF56 Hp55p;obtain⟨c60a,c60b,c60c⟩:=Ht57m.out.cells;obtain⟨r61a,r61b,r61c,r61d,r61e,r61f,r61g,r61h,r61i,r61z⟩:=row9 Hp58p.out.row
  go_wp2_with fail
  go_region
  obtain⟨W62,hw62,b62,o62,r62⟩:∃ W2,((W57.setCell ⟨W4.heap.size,1,none⟩ (.string t54.text)).setCell ⟨W4.heap.size,4,none⟩ (.int .i64 t54.pos)).drew=W2∧Below (W4.heap.size) W57 W2∧(∀ j,j≠W4.heap.size->j<W57.heap.size->W2.heap[j]?=W57.heap[j]?)∧W2.heap[W4.heap.size]?=some (.cells (paQ 7 t54.text 0 t54.pos t1.pos 0 t1.pos (.slice xsp xsn xsc)) 63 (0,0)) :=
   ⟨_,rfl,(((Below.refl _ _).setCell (p:=⟨W4.heap.size,1,none⟩) (Nat.le_refl _) _).setCell (p:=⟨W4.heap.size,4,none⟩) (Nat.le_refl _) _).drew,fun j hj _=>(heap_setCell_other _ _ _ _ hj).trans ((heap_setCell_other _ _ _ _ hj).trans (rfl)),heap_setCell_same _ _ 4 _ _ _ (heap_setCell_same _ _ 1 _ _ _ (Hp58p.out.row))⟩
  obtain⟨f62,q62⟩:=zhz HF59.out Hp58p.out W62 b62 o62 7 t54.text 0 t54.pos t1.pos 0 t1.pos r62;have Hp62p:=hid q62;have Ht62m:Hid (Tl W0 W62 W54.heap.size t54):=hid ⟨Ht57m.out.hB,(o62 _ (zge Ht57m.out Hp58p.out.row) (zaa Ht57m.out.row)).trans Ht57m.out.row⟩;have HF63:=hid (f62);clear f62 q62 b62 o62 r62 HF59 Hp58p Ht57m;rw[hw62];clear hw62 hst57 c60a c60b c60c r61a r61b r61c r61d r61e r61f r61g r61h r61i r61z
  go_wp2_with fail
  refine(zag ⟨#[40]⟩ HF63.out.hR).mono ?_;rintro e W64 ⟨rfl,g64,r64⟩;obtain⟨t64,ht⟩:∃ t,takT ts ⟨#[40]⟩ s54=t:=⟨_,rfl⟩;obtain⟨s64,hs⟩:∃ s2,takS ts ⟨#[40]⟩ s54=s2:=⟨_,rfl⟩;rw[show takT ts ⟨#[40]⟩ ⟨s54.p,s54.bad⟩=t64 from ht];have q64:QdS T W64 g st cap ts s64:=hs ▸ r64;have HT64:Hid (LtQ s54 s64):=hid (hs ▸ zal _ _)
  try rw[ht] at HX
  try rw[hs] at HX
  have Hp65p:=hid (Hp62p.out.grow HF63.out.gB g64);have HF66:=hid (HF63.out.call g64 q64);clear ht hs r64 q64 g64 HF63 Hp62p
  go_upto_block 0 with fail
  rcases hk67:(dns ts n).parL lr s64 with _|⟨lf,sf⟩
  ·exact absurd HX.out (by rw[hk67];intro h;cases h)
  rw[hk67] at HX;simp only[Option.bind_some] at HX;have HRL:=hid hk67;have HOX:=HX;clear HX hk67
  go_cut [] (fun wc=>∃ v,Fr T w W0 wc g st cap ts sf∧Qk W0.heap.size (w.heap.size) wc (W4.heap.size) 7 t54.text 0 t54.pos t1.pos 0 t1.pos v lf∧lf.length<=150001)
  case first=>
   clear HOX
   go_wp2_with fail
   go_loopw [] (fun wr=>∃ (l:List Pt) (q:Qs) (v:Value) (m:Nat),Fr T w W0 wr g st cap ts q∧Qk W0.heap.size (w.heap.size) wr (W4.heap.size) 7 t54.text 0 t54.pos t1.pos 0 t1.pos v l∧(dns ts m).parL l q=some (lf,sf)∧m<=n∧Few l q) (fun wr=>muQ ts g wr)
   case atStart=>exact⟨_,_,_,_,HF66.out,Hp65p.out,HRL.out,Nat.le_refl _,(HFW0.out.le (HT54.out.le.trans HT64.out.le))⟩
   case round=>
    obtain⟨l,q,v,m,hF,hQ,hm,hmn,hfw⟩:=hrel;have HFr:=hid hF;have HQr:=hid hQ;have HFw:=hid hfw;have HMU:=hid (zc1 hF.hR);have hqle:q.p<=ts.length:=hF.hR.le;have HFE:=hid (hfw.lt hF.hR);obtain⟨vsp,vsn,vsc,hv⟩:=hQ.sl;subst hv;clear hF hQ hfw HF66 Hp65p HRL
    cases m with
    | zero=>cases hm
    | succ m=>
    rw[zlu] at hm;have HX:=hid hm;clear hm;obtain⟨qb68,hqb68⟩:∃ b,q.bad=b:=⟨_,rfl⟩;have wc68:wr.cell? ⟨g,2,none⟩=some (.bool qb68):=hqb68 ▸ HFr.out.hR.c2;rw[hqb68] at HX;have HQB:=hid hqb68;clear hqb68
    cases qb68
    ·skip
     go_wp2_with fail
     clear wc68;refine(zar ⟨#[41]⟩ HFr.out.hR).mono ?_;rintro e W69 ⟨rfl,b69⟩;obtain⟨i69,hi⟩:∃ b,isQ ts q.p ⟨#[41]⟩=b:=⟨_,rfl⟩;rw[hi];have HIS:=hid hi
     try rw[hi] at HX
     have Hp70p:=hid (HQr.out.below b69);have HF71:=hid (HFr.out.low b69);clear hi b69 HFr HQr
     cases i69
     ·skip
      replace HX:=hid (if_t HX.out (by first|rfl|trivial))
      have hX:=HX.out
      try dsimp only[tak] at hX
      replace HX:=hid hX
      clear hX
      go_wp2_with (fail)
      obtain⟨⟨v72,s72⟩,hk72⟩:∃ r,tydD ts 9 q=r:=⟨_,rfl⟩;rw[hk72] at HX
      try dsimp only at HX
      have HLT:=hid (show LtQ q s72 from by have h:=zjh (ts:=ts) 9 q;rw[hk72] at h;exact h);have HFr2:=hid HF71.out;have hd72:Below W69.heap.size W69 W69.drew:=(Below.refl _ _).drew;have HD72:=hid (HF71.out.low hd72);have HE72:=hid (Hp70p.out.below hd72);have HK72:=hid (fun (h:QdS T W69.drew g st cap ts q)=>zg5 9 (fun w s=>ze4) h);rw[hk72] at HK72;clear hk72 hd72 HF71 Hp70p;have c872:W69.drew.cell? ⟨W4.heap.size,8,none⟩=some (.slice vsp vsn vsc):=(cell_of_row _ _ 8 _ _ _ HE72.out.row).trans rfl;apply zby (fun y0 y1 y2 y3 y4 y5 y6 y7 y8 y9 Wy sp sn sc Wz=>Fr T w W0 Wz g st cap ts s72∧Qk W0.heap.size (w.heap.size) Wz (W4.heap.size) 7 t54.text 0 t54.pos t1.pos 0 t1.pos (.slice sp sn sc) (l++[v72.pt])∧W69.drew.grownBy Wy (some g)∧((w.heap.size)≠W4.heap.size->Wz.heap[w.heap.size]?=Wy.heap[w.heap.size]?)∧Wy.heap.size<=Wz.heap.size)
      rotate_left
      ·intro hc;refine zbg (S:=fun _=>Hid True) 8 rfl (by kernel_rfl) ?_;refine zao 0 63 (.pointer (some ⟨W4.heap.size,8,none⟩)) rfl (by kernel_rfl) (by kernel_rfl) (by kernel_rfl) (fun _ _ _ h=>h) (fun w' _=>by first|rfl|(go_simp;done) | (go_simp;rw[IntKind.wrap_i64];omega)) (hid trivial) ?_;simp only[sI,sS,sZ];refine zao 2 65 (.pointer (some ⟨g,0,none⟩)) rfl (by kernel_rfl) (by kernel_rfl) (by kernel_rfl) (fun _ _ _ h=>h) (fun w' _=>by first|rfl|(go_simp;done) | (go_simp;rw[IntKind.wrap_i64];omega)) (hid trivial) ?_;simp only[sI,sS,sZ];refine wpAnyH_all (rs:=[1,3]) (by kernel_rfl) (by simp) fun i hi=>?_;simp only[List.mem_cons,List.not_mem_nil,or_false] at hi;rcases hi with rfl|rfl
       ·skip
        refine zam rfl rfl ?_
        go_simp
        refine⟨hid trivial,?_⟩;refine zac 3 rfl (by kernel_rfl) ?_
        go_simp
        refine(HK72.out HD72.out.hR).mono ?_;rintro e W72 ⟨⟨y0,y1,y2,y3,y4,y5,y6,y7,y8,y9⟩,rfl,q72,g72,r72⟩;obtain⟨c72,d72,v2,w1,Wz,ha,ce,cf,cw,f72,k72,z72,hsz⟩:=zbt HD72.out HE72.out ((Nat.le_trans (HFw.out.lt HFr2.out.hR) (by omega))) g72 r72 q72;obtain⟨sp2,sn2,sc2,hv2⟩:=k72.sl;subst hv2;have HFIN:=hid (hc y0 y1 y2 y3 y4 y5 y6 y7 y8 y9 W72 sp2 sn2 sc2 Wz ⟨f72,k72,g72,z72,hsz⟩)
        dsimp only[Qe.cells,paQ] at c72 d72 ha ce cf cw
        unfold Qe.cells paQ;clear f72 k72 z72 q72 g72 r72 hsz;refine⟨hid trivial,?_⟩;refine zac 4 rfl (by kernel_rfl) ?_
        go_simp
        refine⟨hid trivial,?_⟩;refine zac 5 rfl (by kernel_rfl) ?_;refine zak (.tmp 64) (.tmp 67) 61 rfl rfl rfl ha ?_;refine⟨hid trivial,?_⟩;simp only[Act.put,List.setIfInBounds_toArray,List.set_cons_succ,List.set_cons_zero];refine zao 6 69 (.pointer (some ⟨W4.heap.size,8,none⟩)) rfl (by kernel_rfl) (by kernel_rfl) (by kernel_rfl) (fun _ _ _ h=>h) (fun w' _=>by first|rfl|(go_simp;done) | (go_simp;rw[IntKind.wrap_i64];omega)) (hid trivial) ?_;simp only[sI,sS,sZ];refine zac 7 rfl (by kernel_rfl) ?_
        go_simp
        refine⟨hid trivial,?_⟩;refine wpAnyH_done (by kernel_rfl) ?_ _;exact HFIN.out
       ·skip
        refine zam rfl rfl ?_
        go_simp
        refine(HK72.out HD72.out.hR).mono ?_;rintro e W72 ⟨⟨y0,y1,y2,y3,y4,y5,y6,y7,y8,y9⟩,rfl,q72,g72,r72⟩;obtain⟨c72,d72,v2,w1,Wz,ha,ce,cf,cw,f72,k72,z72,hsz⟩:=zbt HD72.out HE72.out ((Nat.le_trans (HFw.out.lt HFr2.out.hR) (by omega))) g72 r72 q72;obtain⟨sp2,sn2,sc2,hv2⟩:=k72.sl;subst hv2;have HFIN:=hid (hc y0 y1 y2 y3 y4 y5 y6 y7 y8 y9 W72 sp2 sn2 sc2 Wz ⟨f72,k72,g72,z72,hsz⟩)
        dsimp only[Qe.cells,paQ] at c72 d72 ha ce cf cw
        unfold Qe.cells paQ;clear f72 k72 z72 q72 g72 r72 hsz;refine⟨hid trivial,?_⟩;refine wpAnyH_all (rs:=[1,4]) (by kernel_rfl) (by simp) fun i hi=>?_;simp only[List.mem_cons,List.not_mem_nil,or_false] at hi;rcases hi with rfl|rfl
        ·skip
         refine zam rfl rfl ?_
         go_simp
         refine⟨hid trivial,?_⟩;refine zac 4 rfl (by kernel_rfl) ?_
         go_simp
         refine⟨hid trivial,?_⟩;refine zac 5 rfl (by kernel_rfl) ?_;refine zak (.tmp 64) (.tmp 67) 61 rfl rfl rfl ha ?_;refine⟨hid trivial,?_⟩;simp only[Act.put,List.setIfInBounds_toArray,List.set_cons_succ,List.set_cons_zero];refine zao 6 69 (.pointer (some ⟨W4.heap.size,8,none⟩)) rfl (by kernel_rfl) (by kernel_rfl) (by kernel_rfl) (fun _ _ _ h=>h) (fun w' _=>by first|rfl|(go_simp;done) | (go_simp;rw[IntKind.wrap_i64];omega)) (hid trivial) ?_;simp only[sI,sS,sZ];refine zac 7 rfl (by kernel_rfl) ?_
         go_simp
         refine⟨hid trivial,?_⟩;refine wpAnyH_done (by kernel_rfl) ?_ _;exact HFIN.out
        ·skip
         refine zam rfl rfl ?_
         go_simp
         refine⟨hid trivial,?_⟩;refine zac 1 rfl (by kernel_rfl) ?_
         go_simp
         refine⟨hid trivial,?_⟩;refine zac 5 rfl (by kernel_rfl) ?_;refine zak (.tmp 64) (.tmp 67) 61 rfl rfl rfl ha ?_;refine⟨hid trivial,?_⟩;simp only[Act.put,List.setIfInBounds_toArray,List.set_cons_succ,List.set_cons_zero];refine zao 6 69 (.pointer (some ⟨W4.heap.size,8,none⟩)) rfl (by kernel_rfl) (by kernel_rfl) (by kernel_rfl) (fun _ _ _ h=>h) (fun w' _=>by first|rfl|(go_simp;done) | (go_simp;rw[IntKind.wrap_i64];omega)) (hid trivial) ?_;simp only[sI,sS,sZ];refine zac 7 rfl (by kernel_rfl) ?_
         go_simp
         refine⟨hid trivial,?_⟩;refine wpAnyH_done (by kernel_rfl) ?_ _;exact HFIN.out
      intro y0 y1 y2 y3 y4 y5 y6 y7 y8 y9 W72 sp73 sn73 sc73 W73 hF73;obtain⟨f73,k73,g73,z73,y73⟩:=hF73;have Hp73p:=hid k73;have HG73:=hid g73;have HZ73:=hid z73;have HF74:=hid (f73);clear f73 k73 g73 z73 HD72 HE72 c872 HK72 HFr2
      go_wp2_with fail
      refine(zar ⟨#[41]⟩ HF74.out.hR).mono ?_;rintro e W75 ⟨rfl,b75⟩;obtain⟨i75,hi⟩:∃ b,isQ ts s72.p ⟨#[41]⟩=b:=⟨_,rfl⟩;rw[hi];have HIS:=hid hi
      try rw[hi] at HX
      have Hp76p:=hid (Hp73p.out.below b75);have HF77:=hid (HF74.out.low b75);clear hi b75 HF74 Hp73p
      cases i75
      ·skip
       replace HX:=hid (if_f HX.out (fun h=>by cases h))
       go_wp2_with fail
       refine(zag ⟨#[44]⟩ HF77.out.hR).mono ?_;rintro e W78 ⟨rfl,g78,r78⟩;obtain⟨t78,ht⟩:∃ t,takT ts ⟨#[44]⟩ s72=t:=⟨_,rfl⟩;obtain⟨s78,hs⟩:∃ s2,takS ts ⟨#[44]⟩ s72=s2:=⟨_,rfl⟩;rw[show takT ts ⟨#[44]⟩ ⟨s72.p,s72.bad⟩=t78 from ht];have q78:QdS T W78 g st cap ts s78:=hs ▸ r78;have HT78:Hid (LtQ s72 s78):=hid (hs ▸ zal _ _)
       try rw[ht] at HX
       try rw[hs] at HX
       have Hp79p:=hid (Hp76p.out.grow HF77.out.gB g78);have HF80:=hid (HF77.out.call g78 q78);clear ht hs r78 q78 g78 HF77 Hp76p
       go_wp2_with fail
       refine(zar ⟨#[41]⟩ HF80.out.hR).mono ?_;rintro e W81 ⟨rfl,b81⟩;obtain⟨i81,hi⟩:∃ b,isQ ts s78.p ⟨#[41]⟩=b:=⟨_,rfl⟩;rw[hi];have HIS:=hid hi
       try rw[hi] at HX
       have Hp82p:=hid (Hp79p.out.below b81);have HF83:=hid (HF80.out.low b81);clear hi b81 HF80 Hp79p
       cases i81
       ·skip
        rw[show wrQ false s78=s78 from rfl] at HX;have HMV:=hid (zc1 HF83.out.hR)
        go_wp2
        go_round
        case rel=>exact⟨_,_,_,m,HF83.out,Hp82p.out,HX.out,by omega,(HFw.out.more HQB.out HLT.out).le (HT78.out.le)⟩
        case measure=>
         rw[HMV.out,HMU.out];exact zd3 HQB.out hqle HF83.out.hR.le (HLT.out.trans (HT78.out.le))
       ·skip
        have HW:Hid (LeQ s78 (wrQ true s78)):=hid (zlr _ _);obtain⟨W84,hw84,g84,r84⟩:∃ W2,W81.setCell ⟨g,2,none⟩ (.bool true)=W2∧W81.grownBy W2 (some g)∧QdS T W2 g st cap ts (wrQ true s78):=⟨_,rfl,zin W81 g,HF83.out.hR.wrong⟩;have wc84:=HF83.out.hR.c2;have wz84:=HF83.out.hR.z 2;obtain⟨s84,hs84⟩:∃ s2,wrQ true s78=s2:=⟨_,rfl⟩;rw[hs84] at HX r84
        try rw[hs84] at HW
        have Hp85p:=hid (Hp82p.out.grow HF83.out.gB g84);have HF86:=hid (HF83.out.call g84 r84);clear hs84 g84 r84 HF83 Hp82p;have HMV:=hid (zc1 HF86.out.hR)
        go_wp2
        go_round
        case rel=>exact⟨_,_,_,m,HF86.out,Hp85p.out,HX.out,by omega,(HFw.out.more HQB.out HLT.out).le ((HT78.out.le.trans HW.out))⟩
        case measure=>
         rw[HMV.out,HMU.out];exact zd3 HQB.out hqle HF86.out.hR.le (HLT.out.trans ((HT78.out.le.trans HW.out)))
      ·skip
       replace HX:=hid (if_t HX.out (by first|rfl|trivial))
       obtain⟨rfl,rfl⟩:=Prod.mk.inj (Option.some.inj HX.out)
       go_wp2_with fail
       go_meet
       case rel=>exact⟨_,HF77.out,Hp76p.out,(by have h:=HFE.out;(try simp only[List.length_append,List.length_cons,List.length_nil]);omega)⟩
     ·skip
      replace HX:=hid (if_f HX.out (fun h=>by cases h))
      obtain⟨rfl,rfl⟩:=Prod.mk.inj (Option.some.inj HX.out)
      go_wp2_with fail
      go_meet
      case rel=>exact⟨_,HF71.out,Hp70p.out,(by have h:=HFE.out;(try simp only[List.length_append,List.length_cons,List.length_nil]);omega)⟩
    ·skip
     replace HX:=hid (if_f HX.out (fun h=>by cases h))
     obtain⟨rfl,rfl⟩:=Prod.mk.inj (Option.some.inj HX.out)
     go_wp2_with fail
     clear wc68
     go_meet
     case rel=>exact⟨_,HFr.out,HQr.out,(by have h:=HFE.out;(try simp only[List.length_append,List.length_cons,List.length_nil]);omega)⟩
  case rest=>
   obtain⟨vl,hfl,hql,hfe⟩:=hcut;obtain⟨vsp,vsn,vsc,hv⟩:=hql.sl;subst hv;have HFQ:=hid hfl;have HQQ:=hid hql;clear hfl hql HF66 Hp65p HRL;have HX:=HOX;clear HOX;have HFE:=hid hfe;clear hfe
   go_wp2_with fail
   refine(zag ⟨#[41]⟩ HFQ.out.hR).mono ?_;rintro e W87 ⟨rfl,g87,r87⟩;obtain⟨t87,ht⟩:∃ t,takT ts ⟨#[41]⟩ sf=t:=⟨_,rfl⟩;obtain⟨s87,hs⟩:∃ s2,takS ts ⟨#[41]⟩ sf=s2:=⟨_,rfl⟩;rw[show takT ts ⟨#[41]⟩ ⟨sf.p,sf.bad⟩=t87 from ht];have q87:QdS T W87 g st cap ts s87:=hs ▸ r87;have HT87:Hid (LtQ sf s87):=hid (hs ▸ zal _ _)
   try rw[ht] at HX
   try rw[hs] at HX
   have Hp88p:=hid (HQQ.out.grow HFQ.out.gB g87);have HF89:=hid (HFQ.out.call g87 q87);clear ht hs r87 q87 g87 HFQ HQQ
   go_wp2_with fail
   refine(zar ⟨#[123]⟩ HF89.out.hR).mono ?_;rintro e W90 ⟨rfl,b90⟩;obtain⟨i90,hi⟩:∃ b,isQ ts s87.p ⟨#[123]⟩=b:=⟨_,rfl⟩;rw[hi];have HIS:=hid hi
   try rw[hi] at HX
   have Hp91p:=hid (Hp88p.out.below b90);have HF92:=hid (HF89.out.low b90);clear hi b90 HF89 Hp88p
   cases i90
   ·skip
    replace HX:=hid (if_f HX.out (fun h=>by cases h))
    go_wp2_with (fail)
    obtain⟨⟨v93,s93⟩,hk93⟩:∃ r,kinD ts s87=r:=⟨_,rfl⟩;rw[hk93] at HX
    try dsimp only at HX
    have HFr2:=hid HF92.out;have hd93:Below W90.heap.size W90 W90.drew:=(Below.refl _ _).drew;have HD93:=hid (HF92.out.low hd93);have HE93:=hid (Hp91p.out.below hd93);have HK93:=hid (fun (h:QdS T W90.drew g st cap ts s87)=>ze4 h);rw[hk93] at HK93;clear hk93 hd93 HF92 Hp91p;have c893:W90.drew.cell? ⟨W4.heap.size,8,none⟩=some (.slice vsp vsn vsc):=(cell_of_row _ _ 8 _ _ _ HE93.out.row).trans rfl;apply zby (fun y0 y1 y2 y3 y4 y5 y6 y7 y8 y9 Wy sp sn sc Wz=>Fr T w W0 Wz g st cap ts s93∧Qk W0.heap.size (w.heap.size) Wz (W4.heap.size) 7 t54.text 0 t54.pos t1.pos 0 t1.pos (.slice sp sn sc) (lf++[v93.pt])∧W90.drew.grownBy Wy (some g)∧((w.heap.size)≠W4.heap.size->Wz.heap[w.heap.size]?=Wy.heap[w.heap.size]?)∧Wy.heap.size<=Wz.heap.size)
    rotate_left
    ·intro hc;refine zbg (S:=fun _=>Hid True) 8 rfl (by kernel_rfl) ?_;refine zao 0 84 (.pointer (some ⟨W4.heap.size,8,none⟩)) rfl (by kernel_rfl) (by kernel_rfl) (by kernel_rfl) (fun _ _ _ h=>h) (fun w' _=>by first|rfl|(go_simp;done) | (go_simp;rw[IntKind.wrap_i64];omega)) (hid trivial) ?_;simp only[sI,sS,sZ];refine zao 2 86 (.pointer (some ⟨g,0,none⟩)) rfl (by kernel_rfl) (by kernel_rfl) (by kernel_rfl) (fun _ _ _ h=>h) (fun w' _=>by first|rfl|(go_simp;done) | (go_simp;rw[IntKind.wrap_i64];omega)) (hid trivial) ?_;simp only[sI,sS,sZ];refine wpAnyH_all (rs:=[1,3]) (by kernel_rfl) (by simp) fun i hi=>?_;simp only[List.mem_cons,List.not_mem_nil,or_false] at hi;rcases hi with rfl|rfl
     ·skip
      refine zam rfl rfl ?_
      go_simp
      refine⟨hid trivial,?_⟩;refine zac 3 rfl (by kernel_rfl) ?_
      go_simp
      refine(HK93.out HD93.out.hR).mono ?_;rintro e W93 ⟨⟨y0,y1,y2,y3,y4,y5,y6,y7,y8,y9⟩,rfl,q93,g93,r93⟩;obtain⟨c93,d93,v2,w1,Wz,ha,ce,cf,cw,f93,k93,z93,hsz⟩:=zbt HD93.out HE93.out ((by have h:=HFE.out;(try simp only[List.length_append,List.length_cons,List.length_nil]);omega)) g93 r93 q93;obtain⟨sp2,sn2,sc2,hv2⟩:=k93.sl;subst hv2;have HFIN:=hid (hc y0 y1 y2 y3 y4 y5 y6 y7 y8 y9 W93 sp2 sn2 sc2 Wz ⟨f93,k93,g93,z93,hsz⟩)
      dsimp only[Qe.cells,paQ] at c93 d93 ha ce cf cw
      unfold Qe.cells paQ;clear f93 k93 z93 q93 g93 r93 hsz;refine⟨hid trivial,?_⟩;refine zac 4 rfl (by kernel_rfl) ?_
      go_simp
      refine⟨hid trivial,?_⟩;refine zac 5 rfl (by kernel_rfl) ?_;refine zak (.tmp 85) (.tmp 88) 61 rfl rfl rfl ha ?_;refine⟨hid trivial,?_⟩;simp only[Act.put,List.setIfInBounds_toArray,List.set_cons_succ,List.set_cons_zero];refine zao 6 90 (.pointer (some ⟨W4.heap.size,8,none⟩)) rfl (by kernel_rfl) (by kernel_rfl) (by kernel_rfl) (fun _ _ _ h=>h) (fun w' _=>by first|rfl|(go_simp;done) | (go_simp;rw[IntKind.wrap_i64];omega)) (hid trivial) ?_;simp only[sI,sS,sZ];refine zac 7 rfl (by kernel_rfl) ?_
      go_simp
      refine⟨hid trivial,?_⟩;refine wpAnyH_done (by kernel_rfl) ?_ _;exact HFIN.out
     ·skip
      refine zam rfl rfl ?_
      go_simp
      refine(HK93.out HD93.out.hR).mono ?_;rintro e W93 ⟨⟨y0,y1,y2,y3,y4,y5,y6,y7,y8,y9⟩,rfl,q93,g93,r93⟩;obtain⟨c93,d93,v2,w1,Wz,ha,ce,cf,cw,f93,k93,z93,hsz⟩:=zbt HD93.out HE93.out ((by have h:=HFE.out;(try simp only[List.length_append,List.length_cons,List.length_nil]);omega)) g93 r93 q93;obtain⟨sp2,sn2,sc2,hv2⟩:=k93.sl;subst hv2;have HFIN:=hid (hc y0 y1 y2 y3 y4 y5 y6 y7 y8 y9 W93 sp2 sn2 sc2 Wz ⟨f93,k93,g93,z93,hsz⟩)
      dsimp only[Qe.cells,paQ] at c93 d93 ha ce cf cw
      unfold Qe.cells paQ;clear f93 k93 z93 q93 g93 r93 hsz;refine⟨hid trivial,?_⟩;refine wpAnyH_all (rs:=[1,4]) (by kernel_rfl) (by simp) fun i hi=>?_;simp only[List.mem_cons,List.not_mem_nil,or_false] at hi;rcases hi with rfl|rfl
      ·skip
       refine zam rfl rfl ?_
       go_simp
       refine⟨hid trivial,?_⟩;refine zac 4 rfl (by kernel_rfl) ?_
       go_simp
       refine⟨hid trivial,?_⟩;refine zac 5 rfl (by kernel_rfl) ?_;refine zak (.tmp 85) (.tmp 88) 61 rfl rfl rfl ha ?_;refine⟨hid trivial,?_⟩;simp only[Act.put,List.setIfInBounds_toArray,List.set_cons_succ,List.set_cons_zero];refine zao 6 90 (.pointer (some ⟨W4.heap.size,8,none⟩)) rfl (by kernel_rfl) (by kernel_rfl) (by kernel_rfl) (fun _ _ _ h=>h) (fun w' _=>by first|rfl|(go_simp;done) | (go_simp;rw[IntKind.wrap_i64];omega)) (hid trivial) ?_;simp only[sI,sS,sZ];refine zac 7 rfl (by kernel_rfl) ?_
       go_simp
       refine⟨hid trivial,?_⟩;refine wpAnyH_done (by kernel_rfl) ?_ _;exact HFIN.out
      ·skip
       refine zam rfl rfl ?_
       go_simp
       refine⟨hid trivial,?_⟩;refine zac 1 rfl (by kernel_rfl) ?_
       go_simp
       refine⟨hid trivial,?_⟩;refine zac 5 rfl (by kernel_rfl) ?_;refine zak (.tmp 85) (.tmp 88) 61 rfl rfl rfl ha ?_;refine⟨hid trivial,?_⟩;simp only[Act.put,List.setIfInBounds_toArray,List.set_cons_succ,List.set_cons_zero];refine zao 6 90 (.pointer (some ⟨W4.heap.size,8,none⟩)) rfl (by kernel_rfl) (by kernel_rfl) (by kernel_rfl) (fun _ _ _ h=>h) (fun w' _=>by first|rfl|(go_simp;done) | (go_simp;rw[IntKind.wrap_i64];omega)) (hid trivial) ?_;simp only[sI,sS,sZ];refine zac 7 rfl (by kernel_rfl) ?_
       go_simp
       refine⟨hid trivial,?_⟩;refine wpAnyH_done (by kernel_rfl) ?_ _;exact HFIN.out
    intro y0 y1 y2 y3 y4 y5 y6 y7 y8 y9 W93 sp94 sn94 sc94 W94 hF94;obtain⟨f94,k94,g94,z94,y94⟩:=hF94;have Hp94p:=hid k94;have HG94:=hid g94;have HZ94:=hid z94;have HF95:=hid (f94);clear f94 k94 g94 z94 HD93 HE93 c893 HK93 HFr2
    go_wp2_with (fail)
    rcases hk96:bloD ts (dns ts n) s93 with _|⟨v96,s96⟩
    ·exact absurd HX.out (by rw[hk96];intro h;cases h)
    rw[hk96] at HX;simp only[Option.bind_some] at HX;have HFr2:=hid HF95.out;have hd96:Below W94.heap.size W94 W94.drew:=(Below.refl _ _).drew;have HD96:=hid (HF95.out.low hd96);have HE96:=hid (Hp94p.out.below hd96);have HK96:=hid (fun (h:QdS T W94.drew g st cap ts s93)=>(fun hk=>HB.out W94.drew _ _ hk h) hk96);clear hk96 hd96 HF95 Hp94p;have c896:W94.drew.cell? ⟨W4.heap.size,8,none⟩=some (.slice sp94 sn94 sc94):=(cell_of_row _ _ 8 _ _ _ HE96.out.row).trans rfl;apply zby (fun y0 y1 y2 y3 y4 y5 y6 y7 y8 y9 Wy sp sn sc Wz=>Fr T w W0 Wz g st cap ts s96∧Qk W0.heap.size (w.heap.size) Wz (W4.heap.size) 7 t54.text 0 t54.pos t1.pos 0 t1.pos (.slice sp sn sc) ((lf++[v93.pt])++[v96.pt])∧W94.drew.grownBy Wy (some g)∧((w.heap.size)≠W4.heap.size->Wz.heap[w.heap.size]?=Wy.heap[w.heap.size]?)∧Wy.heap.size<=Wz.heap.size)
    rotate_left
    ·intro hc;refine zbg (S:=fun _=>Hid True) 8 rfl (by kernel_rfl) ?_;refine zao 0 91 (.pointer (some ⟨W4.heap.size,8,none⟩)) rfl (by kernel_rfl) (by kernel_rfl) (by kernel_rfl) (fun _ _ _ h=>h) (fun w' _=>by first|rfl|(go_simp;done) | (go_simp;rw[IntKind.wrap_i64];omega)) (hid trivial) ?_;simp only[sI,sS,sZ];refine zao 2 93 (.pointer (some ⟨g,0,none⟩)) rfl (by kernel_rfl) (by kernel_rfl) (by kernel_rfl) (fun _ _ _ h=>h) (fun w' _=>by first|rfl|(go_simp;done) | (go_simp;rw[IntKind.wrap_i64];omega)) (hid trivial) ?_;simp only[sI,sS,sZ];refine wpAnyH_all (rs:=[1,3]) (by kernel_rfl) (by simp) fun i hi=>?_;simp only[List.mem_cons,List.not_mem_nil,or_false] at hi;rcases hi with rfl|rfl
     ·skip
      refine zam rfl rfl ?_
      go_simp
      refine⟨hid trivial,?_⟩;refine zac 3 rfl (by kernel_rfl) ?_
      go_simp
      refine(HK96.out HD96.out.hR).mono ?_;rintro e W96 ⟨⟨y0,y1,y2,y3,y4,y5,y6,y7,y8,y9⟩,rfl,q96,g96,r96⟩;obtain⟨c96,d96,v2,w1,Wz,ha,ce,cf,cw,f96,k96,z96,hsz⟩:=zbt HD96.out HE96.out ((by have h:=HFE.out;(try simp only[List.length_append,List.length_cons,List.length_nil]);omega)) g96 r96 q96;obtain⟨sp2,sn2,sc2,hv2⟩:=k96.sl;subst hv2;have HFIN:=hid (hc y0 y1 y2 y3 y4 y5 y6 y7 y8 y9 W96 sp2 sn2 sc2 Wz ⟨f96,k96,g96,z96,hsz⟩)
      dsimp only[Qe.cells,paQ] at c96 d96 ha ce cf cw
      unfold Qe.cells paQ;clear f96 k96 z96 q96 g96 r96 hsz;refine⟨hid trivial,?_⟩;refine zac 4 rfl (by kernel_rfl) ?_
      go_simp
      refine⟨hid trivial,?_⟩;refine zac 5 rfl (by kernel_rfl) ?_;refine zak (.tmp 92) (.tmp 95) 61 rfl rfl rfl ha ?_;refine⟨hid trivial,?_⟩;simp only[Act.put,List.setIfInBounds_toArray,List.set_cons_succ,List.set_cons_zero];refine zao 6 97 (.pointer (some ⟨W4.heap.size,8,none⟩)) rfl (by kernel_rfl) (by kernel_rfl) (by kernel_rfl) (fun _ _ _ h=>h) (fun w' _=>by first|rfl|(go_simp;done) | (go_simp;rw[IntKind.wrap_i64];omega)) (hid trivial) ?_;simp only[sI,sS,sZ];refine zac 7 rfl (by kernel_rfl) ?_
      go_simp
      refine⟨hid trivial,?_⟩;refine wpAnyH_done (by kernel_rfl) ?_ _;exact HFIN.out
     ·skip
      refine zam rfl rfl ?_
      go_simp
      refine(HK96.out HD96.out.hR).mono ?_;rintro e W96 ⟨⟨y0,y1,y2,y3,y4,y5,y6,y7,y8,y9⟩,rfl,q96,g96,r96⟩;obtain⟨c96,d96,v2,w1,Wz,ha,ce,cf,cw,f96,k96,z96,hsz⟩:=zbt HD96.out HE96.out ((by have h:=HFE.out;(try simp only[List.length_append,List.length_cons,List.length_nil]);omega)) g96 r96 q96;obtain⟨sp2,sn2,sc2,hv2⟩:=k96.sl;subst hv2;have HFIN:=hid (hc y0 y1 y2 y3 y4 y5 y6 y7 y8 y9 W96 sp2 sn2 sc2 Wz ⟨f96,k96,g96,z96,hsz⟩)
      dsimp only[Qe.cells,paQ] at c96 d96 ha ce cf cw
      unfold Qe.cells paQ;clear f96 k96 z96 q96 g96 r96 hsz;refine⟨hid trivial,?_⟩;refine wpAnyH_all (rs:=[1,4]) (by kernel_rfl) (by simp) fun i hi=>?_;simp only[List.mem_cons,List.not_mem_nil,or_false] at hi;rcases hi with rfl|rfl
      ·skip
       refine zam rfl rfl ?_
       go_simp
       refine⟨hid trivial,?_⟩;refine zac 4 rfl (by kernel_rfl) ?_
       go_simp
       refine⟨hid trivial,?_⟩;refine zac 5 rfl (by kernel_rfl) ?_;refine zak (.tmp 92) (.tmp 95) 61 rfl rfl rfl ha ?_;refine⟨hid trivial,?_⟩;simp only[Act.put,List.setIfInBounds_toArray,List.set_cons_succ,List.set_cons_zero];refine zao 6 97 (.pointer (some ⟨W4.heap.size,8,none⟩)) rfl (by kernel_rfl) (by kernel_rfl) (by kernel_rfl) (fun _ _ _ h=>h) (fun w' _=>by first|rfl|(go_simp;done) | (go_simp;rw[IntKind.wrap_i64];omega)) (hid trivial) ?_;simp only[sI,sS,sZ];refine zac 7 rfl (by kernel_rfl) ?_
       go_simp
       refine⟨hid trivial,?_⟩;refine wpAnyH_done (by kernel_rfl) ?_ _;exact HFIN.out
      ·skip
       refine zam rfl rfl ?_
       go_simp
       refine⟨hid trivial,?_⟩;refine zac 1 rfl (by kernel_rfl) ?_
       go_simp
       refine⟨hid trivial,?_⟩;refine zac 5 rfl (by kernel_rfl) ?_;refine zak (.tmp 92) (.tmp 95) 61 rfl rfl rfl ha ?_;refine⟨hid trivial,?_⟩;simp only[Act.put,List.setIfInBounds_toArray,List.set_cons_succ,List.set_cons_zero];refine zao 6 97 (.pointer (some ⟨W4.heap.size,8,none⟩)) rfl (by kernel_rfl) (by kernel_rfl) (by kernel_rfl) (fun _ _ _ h=>h) (fun w' _=>by first|rfl|(go_simp;done) | (go_simp;rw[IntKind.wrap_i64];omega)) (hid trivial) ?_;simp only[sI,sS,sZ];refine zac 7 rfl (by kernel_rfl) ?_
       go_simp
       refine⟨hid trivial,?_⟩;refine wpAnyH_done (by kernel_rfl) ?_ _;exact HFIN.out
    intro y0 y1 y2 y3 y4 y5 y6 y7 y8 y9 W96 sp97 sn97 sc97 W97 hF97;obtain⟨f97,k97,g97,z97,y97⟩:=hF97;have Hp97p:=hid k97;have HG97:=hid g97;have HZ97:=hid z97;have HF98:=hid (f97);clear f97 k97 g97 z97 HD96 HE96 c896 HK96 HFr2;obtain⟨r99a,r99b,r99c,r99d,r99e,r99f,r99g,r99h,r99i,r99z⟩:=row9 Hp97p.out.row
    go_wp2_with fail
    clear r99a r99b r99c r99d r99e r99f r99g r99h r99i r99z;obtain⟨sp100,ln100,cp100,hv100,hd100⟩:=za7 HF98.out Hp97p.out;injection hv100 with u1 u2 u3;subst u1 u2 u3;refine hd100.mono ?_;rintro e W100 ⟨e100,rfl,b100,f100,q100⟩;have HV100:=hid q100;have HF102:=hid (f100);clear hd100 b100 f100 q100 HF98 Hp97p;obtain⟨W103,hst103,hr103,hp103⟩:=za5 HF102.out (v:=(⟨7,t54.text,0,t54.pos,t1.pos,behI ts s96.p,t1.pos,((lf++[v93.pt])++[v96.pt])⟩:Qv)) ⟨HV100.out.is.keep (fun j hj=>⟨hj.1,hj.2.1⟩) fun _ _=>rfl,HV100.out.bg⟩;have HP:=hid hp103;have HRR:=hid hr103;clear hp103 hr103
    go_wp2
    have hx:=Option.some.inj HX.out;exact zan Tryz.results72 rfl HRR.out (hx ▸ HP.out)
   ·skip
    replace HX:=hid (if_t HX.out (by first|rfl|trivial))
    go_wp2_with (fail)
    rcases hk104:bloD ts (dns ts n) s87 with _|⟨v104,s104⟩
    ·exact absurd HX.out (by rw[hk104];intro h;cases h)
    rw[hk104] at HX;simp only[Option.bind_some] at HX;have HFr2:=hid HF92.out;have hd104:Below W90.heap.size W90 W90.drew:=(Below.refl _ _).drew;have HD104:=hid (HF92.out.low hd104);have HE104:=hid (Hp91p.out.below hd104);have HK104:=hid (fun (h:QdS T W90.drew g st cap ts s87)=>(fun hk=>HB.out W90.drew _ _ hk h) hk104);clear hk104 hd104 HF92 Hp91p;have c8104:W90.drew.cell? ⟨W4.heap.size,8,none⟩=some (.slice vsp vsn vsc):=(cell_of_row _ _ 8 _ _ _ HE104.out.row).trans rfl;apply zby (fun y0 y1 y2 y3 y4 y5 y6 y7 y8 y9 Wy sp sn sc Wz=>Fr T w W0 Wz g st cap ts s104∧Qk W0.heap.size (w.heap.size) Wz (W4.heap.size) 7 t54.text 0 t54.pos t1.pos 0 t1.pos (.slice sp sn sc) (lf++[v104.pt])∧W90.drew.grownBy Wy (some g)∧((w.heap.size)≠W4.heap.size->Wz.heap[w.heap.size]?=Wy.heap[w.heap.size]?)∧Wy.heap.size<=Wz.heap.size)
    rotate_left
    ·intro hc;refine zbg (S:=fun _=>Hid True) 8 rfl (by kernel_rfl) ?_;refine zao 0 91 (.pointer (some ⟨W4.heap.size,8,none⟩)) rfl (by kernel_rfl) (by kernel_rfl) (by kernel_rfl) (fun _ _ _ h=>h) (fun w' _=>by first|rfl|(go_simp;done) | (go_simp;rw[IntKind.wrap_i64];omega)) (hid trivial) ?_;simp only[sI,sS,sZ];refine zao 2 93 (.pointer (some ⟨g,0,none⟩)) rfl (by kernel_rfl) (by kernel_rfl) (by kernel_rfl) (fun _ _ _ h=>h) (fun w' _=>by first|rfl|(go_simp;done) | (go_simp;rw[IntKind.wrap_i64];omega)) (hid trivial) ?_;simp only[sI,sS,sZ];refine wpAnyH_all (rs:=[1,3]) (by kernel_rfl) (by simp) fun i hi=>?_;simp only[List.mem_cons,List.not_mem_nil,or_false] at hi;rcases hi with rfl|rfl
     ·skip
      refine zam rfl rfl ?_
      go_simp
      refine⟨hid trivial,?_⟩;refine zac 3 rfl (by kernel_rfl) ?_
      go_simp
      refine(HK104.out HD104.out.hR).mono ?_;rintro e W104 ⟨⟨y0,y1,y2,y3,y4,y5,y6,y7,y8,y9⟩,rfl,q104,g104,r104⟩;obtain⟨c104,d104,v2,w1,Wz,ha,ce,cf,cw,f104,k104,z104,hsz⟩:=zbt HD104.out HE104.out ((by have h:=HFE.out;(try simp only[List.length_append,List.length_cons,List.length_nil]);omega)) g104 r104 q104;obtain⟨sp2,sn2,sc2,hv2⟩:=k104.sl;subst hv2;have HFIN:=hid (hc y0 y1 y2 y3 y4 y5 y6 y7 y8 y9 W104 sp2 sn2 sc2 Wz ⟨f104,k104,g104,z104,hsz⟩)
      dsimp only[Qe.cells,paQ] at c104 d104 ha ce cf cw
      unfold Qe.cells paQ;clear f104 k104 z104 q104 g104 r104 hsz;refine⟨hid trivial,?_⟩;refine zac 4 rfl (by kernel_rfl) ?_
      go_simp
      refine⟨hid trivial,?_⟩;refine zac 5 rfl (by kernel_rfl) ?_;refine zak (.tmp 92) (.tmp 95) 61 rfl rfl rfl ha ?_;refine⟨hid trivial,?_⟩;simp only[Act.put,List.setIfInBounds_toArray,List.set_cons_succ,List.set_cons_zero];refine zao 6 97 (.pointer (some ⟨W4.heap.size,8,none⟩)) rfl (by kernel_rfl) (by kernel_rfl) (by kernel_rfl) (fun _ _ _ h=>h) (fun w' _=>by first|rfl|(go_simp;done) | (go_simp;rw[IntKind.wrap_i64];omega)) (hid trivial) ?_;simp only[sI,sS,sZ];refine zac 7 rfl (by kernel_rfl) ?_
      go_simp
      refine⟨hid trivial,?_⟩;refine wpAnyH_done (by kernel_rfl) ?_ _;exact HFIN.out
     ·skip
      refine zam rfl rfl ?_
      go_simp
      refine(HK104.out HD104.out.hR).mono ?_;rintro e W104 ⟨⟨y0,y1,y2,y3,y4,y5,y6,y7,y8,y9⟩,rfl,q104,g104,r104⟩;obtain⟨c104,d104,v2,w1,Wz,ha,ce,cf,cw,f104,k104,z104,hsz⟩:=zbt HD104.out HE104.out ((by have h:=HFE.out;(try simp only[List.length_append,List.length_cons,List.length_nil]);omega)) g104 r104 q104;obtain⟨sp2,sn2,sc2,hv2⟩:=k104.sl;subst hv2;have HFIN:=hid (hc y0 y1 y2 y3 y4 y5 y6 y7 y8 y9 W104 sp2 sn2 sc2 Wz ⟨f104,k104,g104,z104,hsz⟩)
      dsimp only[Qe.cells,paQ] at c104 d104 ha ce cf cw
      unfold Qe.cells paQ;clear f104 k104 z104 q104 g104 r104 hsz;refine⟨hid trivial,?_⟩;refine wpAnyH_all (rs:=[1,4]) (by kernel_rfl) (by simp) fun i hi=>?_;simp only[List.mem_cons,List.not_mem_nil,or_false] at hi;rcases hi with rfl|rfl
      ·skip
       refine zam rfl rfl ?_
       go_simp
       refine⟨hid trivial,?_⟩;refine zac 4 rfl (by kernel_rfl) ?_
       go_simp
       refine⟨hid trivial,?_⟩;refine zac 5 rfl (by kernel_rfl) ?_;refine zak (.tmp 92) (.tmp 95) 61 rfl rfl rfl ha ?_;refine⟨hid trivial,?_⟩;simp only[Act.put,List.setIfInBounds_toArray,List.set_cons_succ,List.set_cons_zero];refine zao 6 97 (.pointer (some ⟨W4.heap.size,8,none⟩)) rfl (by kernel_rfl) (by kernel_rfl) (by kernel_rfl) (fun _ _ _ h=>h) (fun w' _=>by first|rfl|(go_simp;done) | (go_simp;rw[IntKind.wrap_i64];omega)) (hid trivial) ?_;simp only[sI,sS,sZ];refine zac 7 rfl (by kernel_rfl) ?_
       go_simp
       refine⟨hid trivial,?_⟩;refine wpAnyH_done (by kernel_rfl) ?_ _;exact HFIN.out
      ·skip
       refine zam rfl rfl ?_
       go_simp
       refine⟨hid trivial,?_⟩;refine zac 1 rfl (by kernel_rfl) ?_
       go_simp
       refine⟨hid trivial,?_⟩;refine zac 5 rfl (by kernel_rfl) ?_;refine zak (.tmp 92) (.tmp 95) 61 rfl rfl rfl ha ?_;refine⟨hid trivial,?_⟩;simp only[Act.put,List.setIfInBounds_toArray,List.set_cons_succ,List.set_cons_zero];refine zao 6 97 (.pointer (some ⟨W4.heap.size,8,none⟩)) rfl (by kernel_rfl) (by kernel_rfl) (by kernel_rfl) (fun _ _ _ h=>h) (fun w' _=>by first|rfl|(go_simp;done) | (go_simp;rw[IntKind.wrap_i64];omega)) (hid trivial) ?_;simp only[sI,sS,sZ];refine zac 7 rfl (by kernel_rfl) ?_
       go_simp
       refine⟨hid trivial,?_⟩;refine wpAnyH_done (by kernel_rfl) ?_ _;exact HFIN.out
    intro y0 y1 y2 y3 y4 y5 y6 y7 y8 y9 W104 sp105 sn105 sc105 W105 hF105;obtain⟨f105,k105,g105,z105,y105⟩:=hF105;have Hp105p:=hid k105;have HG105:=hid g105;have HZ105:=hid z105;have HF106:=hid (f105);clear f105 k105 g105 z105 HD104 HE104 c8104 HK104 HFr2;obtain⟨r107a,r107b,r107c,r107d,r107e,r107f,r107g,r107h,r107i,r107z⟩:=row9 Hp105p.out.row
    go_wp2_with fail
    clear r107a r107b r107c r107d r107e r107f r107g r107h r107i r107z;obtain⟨sp108,ln108,cp108,hv108,hd108⟩:=za7 HF106.out Hp105p.out;injection hv108 with u1 u2 u3;subst u1 u2 u3;refine hd108.mono ?_;rintro e W108 ⟨e108,rfl,b108,f108,q108⟩;have HV108:=hid q108;have HF110:=hid (f108);clear hd108 b108 f108 q108 HF106 Hp105p;obtain⟨W111,hst111,hr111,hp111⟩:=za5 HF110.out (v:=(⟨7,t54.text,0,t54.pos,t1.pos,behI ts s104.p,t1.pos,(lf++[v104.pt])⟩:Qv)) ⟨HV108.out.is.keep (fun j hj=>⟨hj.1,hj.2.1⟩) fun _ _=>rfl,HV108.out.bg⟩;have HP:=hid hp111;have HRR:=hid hr111;clear hp111 hr111
    go_wp2
    have hx:=Option.some.inj HX.out;exact zan Tryz.results72 rfl HRR.out (hx ▸ HP.out)
end
end Go.Proofs.YtmclgbkijeidaaaGreatDoor
