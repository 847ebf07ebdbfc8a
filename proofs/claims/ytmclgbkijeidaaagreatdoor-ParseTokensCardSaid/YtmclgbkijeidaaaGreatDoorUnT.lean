import Derived.Test.YtmclgbkijeidaaaGreatDoorUnS
namespace Go.Proofs.YtmclgbkijeidaaaGreatDoor
set_option maxRecDepth 100000
set_option maxHeartbeats 4000000
open Go.RowKit
section
variable {T:Nat}{w W0 W W':World}{g:Nat}{st:Option Addr}{cap:Nat}{ts:List Tok}{s s':Qs}
abbrev ExQ (T:Nat) (g:Nat) (st:Option Addr) (cap:Nat) (ts:List Tok) (d:Dns):Prop:=∀ (w:World) s r,d.row 1 s=some r->QdS T w g st cap ts s->Calls Tryz.prog 99 #[.pointer (some ⟨g,0,none⟩)] w (QoP T w g st cap ts r)
theorem ze8 {d:Dns}{r:Qv × Qs}(hE:ExQ T g st cap ts d)(hR:QdS T w g st cap ts s)(hX:varD ts d s=some r):Calls Tryz.prog 70 #[.pointer (some ⟨g,0,none⟩)] w (QoP T w g st cap ts r):=by
 have HF:=hid (zb9 hR);have hfe:=hR.few;have hle:=hR.le;clear hR;have HE:=hid hE;clear hE;unfold varD at hX
 dsimp only[tak] at hX
 have HX:=hid hX;clear hX
 go_enter Tryz.func70,Tryz.ntmps70
 go_wp2_with fail
 refine zaf (fun W=>Fr T w W W g st cap ts s) HF.out ?_;intro W0 hF;clear HF;have HF:=hid hF;clear hF;refine(zd0 4 ⟨#[118,97,114]⟩ HF.out.hR).mono ?_;rintro e W1 ⟨rfl,g1,r1⟩;obtain⟨⟨v1,s1⟩,hk1⟩:∃ r,worD ts 4 ⟨#[118,97,114]⟩ s=r:=⟨_,rfl⟩;rw[hk1] at HX r1;rw[hk1]
 try dsimp only at HX
 have HF3:=hid (HF.out.call g1 r1);clear hk1 g1 r1 HF;obtain⟨W4,hst4,b4,f4,l4⟩:=zgc HF3.out (⟨4,v1.x,0,v1.a,v1.f,0,v1.bg,none,0,0⟩:Qe);have Hq4p:Hid (Tq W0 W4 W1.heap.size (⟨4,v1.x,0,v1.a,v1.f,0,v1.bg,none,0,0⟩:Qe)):=hid l4;have HF6:=hid (f4);clear b4 f4 l4 HF3;have Hp7p:=hid (Hq4p.out.qk (z:=w.heap.size) (zaa HF6.out.hZ));clear Hq4p
 go_wp2_with fail
 clear hst4;refine(ze4 HF6.out.hR).mono ?_;rintro e W8 ⟨e8,rfl,q8,g8,r8⟩;obtain⟨⟨v8,s8⟩,hk8⟩:∃ r,kinD ts s1=r:=⟨_,rfl⟩;rw[hk8] at HX q8 r8
 try dsimp only at HX
 have HV8:=hid q8;have hb8p:=Hp7p.out.lt;have Hp9p:=hid (Hp7p.out.grow HF6.out.gB g8);have hs8:=g8.size;have HF10:=hid (HF6.out.call g8 r8);have hl8:=HF6.out.size;clear hk8 q8 g8 r8 HF6 Hp7p;obtain⟨c11,f11,W11,hw11,g11,q11,b11,o11⟩:=zdy HF10.out Hp9p.out (v:=v8) (e:=e8) (S:=(fun j=>W4.heap.size<=j∧j<W8.heap.size)) HV8.out (fun j hj=>by have:=Hp9p.out.lt;have:=HF10.out.s0;exact⟨by omega,hj.2,by omega,by omega⟩);have Hp11p:=hid q11;have HF12:=hid (g11);obtain⟨e0,e1,e2,e3,e4,e5,e6,e7,e8,e9⟩:=e8
 dsimp only[Qe.cells,paQ] at c11 f11 hw11
 try unfold Qe.cells paQ
 clear HV8 g11 q11 b11 o11 HF10 Hp9p
 go_wp2_with fail
 clear c11 f11 hw11;refine(zar ⟨#[61]⟩ HF12.out.hR).mono ?_;rintro e W13 ⟨rfl,b13⟩;obtain⟨i13,hi⟩:∃ b,isQ ts s8.p ⟨#[61]⟩=b:=⟨_,rfl⟩;rw[hi]
 try rw[hi] at HX
 have Hp14p:=hid (Hp11p.out.below b13);have HF15:=hid (HF12.out.low b13);clear hi b13 HF12 Hp11p
 cases i13
 ·skip
  replace HX:=hid (if_f HX.out (fun h=>by cases h))
  obtain⟨r16a,r16b,r16c,r16d,r16e,r16f,r16g,r16h,r16i,r16z⟩:=row9 Hp14p.out.row
  go_wp2_with fail
  clear r16a r16b r16c r16d r16e r16f r16g r16h r16i r16z;obtain⟨sp17,ln17,cp17,hv17,hd17⟩:=za7 HF15.out Hp14p.out;injection hv17 with u1 u2 u3;subst u1 u2 u3;refine hd17.mono ?_;rintro e W17 ⟨e17,rfl,b17,f17,q17⟩;have HV17:=hid q17;have HF19:=hid (f17);clear hd17 b17 f17 q17 HF15 Hp14p;obtain⟨W20,hst20,hr20,hp20⟩:=za5 HF19.out (v:=(⟨4,v1.x,0,v1.a,v1.f,behI ts s8.p,v1.bg,[v8.pt]⟩:Qv)) ⟨HV17.out.is.keep (fun j hj=>⟨hj.1,hj.2.1⟩) fun _ _=>rfl,HV17.out.bg⟩;have HP:=hid hp20;have HRR:=hid hr20;clear hp20 hr20
  go_wp2
  have hx:=Option.some.inj HX.out;exact zan Tryz.results70 rfl HRR.out (hx ▸ HP.out)
 ·skip
  replace HX:=hid (if_t HX.out rfl)
  go_wp2_with fail
  refine(zag ⟨#[61]⟩ HF15.out.hR).mono ?_;rintro e W21 ⟨rfl,g21,r21⟩;obtain⟨t21,ht⟩:∃ t,takT ts ⟨#[61]⟩ s8=t:=⟨_,rfl⟩;obtain⟨s21,hs⟩:∃ s2,takS ts ⟨#[61]⟩ s8=s2:=⟨_,rfl⟩;rw[show takT ts ⟨#[61]⟩ ⟨s8.p,s8.bad⟩=t21 from ht];have q21:QdS T W21 g st cap ts s21:=hs ▸ r21;have HT21:Hid (LtQ s8 s21):=hid (hs ▸ zal _ _)
  try rw[ht] at HX
  try rw[hs] at HX
  have Hp22p:=hid (Hp14p.out.grow HF15.out.gB g21);have HF23:=hid (HF15.out.call g21 q21);clear ht hs r21 q21 g21 HF15 Hp14p
  go_wp2_with (fail)
  rcases hk24:d.row 1 s21 with _|⟨v24,s24⟩
  ·exact absurd HX.out (by rw[hk24];intro h;cases h)
  rw[hk24] at HX;simp only[Option.bind_some] at HX;have HFr2:=hid HF23.out;have hd24:Below W21.heap.size W21 W21.drew:=(Below.refl _ _).drew;have HD24:=hid (HF23.out.low hd24);have HE24:=hid (Hp22p.out.below hd24);have HK24:=hid (fun (h:QdS T W21.drew g st cap ts s21)=>(fun hk=>HE.out W21.drew _ _ hk h) hk24);clear hk24 hd24 HF23 Hp22p;have c824:W21.drew.cell? ⟨W1.heap.size,8,none⟩=some (.slice (some ⟨W8.heap.size,0,none⟩) 1 1):=(cell_of_row _ _ 8 _ _ _ HE24.out.row).trans rfl;apply zby (fun y0 y1 y2 y3 y4 y5 y6 y7 y8 y9 Wy sp sn sc Wz=>Fr T w W0 Wz g st cap ts s24∧Qk W0.heap.size (w.heap.size) Wz (W1.heap.size) 4 v1.x 0 v1.a v1.f 0 v1.bg (.slice sp sn sc) ([v8.pt]++[v24.pt])∧W21.drew.grownBy Wy (some g)∧((w.heap.size)≠W1.heap.size->Wz.heap[w.heap.size]?=Wy.heap[w.heap.size]?)∧Wy.heap.size<=Wz.heap.size)
  rotate_left
  ·intro hc;refine zbg (S:=fun _=>Hid True) 8 rfl (by kernel_rfl) ?_;refine zao 0 14 (.pointer (some ⟨W1.heap.size,8,none⟩)) rfl (by kernel_rfl) (by kernel_rfl) (by kernel_rfl) (fun _ _ _ h=>h) (fun w' _=>by first|rfl|(go_simp;done) | (go_simp;rw[IntKind.wrap_i64];omega)) (hid trivial) ?_;simp only[sI,sS,sZ];refine zao 2 16 (.pointer (some ⟨g,0,none⟩)) rfl (by kernel_rfl) (by kernel_rfl) (by kernel_rfl) (fun _ _ _ h=>h) (fun w' _=>by first|rfl|(go_simp;done) | (go_simp;rw[IntKind.wrap_i64];omega)) (hid trivial) ?_;simp only[sI,sS,sZ];refine wpAnyH_all (rs:=[1,3]) (by kernel_rfl) (by simp) fun i hi=>?_;simp only[List.mem_cons,List.not_mem_nil,or_false] at hi;rcases hi with rfl|rfl
   ·skip
    refine zam rfl rfl ?_
    go_simp
    refine⟨hid trivial,?_⟩;refine zac 3 rfl (by kernel_rfl) ?_
    go_simp
    refine(HK24.out HD24.out.hR).mono ?_;rintro e W24 ⟨⟨y0,y1,y2,y3,y4,y5,y6,y7,y8,y9⟩,rfl,q24,g24,r24⟩;obtain⟨c24,d24,v2,w1,Wz,ha,ce,cf,cw,f24,k24,z24,hsz⟩:=zbt HD24.out HE24.out (by simp) g24 r24 q24;obtain⟨sp2,sn2,sc2,hv2⟩:=k24.sl;subst hv2;have HFIN:=hid (hc y0 y1 y2 y3 y4 y5 y6 y7 y8 y9 W24 sp2 sn2 sc2 Wz ⟨f24,k24,g24,z24,hsz⟩)
    dsimp only[Qe.cells,paQ] at c24 d24 ha ce cf cw
    unfold Qe.cells paQ;clear f24 k24 z24 q24 g24 r24 hsz;refine⟨hid trivial,?_⟩;refine zac 4 rfl (by kernel_rfl) ?_
    go_simp
    refine⟨hid trivial,?_⟩;refine zac 5 rfl (by kernel_rfl) ?_;refine zak (.tmp 15) (.tmp 18) 61 rfl rfl rfl ha ?_;refine⟨hid trivial,?_⟩;simp only[Act.put,List.setIfInBounds_toArray,List.set_cons_succ,List.set_cons_zero];refine zao 6 20 (.pointer (some ⟨W1.heap.size,8,none⟩)) rfl (by kernel_rfl) (by kernel_rfl) (by kernel_rfl) (fun _ _ _ h=>h) (fun w' _=>by first|rfl|(go_simp;done) | (go_simp;rw[IntKind.wrap_i64];omega)) (hid trivial) ?_;simp only[sI,sS,sZ];refine zac 7 rfl (by kernel_rfl) ?_
    go_simp
    refine⟨hid trivial,?_⟩;refine wpAnyH_done (by kernel_rfl) ?_ _;exact HFIN.out
   ·skip
    refine zam rfl rfl ?_
    go_simp
    refine(HK24.out HD24.out.hR).mono ?_;rintro e W24 ⟨⟨y0,y1,y2,y3,y4,y5,y6,y7,y8,y9⟩,rfl,q24,g24,r24⟩;obtain⟨c24,d24,v2,w1,Wz,ha,ce,cf,cw,f24,k24,z24,hsz⟩:=zbt HD24.out HE24.out (by simp) g24 r24 q24;obtain⟨sp2,sn2,sc2,hv2⟩:=k24.sl;subst hv2;have HFIN:=hid (hc y0 y1 y2 y3 y4 y5 y6 y7 y8 y9 W24 sp2 sn2 sc2 Wz ⟨f24,k24,g24,z24,hsz⟩)
    dsimp only[Qe.cells,paQ] at c24 d24 ha ce cf cw
    unfold Qe.cells paQ;clear f24 k24 z24 q24 g24 r24 hsz;refine⟨hid trivial,?_⟩;refine wpAnyH_all (rs:=[1,4]) (by kernel_rfl) (by simp) fun i hi=>?_;simp only[List.mem_cons,List.not_mem_nil,or_false] at hi;rcases hi with rfl|rfl
    ·skip
     refine zam rfl rfl ?_
     go_simp
     refine⟨hid trivial,?_⟩;refine zac 4 rfl (by kernel_rfl) ?_
     go_simp
     refine⟨hid trivial,?_⟩;refine zac 5 rfl (by kernel_rfl) ?_;refine zak (.tmp 15) (.tmp 18) 61 rfl rfl rfl ha ?_;refine⟨hid trivial,?_⟩;simp only[Act.put,List.setIfInBounds_toArray,List.set_cons_succ,List.set_cons_zero];refine zao 6 20 (.pointer (some ⟨W1.heap.size,8,none⟩)) rfl (by kernel_rfl) (by kernel_rfl) (by kernel_rfl) (fun _ _ _ h=>h) (fun w' _=>by first|rfl|(go_simp;done) | (go_simp;rw[IntKind.wrap_i64];omega)) (hid trivial) ?_;simp only[sI,sS,sZ];refine zac 7 rfl (by kernel_rfl) ?_
     go_simp
     refine⟨hid trivial,?_⟩;refine wpAnyH_done (by kernel_rfl) ?_ _;exact HFIN.out
    ·skip
     refine zam rfl rfl ?_
     go_simp
     refine⟨hid trivial,?_⟩;refine zac 1 rfl (by kernel_rfl) ?_
     go_simp
     refine⟨hid trivial,?_⟩;refine zac 5 rfl (by kernel_rfl) ?_;refine zak (.tmp 15) (.tmp 18) 61 rfl rfl rfl ha ?_;refine⟨hid trivial,?_⟩;simp only[Act.put,List.setIfInBounds_toArray,List.set_cons_succ,List.set_cons_zero];refine zao 6 20 (.pointer (some ⟨W1.heap.size,8,none⟩)) rfl (by kernel_rfl) (by kernel_rfl) (by kernel_rfl) (fun _ _ _ h=>h) (fun w' _=>by first|rfl|(go_simp;done) | (go_simp;rw[IntKind.wrap_i64];omega)) (hid trivial) ?_;simp only[sI,sS,sZ];refine zac 7 rfl (by kernel_rfl) ?_
     go_simp
     refine⟨hid trivial,?_⟩;refine wpAnyH_done (by kernel_rfl) ?_ _;exact HFIN.out
  intro y0 y1 y2 y3 y4 y5 y6 y7 y8 y9 W24 sp25 sn25 sc25 W25 hF25;obtain⟨f25,k25,g25,z25,y25⟩:=hF25;have Hp25p:=hid k25;have HG25:=hid g25;have HZ25:=hid z25;have HF26:=hid (f25);clear f25 k25 g25 z25 HD24 HE24 c824 HK24 HFr2;obtain⟨r27a,r27b,r27c,r27d,r27e,r27f,r27g,r27h,r27i,r27z⟩:=row9 Hp25p.out.row
  go_wp2_with fail
  clear r27a r27b r27c r27d r27e r27f r27g r27h r27i r27z;obtain⟨sp28,ln28,cp28,hv28,hd28⟩:=za7 HF26.out Hp25p.out;injection hv28 with u1 u2 u3;subst u1 u2 u3;refine hd28.mono ?_;rintro e W28 ⟨e28,rfl,b28,f28,q28⟩;have HV28:=hid q28;have HF30:=hid (f28);clear hd28 b28 f28 q28 HF26 Hp25p;obtain⟨W31,hst31,hr31,hp31⟩:=za5 HF30.out (v:=(⟨4,v1.x,0,v1.a,v1.f,behI ts s24.p,v1.bg,([v8.pt]++[v24.pt])⟩:Qv)) ⟨HV28.out.is.keep (fun j hj=>⟨hj.1,hj.2.1⟩) fun _ _=>rfl,HV28.out.bg⟩;have HP:=hid hp31;have HRR:=hid hr31;clear hp31 hr31
  go_wp2
  have hx:=Option.some.inj HX.out;exact zan Tryz.results70 rfl HRR.out (hx ▸ HP.out)
end
section
variable {T:Nat}{w W0 W W':World}{g:Nat}{st:Option Addr}{cap:Nat}{ts:List Tok}{s s':Qs}
abbrev StQ (T:Nat) (g:Nat) (st:Option Addr) (cap:Nat) (ts:List Tok) (m:Nat):Prop:=∀ (w:World) s r,(dns ts m).stmt s=some r->QdS T w g st cap ts s->Calls Tryz.prog 129 #[.pointer (some ⟨g,0,none⟩)] w (QoP T w g st cap ts r)
theorem zkh {n:Nat}{r:Qv × Qs}(hS:∀ m,m<n->StQ T g st cap ts m)(hR:QdS T w g st cap ts s)(hX:bloD ts (dns ts n) s=some r):Calls Tryz.prog 100 #[.pointer (some ⟨g,0,none⟩)] w (QoP T w g st cap ts r):=by
 have HF:=hid (zb9 hR);have hfe:=hR.few;have hle:=hR.le;clear hR;have HS:=hid hS;clear hS;unfold bloD at hX
 dsimp only[tak] at hX
 have HX:=hid hX;clear hX
 go_enter Tryz.func100,Tryz.ntmps100
 go_wp2_with fail
 refine zaf (fun W=>Fr T w W W g st cap ts s) HF.out ?_;intro W0 hF;clear HF;have HF:=hid hF;clear hF;refine(zag ⟨#[123]⟩ HF.out.hR).mono ?_;rintro e W1 ⟨rfl,g1,r1⟩;obtain⟨t1,ht⟩:∃ t,takT ts ⟨#[123]⟩ s=t:=⟨_,rfl⟩;obtain⟨s1,hs⟩:∃ s2,takS ts ⟨#[123]⟩ s=s2:=⟨_,rfl⟩;rw[show takT ts ⟨#[123]⟩ ⟨s.p,s.bad⟩=t1 from ht];have q1:QdS T W1 g st cap ts s1:=hs ▸ r1;have HT1:Hid (LtQ s s1):=hid (hs ▸ zal _ _)
 try rw[ht] at HX
 try rw[hs] at HX
 have HF3:=hid (HF.out.call g1 q1);clear ht hs r1 q1 g1 HF
 go_wp2_with fail
 refine(zat 13 t1 ⟨#[]⟩ W1).mono ?_;rintro e W4 ⟨rfl,b4⟩;have HF6:=hid (HF3.out.low b4);clear b4 HF3;obtain⟨W7,hst7,b7,f7,l7⟩:=zc2 (z:=w.heap.size) HF6.out (zaa HF6.out.hZ) 13 t1 ⟨#[]⟩;have Hp7p:=hid l7;have hn7:=b7.size;have HF9:=hid (f7);clear b7 f7 l7 HF6
 go_wp2_with fail
 clear hst7;rcases hk10:(dns ts n).stmL [] s1 with _|⟨lf,sf⟩
 ·exact absurd HX.out (by rw[hk10];intro h;cases h)
 rw[hk10] at HX;simp only[Option.bind_some] at HX;have HRL:=hid hk10;have HO:=HX;clear HX hk10
 go_loopw [] (fun wr=>∃ (l:List Pt) (q:Qs) (v:Value) (m:Nat),Fr T w W0 wr g st cap ts q∧Qk W0.heap.size (w.heap.size) wr (W4.heap.size) 13 ⟨#[]⟩ 0 t1.pos t1.pos 0 t1.pos v l∧(dns ts m).stmL l q=some (lf,sf)∧m<=n∧Few l q) (fun wr=>muQ ts g wr)
 case atStart=>exact⟨_,_,_,_,HF9.out,Hp7p.out,HRL.out,Nat.le_refl _,⟨Nat.zero_le _,fun _=>Nat.zero_le _⟩⟩
 case round=>
  obtain⟨l,q,v,m,hF,hQ,hm,hmn,hfw⟩:=hrel;have HFr:=hid hF;have HQr:=hid hQ;have HFw:=hid hfw;have HMU:=hid (zc1 hF.hR);have hqle:q.p<=ts.length:=hF.hR.le;obtain⟨vsp,vsn,vsc,hv⟩:=hQ.sl;subst hv;clear hF hQ hfw HF9 Hp7p HRL
  cases m with
  | zero=>cases hm
  | succ m=>
  rw[zlw] at hm;have HX:=hid hm;clear hm;obtain⟨qb11,hqb11⟩:∃ b,q.bad=b:=⟨_,rfl⟩;have wc11:wr.cell? ⟨g,2,none⟩=some (.bool qb11):=hqb11 ▸ HFr.out.hR.c2;rw[hqb11] at HX;have HQB:=hid hqb11;clear hqb11
  cases qb11
  ·skip
   go_wp2_with fail
   clear wc11;refine(zar ⟨#[125]⟩ HFr.out.hR).mono ?_;rintro e W12 ⟨rfl,b12⟩;obtain⟨i12,hi⟩:∃ b,isQ ts q.p ⟨#[125]⟩=b:=⟨_,rfl⟩;rw[hi]
   try rw[hi] at HX
   have Hp13p:=hid (HQr.out.below b12);have HF14:=hid (HFr.out.low b12);clear hi b12 HFr HQr
   cases i12
   ·skip
    replace HX:=hid (if_t HX.out rfl)
    go_wp2_with (fail)
    rcases hk15:(dns ts m).stmt q with _|⟨v15,s15⟩
    ·exact absurd HX.out (by rw[hk15];intro h;cases h)
    rw[hk15] at HX;simp only[Option.bind_some] at HX;have HLT:=hid ((lst (ts:=ts) _).stmt _ _ _ hk15);have HFr2:=hid HF14.out;have hd15:Below W12.heap.size W12 W12.drew:=(Below.refl _ _).drew;have HD15:=hid (HF14.out.low hd15);have HE15:=hid (Hp13p.out.below hd15);have HK15:=hid (fun (h:QdS T W12.drew g st cap ts q)=>(fun hk=>HS.out m (by omega) W12.drew _ _ hk h) hk15);clear hk15 hd15 HF14 Hp13p;have c815:W12.drew.cell? ⟨W4.heap.size,8,none⟩=some (.slice vsp vsn vsc):=(cell_of_row _ _ 8 _ _ _ HE15.out.row).trans rfl;apply zby (fun y0 y1 y2 y3 y4 y5 y6 y7 y8 y9 Wy sp sn sc Wz=>Fr T w W0 Wz g st cap ts s15∧Qk W0.heap.size (w.heap.size) Wz (W4.heap.size) 13 ⟨#[]⟩ 0 t1.pos t1.pos 0 t1.pos (.slice sp sn sc) (l++[v15.pt])∧W12.drew.grownBy Wy (some g)∧((w.heap.size)≠W4.heap.size->Wz.heap[w.heap.size]?=Wy.heap[w.heap.size]?)∧Wy.heap.size<=Wz.heap.size)
    rotate_left
    ·intro hc;refine zbg (S:=fun _=>Hid True) 8 rfl (by kernel_rfl) ?_;refine zao 0 17 (.pointer (some ⟨W4.heap.size,8,none⟩)) rfl (by kernel_rfl) (by kernel_rfl) (by kernel_rfl) (fun _ _ _ h=>h) (fun w' _=>by first|rfl|(go_simp;done) | (go_simp;rw[IntKind.wrap_i64];omega)) (hid trivial) ?_;simp only[sI,sS,sZ];refine zao 2 19 (.pointer (some ⟨g,0,none⟩)) rfl (by kernel_rfl) (by kernel_rfl) (by kernel_rfl) (fun _ _ _ h=>h) (fun w' _=>by first|rfl|(go_simp;done) | (go_simp;rw[IntKind.wrap_i64];omega)) (hid trivial) ?_;simp only[sI,sS,sZ];refine wpAnyH_all (rs:=[1,3]) (by kernel_rfl) (by simp) fun i hi=>?_;simp only[List.mem_cons,List.not_mem_nil,or_false] at hi;rcases hi with rfl|rfl
     ·skip
      refine zam rfl rfl ?_
      go_simp
      refine⟨hid trivial,?_⟩;refine zac 3 rfl (by kernel_rfl) ?_
      go_simp
      refine(HK15.out HD15.out.hR).mono ?_;rintro e W15 ⟨⟨y0,y1,y2,y3,y4,y5,y6,y7,y8,y9⟩,rfl,q15,g15,r15⟩;obtain⟨c15,d15,v2,w1,Wz,ha,ce,cf,cw,f15,k15,z15,hsz⟩:=zbt HD15.out HE15.out ((Nat.le_trans (HFw.out.lt HFr2.out.hR) (by omega))) g15 r15 q15;obtain⟨sp2,sn2,sc2,hv2⟩:=k15.sl;subst hv2;have HFIN:=hid (hc y0 y1 y2 y3 y4 y5 y6 y7 y8 y9 W15 sp2 sn2 sc2 Wz ⟨f15,k15,g15,z15,hsz⟩)
      dsimp only[Qe.cells,paQ] at c15 d15 ha ce cf cw
      unfold Qe.cells paQ;clear f15 k15 z15 q15 g15 r15 hsz;refine⟨hid trivial,?_⟩;refine zac 4 rfl (by kernel_rfl) ?_
      go_simp
      refine⟨hid trivial,?_⟩;refine zac 5 rfl (by kernel_rfl) ?_;refine zak (.tmp 18) (.tmp 21) 61 rfl rfl rfl ha ?_;refine⟨hid trivial,?_⟩;simp only[Act.put,List.setIfInBounds_toArray,List.set_cons_succ,List.set_cons_zero];refine zao 6 23 (.pointer (some ⟨W4.heap.size,8,none⟩)) rfl (by kernel_rfl) (by kernel_rfl) (by kernel_rfl) (fun _ _ _ h=>h) (fun w' _=>by first|rfl|(go_simp;done) | (go_simp;rw[IntKind.wrap_i64];omega)) (hid trivial) ?_;simp only[sI,sS,sZ];refine zac 7 rfl (by kernel_rfl) ?_
      go_simp
      refine⟨hid trivial,?_⟩;refine wpAnyH_done (by kernel_rfl) ?_ _;exact HFIN.out
     ·skip
      refine zam rfl rfl ?_
      go_simp
      refine(HK15.out HD15.out.hR).mono ?_;rintro e W15 ⟨⟨y0,y1,y2,y3,y4,y5,y6,y7,y8,y9⟩,rfl,q15,g15,r15⟩;obtain⟨c15,d15,v2,w1,Wz,ha,ce,cf,cw,f15,k15,z15,hsz⟩:=zbt HD15.out HE15.out ((Nat.le_trans (HFw.out.lt HFr2.out.hR) (by omega))) g15 r15 q15;obtain⟨sp2,sn2,sc2,hv2⟩:=k15.sl;subst hv2;have HFIN:=hid (hc y0 y1 y2 y3 y4 y5 y6 y7 y8 y9 W15 sp2 sn2 sc2 Wz ⟨f15,k15,g15,z15,hsz⟩)
      dsimp only[Qe.cells,paQ] at c15 d15 ha ce cf cw
      unfold Qe.cells paQ;clear f15 k15 z15 q15 g15 r15 hsz;refine⟨hid trivial,?_⟩;refine wpAnyH_all (rs:=[1,4]) (by kernel_rfl) (by simp) fun i hi=>?_;simp only[List.mem_cons,List.not_mem_nil,or_false] at hi;rcases hi with rfl|rfl
      ·skip
       refine zam rfl rfl ?_
       go_simp
       refine⟨hid trivial,?_⟩;refine zac 4 rfl (by kernel_rfl) ?_
       go_simp
       refine⟨hid trivial,?_⟩;refine zac 5 rfl (by kernel_rfl) ?_;refine zak (.tmp 18) (.tmp 21) 61 rfl rfl rfl ha ?_;refine⟨hid trivial,?_⟩;simp only[Act.put,List.setIfInBounds_toArray,List.set_cons_succ,List.set_cons_zero];refine zao 6 23 (.pointer (some ⟨W4.heap.size,8,none⟩)) rfl (by kernel_rfl) (by kernel_rfl) (by kernel_rfl) (fun _ _ _ h=>h) (fun w' _=>by first|rfl|(go_simp;done) | (go_simp;rw[IntKind.wrap_i64];omega)) (hid trivial) ?_;simp only[sI,sS,sZ];refine zac 7 rfl (by kernel_rfl) ?_
       go_simp
       refine⟨hid trivial,?_⟩;refine wpAnyH_done (by kernel_rfl) ?_ _;exact HFIN.out
      ·skip
       refine zam rfl rfl ?_
       go_simp
       refine⟨hid trivial,?_⟩;refine zac 1 rfl (by kernel_rfl) ?_
       go_simp
       refine⟨hid trivial,?_⟩;refine zac 5 rfl (by kernel_rfl) ?_;refine zak (.tmp 18) (.tmp 21) 61 rfl rfl rfl ha ?_;refine⟨hid trivial,?_⟩;simp only[Act.put,List.setIfInBounds_toArray,List.set_cons_succ,List.set_cons_zero];refine zao 6 23 (.pointer (some ⟨W4.heap.size,8,none⟩)) rfl (by kernel_rfl) (by kernel_rfl) (by kernel_rfl) (fun _ _ _ h=>h) (fun w' _=>by first|rfl|(go_simp;done) | (go_simp;rw[IntKind.wrap_i64];omega)) (hid trivial) ?_;simp only[sI,sS,sZ];refine zac 7 rfl (by kernel_rfl) ?_
       go_simp
       refine⟨hid trivial,?_⟩;refine wpAnyH_done (by kernel_rfl) ?_ _;exact HFIN.out
    intro y0 y1 y2 y3 y4 y5 y6 y7 y8 y9 W15 sp16 sn16 sc16 W16 hF16;obtain⟨f16,k16,g16,z16,y16⟩:=hF16;have Hp16p:=hid k16;have HG16:=hid g16;have HZ16:=hid z16;have HF17:=hid (f16);clear f16 k16 g16 z16 HD15 HE15 c815 HK15 HFr2
    go_wp2_with fail
    refine(zar ⟨#[125]⟩ HF17.out.hR).mono ?_;rintro e W18 ⟨rfl,b18⟩;obtain⟨i18,hi⟩:∃ b,isQ ts s15.p ⟨#[125]⟩=b:=⟨_,rfl⟩;rw[hi]
    try rw[hi] at HX
    have Hp19p:=hid (Hp16p.out.below b18);have HF20:=hid (HF17.out.low b18);clear hi b18 HF17 Hp16p
    cases i18
    ·skip
     go_wp2_with fail
     refine(zag ⟨#[101,110,100]⟩ HF20.out.hR).mono ?_;rintro e W21 ⟨rfl,g21,r21⟩;obtain⟨t21,ht⟩:∃ t,takT ts ⟨#[101,110,100]⟩ s15=t:=⟨_,rfl⟩;obtain⟨s21,hs⟩:∃ s2,takS ts ⟨#[101,110,100]⟩ s15=s2:=⟨_,rfl⟩;rw[show takT ts ⟨#[101,110,100]⟩ ⟨s15.p,s15.bad⟩=t21 from ht];have q21:QdS T W21 g st cap ts s21:=hs ▸ r21;have HT21:Hid (LtQ s15 s21):=hid (hs ▸ zal _ _)
     try rw[ht] at HX
     try rw[hs] at HX
     have Hp22p:=hid (Hp19p.out.grow HF20.out.gB g21);have HF23:=hid (HF20.out.call g21 q21);clear ht hs r21 q21 g21 HF20 Hp19p;have HMV:=hid (zc1 HF23.out.hR)
     go_wp2
     go_round
     case rel=>exact⟨_,_,_,_,_,_,_,_,_,_,_,_,_,_,_,_,_,_,_,_,_,_,⟨_,_,_,m,HF23.out,Hp22p.out,HX.out,by omega,(HFw.out.more HQB.out HLT.out).le HT21.out.le⟩,rfl⟩
     case measure=>
      rw[HMV.out,HMU.out];exact zd3 HQB.out hqle HF23.out.hR.le (HLT.out.trans HT21.out.le)
    ·skip
     have HMV:=hid (zc1 HF20.out.hR)
     go_wp2
     go_round
     case rel=>exact⟨_,_,_,_,_,_,_,_,_,_,_,_,_,_,_,_,_,_,_,_,_,_,⟨_,_,_,m,HF20.out,Hp19p.out,HX.out,by omega,HFw.out.more HQB.out HLT.out⟩,rfl⟩
     case measure=>
      rw[HMV.out,HMU.out];exact zd3 HQB.out hqle HF20.out.hR.le (HLT.out)
   ·skip
    replace HX:=hid (if_f HX.out (fun h=>by cases h))
    have hO:=HO.out;obtain⟨rfl,rfl⟩:=Prod.mk.inj (Option.some.inj HX.out)
    replace HX:=hid hO
    clear hO HO
    go_wp2_with fail
    refine(zag ⟨#[125]⟩ HF14.out.hR).mono ?_;rintro e W24 ⟨rfl,g24,r24⟩;obtain⟨t24,ht⟩:∃ t,takT ts ⟨#[125]⟩ q=t:=⟨_,rfl⟩;obtain⟨s24,hs⟩:∃ s2,takS ts ⟨#[125]⟩ q=s2:=⟨_,rfl⟩;rw[show takT ts ⟨#[125]⟩ ⟨q.p,q.bad⟩=t24 from ht];have q24:QdS T W24 g st cap ts s24:=hs ▸ r24;have HT24:Hid (LtQ q s24):=hid (hs ▸ zal _ _)
    try rw[ht] at HX
    try rw[hs] at HX
    have Hp25p:=hid (Hp13p.out.grow HF14.out.gB g24);have HF26:=hid (HF14.out.call g24 q24);clear ht hs r24 q24 g24 HF14 Hp13p;obtain⟨r27a,r27b,r27c,r27d,r27e,r27f,r27g,r27h,r27i,r27z⟩:=row9 Hp25p.out.row
    go_wp2_with fail
    clear r27a r27b r27c r27d r27e r27f r27g r27h r27i r27z;obtain⟨sp28,ln28,cp28,hv28,hd28⟩:=za7 HF26.out Hp25p.out;injection hv28 with u1 u2 u3;subst u1 u2 u3;refine hd28.mono ?_;rintro e W28 ⟨e28,rfl,b28,f28,q28⟩;have HV28:=hid q28;have HF30:=hid (f28);clear hd28 b28 f28 q28 HF26 Hp25p;obtain⟨W31,hst31,hr31,hp31⟩:=za5 HF30.out (v:=(⟨13,⟨#[]⟩,0,t1.pos,t1.pos,behI ts s24.p,t1.pos,l⟩:Qv)) ⟨HV28.out.is.keep (fun j hj=>⟨hj.1,hj.2.1⟩) fun _ _=>rfl,HV28.out.bg⟩;have HP:=hid hp31;have HRR:=hid hr31;clear hp31 hr31
    go_wp2
    have hx:=Option.some.inj HX.out;exact zan Tryz.results100 rfl HRR.out (hx ▸ HP.out)
  ·skip
   replace HX:=hid (if_f HX.out (fun h=>by cases h))
   have hO:=HO.out;obtain⟨rfl,rfl⟩:=Prod.mk.inj (Option.some.inj HX.out)
   replace HX:=hid hO
   clear hO HO
   go_wp2_with fail
   clear wc11;refine(zag ⟨#[125]⟩ HFr.out.hR).mono ?_;rintro e W32 ⟨rfl,g32,r32⟩;obtain⟨t32,ht⟩:∃ t,takT ts ⟨#[125]⟩ q=t:=⟨_,rfl⟩;obtain⟨s32,hs⟩:∃ s2,takS ts ⟨#[125]⟩ q=s2:=⟨_,rfl⟩;rw[show takT ts ⟨#[125]⟩ ⟨q.p,q.bad⟩=t32 from ht];have q32:QdS T W32 g st cap ts s32:=hs ▸ r32;have HT32:Hid (LtQ q s32):=hid (hs ▸ zal _ _)
   try rw[ht] at HX
   try rw[hs] at HX
   have Hp33p:=hid (HQr.out.grow HFr.out.gB g32);have HF34:=hid (HFr.out.call g32 q32);clear ht hs r32 q32 g32 HFr HQr;obtain⟨r35a,r35b,r35c,r35d,r35e,r35f,r35g,r35h,r35i,r35z⟩:=row9 Hp33p.out.row
   go_wp2_with fail
   clear r35a r35b r35c r35d r35e r35f r35g r35h r35i r35z;obtain⟨sp36,ln36,cp36,hv36,hd36⟩:=za7 HF34.out Hp33p.out;injection hv36 with u1 u2 u3;subst u1 u2 u3;refine hd36.mono ?_;rintro e W36 ⟨e36,rfl,b36,f36,q36⟩;have HV36:=hid q36;have HF38:=hid (f36);clear hd36 b36 f36 q36 HF34 Hp33p;obtain⟨W39,hst39,hr39,hp39⟩:=za5 HF38.out (v:=(⟨13,⟨#[]⟩,0,t1.pos,t1.pos,behI ts s32.p,t1.pos,l⟩:Qv)) ⟨HV36.out.is.keep (fun j hj=>⟨hj.1,hj.2.1⟩) fun _ _=>rfl,HV36.out.bg⟩;have HP:=hid hp39;have HRR:=hid hr39;clear hp39 hr39
   go_wp2
   have hx:=Option.some.inj HX.out;exact zan Tryz.results100 rfl HRR.out (hx ▸ HP.out)
end
end Go.Proofs.YtmclgbkijeidaaaGreatDoor
