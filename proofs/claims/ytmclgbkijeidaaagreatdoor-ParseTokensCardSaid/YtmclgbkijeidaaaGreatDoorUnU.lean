import Derived.Test.YtmclgbkijeidaaaGreatDoorUnT
namespace Go.Proofs.YtmclgbkijeidaaaGreatDoor
set_option maxRecDepth 100000
set_option maxHeartbeats 4000000
open Go.RowKit
section
variable {T:Nat}{w W0 W W':World}{g:Nat}{st:Option Addr}{cap:Nat}{ts:List Tok}{s s':Qs}
abbrev BlQ (T:Nat) (g:Nat) (st:Option Addr) (cap:Nat) (ts:List Tok) (m:Nat):Prop:=∀ (w:World) s r,bloD ts (dns ts m) s=some r->QdS T w g st cap ts s->Calls Tryz.prog 100 #[.pointer (some ⟨g,0,none⟩)] w (QoP T w g st cap ts r)
abbrev BrQ (T:Nat) (g:Nat) (st:Option Addr) (cap:Nat) (ts:List Tok) (m:Nat):Prop:=∀ (w:World) s r,(dns ts m).bran s=some r->QdS T w g st cap ts s->Calls Tryz.prog 151 #[.pointer (some ⟨g,0,none⟩)] w (QoP T w g st cap ts r)
abbrev RwQ (T:Nat) (g:Nat) (st:Option Addr) (cap:Nat) (ts:List Tok) (m:Nat):Prop:=∀ (w:World) s r (k:Nat) (kk:Int),kk=k->1<=k->k<=6->(dns ts m).row k s=some r->QdS T w g st cap ts s->Calls Tryz.prog 128 #[.pointer (some ⟨g,0,none⟩),.int .i64 kk] w (QoP T w g st cap ts r)
theorem zjz {m:Nat}{r:Qv × Qs}(hE:ExQ T g st cap ts (dns ts m))(hB:BlQ T g st cap ts m)(hC:BrQ T g st cap ts m)(hR:QdS T w g st cap ts s)(hX:(dns ts (m+1)).bran s=some r):Calls Tryz.prog 151 #[.pointer (some ⟨g,0,none⟩)] w (QoP T w g st cap ts r):=by
 have HF:=hid (zb9 hR);have hfe:=hR.few;have hle:=hR.le;clear hR;have HE:=hid hE;have HB:=hid hB;have HC:=hid hC;clear hE hB hC;rw[zl0] at hX;have HX:=hid hX;clear hX
 go_enter Tryz.func151,Tryz.ntmps151
 go_wp2_with fail
 refine zaf (fun W=>Fr T w W W g st cap ts s) HF.out ?_;intro W0 hF;clear HF;have HF:=hid hF;clear hF;refine(zag ⟨#[105,102]⟩ HF.out.hR).mono ?_;rintro e W1 ⟨rfl,g1,r1⟩;obtain⟨t1,ht⟩:∃ t,takT ts ⟨#[105,102]⟩ s=t:=⟨_,rfl⟩;obtain⟨s1,hs⟩:∃ s2,takS ts ⟨#[105,102]⟩ s=s2:=⟨_,rfl⟩;rw[show takT ts ⟨#[105,102]⟩ ⟨s.p,s.bad⟩=t1 from ht];have q1:QdS T W1 g st cap ts s1:=hs ▸ r1;have HT1:Hid (LtQ s s1):=hid (hs ▸ zal _ _)
 try rw[ht] at HX
 try rw[hs] at HX
 have HF3:=hid (HF.out.call g1 q1);clear ht hs r1 q1 g1 HF
 go_wp2_with fail
 refine(zat 14 t1 ⟨#[]⟩ W1).mono ?_;rintro e W4 ⟨rfl,b4⟩;have HF6:=hid (HF3.out.low b4);clear b4 HF3;obtain⟨W7,hst7,b7,f7,l7⟩:=zc2 (z:=w.heap.size) HF6.out (zaa HF6.out.hZ) 14 t1 ⟨#[]⟩;have Hp7p:=hid l7;have hn7:=b7.size;have HF9:=hid (f7);clear b7 f7 l7 HF6
 go_wp2_with (fail)
 clear hst7;rcases hk10:(dns ts m).row 1 s1 with _|⟨v10,s10⟩
 ·exact absurd HX.out (by rw[hk10];intro h;cases h)
 rw[hk10] at HX;simp only[Option.bind_some] at HX;have HFr2:=hid HF9.out;have hd10:Below W7.heap.size W7 W7.drew:=(Below.refl _ _).drew;have HD10:=hid (HF9.out.low hd10);have HE10:=hid (Hp7p.out.below hd10);have HK10:=hid (fun (h:QdS T W7.drew g st cap ts s1)=>(fun hk=>HE.out W7.drew _ _ hk h) hk10);clear hk10 hd10 HF9 Hp7p;have c810:W7.drew.cell? ⟨W4.heap.size,8,none⟩=some (.slice none 0 0):=(cell_of_row _ _ 8 _ _ _ HE10.out.row).trans rfl;apply zby (fun y0 y1 y2 y3 y4 y5 y6 y7 y8 y9 Wy sp sn sc Wz=>Fr T w W0 Wz g st cap ts s10∧Qk W0.heap.size (w.heap.size) Wz (W4.heap.size) 14 ⟨#[]⟩ 0 t1.pos t1.pos 0 t1.pos (.slice sp sn sc) ([]++[v10.pt])∧W7.drew.grownBy Wy (some g)∧((w.heap.size)≠W4.heap.size->Wz.heap[w.heap.size]?=Wy.heap[w.heap.size]?)∧Wy.heap.size<=Wz.heap.size)
 rotate_left
 ·intro hc;refine zbg (S:=fun _=>Hid True) 8 rfl (by kernel_rfl) ?_;refine zao 0 7 (.pointer (some ⟨W4.heap.size,8,none⟩)) rfl (by kernel_rfl) (by kernel_rfl) (by kernel_rfl) (fun _ _ _ h=>h) (fun w' _=>by first|rfl|(go_simp;done) | (go_simp;rw[IntKind.wrap_i64];omega)) (hid trivial) ?_;simp only[sI,sS,sZ];refine zao 2 9 (.pointer (some ⟨g,0,none⟩)) rfl (by kernel_rfl) (by kernel_rfl) (by kernel_rfl) (fun _ _ _ h=>h) (fun w' _=>by first|rfl|(go_simp;done) | (go_simp;rw[IntKind.wrap_i64];omega)) (hid trivial) ?_;simp only[sI,sS,sZ];refine wpAnyH_all (rs:=[1,3]) (by kernel_rfl) (by simp) fun i hi=>?_;simp only[List.mem_cons,List.not_mem_nil,or_false] at hi;rcases hi with rfl|rfl
  ·skip
   refine zam rfl rfl ?_
   go_simp
   refine⟨hid trivial,?_⟩;refine zac 3 rfl (by kernel_rfl) ?_
   go_simp
   refine(HK10.out HD10.out.hR).mono ?_;rintro e W10 ⟨⟨y0,y1,y2,y3,y4,y5,y6,y7,y8,y9⟩,rfl,q10,g10,r10⟩;obtain⟨c10,d10,v2,w1,Wz,ha,ce,cf,cw,f10,k10,z10,hsz⟩:=zbt HD10.out HE10.out (by simp) g10 r10 q10;obtain⟨sp2,sn2,sc2,hv2⟩:=k10.sl;subst hv2;have HFIN:=hid (hc y0 y1 y2 y3 y4 y5 y6 y7 y8 y9 W10 sp2 sn2 sc2 Wz ⟨f10,k10,g10,z10,hsz⟩)
   dsimp only[Qe.cells,paQ] at c10 d10 ha ce cf cw
   unfold Qe.cells paQ;clear f10 k10 z10 q10 g10 r10 hsz;refine⟨hid trivial,?_⟩;refine zac 4 rfl (by kernel_rfl) ?_
   go_simp
   refine⟨hid trivial,?_⟩;refine zac 5 rfl (by kernel_rfl) ?_;refine zak (.tmp 8) (.tmp 11) 61 rfl rfl rfl ha ?_;refine⟨hid trivial,?_⟩;simp only[Act.put,List.setIfInBounds_toArray,List.set_cons_succ,List.set_cons_zero];refine zao 6 13 (.pointer (some ⟨W4.heap.size,8,none⟩)) rfl (by kernel_rfl) (by kernel_rfl) (by kernel_rfl) (fun _ _ _ h=>h) (fun w' _=>by first|rfl|(go_simp;done) | (go_simp;rw[IntKind.wrap_i64];omega)) (hid trivial) ?_;simp only[sI,sS,sZ];refine zac 7 rfl (by kernel_rfl) ?_
   go_simp
   refine⟨hid trivial,?_⟩;refine wpAnyH_done (by kernel_rfl) ?_ _;exact HFIN.out
  ·skip
   refine zam rfl rfl ?_
   go_simp
   refine(HK10.out HD10.out.hR).mono ?_;rintro e W10 ⟨⟨y0,y1,y2,y3,y4,y5,y6,y7,y8,y9⟩,rfl,q10,g10,r10⟩;obtain⟨c10,d10,v2,w1,Wz,ha,ce,cf,cw,f10,k10,z10,hsz⟩:=zbt HD10.out HE10.out (by simp) g10 r10 q10;obtain⟨sp2,sn2,sc2,hv2⟩:=k10.sl;subst hv2;have HFIN:=hid (hc y0 y1 y2 y3 y4 y5 y6 y7 y8 y9 W10 sp2 sn2 sc2 Wz ⟨f10,k10,g10,z10,hsz⟩)
   dsimp only[Qe.cells,paQ] at c10 d10 ha ce cf cw
   unfold Qe.cells paQ;clear f10 k10 z10 q10 g10 r10 hsz;refine⟨hid trivial,?_⟩;refine wpAnyH_all (rs:=[1,4]) (by kernel_rfl) (by simp) fun i hi=>?_;simp only[List.mem_cons,List.not_mem_nil,or_false] at hi;rcases hi with rfl|rfl
   ·skip
    refine zam rfl rfl ?_
    go_simp
    refine⟨hid trivial,?_⟩;refine zac 4 rfl (by kernel_rfl) ?_
    go_simp
    refine⟨hid trivial,?_⟩;refine zac 5 rfl (by kernel_rfl) ?_;refine zak (.tmp 8) (.tmp 11) 61 rfl rfl rfl ha ?_;refine⟨hid trivial,?_⟩;simp only[Act.put,List.setIfInBounds_toArray,List.set_cons_succ,List.set_cons_zero];refine zao 6 13 (.pointer (some ⟨W4.heap.size,8,none⟩)) rfl (by kernel_rfl) (by kernel_rfl) (by kernel_rfl) (fun _ _ _ h=>h) (fun w' _=>by first|rfl|(go_simp;done) | (go_simp;rw[IntKind.wrap_i64];omega)) (hid trivial) ?_;simp only[sI,sS,sZ];refine zac 7 rfl (by kernel_rfl) ?_
    go_simp
    refine⟨hid trivial,?_⟩;refine wpAnyH_done (by kernel_rfl) ?_ _;exact HFIN.out
   ·skip
    refine zam rfl rfl ?_
    go_simp
    refine⟨hid trivial,?_⟩;refine zac 1 rfl (by kernel_rfl) ?_
    go_simp
    refine⟨hid trivial,?_⟩;refine zac 5 rfl (by kernel_rfl) ?_;refine zak (.tmp 8) (.tmp 11) 61 rfl rfl rfl ha ?_;refine⟨hid trivial,?_⟩;simp only[Act.put,List.setIfInBounds_toArray,List.set_cons_succ,List.set_cons_zero];refine zao 6 13 (.pointer (some ⟨W4.heap.size,8,none⟩)) rfl (by kernel_rfl) (by kernel_rfl) (by kernel_rfl) (fun _ _ _ h=>h) (fun w' _=>by first|rfl|(go_simp;done) | (go_simp;rw[IntKind.wrap_i64];omega)) (hid trivial) ?_;simp only[sI,sS,sZ];refine zac 7 rfl (by kernel_rfl) ?_
    go_simp
    refine⟨hid trivial,?_⟩;refine wpAnyH_done (by kernel_rfl) ?_ _;exact HFIN.out
 intro y0 y1 y2 y3 y4 y5 y6 y7 y8 y9 W10 sp11 sn11 sc11 W11 hF11;obtain⟨f11,k11,g11,z11,y11⟩:=hF11;have Hp11p:=hid k11;have HG11:=hid g11;have HZ11:=hid z11;have HF12:=hid (f11);clear f11 k11 g11 z11 HD10 HE10 c810 HK10 HFr2
 go_wp2_with (fail)
 rcases hk13:bloD ts (dns ts m) s10 with _|⟨v13,s13⟩
 ·exact absurd HX.out (by rw[hk13];intro h;cases h)
 rw[hk13] at HX;simp only[Option.bind_some] at HX;have HFr2:=hid HF12.out;have hd13:Below W11.heap.size W11 W11.drew:=(Below.refl _ _).drew;have HD13:=hid (HF12.out.low hd13);have HE13:=hid (Hp11p.out.below hd13);have HK13:=hid (fun (h:QdS T W11.drew g st cap ts s10)=>(fun hk=>HB.out W11.drew _ _ hk h) hk13);clear hk13 hd13 HF12 Hp11p;have c813:W11.drew.cell? ⟨W4.heap.size,8,none⟩=some (.slice sp11 sn11 sc11):=(cell_of_row _ _ 8 _ _ _ HE13.out.row).trans rfl;apply zby (fun y0 y1 y2 y3 y4 y5 y6 y7 y8 y9 Wy sp sn sc Wz=>Fr T w W0 Wz g st cap ts s13∧Qk W0.heap.size (w.heap.size) Wz (W4.heap.size) 14 ⟨#[]⟩ 0 t1.pos t1.pos 0 t1.pos (.slice sp sn sc) (([]++[v10.pt])++[v13.pt])∧W11.drew.grownBy Wy (some g)∧((w.heap.size)≠W4.heap.size->Wz.heap[w.heap.size]?=Wy.heap[w.heap.size]?)∧Wy.heap.size<=Wz.heap.size)
 rotate_left
 ·intro hc;refine zbg (S:=fun _=>Hid True) 8 rfl (by kernel_rfl) ?_;refine zao 0 14 (.pointer (some ⟨W4.heap.size,8,none⟩)) rfl (by kernel_rfl) (by kernel_rfl) (by kernel_rfl) (fun _ _ _ h=>h) (fun w' _=>by first|rfl|(go_simp;done) | (go_simp;rw[IntKind.wrap_i64];omega)) (hid trivial) ?_;simp only[sI,sS,sZ];refine zao 2 16 (.pointer (some ⟨g,0,none⟩)) rfl (by kernel_rfl) (by kernel_rfl) (by kernel_rfl) (fun _ _ _ h=>h) (fun w' _=>by first|rfl|(go_simp;done) | (go_simp;rw[IntKind.wrap_i64];omega)) (hid trivial) ?_;simp only[sI,sS,sZ];refine wpAnyH_all (rs:=[1,3]) (by kernel_rfl) (by simp) fun i hi=>?_;simp only[List.mem_cons,List.not_mem_nil,or_false] at hi;rcases hi with rfl|rfl
  ·skip
   refine zam rfl rfl ?_
   go_simp
   refine⟨hid trivial,?_⟩;refine zac 3 rfl (by kernel_rfl) ?_
   go_simp
   refine(HK13.out HD13.out.hR).mono ?_;rintro e W13 ⟨⟨y0,y1,y2,y3,y4,y5,y6,y7,y8,y9⟩,rfl,q13,g13,r13⟩;obtain⟨c13,d13,v2,w1,Wz,ha,ce,cf,cw,f13,k13,z13,hsz⟩:=zbt HD13.out HE13.out (by simp) g13 r13 q13;obtain⟨sp2,sn2,sc2,hv2⟩:=k13.sl;subst hv2;have HFIN:=hid (hc y0 y1 y2 y3 y4 y5 y6 y7 y8 y9 W13 sp2 sn2 sc2 Wz ⟨f13,k13,g13,z13,hsz⟩)
   dsimp only[Qe.cells,paQ] at c13 d13 ha ce cf cw
   unfold Qe.cells paQ;clear f13 k13 z13 q13 g13 r13 hsz;refine⟨hid trivial,?_⟩;refine zac 4 rfl (by kernel_rfl) ?_
   go_simp
   refine⟨hid trivial,?_⟩;refine zac 5 rfl (by kernel_rfl) ?_;refine zak (.tmp 15) (.tmp 18) 61 rfl rfl rfl ha ?_;refine⟨hid trivial,?_⟩;simp only[Act.put,List.setIfInBounds_toArray,List.set_cons_succ,List.set_cons_zero];refine zao 6 20 (.pointer (some ⟨W4.heap.size,8,none⟩)) rfl (by kernel_rfl) (by kernel_rfl) (by kernel_rfl) (fun _ _ _ h=>h) (fun w' _=>by first|rfl|(go_simp;done) | (go_simp;rw[IntKind.wrap_i64];omega)) (hid trivial) ?_;simp only[sI,sS,sZ];refine zac 7 rfl (by kernel_rfl) ?_
   go_simp
   refine⟨hid trivial,?_⟩;refine wpAnyH_done (by kernel_rfl) ?_ _;exact HFIN.out
  ·skip
   refine zam rfl rfl ?_
   go_simp
   refine(HK13.out HD13.out.hR).mono ?_;rintro e W13 ⟨⟨y0,y1,y2,y3,y4,y5,y6,y7,y8,y9⟩,rfl,q13,g13,r13⟩;obtain⟨c13,d13,v2,w1,Wz,ha,ce,cf,cw,f13,k13,z13,hsz⟩:=zbt HD13.out HE13.out (by simp) g13 r13 q13;obtain⟨sp2,sn2,sc2,hv2⟩:=k13.sl;subst hv2;have HFIN:=hid (hc y0 y1 y2 y3 y4 y5 y6 y7 y8 y9 W13 sp2 sn2 sc2 Wz ⟨f13,k13,g13,z13,hsz⟩)
   dsimp only[Qe.cells,paQ] at c13 d13 ha ce cf cw
   unfold Qe.cells paQ;clear f13 k13 z13 q13 g13 r13 hsz;refine⟨hid trivial,?_⟩;refine wpAnyH_all (rs:=[1,4]) (by kernel_rfl) (by simp) fun i hi=>?_;simp only[List.mem_cons,List.not_mem_nil,or_false] at hi;rcases hi with rfl|rfl
   ·skip
    refine zam rfl rfl ?_
    go_simp
    refine⟨hid trivial,?_⟩;refine zac 4 rfl (by kernel_rfl) ?_
    go_simp
    refine⟨hid trivial,?_⟩;refine zac 5 rfl (by kernel_rfl) ?_;refine zak (.tmp 15) (.tmp 18) 61 rfl rfl rfl ha ?_;refine⟨hid trivial,?_⟩;simp only[Act.put,List.setIfInBounds_toArray,List.set_cons_succ,List.set_cons_zero];refine zao 6 20 (.pointer (some ⟨W4.heap.size,8,none⟩)) rfl (by kernel_rfl) (by kernel_rfl) (by kernel_rfl) (fun _ _ _ h=>h) (fun w' _=>by first|rfl|(go_simp;done) | (go_simp;rw[IntKind.wrap_i64];omega)) (hid trivial) ?_;simp only[sI,sS,sZ];refine zac 7 rfl (by kernel_rfl) ?_
    go_simp
    refine⟨hid trivial,?_⟩;refine wpAnyH_done (by kernel_rfl) ?_ _;exact HFIN.out
   ·skip
    refine zam rfl rfl ?_
    go_simp
    refine⟨hid trivial,?_⟩;refine zac 1 rfl (by kernel_rfl) ?_
    go_simp
    refine⟨hid trivial,?_⟩;refine zac 5 rfl (by kernel_rfl) ?_;refine zak (.tmp 15) (.tmp 18) 61 rfl rfl rfl ha ?_;refine⟨hid trivial,?_⟩;simp only[Act.put,List.setIfInBounds_toArray,List.set_cons_succ,List.set_cons_zero];refine zao 6 20 (.pointer (some ⟨W4.heap.size,8,none⟩)) rfl (by kernel_rfl) (by kernel_rfl) (by kernel_rfl) (fun _ _ _ h=>h) (fun w' _=>by first|rfl|(go_simp;done) | (go_simp;rw[IntKind.wrap_i64];omega)) (hid trivial) ?_;simp only[sI,sS,sZ];refine zac 7 rfl (by kernel_rfl) ?_
    go_simp
    refine⟨hid trivial,?_⟩;refine wpAnyH_done (by kernel_rfl) ?_ _;exact HFIN.out
 intro y0 y1 y2 y3 y4 y5 y6 y7 y8 y9 W13 sp14 sn14 sc14 W14 hF14;obtain⟨f14,k14,g14,z14,y14⟩:=hF14;have Hp14p:=hid k14;have HG14:=hid g14;have HZ14:=hid z14;have HF15:=hid (f14);clear f14 k14 g14 z14 HD13 HE13 c813 HK13 HFr2
 go_wp2_with fail
 refine(zar ⟨#[101,108,115,101]⟩ HF15.out.hR).mono ?_;rintro e W16 ⟨rfl,b16⟩;obtain⟨i16,hi⟩:∃ b,isQ ts s13.p ⟨#[101,108,115,101]⟩=b:=⟨_,rfl⟩;rw[hi]
 try rw[hi] at HX
 have Hp17p:=hid (Hp14p.out.below b16);have HF18:=hid (HF15.out.low b16);clear hi b16 HF15 Hp14p
 cases i16
 ·skip
  replace HX:=hid (if_f HX.out (fun h=>by cases h))
  obtain⟨r19a,r19b,r19c,r19d,r19e,r19f,r19g,r19h,r19i,r19z⟩:=row9 Hp17p.out.row
  go_wp2_with fail
  clear r19a r19b r19c r19d r19e r19f r19g r19h r19i r19z;obtain⟨sp20,ln20,cp20,hv20,hd20⟩:=za7 HF18.out Hp17p.out;injection hv20 with u1 u2 u3;subst u1 u2 u3;refine hd20.mono ?_;rintro e W20 ⟨e20,rfl,b20,f20,q20⟩;have HV20:=hid q20;have HF22:=hid (f20);clear hd20 b20 f20 q20 HF18 Hp17p;obtain⟨W23,hst23,hr23,hp23⟩:=za5 HF22.out (v:=(⟨14,⟨#[]⟩,0,t1.pos,t1.pos,behI ts s13.p,t1.pos,(([]++[v10.pt])++[v13.pt])⟩:Qv)) ⟨HV20.out.is.keep (fun j hj=>⟨hj.1,hj.2.1⟩) fun _ _=>rfl,HV20.out.bg⟩;have HP:=hid hp23;have HRR:=hid hr23;clear hp23 hr23
  go_wp2
  have hx:=Option.some.inj HX.out;exact zan Tryz.results151 rfl HRR.out (hx ▸ HP.out)
 ·skip
  replace HX:=hid (if_t HX.out rfl)
  go_wp2_with fail
  refine(zag ⟨#[101,108,115,101]⟩ HF18.out.hR).mono ?_;rintro e W24 ⟨rfl,g24,r24⟩;obtain⟨t24,ht⟩:∃ t,takT ts ⟨#[101,108,115,101]⟩ s13=t:=⟨_,rfl⟩;obtain⟨s24,hs⟩:∃ s2,takS ts ⟨#[101,108,115,101]⟩ s13=s2:=⟨_,rfl⟩;rw[show takT ts ⟨#[101,108,115,101]⟩ ⟨s13.p,s13.bad⟩=t24 from ht];have q24:QdS T W24 g st cap ts s24:=hs ▸ r24;have HT24:Hid (LtQ s13 s24):=hid (hs ▸ zal _ _)
  try rw[ht] at HX
  try rw[hs] at HX
  have Hp25p:=hid (Hp17p.out.grow HF18.out.gB g24);have HF26:=hid (HF18.out.call g24 q24);clear ht hs r24 q24 g24 HF18 Hp17p
  go_wp2_with fail
  refine(zar ⟨#[105,102]⟩ HF26.out.hR).mono ?_;rintro e W27 ⟨rfl,b27⟩;obtain⟨i27,hi⟩:∃ b,isQ ts s24.p ⟨#[105,102]⟩=b:=⟨_,rfl⟩;rw[hi]
  try rw[hi] at HX
  have Hp28p:=hid (Hp25p.out.below b27);have HF29:=hid (HF26.out.low b27);clear hi b27 HF26 Hp25p
  cases i27
  ·skip
   replace HX:=hid (zsv HX.out (fun h=>by cases h))
   go_wp2_with (fail)
   rcases hk30:bloD ts (dns ts m) s24 with _|⟨v30,s30⟩
   ·exact absurd HX.out (by rw[hk30];intro h;cases h)
   rw[hk30] at HX;simp only[Option.bind_some] at HX;have HFr2:=hid HF29.out;have hd30:Below W27.heap.size W27 W27.drew:=(Below.refl _ _).drew;have HD30:=hid (HF29.out.low hd30);have HE30:=hid (Hp28p.out.below hd30);have HK30:=hid (fun (h:QdS T W27.drew g st cap ts s24)=>(fun hk=>HB.out W27.drew _ _ hk h) hk30);clear hk30 hd30 HF29 Hp28p;have c830:W27.drew.cell? ⟨W4.heap.size,8,none⟩=some (.slice sp14 sn14 sc14):=(cell_of_row _ _ 8 _ _ _ HE30.out.row).trans rfl;apply zby (fun y0 y1 y2 y3 y4 y5 y6 y7 y8 y9 Wy sp sn sc Wz=>Fr T w W0 Wz g st cap ts s30∧Qk W0.heap.size (w.heap.size) Wz (W4.heap.size) 14 ⟨#[]⟩ 0 t1.pos t1.pos 0 t1.pos (.slice sp sn sc) ((([]++[v10.pt])++[v13.pt])++[v30.pt])∧W27.drew.grownBy Wy (some g)∧((w.heap.size)≠W4.heap.size->Wz.heap[w.heap.size]?=Wy.heap[w.heap.size]?)∧Wy.heap.size<=Wz.heap.size)
   rotate_left
   ·intro hc;refine zbg (S:=fun _=>Hid True) 8 rfl (by kernel_rfl) ?_;refine zao 0 34 (.pointer (some ⟨W4.heap.size,8,none⟩)) rfl (by kernel_rfl) (by kernel_rfl) (by kernel_rfl) (fun _ _ _ h=>h) (fun w' _=>by first|rfl|(go_simp;done) | (go_simp;rw[IntKind.wrap_i64];omega)) (hid trivial) ?_;simp only[sI,sS,sZ];refine zao 2 36 (.pointer (some ⟨g,0,none⟩)) rfl (by kernel_rfl) (by kernel_rfl) (by kernel_rfl) (fun _ _ _ h=>h) (fun w' _=>by first|rfl|(go_simp;done) | (go_simp;rw[IntKind.wrap_i64];omega)) (hid trivial) ?_;simp only[sI,sS,sZ];refine wpAnyH_all (rs:=[1,3]) (by kernel_rfl) (by simp) fun i hi=>?_;simp only[List.mem_cons,List.not_mem_nil,or_false] at hi;rcases hi with rfl|rfl
    ·skip
     refine zam rfl rfl ?_
     go_simp
     refine⟨hid trivial,?_⟩;refine zac 3 rfl (by kernel_rfl) ?_
     go_simp
     refine(HK30.out HD30.out.hR).mono ?_;rintro e W30 ⟨⟨y0,y1,y2,y3,y4,y5,y6,y7,y8,y9⟩,rfl,q30,g30,r30⟩;obtain⟨c30,d30,v2,w1,Wz,ha,ce,cf,cw,f30,k30,z30,hsz⟩:=zbt HD30.out HE30.out (by simp) g30 r30 q30;obtain⟨sp2,sn2,sc2,hv2⟩:=k30.sl;subst hv2;have HFIN:=hid (hc y0 y1 y2 y3 y4 y5 y6 y7 y8 y9 W30 sp2 sn2 sc2 Wz ⟨f30,k30,g30,z30,hsz⟩)
     dsimp only[Qe.cells,paQ] at c30 d30 ha ce cf cw
     unfold Qe.cells paQ;clear f30 k30 z30 q30 g30 r30 hsz;refine⟨hid trivial,?_⟩;refine zac 4 rfl (by kernel_rfl) ?_
     go_simp
     refine⟨hid trivial,?_⟩;refine zac 5 rfl (by kernel_rfl) ?_;refine zak (.tmp 35) (.tmp 38) 61 rfl rfl rfl ha ?_;refine⟨hid trivial,?_⟩;simp only[Act.put,List.setIfInBounds_toArray,List.set_cons_succ,List.set_cons_zero];refine zao 6 40 (.pointer (some ⟨W4.heap.size,8,none⟩)) rfl (by kernel_rfl) (by kernel_rfl) (by kernel_rfl) (fun _ _ _ h=>h) (fun w' _=>by first|rfl|(go_simp;done) | (go_simp;rw[IntKind.wrap_i64];omega)) (hid trivial) ?_;simp only[sI,sS,sZ];refine zac 7 rfl (by kernel_rfl) ?_
     go_simp
     refine⟨hid trivial,?_⟩;refine wpAnyH_done (by kernel_rfl) ?_ _;exact HFIN.out
    ·skip
     refine zam rfl rfl ?_
     go_simp
     refine(HK30.out HD30.out.hR).mono ?_;rintro e W30 ⟨⟨y0,y1,y2,y3,y4,y5,y6,y7,y8,y9⟩,rfl,q30,g30,r30⟩;obtain⟨c30,d30,v2,w1,Wz,ha,ce,cf,cw,f30,k30,z30,hsz⟩:=zbt HD30.out HE30.out (by simp) g30 r30 q30;obtain⟨sp2,sn2,sc2,hv2⟩:=k30.sl;subst hv2;have HFIN:=hid (hc y0 y1 y2 y3 y4 y5 y6 y7 y8 y9 W30 sp2 sn2 sc2 Wz ⟨f30,k30,g30,z30,hsz⟩)
     dsimp only[Qe.cells,paQ] at c30 d30 ha ce cf cw
     unfold Qe.cells paQ;clear f30 k30 z30 q30 g30 r30 hsz;refine⟨hid trivial,?_⟩;refine wpAnyH_all (rs:=[1,4]) (by kernel_rfl) (by simp) fun i hi=>?_;simp only[List.mem_cons,List.not_mem_nil,or_false] at hi;rcases hi with rfl|rfl
     ·skip
      refine zam rfl rfl ?_
      go_simp
      refine⟨hid trivial,?_⟩;refine zac 4 rfl (by kernel_rfl) ?_
      go_simp
      refine⟨hid trivial,?_⟩;refine zac 5 rfl (by kernel_rfl) ?_;refine zak (.tmp 35) (.tmp 38) 61 rfl rfl rfl ha ?_;refine⟨hid trivial,?_⟩;simp only[Act.put,List.setIfInBounds_toArray,List.set_cons_succ,List.set_cons_zero];refine zao 6 40 (.pointer (some ⟨W4.heap.size,8,none⟩)) rfl (by kernel_rfl) (by kernel_rfl) (by kernel_rfl) (fun _ _ _ h=>h) (fun w' _=>by first|rfl|(go_simp;done) | (go_simp;rw[IntKind.wrap_i64];omega)) (hid trivial) ?_;simp only[sI,sS,sZ];refine zac 7 rfl (by kernel_rfl) ?_
      go_simp
      refine⟨hid trivial,?_⟩;refine wpAnyH_done (by kernel_rfl) ?_ _;exact HFIN.out
     ·skip
      refine zam rfl rfl ?_
      go_simp
      refine⟨hid trivial,?_⟩;refine zac 1 rfl (by kernel_rfl) ?_
      go_simp
      refine⟨hid trivial,?_⟩;refine zac 5 rfl (by kernel_rfl) ?_;refine zak (.tmp 35) (.tmp 38) 61 rfl rfl rfl ha ?_;refine⟨hid trivial,?_⟩;simp only[Act.put,List.setIfInBounds_toArray,List.set_cons_succ,List.set_cons_zero];refine zao 6 40 (.pointer (some ⟨W4.heap.size,8,none⟩)) rfl (by kernel_rfl) (by kernel_rfl) (by kernel_rfl) (fun _ _ _ h=>h) (fun w' _=>by first|rfl|(go_simp;done) | (go_simp;rw[IntKind.wrap_i64];omega)) (hid trivial) ?_;simp only[sI,sS,sZ];refine zac 7 rfl (by kernel_rfl) ?_
      go_simp
      refine⟨hid trivial,?_⟩;refine wpAnyH_done (by kernel_rfl) ?_ _;exact HFIN.out
   intro y0 y1 y2 y3 y4 y5 y6 y7 y8 y9 W30 sp31 sn31 sc31 W31 hF31;obtain⟨f31,k31,g31,z31,y31⟩:=hF31;have Hp31p:=hid k31;have HG31:=hid g31;have HZ31:=hid z31;have HF32:=hid (f31);clear f31 k31 g31 z31 HD30 HE30 c830 HK30 HFr2;obtain⟨r33a,r33b,r33c,r33d,r33e,r33f,r33g,r33h,r33i,r33z⟩:=row9 Hp31p.out.row
   go_wp2_with fail
   clear r33a r33b r33c r33d r33e r33f r33g r33h r33i r33z;obtain⟨sp34,ln34,cp34,hv34,hd34⟩:=za7 HF32.out Hp31p.out;injection hv34 with u1 u2 u3;subst u1 u2 u3;refine hd34.mono ?_;rintro e W34 ⟨e34,rfl,b34,f34,q34⟩;have HV34:=hid q34;have HF36:=hid (f34);clear hd34 b34 f34 q34 HF32 Hp31p;obtain⟨W37,hst37,hr37,hp37⟩:=za5 HF36.out (v:=(⟨14,⟨#[]⟩,0,t1.pos,t1.pos,behI ts s30.p,t1.pos,((([]++[v10.pt])++[v13.pt])++[v30.pt])⟩:Qv)) ⟨HV34.out.is.keep (fun j hj=>⟨hj.1,hj.2.1⟩) fun _ _=>rfl,HV34.out.bg⟩;have HP:=hid hp37;have HRR:=hid hr37;clear hp37 hr37
   go_wp2
   have hx:=Option.some.inj HX.out;exact zan Tryz.results151 rfl HRR.out (hx ▸ HP.out)
  ·skip
   replace HX:=hid (zsu HX.out rfl)
   go_wp2_with (fail)
   rcases hk38:(dns ts m).bran s24 with _|⟨v38,s38⟩
   ·exact absurd HX.out (by rw[hk38];intro h;cases h)
   rw[hk38] at HX;simp only[Option.bind_some] at HX;have HFr2:=hid HF29.out;have hd38:Below W27.heap.size W27 W27.drew:=(Below.refl _ _).drew;have HD38:=hid (HF29.out.low hd38);have HE38:=hid (Hp28p.out.below hd38);have HK38:=hid (fun (h:QdS T W27.drew g st cap ts s24)=>(fun hk=>HC.out W27.drew _ _ hk h) hk38);clear hk38 hd38 HF29 Hp28p;have c838:W27.drew.cell? ⟨W4.heap.size,8,none⟩=some (.slice sp14 sn14 sc14):=(cell_of_row _ _ 8 _ _ _ HE38.out.row).trans rfl;apply zby (fun y0 y1 y2 y3 y4 y5 y6 y7 y8 y9 Wy sp sn sc Wz=>Fr T w W0 Wz g st cap ts s38∧Qk W0.heap.size (w.heap.size) Wz (W4.heap.size) 14 ⟨#[]⟩ 0 t1.pos t1.pos 0 t1.pos (.slice sp sn sc) ((([]++[v10.pt])++[v13.pt])++[v38.pt])∧W27.drew.grownBy Wy (some g)∧((w.heap.size)≠W4.heap.size->Wz.heap[w.heap.size]?=Wy.heap[w.heap.size]?)∧Wy.heap.size<=Wz.heap.size)
   rotate_left
   ·intro hc;refine zbg (S:=fun _=>Hid True) 8 rfl (by kernel_rfl) ?_;refine zao 0 27 (.pointer (some ⟨W4.heap.size,8,none⟩)) rfl (by kernel_rfl) (by kernel_rfl) (by kernel_rfl) (fun _ _ _ h=>h) (fun w' _=>by first|rfl|(go_simp;done) | (go_simp;rw[IntKind.wrap_i64];omega)) (hid trivial) ?_;simp only[sI,sS,sZ];refine zao 2 29 (.pointer (some ⟨g,0,none⟩)) rfl (by kernel_rfl) (by kernel_rfl) (by kernel_rfl) (fun _ _ _ h=>h) (fun w' _=>by first|rfl|(go_simp;done) | (go_simp;rw[IntKind.wrap_i64];omega)) (hid trivial) ?_;simp only[sI,sS,sZ];refine wpAnyH_all (rs:=[1,3]) (by kernel_rfl) (by simp) fun i hi=>?_;simp only[List.mem_cons,List.not_mem_nil,or_false] at hi;rcases hi with rfl|rfl
    ·skip
     refine zam rfl rfl ?_
     go_simp
     refine⟨hid trivial,?_⟩;refine zac 3 rfl (by kernel_rfl) ?_
     go_simp
     refine(HK38.out HD38.out.hR).mono ?_;rintro e W38 ⟨⟨y0,y1,y2,y3,y4,y5,y6,y7,y8,y9⟩,rfl,q38,g38,r38⟩;obtain⟨c38,d38,v2,w1,Wz,ha,ce,cf,cw,f38,k38,z38,hsz⟩:=zbt HD38.out HE38.out (by simp) g38 r38 q38;obtain⟨sp2,sn2,sc2,hv2⟩:=k38.sl;subst hv2;have HFIN:=hid (hc y0 y1 y2 y3 y4 y5 y6 y7 y8 y9 W38 sp2 sn2 sc2 Wz ⟨f38,k38,g38,z38,hsz⟩)
     dsimp only[Qe.cells,paQ] at c38 d38 ha ce cf cw
     unfold Qe.cells paQ;clear f38 k38 z38 q38 g38 r38 hsz;refine⟨hid trivial,?_⟩;refine zac 4 rfl (by kernel_rfl) ?_
     go_simp
     refine⟨hid trivial,?_⟩;refine zac 5 rfl (by kernel_rfl) ?_;refine zak (.tmp 28) (.tmp 31) 61 rfl rfl rfl ha ?_;refine⟨hid trivial,?_⟩;simp only[Act.put,List.setIfInBounds_toArray,List.set_cons_succ,List.set_cons_zero];refine zao 6 33 (.pointer (some ⟨W4.heap.size,8,none⟩)) rfl (by kernel_rfl) (by kernel_rfl) (by kernel_rfl) (fun _ _ _ h=>h) (fun w' _=>by first|rfl|(go_simp;done) | (go_simp;rw[IntKind.wrap_i64];omega)) (hid trivial) ?_;simp only[sI,sS,sZ];refine zac 7 rfl (by kernel_rfl) ?_
     go_simp
     refine⟨hid trivial,?_⟩;refine wpAnyH_done (by kernel_rfl) ?_ _;exact HFIN.out
    ·skip
     refine zam rfl rfl ?_
     go_simp
     refine(HK38.out HD38.out.hR).mono ?_;rintro e W38 ⟨⟨y0,y1,y2,y3,y4,y5,y6,y7,y8,y9⟩,rfl,q38,g38,r38⟩;obtain⟨c38,d38,v2,w1,Wz,ha,ce,cf,cw,f38,k38,z38,hsz⟩:=zbt HD38.out HE38.out (by simp) g38 r38 q38;obtain⟨sp2,sn2,sc2,hv2⟩:=k38.sl;subst hv2;have HFIN:=hid (hc y0 y1 y2 y3 y4 y5 y6 y7 y8 y9 W38 sp2 sn2 sc2 Wz ⟨f38,k38,g38,z38,hsz⟩)
     dsimp only[Qe.cells,paQ] at c38 d38 ha ce cf cw
     unfold Qe.cells paQ;clear f38 k38 z38 q38 g38 r38 hsz;refine⟨hid trivial,?_⟩;refine wpAnyH_all (rs:=[1,4]) (by kernel_rfl) (by simp) fun i hi=>?_;simp only[List.mem_cons,List.not_mem_nil,or_false] at hi;rcases hi with rfl|rfl
     ·skip
      refine zam rfl rfl ?_
      go_simp
      refine⟨hid trivial,?_⟩;refine zac 4 rfl (by kernel_rfl) ?_
      go_simp
      refine⟨hid trivial,?_⟩;refine zac 5 rfl (by kernel_rfl) ?_;refine zak (.tmp 28) (.tmp 31) 61 rfl rfl rfl ha ?_;refine⟨hid trivial,?_⟩;simp only[Act.put,List.setIfInBounds_toArray,List.set_cons_succ,List.set_cons_zero];refine zao 6 33 (.pointer (some ⟨W4.heap.size,8,none⟩)) rfl (by kernel_rfl) (by kernel_rfl) (by kernel_rfl) (fun _ _ _ h=>h) (fun w' _=>by first|rfl|(go_simp;done) | (go_simp;rw[IntKind.wrap_i64];omega)) (hid trivial) ?_;simp only[sI,sS,sZ];refine zac 7 rfl (by kernel_rfl) ?_
      go_simp
      refine⟨hid trivial,?_⟩;refine wpAnyH_done (by kernel_rfl) ?_ _;exact HFIN.out
     ·skip
      refine zam rfl rfl ?_
      go_simp
      refine⟨hid trivial,?_⟩;refine zac 1 rfl (by kernel_rfl) ?_
      go_simp
      refine⟨hid trivial,?_⟩;refine zac 5 rfl (by kernel_rfl) ?_;refine zak (.tmp 28) (.tmp 31) 61 rfl rfl rfl ha ?_;refine⟨hid trivial,?_⟩;simp only[Act.put,List.setIfInBounds_toArray,List.set_cons_succ,List.set_cons_zero];refine zao 6 33 (.pointer (some ⟨W4.heap.size,8,none⟩)) rfl (by kernel_rfl) (by kernel_rfl) (by kernel_rfl) (fun _ _ _ h=>h) (fun w' _=>by first|rfl|(go_simp;done) | (go_simp;rw[IntKind.wrap_i64];omega)) (hid trivial) ?_;simp only[sI,sS,sZ];refine zac 7 rfl (by kernel_rfl) ?_
      go_simp
      refine⟨hid trivial,?_⟩;refine wpAnyH_done (by kernel_rfl) ?_ _;exact HFIN.out
   intro y0 y1 y2 y3 y4 y5 y6 y7 y8 y9 W38 sp39 sn39 sc39 W39 hF39;obtain⟨f39,k39,g39,z39,y39⟩:=hF39;have Hp39p:=hid k39;have HG39:=hid g39;have HZ39:=hid z39;have HF40:=hid (f39);clear f39 k39 g39 z39 HD38 HE38 c838 HK38 HFr2;obtain⟨r41a,r41b,r41c,r41d,r41e,r41f,r41g,r41h,r41i,r41z⟩:=row9 Hp39p.out.row
   go_wp2_with fail
   clear r41a r41b r41c r41d r41e r41f r41g r41h r41i r41z;obtain⟨sp42,ln42,cp42,hv42,hd42⟩:=za7 HF40.out Hp39p.out;injection hv42 with u1 u2 u3;subst u1 u2 u3;refine hd42.mono ?_;rintro e W42 ⟨e42,rfl,b42,f42,q42⟩;have HV42:=hid q42;have HF44:=hid (f42);clear hd42 b42 f42 q42 HF40 Hp39p;obtain⟨W45,hst45,hr45,hp45⟩:=za5 HF44.out (v:=(⟨14,⟨#[]⟩,0,t1.pos,t1.pos,behI ts s38.p,t1.pos,((([]++[v10.pt])++[v13.pt])++[v38.pt])⟩:Qv)) ⟨HV42.out.is.keep (fun j hj=>⟨hj.1,hj.2.1⟩) fun _ _=>rfl,HV42.out.bg⟩;have HP:=hid hp45;have HRR:=hid hr45;clear hp45 hr45
   go_wp2
   have hx:=Option.some.inj HX.out;exact zan Tryz.results151 rfl HRR.out (hx ▸ HP.out)
theorem zmf {m:Nat}{r:Qv × Qs}(hE:RwQ T g st cap ts m)(hR:QdS T w g st cap ts s)(hX:(dns ts m).row 1 s=some r):Calls Tryz.prog 99 #[.pointer (some ⟨g,0,none⟩)] w (QoP T w g st cap ts r):=by
 have HF:=hid (zb9 hR);have hfe:=hR.few;have hle:=hR.le;clear hR;have HE:=hid hE;clear hE
 skip
 have HX:=hid hX;clear hX
 go_enter Tryz.func99,Tryz.ntmps99
 go_wp2_with fail
 refine zaf (fun W=>Fr T w W W g st cap ts s) HF.out ?_;intro W0 hF;clear HF;have HF:=hid hF;clear hF;refine(HE.out W0 _ _ 1 1 rfl (Nat.le_refl _) (by decide) HX.out HF.out.hR).mono ?_;rintro e W1 ⟨e1,rfl,q1,g1,r1⟩;obtain⟨v1,s1⟩:=r;have HV1:=hid q1;have hl1:=HF.out.size;have HF1:=hid (HF.out.call g1 r1);clear q1 g1 r1;obtain⟨W2,hst,hr,hp⟩:=za5 HF1.out (v:=v1) ⟨HV1.out.is.keep (fun j hj=>⟨by omega,hj.2⟩) fun _ _=>rfl,HV1.out.bg⟩;have HP:=hid hp;have HRR:=hid hr;clear hp hr
 go_wp2
 exact zan Tryz.results99 rfl HRR.out HP.out
theorem zmg {m:Nat}{r:Qv × Qs}(hE:ExQ T g st cap ts (dns ts m))(hR:QdS T w g st cap ts s)(hX:(dns ts (m+1)).prim s=some r):Calls Tryz.prog 164 #[.pointer (some ⟨g,0,none⟩)] w (QoP T w g st cap ts r):=by
 have HF:=hid (zb9 hR);have hfe:=hR.few;have hle:=hR.le;clear hR;have HE:=hid hE;clear hE;rw[zlt] at hX;have HX:=hid hX;clear hX
 go_enter Tryz.func164,Tryz.ntmps164
 go_wp2_with fail
 refine zaf (fun W=>Fr T w W W g st cap ts s) HF.out ?_;intro W0 hF;clear HF;have HF:=hid hF;clear hF;refine(zbe HF.out.hR).mono ?_;rintro e W1 ⟨rfl,b1⟩;obtain⟨t1,ht⟩:∃ t,nxQ ts s.p=t:=⟨_,rfl⟩;rw[ht];have HNX1:=hid ht;have HZ1:=hid (ht ▸ HF.out.hR.sz)
 try rw[ht] at HX
 have HF3:=hid (HF.out.low b1);clear ht b1 HF;obtain⟨W4,hst4,b4,f4,l4⟩:=zdg HF3.out t1;have Ht4t:=hid l4;have HF6:=hid (f4);clear b4 f4 l4 HF3;obtain⟨qb7,hqb7⟩:∃ b,s.bad=b:=⟨_,rfl⟩;have wc7:W4.cell? ⟨g,2,none⟩=some (.bool qb7):=hqb7 ▸ HF6.out.hR.c2;rw[hqb7] at HX;have HQB:=hid hqb7;clear hqb7
 cases qb7
 ·skip
  go_wp2_with fail
  clear hst4 wc7;refine(zar ⟨#[40]⟩ HF6.out.hR).mono ?_;rintro e W8 ⟨rfl,b8⟩;obtain⟨i8,hi⟩:∃ b,isQ ts s.p ⟨#[40]⟩=b:=⟨_,rfl⟩;rw[hi]
  try rw[hi] at HX
  have Ht9t:=hid (Ht4t.out.low b8);have HF10:=hid (HF6.out.low b8);clear hi b8 HF6 Ht4t
  cases i8
  ·skip
   replace HX:=hid (if_f HX.out (fun h=>by cases h))
   obtain⟨c11a,c11b,c11c⟩:=Ht9t.out.cells;obtain⟨k2,hk2⟩:∃ b,(t1.kind == 2)=b:=⟨_,rfl⟩;obtain⟨k3,hk3⟩:∃ b,(t1.kind == 3)=b:=⟨_,rfl⟩;rw[hk2,hk3] at HX
   cases k2
   ·skip
    cases k3
    ·skip
     go_wp2_with fail
     clear c11a c11b c11c hk2 hk3;refine(zar ⟨#[116,114,117,101]⟩ HF10.out.hR).mono ?_;rintro e W12 ⟨rfl,b12⟩;obtain⟨i12,hi⟩:∃ b,isQ ts s.p ⟨#[116,114,117,101]⟩=b:=⟨_,rfl⟩;rw[hi]
     try rw[hi] at HX
     have Ht13t:=hid (Ht9t.out.low b12);have HF14:=hid (HF10.out.low b12);clear hi b12 HF10 Ht9t
     cases i12
     ·skip
      go_wp2_with fail
      refine(zar ⟨#[102,97,108,115,101]⟩ HF14.out.hR).mono ?_;rintro e W15 ⟨rfl,b15⟩;obtain⟨i15,hi⟩:∃ b,isQ ts s.p ⟨#[102,97,108,115,101]⟩=b:=⟨_,rfl⟩;rw[hi]
      try rw[hi] at HX
      have Ht16t:=hid (Ht13t.out.low b15);have HF17:=hid (HF14.out.low b15);clear hi b15 HF14 Ht13t
      cases i15
      ·skip
       replace HX:=hid (if_f HX.out (fun h=>by cases h))
       go_wp2_with fail
       refine(zag ⟨#[110,97,109,101]⟩ HF17.out.hR).mono ?_;rintro e W18 ⟨rfl,g18,r18⟩;obtain⟨t18,ht⟩:∃ t,takT ts ⟨#[110,97,109,101]⟩ s=t:=⟨_,rfl⟩;obtain⟨s18,hs⟩:∃ s2,takS ts ⟨#[110,97,109,101]⟩ s=s2:=⟨_,rfl⟩;rw[show takT ts ⟨#[110,97,109,101]⟩ ⟨s.p,s.bad⟩=t18 from ht];have q18:QdS T W18 g st cap ts s18:=hs ▸ r18;have HT18:Hid (LtQ s s18):=hid (hs ▸ zal _ _)
       try rw[ht] at HX
       try rw[hs] at HX
       have Ht19t:=hid (Ht16t.out.call HF17.out.gB g18);have HF20:=hid (HF17.out.call g18 q18);clear ht hs r18 q18 g18 HF17 Ht16t;obtain⟨c21a,c21b,c21c⟩:=Ht19t.out.cells
       go_wp2_with fail
       clear c21a c21b c21c;refine(zat 23 t1 t1.text W18).mono ?_;rintro e W22 ⟨rfl,b22⟩;have Ht23t:=hid (Ht19t.out.low b22);have HF24:=hid (HF20.out.low b22);clear b22 HF20 Ht19t
       go_wp2_with fail
       refine(zd5 HF24.out 23 t1 t1.text).mono ?_;rintro e W25 ⟨rfl,b25,f25⟩;have HF27:=hid (f25);clear b25 f25 HF24;obtain⟨W28,hst28,hr28,hp28⟩:=za5 HF27.out (v:=(⟨23,t1.text,0,t1.pos,t1.pos,(behI ts s18.p),t1.pos,[]⟩:Qv)) (zdk _ _ _ _ _ _ _);have HP:=hid hp28;have HRR:=hid hr28;clear hp28 hr28
       go_wp2
       have hx:=Option.some.inj HX.out;exact zan Tryz.results164 rfl HRR.out (hx ▸ HP.out)
      ·skip
       replace HX:=hid (if_t HX.out rfl)
       go_wp2_with fail
       refine(zbk HF17.out.hR).mono ?_;rintro e W29 ⟨e29,rfl,q29,g29,r29⟩;obtain⟨⟨v29,s29⟩,hk29⟩:∃ r,litD ts s=r:=⟨_,rfl⟩;rw[hk29] at HX q29 r29
       try dsimp only at HX
       have HV29:=hid q29;have hs29:=g29.size;have HF31:=hid (HF17.out.call g29 r29);have hl29:=HF17.out.size;clear hk29 q29 g29 r29 HF17;obtain⟨W32,hst32,hr32,hp32⟩:=za5 HF31.out (v:=v29) ⟨HV29.out.is.keep (fun j hj=>⟨by omega,hj.2⟩) fun _ _=>rfl,HV29.out.bg⟩;have HP:=hid hp32;have HRR:=hid hr32;clear hp32 hr32
       go_wp2
       have hx:=Option.some.inj HX.out;exact zan Tryz.results164 rfl HRR.out (hx ▸ HP.out)
     ·skip
      replace HX:=hid (if_t HX.out rfl)
      go_wp2_with fail
      refine(zbk HF14.out.hR).mono ?_;rintro e W33 ⟨e33,rfl,q33,g33,r33⟩;obtain⟨⟨v33,s33⟩,hk33⟩:∃ r,litD ts s=r:=⟨_,rfl⟩;rw[hk33] at HX q33 r33
      try dsimp only at HX
      have HV33:=hid q33;have hs33:=g33.size;have HF35:=hid (HF14.out.call g33 r33);have hl33:=HF14.out.size;clear hk33 q33 g33 r33 HF14;obtain⟨W36,hst36,hr36,hp36⟩:=za5 HF35.out (v:=v33) ⟨HV33.out.is.keep (fun j hj=>⟨by omega,hj.2⟩) fun _ _=>rfl,HV33.out.bg⟩;have HP:=hid hp36;have HRR:=hid hr36;clear hp36 hr36
      go_wp2
      have hx:=Option.some.inj HX.out;exact zan Tryz.results164 rfl HRR.out (hx ▸ HP.out)
    ·skip
     replace HX:=hid (if_t HX.out rfl)
     go_wp2_with fail
     clear c11a c11b c11c hk2 hk3;refine(zbk HF10.out.hR).mono ?_;rintro e W37 ⟨e37,rfl,q37,g37,r37⟩;obtain⟨⟨v37,s37⟩,hk37⟩:∃ r,litD ts s=r:=⟨_,rfl⟩;rw[hk37] at HX q37 r37
     try dsimp only at HX
     have HV37:=hid q37;have hs37:=g37.size;have HF39:=hid (HF10.out.call g37 r37);have hl37:=HF10.out.size;clear hk37 q37 g37 r37 HF10;obtain⟨W40,hst40,hr40,hp40⟩:=za5 HF39.out (v:=v37) ⟨HV37.out.is.keep (fun j hj=>⟨by omega,hj.2⟩) fun _ _=>rfl,HV37.out.bg⟩;have HP:=hid hp40;have HRR:=hid hr40;clear hp40 hr40
     go_wp2
     have hx:=Option.some.inj HX.out;exact zan Tryz.results164 rfl HRR.out (hx ▸ HP.out)
   ·skip
    replace HX:=hid (if_t HX.out rfl)
    go_wp2_with fail
    clear c11a c11b c11c hk2 hk3;refine(zbk HF10.out.hR).mono ?_;rintro e W41 ⟨e41,rfl,q41,g41,r41⟩;obtain⟨⟨v41,s41⟩,hk41⟩:∃ r,litD ts s=r:=⟨_,rfl⟩;rw[hk41] at HX q41 r41
    try dsimp only at HX
    have HV41:=hid q41;have hs41:=g41.size;have HF43:=hid (HF10.out.call g41 r41);have hl41:=HF10.out.size;clear hk41 q41 g41 r41 HF10;obtain⟨W44,hst44,hr44,hp44⟩:=za5 HF43.out (v:=v41) ⟨HV41.out.is.keep (fun j hj=>⟨by omega,hj.2⟩) fun _ _=>rfl,HV41.out.bg⟩;have HP:=hid hp44;have HRR:=hid hr44;clear hp44 hr44
    go_wp2
    have hx:=Option.some.inj HX.out;exact zan Tryz.results164 rfl HRR.out (hx ▸ HP.out)
  ·skip
   replace HX:=hid (if_t HX.out rfl)
   go_wp2_with fail
   refine(zag ⟨#[40]⟩ HF10.out.hR).mono ?_;rintro e W45 ⟨rfl,g45,r45⟩;obtain⟨t45,ht⟩:∃ t,takT ts ⟨#[40]⟩ s=t:=⟨_,rfl⟩;obtain⟨s45,hs⟩:∃ s2,takS ts ⟨#[40]⟩ s=s2:=⟨_,rfl⟩;rw[show takT ts ⟨#[40]⟩ ⟨s.p,s.bad⟩=t45 from ht];have q45:QdS T W45 g st cap ts s45:=hs ▸ r45;have HT45:Hid (LtQ s s45):=hid (hs ▸ zal _ _)
   try rw[ht] at HX
   try rw[hs] at HX
   have Ht46t:=hid (Ht9t.out.call HF10.out.gB g45);have HF47:=hid (HF10.out.call g45 q45);clear ht hs r45 q45 g45 HF10 Ht9t
   go_wp2_with fail
   rcases hk48:(dns ts m).row 1 s45 with _|⟨v48,s48⟩
   ·exact absurd HX.out (by rw[hk48];intro h;cases h)
   rw[hk48] at HX;simp only[Option.bind_some] at HX;refine(((fun hk=>HE.out _ _ _ hk HF47.out.hR) hk48)).mono ?_;rintro e W48 ⟨e48,rfl,q48,g48,r48⟩;have HV48:=hid q48;have Ht49t:=hid (Ht46t.out.call HF47.out.gB g48);have hs48:=g48.size;have HF50:=hid (HF47.out.call g48 r48);have hl48:=HF47.out.size;clear hk48 q48 g48 r48 HF47 Ht46t;obtain⟨W51,hst51,b51,f51,l51⟩:=zk2 HF50.out (A:=W45) (by omega) HV48.out;have Ht52t:=hid (Ht49t.out.low b51);have HVL:=hid l51;have HF53:=hid (f51);clear b51 f51 l51 HF50 HV48 Ht49t
   go_wp2_with fail
   clear hst51;refine(zag ⟨#[41]⟩ HF53.out.hR).mono ?_;rintro e W54 ⟨rfl,g54,r54⟩;obtain⟨t54,ht⟩:∃ t,takT ts ⟨#[41]⟩ s48=t:=⟨_,rfl⟩;obtain⟨s54,hs⟩:∃ s2,takS ts ⟨#[41]⟩ s48=s2:=⟨_,rfl⟩;rw[show takT ts ⟨#[41]⟩ ⟨s48.p,s48.bad⟩=t54 from ht];have q54:QdS T W54 g st cap ts s54:=hs ▸ r54;have HT54:Hid (LtQ s48 s54):=hid (hs ▸ zal _ _)
   try rw[ht] at HX
   try rw[hs] at HX
   have Ht55t:=hid (Ht52t.out.call HF53.out.gB g54);have Hv55p:=hid (HVL.out.call HF53.out.gB g54);have HF56:=hid (HF53.out.call g54 q54);clear ht hs r54 q54 g54 HF53 Ht52t HVL;obtain⟨c57a,c57b,c57c⟩:=Ht55t.out.cells;obtain⟨e0,e1,e2,e3,e4,e5,e6,e7,e8,e9⟩:=e48;obtain⟨pS,pV,pS2⟩:=Hv55p.out.ex;have pR:=Hv55p.out.row;have pB:=Hv55p.out.hB;have pN:=Hv55p.out.hN;obtain⟨q0,q1,q2,q3,q4,q5,q6,q7,q8,qz⟩:=row9 pR;obtain⟨W58,hw58,hb58,ho58,hr58⟩:∃ W2,W54.setCell ⟨W48.heap.size,7,none⟩ (.int .i64 t1.pos)=W2∧Below (W48.heap.size) W54 W2∧(∀ j,j≠W48.heap.size->W2.heap[j]?=W54.heap[j]?)∧W2.heap[W48.heap.size]?=some (.cells (⟨e0,e1,e2,e3,e4,e5,t1.pos,e7,e8,e9⟩:Qe).cells 63 (0,0)) :=
    ⟨_,rfl,(Below.refl _ _).setCell (p:=⟨W48.heap.size,7,none⟩) (Nat.le_refl _) _,fun j hj=>heap_setCell_other _ _ _ _ hj,heap_setCell_same _ _ 7 _ _ _ pR⟩
   have HQV:Hid (QV W58 pS ⟨v48.k,v48.x,v48.n,v48.a,v48.f,v48.t,t1.pos,v48.l⟩ ⟨e0,e1,e2,e3,e4,e5,t1.pos,e7,e8,e9⟩):=hid ⟨(pV.is.begs t1.pos).keep (fun _ h=>h) fun j hj=>ho58 j (pS2 j hj).2.2,rfl⟩;have hsz58:=hb58.size;have HSS:Hid (∀ j,pS j->W0.heap.size<=j∧j<W58.heap.size):=hid fun j hj=>⟨(pS2 j hj).1,by have:=(pS2 j hj).2.1;omega⟩;have HRW:=hid hr58;have HF59:=hid (HF56.out.on (hb58.mono pB));obtain⟨j0,j1,j2,j3,j4,j5,j6,j7,j8,-⟩:=row9 HRW.out;clear pV pR pB pN hb58 ho58 hr58 Hv55p Ht55t HF56;have HP:=hid (zd4 HF59.out (v:=⟨v48.k,v48.x,v48.n,v48.a,v48.f,v48.t,t1.pos,v48.l⟩) (e:=⟨e0,e1,e2,e3,e4,e5,t1.pos,e7,e8,e9⟩) ⟨HQV.out.is.keep HSS.out fun _ _=>rfl,rfl⟩);clear HQV HSS pS2 HRW
   go_wp2_with (refine zdj (by rfl) (.tmp 2) (.tmp 25) (by rfl) ⟨e0,e1,e2,e3,e4,e5,t1.pos,e7,e8,e9⟩ (by rfl) (by rfl) HF59.out.hZ (by rfl) ?_)
   have hx:=Option.some.inj HX.out;exact zan Tryz.results164 rfl (zad HF59.out.hZ) (hx ▸ HP.out)
 ·skip
  replace HX:=hid (if_f HX.out (fun h=>by cases h))
  obtain⟨c60a,c60b,c60c⟩:=Ht4t.out.cells;obtain⟨k2,hk2⟩:∃ b,(t1.kind == 2)=b:=⟨_,rfl⟩;obtain⟨k3,hk3⟩:∃ b,(t1.kind == 3)=b:=⟨_,rfl⟩;rw[hk2,hk3] at HX
  cases k2
  ·skip
   cases k3
   ·skip
    go_wp2_with fail
    clear hst4 wc7 c60a c60b c60c hk2 hk3;refine(zar ⟨#[116,114,117,101]⟩ HF6.out.hR).mono ?_;rintro e W61 ⟨rfl,b61⟩;obtain⟨i61,hi⟩:∃ b,isQ ts s.p ⟨#[116,114,117,101]⟩=b:=⟨_,rfl⟩;rw[hi]
    try rw[hi] at HX
    have Ht62t:=hid (Ht4t.out.low b61);have HF63:=hid (HF6.out.low b61);clear hi b61 HF6 Ht4t
    cases i61
    ·skip
     go_wp2_with fail
     refine(zar ⟨#[102,97,108,115,101]⟩ HF63.out.hR).mono ?_;rintro e W64 ⟨rfl,b64⟩;obtain⟨i64,hi⟩:∃ b,isQ ts s.p ⟨#[102,97,108,115,101]⟩=b:=⟨_,rfl⟩;rw[hi]
     try rw[hi] at HX
     have Ht65t:=hid (Ht62t.out.low b64);have HF66:=hid (HF63.out.low b64);clear hi b64 HF63 Ht62t
     cases i64
     ·skip
      replace HX:=hid (if_f HX.out (fun h=>by cases h))
      go_wp2_with fail
      refine(zag ⟨#[110,97,109,101]⟩ HF66.out.hR).mono ?_;rintro e W67 ⟨rfl,g67,r67⟩;obtain⟨t67,ht⟩:∃ t,takT ts ⟨#[110,97,109,101]⟩ s=t:=⟨_,rfl⟩;obtain⟨s67,hs⟩:∃ s2,takS ts ⟨#[110,97,109,101]⟩ s=s2:=⟨_,rfl⟩;rw[show takT ts ⟨#[110,97,109,101]⟩ ⟨s.p,s.bad⟩=t67 from ht];have q67:QdS T W67 g st cap ts s67:=hs ▸ r67;have HT67:Hid (LtQ s s67):=hid (hs ▸ zal _ _)
      try rw[ht] at HX
      try rw[hs] at HX
      have Ht68t:=hid (Ht65t.out.call HF66.out.gB g67);have HF69:=hid (HF66.out.call g67 q67);clear ht hs r67 q67 g67 HF66 Ht65t;obtain⟨c70a,c70b,c70c⟩:=Ht68t.out.cells
      go_wp2_with fail
      clear c70a c70b c70c;refine(zat 23 t1 t1.text W67).mono ?_;rintro e W71 ⟨rfl,b71⟩;have Ht72t:=hid (Ht68t.out.low b71);have HF73:=hid (HF69.out.low b71);clear b71 HF69 Ht68t
      go_wp2_with fail
      refine(zd5 HF73.out 23 t1 t1.text).mono ?_;rintro e W74 ⟨rfl,b74,f74⟩;have HF76:=hid (f74);clear b74 f74 HF73;obtain⟨W77,hst77,hr77,hp77⟩:=za5 HF76.out (v:=(⟨23,t1.text,0,t1.pos,t1.pos,(behI ts s67.p),t1.pos,[]⟩:Qv)) (zdk _ _ _ _ _ _ _);have HP:=hid hp77;have HRR:=hid hr77;clear hp77 hr77
      go_wp2
      have hx:=Option.some.inj HX.out;exact zan Tryz.results164 rfl HRR.out (hx ▸ HP.out)
     ·skip
      replace HX:=hid (if_t HX.out rfl)
      go_wp2_with fail
      refine(zbk HF66.out.hR).mono ?_;rintro e W78 ⟨e78,rfl,q78,g78,r78⟩;obtain⟨⟨v78,s78⟩,hk78⟩:∃ r,litD ts s=r:=⟨_,rfl⟩;rw[hk78] at HX q78 r78
      try dsimp only at HX
      have HV78:=hid q78;have hs78:=g78.size;have HF80:=hid (HF66.out.call g78 r78);have hl78:=HF66.out.size;clear hk78 q78 g78 r78 HF66;obtain⟨W81,hst81,hr81,hp81⟩:=za5 HF80.out (v:=v78) ⟨HV78.out.is.keep (fun j hj=>⟨by omega,hj.2⟩) fun _ _=>rfl,HV78.out.bg⟩;have HP:=hid hp81;have HRR:=hid hr81;clear hp81 hr81
      go_wp2
      have hx:=Option.some.inj HX.out;exact zan Tryz.results164 rfl HRR.out (hx ▸ HP.out)
    ·skip
     replace HX:=hid (if_t HX.out rfl)
     go_wp2_with fail
     refine(zbk HF63.out.hR).mono ?_;rintro e W82 ⟨e82,rfl,q82,g82,r82⟩;obtain⟨⟨v82,s82⟩,hk82⟩:∃ r,litD ts s=r:=⟨_,rfl⟩;rw[hk82] at HX q82 r82
     try dsimp only at HX
     have HV82:=hid q82;have hs82:=g82.size;have HF84:=hid (HF63.out.call g82 r82);have hl82:=HF63.out.size;clear hk82 q82 g82 r82 HF63;obtain⟨W85,hst85,hr85,hp85⟩:=za5 HF84.out (v:=v82) ⟨HV82.out.is.keep (fun j hj=>⟨by omega,hj.2⟩) fun _ _=>rfl,HV82.out.bg⟩;have HP:=hid hp85;have HRR:=hid hr85;clear hp85 hr85
     go_wp2
     have hx:=Option.some.inj HX.out;exact zan Tryz.results164 rfl HRR.out (hx ▸ HP.out)
   ·skip
    replace HX:=hid (if_t HX.out rfl)
    go_wp2_with fail
    clear hst4 wc7 c60a c60b c60c hk2 hk3;refine(zbk HF6.out.hR).mono ?_;rintro e W86 ⟨e86,rfl,q86,g86,r86⟩;obtain⟨⟨v86,s86⟩,hk86⟩:∃ r,litD ts s=r:=⟨_,rfl⟩;rw[hk86] at HX q86 r86
    try dsimp only at HX
    have HV86:=hid q86;have hs86:=g86.size;have HF88:=hid (HF6.out.call g86 r86);have hl86:=HF6.out.size;clear hk86 q86 g86 r86 HF6;obtain⟨W89,hst89,hr89,hp89⟩:=za5 HF88.out (v:=v86) ⟨HV86.out.is.keep (fun j hj=>⟨by omega,hj.2⟩) fun _ _=>rfl,HV86.out.bg⟩;have HP:=hid hp89;have HRR:=hid hr89;clear hp89 hr89
    go_wp2
    have hx:=Option.some.inj HX.out;exact zan Tryz.results164 rfl HRR.out (hx ▸ HP.out)
  ·skip
   replace HX:=hid (if_t HX.out rfl)
   go_wp2_with fail
   clear hst4 wc7 c60a c60b c60c hk2 hk3;refine(zbk HF6.out.hR).mono ?_;rintro e W90 ⟨e90,rfl,q90,g90,r90⟩;obtain⟨⟨v90,s90⟩,hk90⟩:∃ r,litD ts s=r:=⟨_,rfl⟩;rw[hk90] at HX q90 r90
   try dsimp only at HX
   have HV90:=hid q90;have hs90:=g90.size;have HF92:=hid (HF6.out.call g90 r90);have hl90:=HF6.out.size;clear hk90 q90 g90 r90 HF6;obtain⟨W93,hst93,hr93,hp93⟩:=za5 HF92.out (v:=v90) ⟨HV90.out.is.keep (fun j hj=>⟨by omega,hj.2⟩) fun _ _=>rfl,HV90.out.bg⟩;have HP:=hid hp93;have HRR:=hid hr93;clear hp93 hr93
   go_wp2
   have hx:=Option.some.inj HX.out;exact zan Tryz.results164 rfl HRR.out (hx ▸ HP.out)
end
def rsQ:List (List UInt8):=[[124,124],[38,38],[61,61],[33,61],[60],[60,61],[62],[62,61],[43],[45],[42],[47],[37]]
def rnQ:List Int:=[1,2,3,3,3,3,3,3,4,4,5,5,5]
theorem zsp {s:ByteArray}{k:Nat}(hk:k<13)(he:s.data.toList=rsQ.getD k []):rowQ s=rnQ.getD k 0:=by
 unfold rowQ rowI;rw[he]
 iterate 13 (rcases k with _|k;· rfl)
 omega
theorem zq8 {s:ByteArray}(h:∀ k,k<13->s.data.toList≠rsQ.getD k []):rowQ s=0:=by
 unfold rowQ rowI;have h0:=h 0 (by omega);have h1:=h 1 (by omega);have h2:=h 2 (by omega);have h3:=h 3 (by omega);have h4:=h 4 (by omega);have h5:=h 5 (by omega);have h6:=h 6 (by omega);have h7:=h 7 (by omega);have h8:=h 8 (by omega);have h9:=h 9 (by omega);have h10:=h 10 (by omega);have h11:=h 11 (by omega);have h12:=h 12 (by omega);simp only[rsQ,List.getD_cons_zero,List.getD_cons_succ] at h0 h1 h2 h3 h4 h5 h6 h7 h8 h9 h10 h11 h12;simp[h0,h1,h2,h3,h4,h5,h6,h7,h8,h9,h10,h11,h12]
theorem zmh (s:ByteArray)(w:World):Calls Tryz.prog 150 #[.string s] w fun e w'=>e=.returned (.int .i64 (rowQ s))∧Below w.heap.size w w':=by
 go_enter Tryz.func150,Tryz.ntmps150
 go_wp2
 refine zdd (fun W=>Below w.heap.size w W∧(∀ k,k<13->W.cell? ⟨w.heap.size,k,none⟩=some (.string (strU (rsQ.getD k []))))∧∀ k,k<13->W.cell? ⟨w.heap.size+1,k,none⟩=some (.int .i64 (rnQ.getD k 0))) ⟨zdr _ _ _,?_,?_⟩ ?_
 ·intro k hk
  iterate 13 (rcases k with _|k;· exact(cell_of_row _ _ _ _ _ _ (zfo _ _ _)).trans rfl)
  omega
 ·intro k hk
  iterate 13 (rcases k with _|k;· exact(cell_of_row _ _ _ _ _ _ (zfp _ _ _)).trans rfl)
  omega
 rintro W ⟨hB,hC,hD⟩;have HB:=hid hB;have HC:=hid hC;have HD:=hid hD;clear hB hC hD
 go_loopw [5] (fun i wr=>∃ k:Nat,i=.int .i64 k∧k<=13∧(∀ j,j<k->s.data.toList≠rsQ.getD j [])∧wr=W) (fun i _=>13 - (intOf i).toNat)
 case atStart=>exact⟨0,rfl,by omega,fun j hj=>absurd hj (by omega),rfl⟩
 case round=>
  obtain⟨k,rfl,hk,hf,rfl⟩:=hrel;have HF:=hid hf;clear hf
  by_cases h:k<13
  ·have hc:=HC.out k h;have hd:=HD.out k h;have z1:decide ((k:Int)<13)=true:=by simp;omega
   by_cases he:s.data.toList=rsQ.getD k []
   ·have HK:Hid (rowQ s=rnQ.getD k 0):=zsp h he;have e:((strU (rsQ[k]?.getD [])).toList == s.toList)=true:=by
     rw[ByteArray.toList_eq,ByteArray.toList_eq,beq_iff_eq,he,List.getD_eq_getElem?_getD];simp[strU]
    clear he
    go_wp2
    go_ret
    exact⟨by rw[HK.out,List.getD_eq_getElem?_getD];rfl,HB.out⟩
   ·have HS:Hid (∀ j,j<k+1->s.data.toList≠rsQ.getD j []):=hid fun j hj=>by
     by_cases hjk:j=k
     ·rw[hjk];exact he
     ·exact HF.out j (by omega)
    have e:((strU (rsQ[k]?.getD [])).toList == s.toList)=false:=by
     rw[ByteArray.toList_eq,ByteArray.toList_eq,beq_eq_false_iff_ne];intro e;refine he ?_;rw[<-e,List.getD_eq_getElem?_getD];simp[strU]
    clear he
    go_wp2
    exact⟨⟨k+1,by simp,by omega,HS.out,trivial⟩,by simp[intOf];omega⟩
  ·have z1:decide ((k:Int)<13)=false:=by simp;omega
   have HK:Hid (rowQ s=0):=hid (zq8 fun j hj=>HF.out j (by omega))
   go_wp2
   go_ret
   exact⟨by rw[HK.out];rfl,HB.out⟩
end Go.Proofs.YtmclgbkijeidaaaGreatDoor
