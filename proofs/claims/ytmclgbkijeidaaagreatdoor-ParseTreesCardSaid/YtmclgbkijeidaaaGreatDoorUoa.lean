import Derived.Test.YtmclgbkijeidaaaGreatDoorUoZ
namespace Go.Proofs.YtmclgbkijeidaaaGreatDoor
set_option maxRecDepth 100000
set_option maxHeartbeats 4000000
open Go.RowKit
section
variable {T:Nat}{w W0 W W':World}{g:Nat}{st:Option Addr}{cap:Nat}{ts:List Tok}{s s':Qs}
abbrev BlQ (T:Nat) (g:Nat) (st:Option Addr) (cap:Nat) (ts:List Tok) (m:Nat):Prop:=∀ (w:World) s r,bloD ts (dns ts m) s=some r->QdS T w g st cap ts s->Calls Tryz.prog 100 #[.pointer (some ⟨g,0,none⟩)] w (QoP T w g st cap ts r)
abbrev BrQ (T:Nat) (g:Nat) (st:Option Addr) (cap:Nat) (ts:List Tok) (m:Nat):Prop:=∀ (w:World) s r,(dns ts m).bran s=some r->QdS T w g st cap ts s->Calls Tryz.prog 151 #[.pointer (some ⟨g,0,none⟩)] w (QoP T w g st cap ts r)
abbrev RwQ (T:Nat) (g:Nat) (st:Option Addr) (cap:Nat) (ts:List Tok) (m:Nat):Prop:=∀ (w:World) s r (k:Nat) (kk:Int),kk=k->1<=k->k<=6->(dns ts m).row k s=some r->QdS T w g st cap ts s->Calls Tryz.prog 128 #[.pointer (some ⟨g,0,none⟩),.int .i64 kk] w (QoP T w g st cap ts r)
theorem zm2 {m:Nat}{r:Qv × Qs}(hE:ExQ T g st cap ts (dns ts m))(hB:BlQ T g st cap ts m)(hC:BrQ T g st cap ts m)(hR:QdS T w g st cap ts s)(hX:(dns ts (m+1)).bran s=some r):Calls Tryz.prog 151 #[.pointer (some ⟨g,0,none⟩)] w (QoP T w g st cap ts r):=by
 have HF:=J (zcu hR);have du:=hR.few;have da:=hR.le;clear hR;have HE:=J hE;have HB:=J hB;have HC:=J hC;clear hE hB hC;rw[zq4] at hX;have C:=J hX;clear hX
 go_enter Tryz.func151,Tryz.ntmps151
 go_wp2_with fail
 refine zag (fun W=>Fr T w W W g st cap ts s) HF.out ?_;intro W0 hF;clear HF;have HF:=J hF;clear hF;refine(zah ⟨#[105,102]⟩ HF.out.hR).mono ?_;rintro e W1 ⟨rfl,g1,r1⟩;obtain⟨F,ht⟩:∃ t,takT ts ⟨#[105,102]⟩ s=t:=⟨_,rfl⟩;obtain⟨s1,hs⟩:∃ s2,takS ts ⟨#[105,102]⟩ s=s2:=⟨_,rfl⟩;rw[show takT ts ⟨#[105,102]⟩ ⟨s.p,s.bad⟩=F from ht];have q1:QdS T W1 g st cap ts s1:=hs ▸ r1;have di:Hid (LtQ s s1):=J (hs ▸ zam _ _)
 try rw[ht] at C
 try rw[hs] at C
 have bO:=J (HF.out.call g1 q1);clear ht hs r1 q1 g1 HF
 go_wp2_with fail
 refine(zau 14 F ⟨#[]⟩ W1).mono ?_;rintro e D ⟨rfl,b4⟩;have aQ:=J (bO.out.low b4);clear b4 bO;obtain⟨W7,cU,b7,f7,l7⟩:=zdp (z:=w.heap.size) aQ.out (zaa aQ.out.hZ) 14 F ⟨#[]⟩;have bG:=J l7;have dK:=b7.size;have aR:=J (f7);clear b7 f7 l7 aQ
 go_wp2_with (fail)
 clear cU;rcases hk10:(dns ts m).row 1 s1 with _|⟨v10,s10⟩
 ·exact absurd C (by rw[hk10];intro h;cases h)
 rw[hk10] at C;simp only[Option.bind_some] at C;have aj:=J aR;have a1:Below W7.heap.size W7 W7.drew:=(Yb _ _).drew;have ax:=J (aR.out.low a1);have aI:=J (bG.out.below a1);have a3:=J (fun (h:QdS T W7.drew g st cap ts s1)=>(fun hk=>HE.out W7.drew _ _ hk h) hk10);clear hk10 a1 aR bG;have cp:W7.drew.cell? ⟨D.heap.size,8,none⟩=some (.slice none 0 0):=Yp 8 aI.out.row rfl;apply zb8 (fun y0 Z X Y M I V N y8 K Wy sp sn sc y=>Fr T w W0 y g st cap ts s10∧Qk W0.heap.size (w.heap.size) y (D.heap.size) 14 ⟨#[]⟩ 0 F.pos F.pos 0 F.pos (.slice sp sn sc) ([]++[v10.pt])∧W7.drew.grownBy Wy (some g)∧((w.heap.size)≠D.heap.size->y.heap[w.heap.size]?=Wy.heap[w.heap.size]?)∧Wy.heap.size<=y.heap.size)
 rotate_left
 ·intro hc;refine zbc (S:=fun _=>Hid True) 8 rfl (by kernel_rfl) ?_;refine zal 0 7 (.pointer (some ⟨D.heap.size,8,none⟩)) rfl (by kernel_rfl) (fun _ _ _ h=>h) (fun w' _=>by first|rfl|(go_simp;done) | (go_simp;rw[Yi];omega)) (J trivial) ?_;simp only[sI,sS,sZ];refine zal 2 9 (.pointer (some ⟨g,0,none⟩)) rfl (by kernel_rfl) (fun _ _ _ h=>h) (fun w' _=>by first|rfl|(go_simp;done) | (go_simp;rw[Yi];omega)) (J trivial) ?_;simp only[sI,sS,sZ];refine wpAnyH_all (rs:=[1,3]) (by kernel_rfl) (by simp) fun i A=>?_;simp only[List.mem_cons,List.not_mem_nil,or_false] at A;rcases A with rfl|rfl
  ·skip
   refine zan rfl rfl ?_
   go_simp
   refine⟨J trivial,?_⟩;refine zac 3 rfl (by kernel_rfl) ?_
   go_simp
   refine(a3 ax.out.hR).mono ?_;rintro e aG ⟨⟨y0,Z,X,Y,M,I,V,N,y8,K⟩,rfl,q10,g10,r10⟩;obtain⟨bh,aX,v2,w1,y,E,ce,cf,cw,aq,al,au,U⟩:=zb3 ax aI (by simp) g10 r10 q10;obtain⟨af,ac,ae,ab⟩:=al.sl;subst ab;have aa:=J (hc y0 Z X Y M I V N y8 K aG af ac ae y ⟨aq,al,g10,au,U⟩)
   dsimp only[Qe.cells,paQ] at bh aX E ce cf cw
   unfold Qe.cells paQ;clear aq al au q10 g10 r10 U;refine⟨J trivial,?_⟩;refine zac 4 rfl (by kernel_rfl) ?_
   go_simp
   refine⟨J trivial,?_⟩;refine zac 5 rfl (by kernel_rfl) ?_;refine zaf (.tmp 8) (.tmp 11) 61 rfl rfl rfl E ?_;refine⟨J trivial,?_⟩;simp only[Act.put,sI,sS,sZ];refine zal 6 13 (.pointer (some ⟨D.heap.size,8,none⟩)) rfl (by kernel_rfl) (fun _ _ _ h=>h) (fun w' _=>by first|rfl|(go_simp;done) | (go_simp;rw[Yi];omega)) (J trivial) ?_;simp only[sI,sS,sZ];refine zac 7 rfl (by kernel_rfl) ?_
   go_simp
   refine⟨J trivial,?_⟩;refine wpAnyH_done (by kernel_rfl) ?_ _;exact aa
  ·skip
   refine zan rfl rfl ?_
   go_simp
   refine(a3 ax.out.hR).mono ?_;rintro e aG ⟨⟨y0,Z,X,Y,M,I,V,N,y8,K⟩,rfl,q10,g10,r10⟩;obtain⟨bh,aX,v2,w1,y,E,ce,cf,cw,aq,al,au,U⟩:=zb3 ax aI (by simp) g10 r10 q10;obtain⟨af,ac,ae,ab⟩:=al.sl;subst ab;have aa:=J (hc y0 Z X Y M I V N y8 K aG af ac ae y ⟨aq,al,g10,au,U⟩)
   dsimp only[Qe.cells,paQ] at bh aX E ce cf cw
   unfold Qe.cells paQ;clear aq al au q10 g10 r10 U;refine⟨J trivial,?_⟩;refine wpAnyH_all (rs:=[1,4]) (by kernel_rfl) (by simp) fun i A=>?_;simp only[List.mem_cons,List.not_mem_nil,or_false] at A;rcases A with rfl|rfl
   ·skip
    refine zan rfl rfl ?_
    go_simp
    refine⟨J trivial,?_⟩;refine zac 4 rfl (by kernel_rfl) ?_
    go_simp
    refine⟨J trivial,?_⟩;refine zac 5 rfl (by kernel_rfl) ?_;refine zaf (.tmp 8) (.tmp 11) 61 rfl rfl rfl E ?_;refine⟨J trivial,?_⟩;simp only[Act.put,sI,sS,sZ];refine zal 6 13 (.pointer (some ⟨D.heap.size,8,none⟩)) rfl (by kernel_rfl) (fun _ _ _ h=>h) (fun w' _=>by first|rfl|(go_simp;done) | (go_simp;rw[Yi];omega)) (J trivial) ?_;simp only[sI,sS,sZ];refine zac 7 rfl (by kernel_rfl) ?_
    go_simp
    refine⟨J trivial,?_⟩;refine wpAnyH_done (by kernel_rfl) ?_ _;exact aa
   ·skip
    refine zan rfl rfl ?_
    go_simp
    refine⟨J trivial,?_⟩;refine zac 1 rfl (by kernel_rfl) ?_
    go_simp
    refine⟨J trivial,?_⟩;refine zac 5 rfl (by kernel_rfl) ?_;refine zaf (.tmp 8) (.tmp 11) 61 rfl rfl rfl E ?_;refine⟨J trivial,?_⟩;simp only[Act.put,sI,sS,sZ];refine zal 6 13 (.pointer (some ⟨D.heap.size,8,none⟩)) rfl (by kernel_rfl) (fun _ _ _ h=>h) (fun w' _=>by first|rfl|(go_simp;done) | (go_simp;rw[Yi];omega)) (J trivial) ?_;simp only[sI,sS,sZ];refine zac 7 rfl (by kernel_rfl) ?_
    go_simp
    refine⟨J trivial,?_⟩;refine wpAnyH_done (by kernel_rfl) ?_ _;exact aa
 intro y0 Z X Y M I V N y8 K aG cR cG cv am ca;obtain⟨bs,bF,bu,bU,dy⟩:=ca;have bH:=J bF;have dj:=J bu;have db:=J bU;have a4:=J (bs);clear bs bF bu bU ax aI cp a3 aj
 go_wp2_with (fail)
 rcases hk13:bloD ts (dns ts m) s10 with _|⟨v13,s13⟩
 ·exact absurd C (by rw[hk13];intro h;cases h)
 rw[hk13] at C;simp only[Option.bind_some] at C;have aj:=J a4;have a6:Below am.heap.size am am.drew:=(Yb _ _).drew;have ay:=J (a4.out.low a6);have aO:=J (bH.out.below a6);have a9:=J (fun (h:QdS T am.drew g st cap ts s10)=>(fun hk=>HB.out am.drew _ _ hk h) hk13);clear hk13 a6 a4 bH;have cV:am.drew.cell? ⟨D.heap.size,8,none⟩=some (.slice cR cG cv):=Yp 8 aO.out.row rfl;apply zb8 (fun y0 Z X Y M I V N y8 K Wy sp sn sc y=>Fr T w W0 y g st cap ts s13∧Qk W0.heap.size (w.heap.size) y (D.heap.size) 14 ⟨#[]⟩ 0 F.pos F.pos 0 F.pos (.slice sp sn sc) (([]++[v10.pt])++[v13.pt])∧am.drew.grownBy Wy (some g)∧((w.heap.size)≠D.heap.size->y.heap[w.heap.size]?=Wy.heap[w.heap.size]?)∧Wy.heap.size<=y.heap.size)
 rotate_left
 ·intro hc;refine zbc (S:=fun _=>Hid True) 8 rfl (by kernel_rfl) ?_;refine zal 0 14 (.pointer (some ⟨D.heap.size,8,none⟩)) rfl (by kernel_rfl) (fun _ _ _ h=>h) (fun w' _=>by first|rfl|(go_simp;done) | (go_simp;rw[Yi];omega)) (J trivial) ?_;simp only[sI,sS,sZ];refine zal 2 16 (.pointer (some ⟨g,0,none⟩)) rfl (by kernel_rfl) (fun _ _ _ h=>h) (fun w' _=>by first|rfl|(go_simp;done) | (go_simp;rw[Yi];omega)) (J trivial) ?_;simp only[sI,sS,sZ];refine wpAnyH_all (rs:=[1,3]) (by kernel_rfl) (by simp) fun i A=>?_;simp only[List.mem_cons,List.not_mem_nil,or_false] at A;rcases A with rfl|rfl
  ·skip
   refine zan rfl rfl ?_
   go_simp
   refine⟨J trivial,?_⟩;refine zac 3 rfl (by kernel_rfl) ?_
   go_simp
   refine(a9 ay.out.hR).mono ?_;rintro e aM ⟨⟨y0,Z,X,Y,M,I,V,N,y8,K⟩,rfl,q13,g13,r13⟩;obtain⟨a7,bf,v2,w1,y,E,ce,cf,cw,aE,ah,aA,U⟩:=zb3 ay aO (by simp) g13 r13 q13;obtain⟨af,ac,ae,ab⟩:=ah.sl;subst ab;have aa:=J (hc y0 Z X Y M I V N y8 K aM af ac ae y ⟨aE,ah,g13,aA,U⟩)
   dsimp only[Qe.cells,paQ] at a7 bf E ce cf cw
   unfold Qe.cells paQ;clear aE ah aA q13 g13 r13 U;refine⟨J trivial,?_⟩;refine zac 4 rfl (by kernel_rfl) ?_
   go_simp
   refine⟨J trivial,?_⟩;refine zac 5 rfl (by kernel_rfl) ?_;refine zaf (.tmp 15) (.tmp 18) 61 rfl rfl rfl E ?_;refine⟨J trivial,?_⟩;simp only[Act.put,sI,sS,sZ];refine zal 6 20 (.pointer (some ⟨D.heap.size,8,none⟩)) rfl (by kernel_rfl) (fun _ _ _ h=>h) (fun w' _=>by first|rfl|(go_simp;done) | (go_simp;rw[Yi];omega)) (J trivial) ?_;simp only[sI,sS,sZ];refine zac 7 rfl (by kernel_rfl) ?_
   go_simp
   refine⟨J trivial,?_⟩;refine wpAnyH_done (by kernel_rfl) ?_ _;exact aa
  ·skip
   refine zan rfl rfl ?_
   go_simp
   refine(a9 ay.out.hR).mono ?_;rintro e aM ⟨⟨y0,Z,X,Y,M,I,V,N,y8,K⟩,rfl,q13,g13,r13⟩;obtain⟨a7,bf,v2,w1,y,E,ce,cf,cw,aE,ah,aA,U⟩:=zb3 ay aO (by simp) g13 r13 q13;obtain⟨af,ac,ae,ab⟩:=ah.sl;subst ab;have aa:=J (hc y0 Z X Y M I V N y8 K aM af ac ae y ⟨aE,ah,g13,aA,U⟩)
   dsimp only[Qe.cells,paQ] at a7 bf E ce cf cw
   unfold Qe.cells paQ;clear aE ah aA q13 g13 r13 U;refine⟨J trivial,?_⟩;refine wpAnyH_all (rs:=[1,4]) (by kernel_rfl) (by simp) fun i A=>?_;simp only[List.mem_cons,List.not_mem_nil,or_false] at A;rcases A with rfl|rfl
   ·skip
    refine zan rfl rfl ?_
    go_simp
    refine⟨J trivial,?_⟩;refine zac 4 rfl (by kernel_rfl) ?_
    go_simp
    refine⟨J trivial,?_⟩;refine zac 5 rfl (by kernel_rfl) ?_;refine zaf (.tmp 15) (.tmp 18) 61 rfl rfl rfl E ?_;refine⟨J trivial,?_⟩;simp only[Act.put,sI,sS,sZ];refine zal 6 20 (.pointer (some ⟨D.heap.size,8,none⟩)) rfl (by kernel_rfl) (fun _ _ _ h=>h) (fun w' _=>by first|rfl|(go_simp;done) | (go_simp;rw[Yi];omega)) (J trivial) ?_;simp only[sI,sS,sZ];refine zac 7 rfl (by kernel_rfl) ?_
    go_simp
    refine⟨J trivial,?_⟩;refine wpAnyH_done (by kernel_rfl) ?_ _;exact aa
   ·skip
    refine zan rfl rfl ?_
    go_simp
    refine⟨J trivial,?_⟩;refine zac 1 rfl (by kernel_rfl) ?_
    go_simp
    refine⟨J trivial,?_⟩;refine zac 5 rfl (by kernel_rfl) ?_;refine zaf (.tmp 15) (.tmp 18) 61 rfl rfl rfl E ?_;refine⟨J trivial,?_⟩;simp only[Act.put,sI,sS,sZ];refine zal 6 20 (.pointer (some ⟨D.heap.size,8,none⟩)) rfl (by kernel_rfl) (fun _ _ _ h=>h) (fun w' _=>by first|rfl|(go_simp;done) | (go_simp;rw[Yi];omega)) (J trivial) ?_;simp only[sI,sS,sZ];refine zac 7 rfl (by kernel_rfl) ?_
    go_simp
    refine⟨J trivial,?_⟩;refine wpAnyH_done (by kernel_rfl) ?_ _;exact aa
 intro y0 Z X Y M I V N y8 K aM b0 bX br dM cj;obtain⟨bD,b2,bp,bK,dq⟩:=cj;have bk:=J b2;have dl:=J bp;have dJ:=J bK;have bc:=J (bD);clear bD b2 bp bK ay aO cV a9 aj
 go_wp2_with fail
 refine(zas ⟨#[101,108,115,101]⟩ bc.out.hR).mono ?_;rintro e c7 ⟨rfl,a8⟩;obtain⟨c5,A⟩:∃ b,isQ ts s13.p ⟨#[101,108,115,101]⟩=b:=⟨_,rfl⟩;rw[A]
 try rw[A] at C
 have aw:=J (bk.out.below a8);have ao:=J (bc.out.low a8);clear A a8 bc bk
 cases c5
 ·skip
  replace C:=J (if_f C (fun h=>by cases h))
  obtain⟨ch,cu,cQ,ct,c4,cb,cL,cg,cB,cc⟩:=row9 aw.out.row
  go_wp2_with fail
  clear ch cu cQ ct c4 cb cL cg cB cc;obtain⟨dC,c9,dH,cP,bS⟩:=zbf ao aw;injection cP with u1 u2 u3;subst u1 u2 u3;refine bS.mono ?_;rintro e dg ⟨dz,rfl,cl,bQ,bY⟩;have bq:=J bY;have cY:=J (bQ);clear bS cl bQ bY ao aw;obtain⟨dc,dr,bt,bj⟩:=zbb cY (v:=(⟨14,⟨#[]⟩,0,F.pos,F.pos,behI ts s13.p,F.pos,(([]++[v10.pt])++[v13.pt])⟩:Qv)) ⟨bq.out.is.keep (fun j hj=>⟨hj.1,hj.2.1⟩) fun _ _=>rfl,bq.out.bg⟩;have HP:=J bj;have av:=J bt;clear bj bt
  go_wp2
  have hx:=Yl C;exact zao Tryz.results151 rfl av (hx ▸ HP.out)
 ·skip
  replace C:=J (if_t C rfl)
  go_wp2_with fail
  refine(zah ⟨#[101,108,115,101]⟩ ao.out.hR).mono ?_;rintro e b8 ⟨rfl,aP,bC⟩;obtain⟨ci,ht⟩:∃ t,takT ts ⟨#[101,108,115,101]⟩ s13=t:=⟨_,rfl⟩;obtain⟨an,hs⟩:∃ s2,takS ts ⟨#[101,108,115,101]⟩ s13=s2:=⟨_,rfl⟩;rw[show takT ts ⟨#[101,108,115,101]⟩ ⟨s13.p,s13.bad⟩=ci from ht];have bL:QdS T b8 g st cap ts an:=hs ▸ bC;have dt:Hid (LtQ s13 an):=J (hs ▸ zam _ _)
  try rw[ht] at C
  try rw[hs] at C
  have bo:=J (aw.out.grow ao.out.gB aP);have aZ:=J (ao.out.call aP bL);clear ht hs bC bL aP ao aw
  go_wp2_with fail
  refine(zas ⟨#[105,102]⟩ aZ.out.hR).mono ?_;rintro e ag ⟨rfl,ba⟩;obtain⟨cx,A⟩:∃ b,isQ ts an.p ⟨#[105,102]⟩=b:=⟨_,rfl⟩;rw[A]
  try rw[A] at C
  have aJ:=J (bo.out.below ba);have ap:=J (aZ.out.low ba);clear A ba aZ bo
  cases cx
  ·skip
   replace C:=J (z4x C (fun h=>by cases h))
   go_wp2_with (fail)
   rcases hk30:bloD ts (dns ts m) an with _|⟨v30,s30⟩
   ·exact absurd C (by rw[hk30];intro h;cases h)
   rw[hk30] at C;simp only[Option.bind_some] at C;have aj:=J ap;have be:Below ag.heap.size ag ag.drew:=(Yb _ _).drew;have az:=J (ap.out.low be);have aH:=J (aJ.out.below be);have aY:=J (fun (h:QdS T ag.drew g st cap ts an)=>(fun hk=>HB.out ag.drew _ _ hk h) hk30);clear hk30 be ap aJ;have cr:ag.drew.cell? ⟨D.heap.size,8,none⟩=some (.slice b0 bX br):=Yp 8 aH.out.row rfl;apply zb8 (fun y0 Z X Y M I V N y8 K Wy sp sn sc y=>Fr T w W0 y g st cap ts s30∧Qk W0.heap.size (w.heap.size) y (D.heap.size) 14 ⟨#[]⟩ 0 F.pos F.pos 0 F.pos (.slice sp sn sc) ((([]++[v10.pt])++[v13.pt])++[v30.pt])∧ag.drew.grownBy Wy (some g)∧((w.heap.size)≠D.heap.size->y.heap[w.heap.size]?=Wy.heap[w.heap.size]?)∧Wy.heap.size<=y.heap.size)
   rotate_left
   ·intro hc;refine zbc (S:=fun _=>Hid True) 8 rfl (by kernel_rfl) ?_;refine zal 0 34 (.pointer (some ⟨D.heap.size,8,none⟩)) rfl (by kernel_rfl) (fun _ _ _ h=>h) (fun w' _=>by first|rfl|(go_simp;done) | (go_simp;rw[Yi];omega)) (J trivial) ?_;simp only[sI,sS,sZ];refine zal 2 36 (.pointer (some ⟨g,0,none⟩)) rfl (by kernel_rfl) (fun _ _ _ h=>h) (fun w' _=>by first|rfl|(go_simp;done) | (go_simp;rw[Yi];omega)) (J trivial) ?_;simp only[sI,sS,sZ];refine wpAnyH_all (rs:=[1,3]) (by kernel_rfl) (by simp) fun i A=>?_;simp only[List.mem_cons,List.not_mem_nil,or_false] at A;rcases A with rfl|rfl
    ·skip
     refine zan rfl rfl ?_
     go_simp
     refine⟨J trivial,?_⟩;refine zac 3 rfl (by kernel_rfl) ?_
     go_simp
     refine(aY az.out.hR).mono ?_;rintro e aL ⟨⟨y0,Z,X,Y,M,I,V,N,y8,K⟩,rfl,q30,g30,r30⟩;obtain⟨aV,a0,v2,w1,y,E,ce,cf,cw,aF,ak,aC,U⟩:=zb3 az aH (by simp) g30 r30 q30;obtain⟨af,ac,ae,ab⟩:=ak.sl;subst ab;have aa:=J (hc y0 Z X Y M I V N y8 K aL af ac ae y ⟨aF,ak,g30,aC,U⟩)
     dsimp only[Qe.cells,paQ] at aV a0 E ce cf cw
     unfold Qe.cells paQ;clear aF ak aC q30 g30 r30 U;refine⟨J trivial,?_⟩;refine zac 4 rfl (by kernel_rfl) ?_
     go_simp
     refine⟨J trivial,?_⟩;refine zac 5 rfl (by kernel_rfl) ?_;refine zaf (.tmp 35) (.tmp 38) 61 rfl rfl rfl E ?_;refine⟨J trivial,?_⟩;simp only[Act.put,sI,sS,sZ];refine zal 6 40 (.pointer (some ⟨D.heap.size,8,none⟩)) rfl (by kernel_rfl) (fun _ _ _ h=>h) (fun w' _=>by first|rfl|(go_simp;done) | (go_simp;rw[Yi];omega)) (J trivial) ?_;simp only[sI,sS,sZ];refine zac 7 rfl (by kernel_rfl) ?_
     go_simp
     refine⟨J trivial,?_⟩;refine wpAnyH_done (by kernel_rfl) ?_ _;exact aa
    ·skip
     refine zan rfl rfl ?_
     go_simp
     refine(aY az.out.hR).mono ?_;rintro e aL ⟨⟨y0,Z,X,Y,M,I,V,N,y8,K⟩,rfl,q30,g30,r30⟩;obtain⟨aV,a0,v2,w1,y,E,ce,cf,cw,aF,ak,aC,U⟩:=zb3 az aH (by simp) g30 r30 q30;obtain⟨af,ac,ae,ab⟩:=ak.sl;subst ab;have aa:=J (hc y0 Z X Y M I V N y8 K aL af ac ae y ⟨aF,ak,g30,aC,U⟩)
     dsimp only[Qe.cells,paQ] at aV a0 E ce cf cw
     unfold Qe.cells paQ;clear aF ak aC q30 g30 r30 U;refine⟨J trivial,?_⟩;refine wpAnyH_all (rs:=[1,4]) (by kernel_rfl) (by simp) fun i A=>?_;simp only[List.mem_cons,List.not_mem_nil,or_false] at A;rcases A with rfl|rfl
     ·skip
      refine zan rfl rfl ?_
      go_simp
      refine⟨J trivial,?_⟩;refine zac 4 rfl (by kernel_rfl) ?_
      go_simp
      refine⟨J trivial,?_⟩;refine zac 5 rfl (by kernel_rfl) ?_;refine zaf (.tmp 35) (.tmp 38) 61 rfl rfl rfl E ?_;refine⟨J trivial,?_⟩;simp only[Act.put,sI,sS,sZ];refine zal 6 40 (.pointer (some ⟨D.heap.size,8,none⟩)) rfl (by kernel_rfl) (fun _ _ _ h=>h) (fun w' _=>by first|rfl|(go_simp;done) | (go_simp;rw[Yi];omega)) (J trivial) ?_;simp only[sI,sS,sZ];refine zac 7 rfl (by kernel_rfl) ?_
      go_simp
      refine⟨J trivial,?_⟩;refine wpAnyH_done (by kernel_rfl) ?_ _;exact aa
     ·skip
      refine zan rfl rfl ?_
      go_simp
      refine⟨J trivial,?_⟩;refine zac 1 rfl (by kernel_rfl) ?_
      go_simp
      refine⟨J trivial,?_⟩;refine zac 5 rfl (by kernel_rfl) ?_;refine zaf (.tmp 35) (.tmp 38) 61 rfl rfl rfl E ?_;refine⟨J trivial,?_⟩;simp only[Act.put,sI,sS,sZ];refine zal 6 40 (.pointer (some ⟨D.heap.size,8,none⟩)) rfl (by kernel_rfl) (fun _ _ _ h=>h) (fun w' _=>by first|rfl|(go_simp;done) | (go_simp;rw[Yi];omega)) (J trivial) ?_;simp only[sI,sS,sZ];refine zac 7 rfl (by kernel_rfl) ?_
      go_simp
      refine⟨J trivial,?_⟩;refine wpAnyH_done (by kernel_rfl) ?_ _;exact aa
   intro y0 Z X Y M I V N y8 K aL dk dI dE dU cZ;obtain⟨bT,bB,bl,bI,dh⟩:=cZ;have aT:=J bB;have dG:=J bl;have dQ:=J bI;have bw:=J (bT);clear bT bB bl bI az aH cr aY aj;obtain⟨cX,b5,cA,cS,cC,co,b3,cN,cH,cI⟩:=row9 aT.out.row
   go_wp2_with fail
   clear cX b5 cA cS cC co b3 cN cH cI;obtain⟨de,ds,dD,b9,bZ⟩:=zbf bw aT;injection b9 with u1 u2 u3;subst u1 u2 u3;refine bZ.mono ?_;rintro e dN ⟨dO,rfl,cT,bV,bx⟩;have bN:=J bx;have b6:=J (bV);clear bZ cT bV bx bw aT;obtain⟨dw,dT,bJ,bW⟩:=zbb b6 (v:=(⟨14,⟨#[]⟩,0,F.pos,F.pos,behI ts s30.p,F.pos,((([]++[v10.pt])++[v13.pt])++[v30.pt])⟩:Qv)) ⟨bN.out.is.keep (fun j hj=>⟨hj.1,hj.2.1⟩) fun _ _=>rfl,bN.out.bg⟩;have HP:=J bW;have av:=J bJ;clear bW bJ
   go_wp2
   have hx:=Yl C;exact zao Tryz.results151 rfl av (hx ▸ HP.out)
  ·skip
   replace C:=J (z4w C rfl)
   go_wp2_with (fail)
   rcases hk38:(dns ts m).bran an with _|⟨v38,s38⟩
   ·exact absurd C (by rw[hk38];intro h;cases h)
   rw[hk38] at C;simp only[Option.bind_some] at C;have aj:=J ap;have bb:Below ag.heap.size ag ag.drew:=(Yb _ _).drew;have ar:=J (ap.out.low bb);have aK:=J (aJ.out.below bb);have aU:=J (fun (h:QdS T ag.drew g st cap ts an)=>(fun hk=>HC.out ag.drew _ _ hk h) hk38);clear hk38 bb ap aJ;have cJ:ag.drew.cell? ⟨D.heap.size,8,none⟩=some (.slice b0 bX br):=Yp 8 aK.out.row rfl;apply zb8 (fun y0 Z X Y M I V N y8 K Wy sp sn sc y=>Fr T w W0 y g st cap ts s38∧Qk W0.heap.size (w.heap.size) y (D.heap.size) 14 ⟨#[]⟩ 0 F.pos F.pos 0 F.pos (.slice sp sn sc) ((([]++[v10.pt])++[v13.pt])++[v38.pt])∧ag.drew.grownBy Wy (some g)∧((w.heap.size)≠D.heap.size->y.heap[w.heap.size]?=Wy.heap[w.heap.size]?)∧Wy.heap.size<=y.heap.size)
   rotate_left
   ·intro hc;refine zbc (S:=fun _=>Hid True) 8 rfl (by kernel_rfl) ?_;refine zal 0 27 (.pointer (some ⟨D.heap.size,8,none⟩)) rfl (by kernel_rfl) (fun _ _ _ h=>h) (fun w' _=>by first|rfl|(go_simp;done) | (go_simp;rw[Yi];omega)) (J trivial) ?_;simp only[sI,sS,sZ];refine zal 2 29 (.pointer (some ⟨g,0,none⟩)) rfl (by kernel_rfl) (fun _ _ _ h=>h) (fun w' _=>by first|rfl|(go_simp;done) | (go_simp;rw[Yi];omega)) (J trivial) ?_;simp only[sI,sS,sZ];refine wpAnyH_all (rs:=[1,3]) (by kernel_rfl) (by simp) fun i A=>?_;simp only[List.mem_cons,List.not_mem_nil,or_false] at A;rcases A with rfl|rfl
    ·skip
     refine zan rfl rfl ?_
     go_simp
     refine⟨J trivial,?_⟩;refine zac 3 rfl (by kernel_rfl) ?_
     go_simp
     refine(aU ar.out.hR).mono ?_;rintro e aN ⟨⟨y0,Z,X,Y,M,I,V,N,y8,K⟩,rfl,q38,g38,r38⟩;obtain⟨a2,aW,v2,w1,y,E,ce,cf,cw,aB,ai,aD,U⟩:=zb3 ar aK (by simp) g38 r38 q38;obtain⟨af,ac,ae,ab⟩:=ai.sl;subst ab;have aa:=J (hc y0 Z X Y M I V N y8 K aN af ac ae y ⟨aB,ai,g38,aD,U⟩)
     dsimp only[Qe.cells,paQ] at a2 aW E ce cf cw
     unfold Qe.cells paQ;clear aB ai aD q38 g38 r38 U;refine⟨J trivial,?_⟩;refine zac 4 rfl (by kernel_rfl) ?_
     go_simp
     refine⟨J trivial,?_⟩;refine zac 5 rfl (by kernel_rfl) ?_;refine zaf (.tmp 28) (.tmp 31) 61 rfl rfl rfl E ?_;refine⟨J trivial,?_⟩;simp only[Act.put,sI,sS,sZ];refine zal 6 33 (.pointer (some ⟨D.heap.size,8,none⟩)) rfl (by kernel_rfl) (fun _ _ _ h=>h) (fun w' _=>by first|rfl|(go_simp;done) | (go_simp;rw[Yi];omega)) (J trivial) ?_;simp only[sI,sS,sZ];refine zac 7 rfl (by kernel_rfl) ?_
     go_simp
     refine⟨J trivial,?_⟩;refine wpAnyH_done (by kernel_rfl) ?_ _;exact aa
    ·skip
     refine zan rfl rfl ?_
     go_simp
     refine(aU ar.out.hR).mono ?_;rintro e aN ⟨⟨y0,Z,X,Y,M,I,V,N,y8,K⟩,rfl,q38,g38,r38⟩;obtain⟨a2,aW,v2,w1,y,E,ce,cf,cw,aB,ai,aD,U⟩:=zb3 ar aK (by simp) g38 r38 q38;obtain⟨af,ac,ae,ab⟩:=ai.sl;subst ab;have aa:=J (hc y0 Z X Y M I V N y8 K aN af ac ae y ⟨aB,ai,g38,aD,U⟩)
     dsimp only[Qe.cells,paQ] at a2 aW E ce cf cw
     unfold Qe.cells paQ;clear aB ai aD q38 g38 r38 U;refine⟨J trivial,?_⟩;refine wpAnyH_all (rs:=[1,4]) (by kernel_rfl) (by simp) fun i A=>?_;simp only[List.mem_cons,List.not_mem_nil,or_false] at A;rcases A with rfl|rfl
     ·skip
      refine zan rfl rfl ?_
      go_simp
      refine⟨J trivial,?_⟩;refine zac 4 rfl (by kernel_rfl) ?_
      go_simp
      refine⟨J trivial,?_⟩;refine zac 5 rfl (by kernel_rfl) ?_;refine zaf (.tmp 28) (.tmp 31) 61 rfl rfl rfl E ?_;refine⟨J trivial,?_⟩;simp only[Act.put,sI,sS,sZ];refine zal 6 33 (.pointer (some ⟨D.heap.size,8,none⟩)) rfl (by kernel_rfl) (fun _ _ _ h=>h) (fun w' _=>by first|rfl|(go_simp;done) | (go_simp;rw[Yi];omega)) (J trivial) ?_;simp only[sI,sS,sZ];refine zac 7 rfl (by kernel_rfl) ?_
      go_simp
      refine⟨J trivial,?_⟩;refine wpAnyH_done (by kernel_rfl) ?_ _;exact aa
     ·skip
      refine zan rfl rfl ?_
      go_simp
      refine⟨J trivial,?_⟩;refine zac 1 rfl (by kernel_rfl) ?_
      go_simp
      refine⟨J trivial,?_⟩;refine zac 5 rfl (by kernel_rfl) ?_;refine zaf (.tmp 28) (.tmp 31) 61 rfl rfl rfl E ?_;refine⟨J trivial,?_⟩;simp only[Act.put,sI,sS,sZ];refine zal 6 33 (.pointer (some ⟨D.heap.size,8,none⟩)) rfl (by kernel_rfl) (fun _ _ _ h=>h) (fun w' _=>by first|rfl|(go_simp;done) | (go_simp;rw[Yi];omega)) (J trivial) ?_;simp only[sI,sS,sZ];refine zac 7 rfl (by kernel_rfl) ?_
      go_simp
      refine⟨J trivial,?_⟩;refine wpAnyH_done (by kernel_rfl) ?_ _;exact aa
   intro y0 Z X Y M I V N y8 K aN dp dP dS dF cd;obtain⟨bv,bP,bn,bi,dx⟩:=cd;have a5:=J bP;have c8:=J bn;have c6:=J bi;have bE:=J (bv);clear bv bP bn bi ar aK cJ aU aj;obtain⟨cF,cy,ck,cM,cD,cW,cO,cK,cq,cz⟩:=row9 a5.out.row
   go_wp2_with fail
   clear cF cy ck cM cD cW cO cK cq cz;obtain⟨dL,dn,dv,cE,bz⟩:=zbf bE a5;injection cE with u1 u2 u3;subst u1 u2 u3;refine bz.mono ?_;rintro e dB ⟨dA,rfl,cn,bm,bA⟩;have bR:=J bA;have c3:=J (bm);clear bz cn bm bA bE a5;obtain⟨dR,dd,b1,bM⟩:=zbb c3 (v:=(⟨14,⟨#[]⟩,0,F.pos,F.pos,behI ts s38.p,F.pos,((([]++[v10.pt])++[v13.pt])++[v38.pt])⟩:Qv)) ⟨bR.out.is.keep (fun j hj=>⟨hj.1,hj.2.1⟩) fun _ _=>rfl,bR.out.bg⟩;have HP:=J bM;have av:=J b1;clear bM b1
   go_wp2
   have hx:=Yl C;exact zao Tryz.results151 rfl av (hx ▸ HP.out)
theorem zq7 {m:Nat}{r:Qv × Qs}(hE:RwQ T g st cap ts m)(hR:QdS T w g st cap ts s)(hX:(dns ts m).row 1 s=some r):Calls Tryz.prog 99 #[.pointer (some ⟨g,0,none⟩)] w (QoP T w g st cap ts r):=by
 have y:=J (zcu hR);have ae:=hR.few;have ac:=hR.le;clear hR;have N:=J hE;clear hE
 skip
 have U:=J hX;clear hX
 go_enter Tryz.func99,Tryz.ntmps99
 go_wp2_with fail
 refine zag (fun W=>Fr T w W W g st cap ts s) y.out ?_;intro W0 D;clear y;have y:=J D;clear D;refine(N W0 _ _ 1 1 rfl (Ya _) (by decide) U.out y.out.hR).mono ?_;rintro e W1 ⟨Z,rfl,A,F,C⟩;obtain⟨v1,s1⟩:=r;have E:=J A;have ab:=y.out.size;have M:=J (y.out.call F C);clear A F C;obtain⟨W2,aa,K,I⟩:=zbb M (v:=v1) ⟨E.out.is.keep (fun j V=>⟨by omega,V.2⟩) fun _ _=>rfl,E.out.bg⟩;have Y:=J I;have X:=J K;clear I K
 go_wp2
 exact zao Tryz.results99 rfl X Y
theorem zq8 {m:Nat}{r:Qv × Qs}(hE:ExQ T g st cap ts (dns ts m))(hR:QdS T w g st cap ts s)(hX:(dns ts (m+1)).prim s=some r):Calls Tryz.prog 164 #[.pointer (some ⟨g,0,none⟩)] w (QoP T w g st cap ts r):=by
 have HF:=J (zcu hR);have eg:=hR.few;have dk:=hR.le;clear hR;have HE:=J hE;clear hE;rw[zqx] at hX;have y:=J hX;clear hX
 go_enter Tryz.func164,Tryz.ntmps164
 go_wp2_with fail
 refine zag (fun W=>Fr T w W W g st cap ts s) HF.out ?_;intro W0 hF;clear HF;have HF:=J hF;clear hF;refine(zbk HF.out.hR).mono ?_;rintro e W1 ⟨rfl,b1⟩;obtain⟨C,F⟩:∃ t,nxQ ts s.p=t:=⟨_,rfl⟩;rw[F];have dv:=J F;have ek:=J (F ▸ HF.out.hR.sz)
 try rw[F] at y
 have bL:=J (HF.out.low b1);clear F b1 HF;obtain⟨W4,al,b4,f4,l4⟩:=zea bL C;have ae:=J l4;have U:=J (f4);clear b4 f4 l4 bL;obtain⟨bm,an⟩:∃ b,s.bad=b:=⟨_,rfl⟩;have ak:W4.cell? ⟨g,2,none⟩=some (.bool bm):=an ▸ U.out.hR.c2;rw[an] at y;have dY:=J an;clear an
 cases bm
 ·skip
  go_wp2_with fail
  clear al ak;refine(zas ⟨#[40]⟩ U.out.hR).mono ?_;rintro e W8 ⟨rfl,b8⟩;obtain⟨i8,K⟩:∃ b,isQ ts s.p ⟨#[40]⟩=b:=⟨_,rfl⟩;rw[K]
  try rw[K] at y
  have ag:=J (ae.out.low b8);have V:=J (U.out.low b8);clear K b8 U ae
  cases i8
  ·skip
   replace y:=J (if_f y (fun h=>by cases h))
   obtain⟨au,aG,az⟩:=ag.out.cells;obtain⟨k2,X⟩:∃ b,(C.kind == 2)=b:=⟨_,rfl⟩;obtain⟨k3,Y⟩:∃ b,(C.kind == 3)=b:=⟨_,rfl⟩;rw[X,Y] at y
   cases k2
   ·skip
    cases k3
    ·skip
     go_wp2_with fail
     clear au aG az X Y;refine(zas ⟨#[116,114,117,101]⟩ V.out.hR).mono ?_;rintro e eu ⟨rfl,aM⟩;obtain⟨c6,K⟩:∃ b,isQ ts s.p ⟨#[116,114,117,101]⟩=b:=⟨_,rfl⟩;rw[K]
     try rw[K] at y
     have bM:=J (ag.out.low aM);have ab:=J (V.out.low aM);clear K aM V ag
     cases c6
     ·skip
      go_wp2_with fail
      refine(zas ⟨#[102,97,108,115,101]⟩ ab.out.hR).mono ?_;rintro e dI ⟨rfl,aw⟩;obtain⟨cH,K⟩:∃ b,isQ ts s.p ⟨#[102,97,108,115,101]⟩=b:=⟨_,rfl⟩;rw[K]
      try rw[K] at y
      have bo:=J (bM.out.low aw);have Z:=J (ab.out.low aw);clear K aw ab bM
      cases cH
      ·skip
       replace y:=J (if_f y (fun h=>by cases h))
       go_wp2_with fail
       refine(zah ⟨#[110,97,109,101]⟩ Z.out.hR).mono ?_;rintro e bY ⟨rfl,a8,bG⟩;obtain⟨cS,F⟩:∃ t,takT ts ⟨#[110,97,109,101]⟩ s=t:=⟨_,rfl⟩;obtain⟨a9,M⟩:∃ s2,takS ts ⟨#[110,97,109,101]⟩ s=s2:=⟨_,rfl⟩;rw[show takT ts ⟨#[110,97,109,101]⟩ ⟨s.p,s.bad⟩=cS from F];have cc:QdS T bY g st cap ts a9:=M ▸ bG;have es:Hid (LtQ s a9):=J (M ▸ zam _ _)
       try rw[F] at y
       try rw[M] at y
       have aW:=J (bo.out.call Z.out.gB a8);have bh:=J (Z.out.call a8 cc);clear F M bG cc a8 Z bo;obtain⟨cU,cX,cF⟩:=aW.out.cells
       go_wp2_with fail
       clear cU cX cF;refine(zau 23 C C.text bY).mono ?_;rintro e et ⟨rfl,av⟩;have ec:=J (aW.out.low av);have bA:=J (bh.out.low av);clear av bh aW
       go_wp2_with fail
       refine(ze7 bA 23 C C.text).mono ?_;rintro e ep ⟨rfl,c3,b6⟩;have cL:=J (b6);clear c3 b6 bA;obtain⟨dN,dP,bx,cr⟩:=zbb cL (v:=(⟨23,C.text,0,C.pos,C.pos,(behI ts a9.p),C.pos,[]⟩:Qv)) (zeg _ _ _ _ _ _ _);have I:=J cr;have N:=J bx;clear cr bx
       go_wp2
       have E:=Yl y;exact zao Tryz.results164 rfl N (E ▸ I.out)
      ·skip
       replace y:=J (if_t y rfl)
       go_wp2_with fail
       refine(zbs Z.out.hR).mono ?_;rintro e dS ⟨dl,rfl,ax,ay,aD⟩;obtain⟨⟨cJ,ez⟩,hk29⟩:∃ r,litD ts s=r:=⟨_,rfl⟩;rw[hk29] at y ax aD
       try dsimp only at y
       have bE:=J ax;have dw:=ay.size;have cW:=J (Z.out.call ay aD);have ex:=Z.out.size;clear hk29 ax ay aD Z;obtain⟨er,d1,bu,b5⟩:=zbb cW (v:=cJ) ⟨bE.out.is.keep (fun j D=>⟨by omega,D.2⟩) fun _ _=>rfl,bE.out.bg⟩;have I:=J b5;have N:=J bu;clear b5 bu
       go_wp2
       have E:=Yl y;exact zao Tryz.results164 rfl N (E ▸ I.out)
     ·skip
      replace y:=J (if_t y rfl)
      go_wp2_with fail
      refine(zbs ab.out.hR).mono ?_;rintro e dW ⟨ey,rfl,a0,a5,aP⟩;obtain⟨⟨cV,d4⟩,hk33⟩:∃ r,litD ts s=r:=⟨_,rfl⟩;rw[hk33] at y a0 aP
      try dsimp only at y
      have bi:=J a0;have d5:=a5.size;have cw:=J (ab.out.call a5 aP);have c8:=ab.out.size;clear hk33 a0 a5 aP ab;obtain⟨eA,de,bq,ci⟩:=zbb cw (v:=cV) ⟨bi.out.is.keep (fun j D=>⟨by omega,D.2⟩) fun _ _=>rfl,bi.out.bg⟩;have I:=J ci;have N:=J bq;clear ci bq
      go_wp2
      have E:=Yl y;exact zao Tryz.results164 rfl N (E ▸ I.out)
    ·skip
     replace y:=J (if_t y rfl)
     go_wp2_with fail
     clear au aG az X Y;refine(zbs V.out.hR).mono ?_;rintro e dy ⟨el,rfl,aL,aT,aU⟩;obtain⟨⟨cR,eo⟩,hk37⟩:∃ r,litD ts s=r:=⟨_,rfl⟩;rw[hk37] at y aL aU
     try dsimp only at y
     have b0:=J aL;have d2:=aT.size;have cD:=J (V.out.call aT aU);have eh:=V.out.size;clear hk37 aL aT aU V;obtain⟨dd,ev,bX,bO⟩:=zbb cD (v:=cR) ⟨b0.out.is.keep (fun j D=>⟨by omega,D.2⟩) fun _ _=>rfl,b0.out.bg⟩;have I:=J bO;have N:=J bX;clear bO bX
     go_wp2
     have E:=Yl y;exact zao Tryz.results164 rfl N (E ▸ I.out)
   ·skip
    replace y:=J (if_t y rfl)
    go_wp2_with fail
    clear au aG az X Y;refine(zbs V.out.hR).mono ?_;rintro e dD ⟨ei,rfl,aV,be,aZ⟩;obtain⟨⟨cK,dL⟩,hk41⟩:∃ r,litD ts s=r:=⟨_,rfl⟩;rw[hk41] at y aV aZ
    try dsimp only at y
    have bK:=J aV;have dc:=be.size;have cE:=J (V.out.call be aZ);have dn:=V.out.size;clear hk41 aV be aZ V;obtain⟨ds,dH,bZ,bt⟩:=zbb cE (v:=cK) ⟨bK.out.is.keep (fun j D=>⟨by omega,D.2⟩) fun _ _=>rfl,bK.out.bg⟩;have I:=J bt;have N:=J bZ;clear bt bZ
    go_wp2
    have E:=Yl y;exact zao Tryz.results164 rfl N (E ▸ I.out)
  ·skip
   replace y:=J (if_t y rfl)
   go_wp2_with fail
   refine(zah ⟨#[40]⟩ V.out.hR).mono ?_;rintro e bR ⟨rfl,aX,cd⟩;obtain⟨cC,F⟩:∃ t,takT ts ⟨#[40]⟩ s=t:=⟨_,rfl⟩;obtain⟨a2,M⟩:∃ s2,takS ts ⟨#[40]⟩ s=s2:=⟨_,rfl⟩;rw[show takT ts ⟨#[40]⟩ ⟨s.p,s.bad⟩=cC from F];have bW:QdS T bR g st cap ts a2:=M ▸ cd;have dZ:Hid (LtQ s a2):=J (M ▸ zam _ _)
   try rw[F] at y
   try rw[M] at y
   have bs:=J (ag.out.call V.out.gB aX);have ai:=J (V.out.call aX bW);clear F M cd bW aX V ag
   go_wp2_with fail
   rcases hk48:(dns ts m).row 1 a2 with _|⟨v48,s48⟩
   ·exact absurd y (by rw[hk48];intro h;cases h)
   rw[hk48] at y;simp only[Option.bind_some] at y;refine(((fun hk=>HE.out _ _ _ hk ai.out.hR) hk48)).mono ?_;rintro e ah ⟨cI,rfl,cq,ap,bn⟩;have bS:=J cq;have bz:=J (bs.out.call ai.out.gB ap);have d3:=ap.size;have bf:=J (ai.out.call ap bn);have dM:=ai.out.size;clear hk48 cq ap bn ai bs;obtain⟨dE,cO,cu,co,ce⟩:=zpl bf (A:=bR) (by omega) bS.out;have bI:=J (bz.out.low cu);have bH:=J ce;have aj:=J (co);clear cu co ce bf bS bz
   go_wp2_with fail
   clear cO;refine(zah ⟨#[41]⟩ aj.out.hR).mono ?_;rintro e am ⟨rfl,aq,cg⟩;obtain⟨cB,F⟩:∃ t,takT ts ⟨#[41]⟩ s48=t:=⟨_,rfl⟩;obtain⟨br,M⟩:∃ s2,takS ts ⟨#[41]⟩ s48=s2:=⟨_,rfl⟩;rw[show takT ts ⟨#[41]⟩ ⟨s48.p,s48.bad⟩=cB from F];have bl:QdS T am g st cap ts br:=M ▸ cg;have d7:Hid (LtQ s48 br):=J (M ▸ zam _ _)
   try rw[F] at y
   try rw[M] at y
   have bN:=J (bI.out.call aj.out.gB aq);have af:=J (bH.out.call aj.out.gB aq);have b9:=J (aj.out.call aq bl);clear F M cg bl aq aj bI bH;obtain⟨d6,dp,dg⟩:=bN.out.cells;obtain⟨e0,e1,e2,e3,e4,e5,e6,e7,e8,e9⟩:=cI;obtain⟨pS,pV,ao⟩:=af.out.ex;have pR:=af.out.row;have pB:=af.out.hB;have pN:=af.out.hN;obtain⟨q0,q1,q2,q3,q4,q5,q6,q7,q8,qz⟩:=row9 pR;obtain⟨bJ,ea,bb,bT,cp⟩:∃ W2,am.setCell ⟨ah.heap.size,7,none⟩ (.int .i64 C.pos)=W2∧Below (ah.heap.size) am W2∧(∀ j,j≠ah.heap.size->W2.heap[j]?=am.heap[j]?)∧W2.heap[ah.heap.size]?=some (.cells (⟨e0,e1,e2,e3,e4,e5,C.pos,e7,e8,e9⟩:Qe).cells 63 (0,0)) :=
    ⟨_,rfl,(Yb _ _).setCell (p:=⟨ah.heap.size,7,none⟩) (Ya _) _,fun j D=>Ye _ _ _ _ D,Yf _ _ 7 _ _ _ pR⟩
   have b2:Hid (QV bJ pS ⟨v48.k,v48.x,v48.n,v48.a,v48.f,v48.t,C.pos,v48.l⟩ ⟨e0,e1,e2,e3,e4,e5,C.pos,e7,e8,e9⟩):=J ⟨(pV.is.begs C.pos).keep (fun _ h=>h) fun j D=>bT j (ao j D).2.2,rfl⟩;have dC:=bb.size;have bB:Hid (∀ j,pS j->W0.heap.size<=j∧j<bJ.heap.size):=J fun j D=>⟨(ao j D).1,by have:=(ao j D).2.1;omega⟩;have cn:=J cp;have aO:=J (b9.out.on (bb.mono pB));obtain⟨j0,j1,j2,j3,j4,j5,j6,j7,j8,-⟩:=row9 cn;clear pV pR pB pN bb bT cp af bN b9;have I:=J (ze6 aO (v:=⟨v48.k,v48.x,v48.n,v48.a,v48.f,v48.t,C.pos,v48.l⟩) (e:=⟨e0,e1,e2,e3,e4,e5,C.pos,e7,e8,e9⟩) ⟨b2.out.is.keep bB.out fun _ _=>rfl,rfl⟩);clear b2 bB ao cn
   go_wp2_with (refine zed (by rfl) (.tmp 2) (.tmp 25) (by rfl) ⟨e0,e1,e2,e3,e4,e5,C.pos,e7,e8,e9⟩ (by rfl) (by rfl) aO.out.hZ (by rfl) ?_)
   have E:=Yl y;exact zao Tryz.results164 rfl (zad aO.out.hZ) (E ▸ I.out)
 ·skip
  replace y:=J (if_f y (fun h=>by cases h))
  obtain⟨aN,a7,aR⟩:=ae.out.cells;obtain⟨k2,X⟩:∃ b,(C.kind == 2)=b:=⟨_,rfl⟩;obtain⟨k3,Y⟩:∃ b,(C.kind == 3)=b:=⟨_,rfl⟩;rw[X,Y] at y
  cases k2
  ·skip
   cases k3
   ·skip
    go_wp2_with fail
    clear al ak aN a7 aR X Y;refine(zas ⟨#[116,114,117,101]⟩ U.out.hR).mono ?_;rintro e ed ⟨rfl,aJ⟩;obtain⟨cG,K⟩:∃ b,isQ ts s.p ⟨#[116,114,117,101]⟩=b:=⟨_,rfl⟩;rw[K]
    try rw[K] at y
    have cb:=J (ae.out.low aJ);have ac:=J (U.out.low aJ);clear K aJ U ae
    cases cG
    ·skip
     go_wp2_with fail
     refine(zas ⟨#[102,97,108,115,101]⟩ ac.out.hR).mono ?_;rintro e dz ⟨rfl,aH⟩;obtain⟨cY,K⟩:∃ b,isQ ts s.p ⟨#[102,97,108,115,101]⟩=b:=⟨_,rfl⟩;rw[K]
     try rw[K] at y
     have bU:=J (cb.out.low aH);have aa:=J (ac.out.low aH);clear K aH ac cb
     cases cY
     ·skip
      replace y:=J (if_f y (fun h=>by cases h))
      go_wp2_with fail
      refine(zah ⟨#[110,97,109,101]⟩ aa.out.hR).mono ?_;rintro e b7 ⟨rfl,aA,bk⟩;obtain⟨cN,F⟩:∃ t,takT ts ⟨#[110,97,109,101]⟩ s=t:=⟨_,rfl⟩;obtain⟨bc,M⟩:∃ s2,takS ts ⟨#[110,97,109,101]⟩ s=s2:=⟨_,rfl⟩;rw[show takT ts ⟨#[110,97,109,101]⟩ ⟨s.p,s.bad⟩=cN from F];have cj:QdS T b7 g st cap ts bc:=M ▸ bk;have d9:Hid (LtQ s bc):=J (M ▸ zam _ _)
      try rw[F] at y
      try rw[M] at y
      have aF:=J (bU.out.call aa.out.gB aA);have bV:=J (aa.out.call aA cj);clear F M bk cj aA aa bU;obtain⟨cQ,cz,c5⟩:=aF.out.cells
      go_wp2_with fail
      clear cQ cz c5;refine(zau 23 C C.text b7).mono ?_;rintro e dG ⟨rfl,aE⟩;have eb:=J (aF.out.low aE);have b3:=J (bV.out.low aE);clear aE bV aF
      go_wp2_with fail
      refine(ze7 b3 23 C C.text).mono ?_;rintro e dQ ⟨rfl,cv,bF⟩;have cT:=J (bF);clear cv bF b3;obtain⟨d0,dJ,ct,ck⟩:=zbb cT (v:=(⟨23,C.text,0,C.pos,C.pos,(behI ts bc.p),C.pos,[]⟩:Qv)) (zeg _ _ _ _ _ _ _);have I:=J ck;have N:=J ct;clear ck ct
      go_wp2
      have E:=Yl y;exact zao Tryz.results164 rfl N (E ▸ I.out)
     ·skip
      replace y:=J (if_t y rfl)
      go_wp2_with fail
      refine(zbs aa.out.hR).mono ?_;rintro e ee ⟨da,rfl,a4,aK,aY⟩;obtain⟨⟨c7,d8⟩,hk78⟩:∃ r,litD ts s=r:=⟨_,rfl⟩;rw[hk78] at y a4 aY
      try dsimp only at y
      have bC:=J a4;have dt:=aK.size;have cM:=J (aa.out.call aK aY);have c9:=aa.out.size;clear hk78 a4 aK aY aa;obtain⟨dB,di,bw,cl⟩:=zbb cM (v:=c7) ⟨bC.out.is.keep (fun j D=>⟨by omega,D.2⟩) fun _ _=>rfl,bC.out.bg⟩;have I:=J cl;have N:=J bw;clear cl bw
      go_wp2
      have E:=Yl y;exact zao Tryz.results164 rfl N (E ▸ I.out)
    ·skip
     replace y:=J (if_t y rfl)
     go_wp2_with fail
     refine(zbs ac.out.hR).mono ?_;rintro e dR ⟨db,rfl,aB,ar,ba⟩;obtain⟨⟨cy,dF⟩,hk82⟩:∃ r,litD ts s=r:=⟨_,rfl⟩;rw[hk82] at y aB ba
     try dsimp only at y
     have bQ:=J aB;have dX:=ar.size;have cP:=J (ac.out.call ar ba);have dV:=ac.out.size;clear hk82 aB ar ba ac;obtain⟨en,dU,bD,bv⟩:=zbb cP (v:=cy) ⟨bQ.out.is.keep (fun j D=>⟨by omega,D.2⟩) fun _ _=>rfl,bQ.out.bg⟩;have I:=J bv;have N:=J bD;clear bv bD
     go_wp2
     have E:=Yl y;exact zao Tryz.results164 rfl N (E ▸ I.out)
   ·skip
    replace y:=J (if_t y rfl)
    go_wp2_with fail
    clear al ak aN a7 aR X Y;refine(zbs U.out.hR).mono ?_;rintro e ef ⟨dx,rfl,aC,aI,aQ⟩;obtain⟨⟨cZ,dA⟩,hk86⟩:∃ r,litD ts s=r:=⟨_,rfl⟩;rw[hk86] at y aC aQ
    try dsimp only at y
    have ca:=J aC;have dj:=aI.size;have cA:=J (U.out.call aI aQ);have ew:=U.out.size;clear hk86 aC aI aQ U;obtain⟨ej,dq,bp,cf⟩:=zbb cA (v:=cZ) ⟨ca.out.is.keep (fun j D=>⟨by omega,D.2⟩) fun _ _=>rfl,ca.out.bg⟩;have I:=J cf;have N:=J bp;clear cf bp
    go_wp2
    have E:=Yl y;exact zao Tryz.results164 rfl N (E ▸ I.out)
  ·skip
   replace y:=J (if_t y rfl)
   go_wp2_with fail
   clear al ak aN a7 aR X Y;refine(zbs U.out.hR).mono ?_;rintro e dK ⟨dh,rfl,a3,a6,a1⟩;obtain⟨⟨c4,dr⟩,hk90⟩:∃ r,litD ts s=r:=⟨_,rfl⟩;rw[hk90] at y a3 a1
   try dsimp only at y
   have ch:=J a3;have du:=a6.size;have cx:=J (U.out.call a6 a1);have dT:=U.out.size;clear hk90 a3 a6 a1 U;obtain⟨dO,em,bP,bj⟩:=zbb cx (v:=c4) ⟨ch.out.is.keep (fun j D=>⟨by omega,D.2⟩) fun _ _=>rfl,ch.out.bg⟩;have I:=J bj;have N:=J bP;clear bj bP
   go_wp2
   have E:=Yl y;exact zao Tryz.results164 rfl N (E ▸ I.out)
end
def rsQ:List (List UInt8):=[[124,124],[38,38],[61,61],[33,61],[60],[60,61],[62],[62,61],[43],[45],[42],[47],[37]]
def rnQ:List Int:=[1,2,3,3,3,3,3,3,4,4,5,5,5]
theorem z3v {s:ByteArray}{k:Nat}(hk:k<13)(he:s.data.toList=rsQ.getD k []):rowQ s=rnQ.getD k 0:=by
 unfold rowQ rowI;rw[he]
 iterate 13 (rcases k with _|k;· rfl)
 omega
theorem z0u {s:ByteArray}(h:∀ k,k<13->s.data.toList≠rsQ.getD k []):rowQ s=0:=by
 unfold rowQ rowI;have N:=h 0 (by omega);have U:=h 1 (by omega);have X:=h 2 (by omega);have V:=h 3 (by omega);have y:=h 4 (by omega);have F:=h 5 (by omega);have D:=h 6 (by omega);have A:=h 7 (by omega);have C:=h 8 (by omega);have I:=h 9 (by omega);have E:=h 10 (by omega);have M:=h 11 (by omega);have K:=h 12 (by omega);simp only[rsQ,List.getD_cons_zero,List.getD_cons_succ] at N U X V y F D A C I E M K;simp[N,U,X,V,y,F,D,A,C,I,E,M,K]
theorem zq9 (s:ByteArray)(w:World):Calls Tryz.prog 150 #[.string s] w fun e w'=>e=.returned (.int .i64 (rowQ s))∧Below w.heap.size w w':=by
 go_enter Tryz.func150,Tryz.ntmps150
 go_wp2
 refine zdq (fun W=>Below w.heap.size w W∧(∀ k,k<13->W.cell? ⟨w.heap.size,k,none⟩=some (.string (strU (rsQ.getD k []))))∧∀ k,k<13->W.cell? ⟨w.heap.size+1,k,none⟩=some (.int .i64 (rnQ.getD k 0))) ⟨zep _ _ _,?_,?_⟩ ?_
 ·intro k D
  iterate 13 (rcases k with _|k;· exact(Yc _ _ _ _ _ _ (zfa _ _ _)).trans rfl)
  omega
 ·intro k D
  iterate 13 (rcases k with _|k;· exact(Yc _ _ _ _ _ _ (zgc _ _ _)).trans rfl)
  omega
 rintro W ⟨I,C,F⟩;have K:=J I;have X:=J C;have V:=J F;clear I C F
 go_loopw [5] (fun i wr=>∃ k:Nat,i=.int .i64 k∧k<=13∧(∀ j,j<k->s.data.toList≠rsQ.getD j [])∧wr=W) (fun i _=>13 - (intOf i).toNat)
 case atStart=>exact⟨0,rfl,by omega,fun j A=>absurd A (by omega),rfl⟩
 case round=>
  obtain⟨k,rfl,D,E,rfl⟩:=hrel;have M:=J E;clear E
  by_cases h:k<13
  ·have Y:=X.out k h;have hd:=V.out k h;have N:decide ((k:Int)<13)=true:=by simp;omega
   by_cases he:s.data.toList=rsQ.getD k []
   ·have y:Hid (rowQ s=rnQ.getD k 0):=z3v h he;have e:((strU (rsQ[k]?.getD [])).toList == s.toList)=true:=by
     rw[ByteArray.toList_eq,ByteArray.toList_eq,beq_iff_eq,he,List.getD_eq_getElem?_getD];simp[strU]
    clear he
    go_wp2
    go_ret
    exact⟨by rw[y.out,List.getD_eq_getElem?_getD];rfl,K.out⟩
   ·have U:Hid (∀ j,j<k+1->s.data.toList≠rsQ.getD j []):=J fun j A=>by
     by_cases hjk:j=k
     ·rw[hjk];exact he
     ·exact M j (by omega)
    have e:((strU (rsQ[k]?.getD [])).toList == s.toList)=false:=by
     rw[ByteArray.toList_eq,ByteArray.toList_eq,beq_eq_false_iff_ne];intro e;refine he ?_;rw[<-e,List.getD_eq_getElem?_getD];simp[strU]
    clear he
    go_wp2
    exact⟨⟨k+1,by simp,by omega,U.out,trivial⟩,by simp[intOf];omega⟩
  ·have N:decide ((k:Int)<13)=false:=by simp;omega
   have y:Hid (rowQ s=0):=J (z0u fun j A=>M.out j (by omega))
   go_wp2
   go_ret
   exact⟨by rw[y.out];rfl,K.out⟩
end Go.Proofs.YtmclgbkijeidaaaGreatDoor
