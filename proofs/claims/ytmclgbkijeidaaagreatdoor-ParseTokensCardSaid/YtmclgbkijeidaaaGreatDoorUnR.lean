import Derived.Test.YtmclgbkijeidaaaGreatDoorUnQ
import Derived.Test.YtmclgbkijeidaaaGreatDoorUnG
import Derived.Test.YtmclgbkijeidaaaGreatDoorUnJ
import Derived.Deep.DeepCutAuto
import Derived.Deep.Cut
import Derived.Deep.CutRange
import Derived.Deep.CutBlock
import Derived.Test.YtmclgbkijeidaaaGreatDoorUnD
namespace Go.Proofs.YtmclgbkijeidaaaGreatDoor
set_option maxRecDepth 100000
set_option maxHeartbeats 4000000
open Go.RowKit
theorem zoa (B:Nat) (SP:Nat->Prop)(hSP:∀ j,SP j->j<B)(n:Nat):∀ (t:Pt)(w:World)(e:Qe)(v:Value) (N0:List NdM),cntP t<=n->QAt w SP t e->OwnN B w v N0->B<=w.heap.size->N0.length+cntP t<=500000 ->
  Calls Tryz.prog 26 #[v,.agg e.cells] w (LayS B w v N0 t):=by
 induction n with
 | zero=>intro t w e v N0 h;cases t with | mk k x n a f t l=>rw[cntP] at h;omega
 | succ n ih=>
  intro t w e v N0 hcnt hq hown hB hbound;have HIH:=hid ih;have HSP:=hid hSP;clear ih hSP
  cases hq with
  | mk k x nn a f tt l bg es sp cap hr hs hl hk=>
  have hcl:1+cntL l<=n+1:=hcnt;have hbd:N0.length+(1+cntL l)<=500000:=hbound;have hll:=zhb l;clear hcnt hbound;obtain⟨nl,hnl⟩:∃ q,es.length=q:=⟨_,rfl⟩;have HNL:=hid hnl;have HLQ:=hid (hnl.symm.trans hl);have hnb:nl<=500000:=by have:=HLQ.out;omega
  have HRS:Hid (∀ W,Below B w W->RowsAt W 9 Qe.cells sp es):=hid fun W h=>hr.stay fun q hq=>h.block _ (HSP.out _ (hs q hq));have HKD:Hid (∀ W,Below B w W->∀ (i:Nat) (e':Qe) (t':Pt),es[i]?=some e'->l[i]?=some t'->QAt W SP t' e'):=hid fun W h i e' t' e1 e2=>(hk i e' t' e1 e2).keep (fun _ h=>h) fun j hj=>h.block j (HSP.out j hj);have HOW:=hid hown;have HVB:Hid (∀ q,v.ownBlock=some q->B<=q):=hid fun q e=>(hown.lt e).1;obtain⟨s0,c0,hsh⟩:=hown.shape;rw[hnl];clear hr hs hk hown hnl hl;subst hsh;have hown1:OwnN B w (.slice s0 N0.length c0) N0:=HOW.out;obtain⟨v1,W2,hrun,hly⟩:=zpo (B:=B) (cs:=paQ k x nn a f tt bg (.slice sp nl cap)) (m:=⟨k,x,nn,none,0,0,a,f,tt⟩) (l:=l) (W1:=w.alloc (.cells (paQ k x nn a f tt bg (.slice sp nl cap)) 63)) hown1 hB ((Below.refl _ _).alloc (Nat.le_refl _) _) (by simp) (heap_alloc_new _ _) ⟨rfl,rfl,rfl⟩ (by omega);have HLY:=hid hly
  dsimp only[NdM.cells,paQ] at hrun
  simp only[World.size_alloc] at hrun;have hn0:N0.length<=500000:=by omega
  clear hown1 hly
  go_enter Tryz.func26,Tryz.ntmps26
  unfold Qe.cells paQ
  go_wp2_with (at_builtin;refine zaz (.tmp 9) (.tmp 12) 23 (by rfl) (by rfl) (by rfl) (by rfl) hrun ?_)
  clear hrun
  go_loopw [0,6] (fun lv i wr=>∃ j:Nat,j<=nl∧i=.int .i64 j∧LyR B w w.heap.size (paQ k x nn a f tt bg (.slice sp nl cap)) (.slice s0 N0.length c0) N0 ⟨k,x,nn,none,0,0,a,f,tt⟩ l j j wr lv) (fun _ i _=>nl - (intOf i).toNat)
  case atStart=>exact⟨0,Nat.zero_le _,rfl,HLY.out⟩
  case round=>
   clear HLY;obtain⟨j,hj,rfl,hL⟩:=hrel;have HL:=hid hL;have hrow:=hL.row;obtain⟨-,-,-,-,-,-,-,-,c8,-⟩:=row9 hrow;clear hL hrow
   by_cases hlt:j<nl
   ·have hd:decide ((j:Int)<nl)=true:=by simp;omega
    obtain⟨e',he'⟩:∃ e',es[j]?=some e':=⟨_,List.getElem?_eq_getElem (by have:=HNL.out;omega)⟩;obtain⟨t',ht'⟩:∃ t',l[j]?=some t':=⟨_,List.getElem?_eq_getElem (by have:=HLQ.out;omega)⟩;have HE:=hid he';have HT:=hid ht';have hct:=zha l j t' ht';obtain⟨gu,cu,ks,kn,kc,s7,n7,c7,W7,W8,hsh,k1,k2,k3,k4,k5,hL8⟩:=zsm HL.out ht' (by omega);subst hsh;have HL8:=hid hL8;have hrow8:=hL8.row;have hg8:=hL8.gro;have HB8:Hid (Below B w W8):=hid ⟨hg8.os,hg8.tape,hg8.output,hg8.size,fun q hq=>hg8.block q (by omega) fun e=>by have:=HVB.out q e.symm;omega⟩;obtain⟨N,hN1,hN2,hN3⟩:=zsn hL8 ht';have HN1:=hid hN1;have HN3:=hid hN3;obtain⟨-,-,-,-,-,-,-,-,p8,-⟩:=row9 hrow8;obtain⟨nu,hnu⟩:∃ nu,N0.length+1+cntL (l.take j)=nu:=⟨_,rfl⟩;rw[hnu] at k2 hN2;have HNU:=hid hnu;have hnub:N0.length<nu:=by omega
    rw[hnu];clear he' ht' hL8 hrow8 hg8 hN1 hN3 hnu;obtain⟨b,o,rfl,-⟩:=HRS.out W8 HB8.out (by have:=HNL.out;omega);obtain⟨e0,e1,e2,e3,e4,e5,e6,e7,e8,e9⟩:=e';obtain⟨d0,d1,d2,d3,d4,d5,d6,d7,d8⟩:=zn8 (HRS.out W8 HB8.out) HE.out;have HQ8:=hid (HKD.out W8 HB8.out j _ t' HE.out HT.out);have HOW8:Hid (OwnN B W8 (.slice (some ⟨gu,0,none⟩) nu cu) N):=hid (by rw[<-HNU.out];exact HN1.out);clear HN1
    go_wp2_with (at_builtin;refine zaz (.tmp 27) (.tmp 30) 51 (by rfl) (by rfl) (by rfl) (by rfl) k2 ?_)
    refine(HIH.out t' W8 ⟨e0,e1,e2,e3,e4,e5,e6,e7,e8,e9⟩ (.slice (some ⟨gu,0,none⟩) nu cu) N (by omega) HQ8.out HOW8.out (Nat.le_trans hB HB8.out.size) (by have:=HNU.out;omega)).mono ?_;rintro e W9 hL9;obtain⟨v9,rfl,hL10⟩:=HN3.out _ _ (by rw[HNU.out];exact hL9);have H10:=hid hL10;clear hL9 hL10 d0 d1 d2 d3 d4 d5 d6 d7 d8 k1 k2 k3 k4 k5 p8 c8
    go_wp2
    exact⟨⟨j+1,by omega,by congr 1,H10.out⟩,by simp[intOf];omega⟩
   ·have hd:decide ((j:Int)<nl)=false:=by simp;omega
    obtain rfl:j=nl:=by omega
    have HEN:Hid (LayS B w (.slice s0 N0.length c0) N0 (.mk k x nn a f tt l) (.returned u0) wr):=hid (by
     have h:=HL.out;rw[HLQ.out] at h;exact zso h)
    clear HL
    go_wp2
    go_ret
    exact HEN.out
theorem PrF.low {w W W':World}{B:Nat}(h:PrF w W)(hB:w.heap.size+2<=B)(hb:Below B W W'):PrF w W' :=
 ⟨h.b.trans (hb.mono (by omega)),(hb.block _ (by omega)).trans h.z,(hb.block _ (by omega)).trans h.s⟩
structure DoF (w W:World) (bp bt:Nat) (e:Qe) (L:List Nd) (s:Option Addr) (c:Nat):Prop where
 fr:PrF w W
 pr:W.heap[bp]?=some (.cells e.cells 63 (0,0))
 tr:W.heap[bt]?=some (.cells #[.slice s L.length c] 25 (0,0))
 ly:TrAt (w.heap.size+2) W (.slice s L.length c) L
theorem DoF.low {w W W':World}{bp bt:Nat}{e:Qe}{L:List Nd}{s:Option Addr}{c:Nat}(h:DoF w W bp bt e L s c)(hb:Below W.heap.size W W'):DoF w W' bp bt e L s c :=
 ⟨h.fr.below hb,(hb.block _ (zaa h.pr)).trans h.pr,(hb.block _ (zaa h.tr)).trans h.tr,h.ly.below hb⟩
theorem zpp (w:World)(st:Option Addr)(cap:Nat)(ts:List Tok)(hr:RowsT w st ts)(few:ts.length<=100000)(ok:∀ t ∈ ts,-1000000000000000000<=t.pos∧t.pos<=1000000000000000000∧t.text.size<=100000)(v:Qv)(s:Qs)(hf:filD ts (filN ts) ⟨0,false⟩=some (v,s))(hc:s.bad=false->cntP v.pt<=2 * s.p)
  (hF:∀ (T:Nat) (g:Nat) (W:World) (q:Qs) (n:Nat) (r:Qv × Qs),QdS T W g st cap ts q->filD ts n q=some r->Calls Tryz.prog 24 #[.pointer (some ⟨g,0,none⟩)] W (QoP T W g st cap ts r)) :
  Calls Tryz.prog 9 #[.slice st ts.length cap] w (PrP w (docO v s ts)):=by
 have HR:Hid (∀ W,(∀ k,k<w.heap.size->W.heap[k]?=w.heap[k]?)->RowsT W st ts):=hid fun W h=>zdo h hr;have HOK:=hid ok;have HFD:=hid hf;have HC:=hid hc;have HFI:=hid hF;clear hr ok hf hc hF
 go_enter Tryz.func9,Tryz.ntmps9
 go_wp2_with fail
 refine zaf (fun W=>PrF w W∧QdS (w.heap.size+1+1+1) W (w.heap.size+1+1) st cap ts ⟨0,false⟩) ?_ ?_
 ·have t1:=zfo w (.cells #[.slice none 0 0] 25) (.cells #[.int .i64 0,.int .i64 0] 28);have t2:=zfp w (.cells #[.slice none 0 0] 25) (.cells #[.int .i64 0,.int .i64 0] 28);have tb:=zdr w (.cells #[.slice none 0 0] 25) (.cells #[.int .i64 0,.int .i64 0] 28);have hs2:((w.alloc (.cells #[.slice none 0 0] 25)).alloc (.cells #[.int .i64 0,.int .i64 0] 28)).heap.size=w.heap.size+2:=by simp
  have n3:=heap_alloc_new ((w.alloc (.cells #[.slice none 0 0] 25)).alloc (.cells #[.int .i64 0,.int .i64 0] 28)) (.cells #[.slice st ts.length cap,.int .i64 0,.bool false] 60);rw[show((w.alloc (.cells #[.slice none 0 0] 25)).alloc (.cells #[.int .i64 0,.int .i64 0] 28)).heap.size=w.heap.size+1+1 from hs2] at n3;exact⟨⟨tb.alloc tb.size _,(Below.heap_alloc _ _ _ (by rw[hs2];omega)).trans t1,(Below.heap_alloc _ _ _ (by rw[hs2];omega)).trans t2⟩,⟨n3,Nat.zero_le _,few,HOK.out,by omega,by simp,fun W hW=>HR.out W fun k hk=>(hW k (by omega) (by omega)).trans ((Below.heap_alloc _ _ _ (by rw[hs2];omega)).trans (tb.block k hk))⟩⟩
 rintro W ⟨f,q⟩;have hlW:=q.hT;refine(HFI.out _ _ _ _ _ _ q HFD.out).mono ?_;rintro e W1 ⟨e1,rfl,hv,hg,hq⟩;have gb:Below (w.heap.size+2) W W1:=⟨hg.os,hg.tape,hg.output,hg.size,fun k hk=>hg.block k (by omega) (fun e=>by injection e with e;omega)⟩;have F1:=hid (f.low (Nat.le_refl _) gb);have hlW1:=hg.size;obtain⟨W2,hst,b2,r2⟩:=zgp W1 e1;have F2:=hid (F1.out.below b2);have Q2:=hid (hq.low b2);have V2:Hid (QV W2 (fun j=>w.heap.size+2<=j∧j<W1.heap.size) v e1):=hid ⟨hv.is.keep (fun j hj=>⟨by omega,hj.2⟩) fun j hj=>b2.block j hj.2,hv.bg⟩;have R2:=hid r2;have hl2:=b2.size;clear f q hv hg hq gb F1 b2 r2;obtain⟨p,bad⟩:=s
 cases bad
 ·have hcn0:cntP v.pt<=2 * p:=HC.out rfl;have hple:p<=ts.length:=Q2.out.le;have hcn:cntP v.pt<=400000:=by omega
  clear HC;have HX:Hid (docO v ⟨p,false⟩ ts=if 2048<cntP v.pt then .inl (3,0) else if 24<dpP v.pt then .inl (3,0) else .inr v.pt):=hid rfl;have c2:=Q2.out.c2
  go_upto_region 5 with fail
  clear hst;obtain⟨y0,y1,y2,y3,y4,y5,y6,y7,y8,y9⟩:=e1;have R2':=R2;unfold Qe.cells paQ at R2';obtain⟨h0,h1,h2,h3,h4,h5,h6,h7,h8,-⟩:=row9 R2'.out;unfold Qe.cells paQ
  go_wp2_with fail
  refine(zoa W2.heap.size (fun j=>w.heap.size+2<=j∧j<W1.heap.size) (fun j hj=>by have:=zaa R2.out;omega) (cntP v.pt) v.pt W2 ⟨y0,y1,y2,y3,y4,y5,y6,y7,y8,y9⟩ (.slice none 0 0) [] (Nat.le_refl _) V2.out.is (zbv _ _) (Nat.le_refl _) (by simp;omega)).mono ?_;rintro e W3 ⟨v3,N3,S3,rfl,k1,k2,k3,k4,k5⟩;have b3:Below W2.heap.size W2 W3:=⟨k3.os,k3.tape,k3.output,k3.size,fun k hk=>k3.block k hk (fun e=>by cases e)⟩;have hTr:TrAt W2.heap.size W3 v3 (layP 0 v.pt):=⟨N3,S3,k1,k2,fun j hj=>⟨(k5 j hj).1,(k5 j hj).2.1⟩⟩;obtain⟨s3,c3,rfl⟩:=hTr.shape;have HTR:=hid hTr;have F3:=hid (F2.out.below b3);have V3:Hid (QAt W3 (fun j=>w.heap.size+2<=j∧j<W1.heap.size) v.pt ⟨y0,y1,y2,y3,y4,y5,y6,y7,y8,y9⟩):=hid (V2.out.is.keep (fun _ h=>h) fun j hj=>b3.block j (by omega));have R3:=hid ((b3.block _ (zaa R2.out)).trans R2.out);have hl3:=b3.size;clear k1 k2 k3 k4 k5 b3 hTr h0 h1 h2 h3 h4 h5 h6 h7 h8 c2 R2 R2' F2 Q2 V2;have hln:=ziw v.pt 0;obtain⟨L,hL⟩:∃ L,layP 0 v.pt=L:=⟨_,rfl⟩;rw[hL] at hln HTR ⊢;have HLL:=hid hL;have HLN:=hid hln;clear hL hln
  go_upto_region 6 with fail
  refine zdd (fun W=>DoF w W W1.heap.size W3.heap.size ⟨y0,y1,y2,y3,y4,y5,y6,y7,y8,y9⟩ L s3 c3∧QAt W (fun j=>w.heap.size+2<=j∧j<W1.heap.size) v.pt ⟨y0,y1,y2,y3,y4,y5,y6,y7,y8,y9⟩) ?_ ?_
  ·have ba:Below W3.heap.size W3 (W3.alloc (.cells #[.slice s3 L.length c3] 25)):=(Below.refl _ _).alloc (Nat.le_refl _) _;exact⟨⟨F3.out.below ba,(ba.block _ (zaa R3.out)).trans R3.out,heap_alloc_new _ _,(HTR.out.below ba).mono (by omega)⟩,V3.out.keep (fun _ h=>h) fun j hj=>ba.block j (by omega)⟩
  rintro W4 ⟨d4,q4⟩;have D4:=hid d4;have Q4:=hid q4;have hl4:=zaa d4.tr;have hl4p:=zaa d4.pr;clear F3 V3 R3 HTR d4 q4;have t0:W4.cell? ⟨W3.heap.size,0,none⟩=some (.slice s3 L.length c3):=(cell_of_row _ _ 0 _ _ _ D4.out.tr).trans rfl;have R4:=D4.out.pr;unfold Qe.cells paQ at R4;obtain⟨h0,h1,h2,h3,h4,h5,h6,h7,h8,-⟩:=row9 R4;clear R4;obtain⟨c0,c1,c2⟩:=D4.out.fr.c;obtain⟨f0,f1,f2⟩:=D4.out.fr.f;have hl0:=zaa D4.out.fr.z;have hl1:=zaa D4.out.fr.s
  by_cases g2:2048<cntP v.pt
  ·have HY:Hid (docO v ⟨p,false⟩ ts=.inl (3,0)):=hid (by rw[HX.out,if_pos g2]);have g2':(L.length:Int) > 2048:=by have:=HLN.out;omega
   clear HX g2
   go_wp2
   exact bodyPost_ret (zbr Tryz.results9 _ _ w.heap.size (w.heap.size+1) _ _ _ _ (0,0) (0,0) _ _ rfl rfl (za2 D4.out.fr _ _ _).2.1 (za2 D4.out.fr _ _ _).2.2 Tryz.underlying25 rfl (by kernel_rfl) Tryz.underlying28 rfl (by kernel_rfl)) rfl (by rw[HY.out];exact⟨(za2 D4.out.fr _ _ _).1,rfl⟩)
  ·have g2':¬ (L.length:Int) > 2048:=by have:=HLN.out;omega
   go_wp2_with fail
   refine(zmb (cntP v.pt) v.pt W4 ⟨y0,y1,y2,y3,y4,y5,y6,y7,y8,y9⟩ _ (Nat.le_refl _) Q4.out (fun j hj=>by omega) hcn).mono ?_;rintro e W5 ⟨rfl,b5⟩;have D5:=hid (D4.out.low b5);clear D4 Q4 b5 t0 h0 h1 h2 h3 h4 h5 h6 h7 h8 c0 c1 c2 f0 f1 f2 hl0 hl1;have t0:W5.cell? ⟨W3.heap.size,0,none⟩=some (.slice s3 L.length c3):=(cell_of_row _ _ 0 _ _ _ D5.out.tr).trans rfl;obtain⟨c0,c1,c2⟩:=D5.out.fr.c;obtain⟨f0,f1,f2⟩:=D5.out.fr.f;have hl0:=zaa D5.out.fr.z;have hl1:=zaa D5.out.fr.s;have hl5:=zaa D5.out.tr
   by_cases g3:24<dpP v.pt
   ·have HY:Hid (docO v ⟨p,false⟩ ts=.inl (3,0)):=hid (by rw[HX.out,if_neg g2,if_pos g3]);have g3':(dpP v.pt:Int) > 24:=by omega
    clear HX g2 g3
    go_wp2
    exact bodyPost_ret (zbr Tryz.results9 _ _ w.heap.size (w.heap.size+1) _ _ _ _ (0,0) (0,0) _ _ rfl rfl (za2 D5.out.fr _ _ _).2.1 (za2 D5.out.fr _ _ _).2.2 Tryz.underlying25 rfl (by kernel_rfl) Tryz.underlying28 rfl (by kernel_rfl)) rfl (by rw[HY.out];exact⟨(za2 D5.out.fr _ _ _).1,rfl⟩)
   ·have HY:Hid (docO v ⟨p,false⟩ ts=.inr v.pt):=hid (by rw[HX.out,if_neg g2,if_neg g3]);have g3':¬ (dpP v.pt:Int) > 24:=by omega
    clear HX g2 g3;have HTF:Hid (TrAt w.heap.size (((W5.setCell ⟨w.heap.size,0,none⟩ (.slice s3 L.length c3)).setCell ⟨w.heap.size+1,0,none⟩ (.int .i64 0)).setCell ⟨w.heap.size+1,1,none⟩ (.int .i64 0)) (.slice s3 L.length c3) L):=hid (by
     have t1:=D5.out.ly.other D5.out.fr.z (.inl rfl) (by omega) 0 (.slice s3 L.length c3);have r1:=(heap_setCell_other W5 ⟨w.heap.size,0,none⟩ (w.heap.size+1) (.slice s3 L.length c3) (by simp)).trans D5.out.fr.s;have t2:=t1.other r1 (.inr rfl) (by omega) 0 (.int .i64 0);exact(t2.other (heap_setCell_same _ _ 0 _ _ (.int .i64 0) r1) (.inr rfl) (by omega) 1 (.int .i64 0)).mono (by omega))
    have HDN:=hid (za2 D5.out.fr (.slice s3 L.length c3) 0 0)
    go_wp2
    exact bodyPost_ret (zbr Tryz.results9 _ _ w.heap.size (w.heap.size+1) _ _ _ _ (0,0) (0,0) _ _ rfl rfl HDN.out.2.1 HDN.out.2.2 Tryz.underlying25 rfl (by kernel_rfl) Tryz.underlying28 rfl (by kernel_rfl)) rfl (by rw[HY.out];exact⟨HDN.out.1,_,rfl,by rw[HLL.out];exact HTF.out⟩)
 ·have HX:Hid (docO v ⟨p,true⟩ ts=.inl (210,herI ts p)):=hid rfl;have c2:=Q2.out.c2;have hfd:∀ (a b c:Value) (W:World),(Instr.field 38 (.agg #[a,b,c]) 2).run Tryz.prog W=.ok c W:=fun _ _ _ _=>rfl
  go_wp2_with fail
  refine(zbe Q2.out).mono ?_;rintro e W3 ⟨rfl,b3⟩;have hp:=zbl (ts:=ts) p;obtain⟨t,ht⟩:∃ t,nxQ ts p=t:=⟨_,rfl⟩
  dsimp only
  rw[ht] at hp ⊢;have F3:=hid (F2.out.below b3);have HP:=hid hp;clear b3 F2 Q2 V2 R2 hst c2 hp ht;obtain⟨c0,c1,c2⟩:=F3.out.c;obtain⟨f0,f1,f2⟩:=F3.out.f;have hl0:=zaa F3.out.z;have hl1:=zaa F3.out.s;unfold Tok.cells
  go_wp2
  exact bodyPost_ret (zbr Tryz.results9 _ _ w.heap.size (w.heap.size+1) _ _ _ _ (0,0) (0,0) _ _ rfl rfl (za2 F3.out _ _ _).2.1 (za2 F3.out _ _ _).2.2 Tryz.underlying25 rfl (by kernel_rfl) Tryz.underlying28 rfl (by kernel_rfl)) rfl (by rw[HX.out,<-HP.out];exact⟨(za2 F3.out _ _ _).1,rfl⟩)
section
variable {T:Nat}{w W0 W W':World}{g:Nat}{st:Option Addr}{cap:Nat}{ts:List Tok}{s s':Qs}
theorem zd0 (k:Int)(x:ByteArray)(hR:QdS T w g st cap ts s):Calls Tryz.prog 44 #[.pointer (some ⟨g,0,none⟩),.int .i64 k,.string x] w (WoP T w g st cap ts k (worD ts k x s)):=by
 have HF:=hid (zb9 hR);have hfe:=hR.few;have hle:=hR.le;clear hR;obtain⟨r,hX⟩:∃ r,worD ts k x s=r:=⟨_,rfl⟩;rw[hX];unfold worD at hX
 dsimp only[tak] at hX
 have HX:=hid hX;clear hX
 go_enter Tryz.func44,Tryz.ntmps44
 go_wp2_with fail
 refine zaf (fun W=>Fr T w W W g st cap ts s) HF.out ?_;intro W0 hF;clear HF;have HF:=hid hF;clear hF;refine(zag x HF.out.hR).mono ?_;rintro e W1 ⟨rfl,g1,r1⟩;obtain⟨t1,ht⟩:∃ t,takT ts x s=t:=⟨_,rfl⟩;obtain⟨s1,hs⟩:∃ s2,takS ts x s=s2:=⟨_,rfl⟩;rw[show takT ts x ⟨s.p,s.bad⟩=t1 from ht];have q1:QdS T W1 g st cap ts s1:=hs ▸ r1;have HT1:Hid (LtQ s s1):=hid (hs ▸ zal _ _)
 try rw[ht] at HX
 try rw[hs] at HX
 have HF3:=hid (HF.out.call g1 q1);clear ht hs r1 q1 g1 HF
 go_wp2_with fail
 refine(zat k t1 ⟨#[]⟩ W1).mono ?_;rintro e W4 ⟨rfl,b4⟩;have HF6:=hid (HF3.out.low b4);clear b4 HF3;obtain⟨W7,hst7,b7,f7,l7⟩:=zc2 (z:=w.heap.size) HF6.out (zaa HF6.out.hZ) k t1 ⟨#[]⟩;have Hp7p:=hid l7;have hn7:=b7.size;have HF9:=hid (f7);clear b7 f7 l7 HF6
 go_wp2_with fail
 clear hst7;refine(zag ⟨#[110,97,109,101]⟩ HF9.out.hR).mono ?_;rintro e W10 ⟨rfl,g10,r10⟩;obtain⟨t10,ht⟩:∃ t,takT ts ⟨#[110,97,109,101]⟩ s1=t:=⟨_,rfl⟩;obtain⟨s10,hs⟩:∃ s2,takS ts ⟨#[110,97,109,101]⟩ s1=s2:=⟨_,rfl⟩;rw[show takT ts ⟨#[110,97,109,101]⟩ ⟨s1.p,s1.bad⟩=t10 from ht];have q10:QdS T W10 g st cap ts s10:=hs ▸ r10;have HT10:Hid (LtQ s1 s10):=hid (hs ▸ zal _ _)
 try rw[ht] at HX
 try rw[hs] at HX
 have Hp11p:=hid (Hp7p.out.grow HF9.out.gB g10);have HF12:=hid (HF9.out.call g10 q10);clear ht hs r10 q10 g10 HF9 Hp7p;obtain⟨W13,hst13,b13,f13,l13⟩:=zdg HF12.out t10;have Hp14p:=hid (Hp11p.out.below b13);have Ht13n:=hid l13;have HF15:=hid (f13);clear b13 f13 l13 HF12 Hp11p;obtain⟨c16a,c16b,c16c⟩:=Ht13n.out.cells;obtain⟨r17a,r17b,r17c,r17d,r17e,r17f,r17g,r17h,r17i,r17z⟩:=row9 Hp14p.out.row
 go_wp2_with fail
 go_region
 obtain⟨W18,hw18,b18,o18,r18⟩:∃ W2,((W13.setCell ⟨W4.heap.size,1,none⟩ (.string t10.text)).setCell ⟨W4.heap.size,4,none⟩ (.int .i64 t10.pos)).drew=W2∧Below (W4.heap.size) W13 W2∧(∀ j,j≠W4.heap.size->j<W13.heap.size->W2.heap[j]?=W13.heap[j]?)∧W2.heap[W4.heap.size]?=some (.cells (paQ k t10.text 0 t10.pos t1.pos 0 t1.pos (.slice none 0 0)) 63 (0,0)) :=
  ⟨_,rfl,(((Below.refl _ _).setCell (p:=⟨W4.heap.size,1,none⟩) (Nat.le_refl _) _).setCell (p:=⟨W4.heap.size,4,none⟩) (Nat.le_refl _) _).drew,fun j hj _=>(heap_setCell_other _ _ _ _ hj).trans ((heap_setCell_other _ _ _ _ hj).trans (rfl)),heap_setCell_same _ _ 4 _ _ _ (heap_setCell_same _ _ 1 _ _ _ (Hp14p.out.row))⟩
 obtain⟨f18,q18⟩:=zhz HF15.out Hp14p.out W18 b18 o18 k t10.text 0 t10.pos t1.pos 0 t1.pos r18;have Hp18p:=hid q18;have Ht18n:Hid (Tl W0 W18 W10.heap.size t10):=hid ⟨Ht13n.out.hB,(o18 _ (zge Ht13n.out Hp14p.out.row) (zaa Ht13n.out.row)).trans Ht13n.out.row⟩;have HF19:=hid (f18);clear f18 q18 b18 o18 r18 HF15 Hp14p Ht13n;rw[hw18];clear hw18 hst13 c16a c16b c16c r17a r17b r17c r17d r17e r17f r17g r17h r17i r17z;obtain⟨r20a,r20b,r20c,r20d,r20e,r20f,r20g,r20h,r20i,r20z⟩:=row9 Hp18p.out.row;obtain⟨sp21,ln21,cp21,hv21,hd21⟩:=Hp18p.out.fin;injection hv21 with u1 u2 u3;subst u1 u2 u3;have HP:=hid (zo9 HF19.out k t10.text t10.pos t1.pos t1.pos);clear hd21
 go_wp2_with (refine zdj (by rfl) (.tmp 6) (.tmp 24) (by rfl) ⟨k,t10.text,0,t10.pos,t1.pos,0,t1.pos,_,_,_⟩ (by rfl) (by rfl) HF19.out.hZ (by rfl) ?_)
 have hx:=HX.out;exact zan Tryz.results44 rfl (zad HF19.out.hZ) (hx ▸ HP.out)
theorem ze4 (hR:QdS T w g st cap ts s):Calls Tryz.prog 98 #[.pointer (some ⟨g,0,none⟩)] w (QoP T w g st cap ts (kinD ts s)):=by
 have HF:=hid (zb9 hR);have hfe:=hR.few;have hle:=hR.le;clear hR;obtain⟨r,hX⟩:∃ r,kinD ts s=r:=⟨_,rfl⟩;rw[hX];unfold kinD at hX
 dsimp only[tak] at hX
 have HX:=hid hX;clear hX
 go_enter Tryz.func98,Tryz.ntmps98
 go_wp2_with fail
 refine zaf (fun W=>Fr T w W W g st cap ts s) HF.out ?_;intro W0 hF;clear HF;have HF:=hid hF;clear hF;refine(zbe HF.out.hR).mono ?_;rintro e W1 ⟨rfl,b1⟩;obtain⟨t1,ht⟩:∃ t,nxQ ts s.p=t:=⟨_,rfl⟩;rw[ht];have HZ1:=hid (ht ▸ HF.out.hR.sz)
 try rw[ht] at HX
 have HF3:=hid (HF.out.low b1);clear ht b1 HF;obtain⟨W4,hst4,b4,f4,l4⟩:=zdg HF3.out t1;have Ht4t:=hid l4;have HF6:=hid (f4);clear b4 f4 l4 HF3
 go_wp2_with fail
 clear hst4;refine(zar ⟨#[105,110,116]⟩ HF6.out.hR).mono ?_;rintro e W7 ⟨rfl,b7⟩;obtain⟨i7,hi⟩:∃ b,isQ ts s.p ⟨#[105,110,116]⟩=b:=⟨_,rfl⟩;rw[hi]
 try rw[hi] at HX
 have Ht8t:=hid (Ht4t.out.low b7);have HF9:=hid (HF6.out.low b7);clear hi b7 HF6 Ht4t
 cases i7
 ·skip
  go_wp2_with fail
  refine(zar ⟨#[98,111,111,108]⟩ HF9.out.hR).mono ?_;rintro e W10 ⟨rfl,b10⟩;obtain⟨i10,hi⟩:∃ b,isQ ts s.p ⟨#[98,111,111,108]⟩=b:=⟨_,rfl⟩;rw[hi]
  try rw[hi] at HX
  have Ht11t:=hid (Ht8t.out.low b10);have HF12:=hid (HF9.out.low b10);clear hi b10 HF9 Ht8t
  cases i10
  ·skip
   go_wp2_with fail
   refine(zar ⟨#[115,116,114,105,110,103]⟩ HF12.out.hR).mono ?_;rintro e W13 ⟨rfl,b13⟩;obtain⟨i13,hi⟩:∃ b,isQ ts s.p ⟨#[115,116,114,105,110,103]⟩=b:=⟨_,rfl⟩;rw[hi]
   try rw[hi] at HX
   have Ht14t:=hid (Ht11t.out.low b13);have HF15:=hid (HF12.out.low b13);clear hi b13 HF12 Ht11t
   cases i13
   ·skip
    replace HX:=hid (if_f HX.out (fun h=>by cases h))
    go_wp2_with fail
    refine(zag ⟨#[110,97,109,101]⟩ HF15.out.hR).mono ?_;rintro e W16 ⟨rfl,g16,r16⟩;obtain⟨t16,ht⟩:∃ t,takT ts ⟨#[110,97,109,101]⟩ s=t:=⟨_,rfl⟩;obtain⟨s16,hs⟩:∃ s2,takS ts ⟨#[110,97,109,101]⟩ s=s2:=⟨_,rfl⟩;rw[show takT ts ⟨#[110,97,109,101]⟩ ⟨s.p,s.bad⟩=t16 from ht];have q16:QdS T W16 g st cap ts s16:=hs ▸ r16;have HT16:Hid (LtQ s s16):=hid (hs ▸ zal _ _)
    try rw[ht] at HX
    try rw[hs] at HX
    have HF18:=hid (HF15.out.call g16 q16);clear ht hs r16 q16 g16 HF15;obtain⟨W19,hst19,b19,f19,l19⟩:=zdg HF18.out t16;have Ht19n:=hid l19;have HF21:=hid (f19);clear b19 f19 l19 HF18;obtain⟨c22a,c22b,c22c⟩:=Ht19n.out.cells
    go_wp2_with fail
    clear hst19 c22a c22b c22c;refine(zat 11 t16 t16.text W19).mono ?_;rintro e W23 ⟨rfl,b23⟩;have Ht24n:=hid (Ht19n.out.low b23);have HF25:=hid (HF21.out.low b23);clear b23 HF21 Ht19n
    go_wp2_with fail
    refine(zd5 HF25.out 11 t16 t16.text).mono ?_;rintro e W26 ⟨rfl,b26,f26⟩;have Ht27n:=hid (Ht24n.out.low b26);have HF28:=hid (f26);clear b26 f26 HF25 Ht24n;obtain⟨W29,hst29,b29,f29,l29⟩:=zgc HF28.out (⟨11,t16.text,0,t16.pos,t16.pos,(behI ts s16.p),t16.pos,none,0,0⟩:Qe);have Ht30n:=hid (Ht27n.out.low b29);have Hq29p:Hid (Tq W0 W29 W26.heap.size (⟨11,t16.text,0,t16.pos,t16.pos,(behI ts s16.p),t16.pos,none,0,0⟩:Qe)):=hid l29;have HF31:=hid (f29);clear b29 f29 l29 HF28 Ht27n
    go_wp2_with fail
    clear hst29;refine(zar ⟨#[46]⟩ HF31.out.hR).mono ?_;rintro e W32 ⟨rfl,b32⟩;obtain⟨i32,hi⟩:∃ b,isQ ts s16.p ⟨#[46]⟩=b:=⟨_,rfl⟩;rw[hi]
    try rw[hi] at HX
    have Ht33n:=hid (Ht30n.out.low b32);have Hq33p:=hid (Hq29p.out.low b32);have HF34:=hid (HF31.out.low b32);clear hi b32 HF31 Ht30n Hq29p
    cases i32
    ·skip
     replace HX:=hid (if_f HX.out (fun h=>by cases h))
     obtain⟨r35a,r35b,r35c,r35d,r35e,r35f,r35g,r35h,r35i,r35z⟩:=row9 Hq33p.out.row;have HP:=hid (zd4 HF34.out (v:=⟨11,t16.text,0,t16.pos,t16.pos,(behI ts s16.p),t16.pos,[]⟩) (e:=⟨11,t16.text,0,t16.pos,t16.pos,(behI ts s16.p),t16.pos,none,0,0⟩) (zdk _ _ _ _ _ _ _))
     go_wp2_with (refine zdj (by rfl) (.tmp 2) (.tmp 41) (by rfl) ⟨11,t16.text,0,t16.pos,t16.pos,(behI ts s16.p),t16.pos,none,0,0⟩ (by rfl) (by rfl) HF34.out.hZ (by rfl) ?_)
     have hx:=HX.out;exact zan Tryz.results98 rfl (zad HF34.out.hZ) (hx ▸ HP.out)
    ·skip
     replace HX:=hid (if_t HX.out rfl)
     go_wp2_with fail
     refine(zag ⟨#[46]⟩ HF34.out.hR).mono ?_;rintro e W36 ⟨rfl,g36,r36⟩;obtain⟨t36,ht⟩:∃ t,takT ts ⟨#[46]⟩ s16=t:=⟨_,rfl⟩;obtain⟨s36,hs⟩:∃ s2,takS ts ⟨#[46]⟩ s16=s2:=⟨_,rfl⟩;rw[show takT ts ⟨#[46]⟩ ⟨s16.p,s16.bad⟩=t36 from ht];have q36:QdS T W36 g st cap ts s36:=hs ▸ r36;have HT36:Hid (LtQ s16 s36):=hid (hs ▸ zal _ _)
     try rw[ht] at HX
     try rw[hs] at HX
     have Ht37n:=hid (Ht33n.out.call HF34.out.gB g36);have Hq37p:=hid (Hq33p.out.call HF34.out.gB g36);have HF38:=hid (HF34.out.call g36 q36);clear ht hs r36 q36 g36 HF34 Ht33n Hq33p
     go_wp2_with fail
     refine(zag ⟨#[110,97,109,101]⟩ HF38.out.hR).mono ?_;rintro e W39 ⟨rfl,g39,r39⟩;obtain⟨t39,ht⟩:∃ t,takT ts ⟨#[110,97,109,101]⟩ s36=t:=⟨_,rfl⟩;obtain⟨s39,hs⟩:∃ s2,takS ts ⟨#[110,97,109,101]⟩ s36=s2:=⟨_,rfl⟩;rw[show takT ts ⟨#[110,97,109,101]⟩ ⟨s36.p,s36.bad⟩=t39 from ht];have q39:QdS T W39 g st cap ts s39:=hs ▸ r39;have HT39:Hid (LtQ s36 s39):=hid (hs ▸ zal _ _)
     try rw[ht] at HX
     try rw[hs] at HX
     have Ht40n:=hid (Ht37n.out.call HF38.out.gB g39);have Hq40p:=hid (Hq37p.out.call HF38.out.gB g39);have HF41:=hid (HF38.out.call g39 q39);clear ht hs r39 q39 g39 HF38 Ht37n Hq37p;obtain⟨W42,hst42,b42,f42,l42⟩:=zdg HF41.out t39;have Ht43n:=hid (Ht40n.out.low b42);have Hq43p:=hid (Hq40p.out.low b42);have Ht42m:=hid l42;have HF44:=hid (f42);clear b42 f42 l42 HF41 Ht40n Hq40p;obtain⟨c45a,c45b,c45c⟩:=Ht43n.out.cells;obtain⟨c46a,c46b,c46c⟩:=Ht42m.out.cells;have hpl:=zaa Hq43p.out.row
     go_wp2_with fail
     clear hst42 c45a c45b c45c c46a c46b c46c;refine(zat 12 t16 t39.text W42).mono ?_;rintro e W47 ⟨rfl,b47⟩;have Ht48n:=hid (Ht43n.out.low b47);have Ht48m:=hid (Ht42m.out.low b47);have Hq48p:=hid (Hq43p.out.low b47);have HF49:=hid (HF44.out.low b47);clear b47 HF44 Ht43n Ht42m Hq43p;have hpl2:=zaa Hq48p.out.row;obtain⟨W50,hst50,b50,f50,l50⟩:=zgc HF49.out (begE 12 t16 t39.text);have Ht51n:=hid (Ht48n.out.low b50);have Ht51m:=hid (Ht48m.out.low b50);have Hq51p:=hid (Hq48p.out.low b50);have Hq50far:Hid (Tq W0 W50 W47.heap.size (⟨12,t39.text,0,t16.pos,t16.pos,0,t16.pos,none,0,0⟩:Qe)):=hid l50;have HF52:=hid (f50);clear b50 f50 l50 HF49 Ht48n Ht48m Hq48p;have hne:W26.heap.size≠W47.heap.size:=Nat.ne_of_lt hpl2;clear hpl hpl2;obtain⟨c53a,c53b,c53c⟩:=Ht51m.out.cells;obtain⟨r54a,r54b,r54c,r54d,r54e,r54f,r54g,r54h,r54i,r54z⟩:=row9 Hq50far.out.row;obtain⟨W55,hw55,b55,o55,r55⟩:∃ W2,(W50.setCell ⟨W47.heap.size,4,none⟩ (.int .i64 t39.pos))=W2∧Below (W47.heap.size) W50 W2∧(∀ j,j≠W47.heap.size->j<W50.heap.size->W2.heap[j]?=W50.heap[j]?)∧W2.heap[W47.heap.size]?=some (.cells (⟨12,t39.text,0,t39.pos,t16.pos,0,t16.pos,none,0,0⟩:Qe).cells 63 (0,0)) :=
      ⟨_,rfl,((Below.refl _ _).setCell (p:=⟨W47.heap.size,4,none⟩) (Nat.le_refl _) _),fun j hj _=>(heap_setCell_other _ _ _ _ hj).trans (rfl),heap_setCell_same _ _ 4 _ _ _ (Hq50far.out.row)⟩
     have Ht55n:Hid (Tl W0 W55 W16.heap.size t16):=hid ⟨Ht51n.out.hB,(o55 _ (zge Ht51n.out Hq50far.out.row) (zaa Ht51n.out.row)).trans Ht51n.out.row⟩;have Ht55m:Hid (Tl W0 W55 W39.heap.size t39):=hid ⟨Ht51m.out.hB,(o55 _ (zge Ht51m.out Hq50far.out.row) (zaa Ht51m.out.row)).trans Ht51m.out.row⟩;have Hq55p:=hid (Hq51p.out.on hne o55);have Hq55far:Hid (Tq W0 W55 W47.heap.size (⟨12,t39.text,0,t39.pos,t16.pos,0,t16.pos,none,0,0⟩:Qe)):=hid ⟨Hq50far.out.hB,r55⟩;have HF56:=hid (HF52.out.on (b55.mono Hq50far.out.hB));clear b55 o55 r55 HF52 Hq50far Ht51n Ht51m Hq51p;obtain⟨r57a,r57b,r57c,r57d,r57e,r57f,r57g,r57h,r57i,r57z⟩:=row9 Hq55p.out.row;obtain⟨W58,hw58,b58,o58,r58⟩:∃ W2,(W55.setCell ⟨W26.heap.size,0,none⟩ (.int .i64 23))=W2∧Below (W26.heap.size) W55 W2∧(∀ j,j≠W26.heap.size->j<W55.heap.size->W2.heap[j]?=W55.heap[j]?)∧W2.heap[W26.heap.size]?=some (.cells (⟨23,t16.text,0,t16.pos,t16.pos,(behI ts s16.p),t16.pos,none,0,0⟩:Qe).cells 63 (0,0)) :=
      ⟨_,rfl,((Below.refl _ _).setCell (p:=⟨W26.heap.size,0,none⟩) (Nat.le_refl _) _),fun j hj _=>(heap_setCell_other _ _ _ _ hj).trans (rfl),heap_setCell_same _ _ 0 _ _ _ (Hq55p.out.row)⟩
     have Ht58n:Hid (Tl W0 W58 W16.heap.size t16):=hid ⟨Ht55n.out.hB,(o58 _ (zge Ht55n.out Hq55p.out.row) (zaa Ht55n.out.row)).trans Ht55n.out.row⟩;have Ht58m:Hid (Tl W0 W58 W39.heap.size t39):=hid ⟨Ht55m.out.hB,(o58 _ (zge Ht55m.out Hq55p.out.row) (zaa Ht55m.out.row)).trans Ht55m.out.row⟩;have Hq58far:=hid (Hq55far.out.on hne.symm o58);have Hq58p:Hid (Tq W0 W58 W26.heap.size (⟨23,t16.text,0,t16.pos,t16.pos,(behI ts s16.p),t16.pos,none,0,0⟩:Qe)):=hid ⟨Hq55p.out.hB,r58⟩;have HF59:=hid (HF56.out.on (b58.mono Hq55p.out.hB));clear b58 o58 r58 HF56 Hq55p Ht55n Ht55m Hq55far;obtain⟨r60a,r60b,r60c,r60d,r60e,r60f,r60g,r60h,r60i,r60z⟩:=row9 Hq58p.out.row;have Hp61far:=hid (Hq58far.out.qk (z:=w.heap.size) (zaa HF59.out.hZ));clear Hq58far;obtain⟨c62,f62,W62,hw62,g62,q62,b62,o62⟩:=zdy HF59.out Hp61far.out (v:=(⟨23,t16.text,0,t16.pos,t16.pos,(behI ts s16.p),t16.pos,[]⟩:Qv)) (e:=(⟨23,t16.text,0,t16.pos,t16.pos,(behI ts s16.p),t16.pos,none,0,0⟩:Qe)) (S:=(fun _=>False)) (hid (zdk _ _ _ _ _ _ _)).out (fun _ h=>h.elim);have Hp62far:=hid q62;have HF63:=hid (g62)
     dsimp only[Qe.cells,paQ] at c62 f62 hw62
     clear g62 q62 b62 o62 HF59 Hp61far;obtain⟨r64a,r64b,r64c,r64d,r64e,r64f,r64g,r64h,r64i,r64z⟩:=row9 Hp62far.out.row
     go_wp2_with fail
     clear hst50 c53a c53b c53c r54a r54b r54c r54d r54e r54f r54g r54h r54i r54z hw55 r57a r57b r57c r57d r57e r57f r57g r57h r57i r57z hw58 r60a r60b r60c r60d r60e r60f r60g r60h r60i r60z c62 f62 hw62 r64a r64b r64c r64d r64e r64f r64g r64h r64i r64z;obtain⟨sp65,ln65,cp65,hv65,hd65⟩:=za7 HF63.out Hp62far.out;injection hv65 with u1 u2 u3;subst u1 u2 u3;refine hd65.mono ?_;rintro e W65 ⟨e65,rfl,b65,f65,q65⟩;have HV65:=hid q65;have HF67:=hid (f65);clear hd65 b65 f65 q65 HF63 Hp62far;obtain⟨W68,hst68,hr68,hp68⟩:=za5 HF67.out (v:=(⟨12,t39.text,0,t39.pos,t16.pos,behI ts s39.p,t16.pos,[(⟨23,t16.text,0,t16.pos,t16.pos,(behI ts s16.p),t16.pos,[]⟩:Qv).pt]⟩:Qv)) ⟨HV65.out.is.keep (fun j hj=>⟨hj.1,hj.2.1⟩) fun _ _=>rfl,HV65.out.bg⟩;have HP:=hid hp68;have HRR:=hid hr68;clear hp68 hr68
     go_wp2
     have hx:=HX.out;exact zan Tryz.results98 rfl HRR.out (hx ▸ HP.out)
   ·skip
    replace HX:=hid (if_t HX.out rfl)
    obtain⟨c69a,c69b,c69c⟩:=Ht14t.out.cells
    go_wp2_with fail
    clear c69a c69b c69c;refine(zag t1.text HF15.out.hR).mono ?_;rintro e W70 ⟨rfl,g70,r70⟩;obtain⟨t70,ht⟩:∃ t,takT ts t1.text s=t:=⟨_,rfl⟩;obtain⟨s70,hs⟩:∃ s2,takS ts t1.text s=s2:=⟨_,rfl⟩;rw[show takT ts t1.text ⟨s.p,s.bad⟩=t70 from ht];have q70:QdS T W70 g st cap ts s70:=hs ▸ r70;have HT70:Hid (LtQ s s70):=hid (hs ▸ zal _ _)
    try rw[ht] at HX
    try rw[hs] at HX
    have Ht71t:=hid (Ht14t.out.call HF15.out.gB g70);have HF72:=hid (HF15.out.call g70 q70);clear ht hs r70 q70 g70 HF15 Ht14t;obtain⟨c73a,c73b,c73c⟩:=Ht71t.out.cells
    go_wp2_with fail
    clear c73a c73b c73c;refine(zat 10 t1 t1.text W70).mono ?_;rintro e W74 ⟨rfl,b74⟩;have Ht75t:=hid (Ht71t.out.low b74);have HF76:=hid (HF72.out.low b74);clear b74 HF72 Ht71t
    go_wp2_with fail
    refine(zd5 HF76.out 10 t1 t1.text).mono ?_;rintro e W77 ⟨rfl,b77,f77⟩;have HF79:=hid (f77);clear b77 f77 HF76;obtain⟨W80,hst80,hr80,hp80⟩:=za5 HF79.out (v:=(⟨10,t1.text,0,t1.pos,t1.pos,(behI ts s70.p),t1.pos,[]⟩:Qv)) (zdk _ _ _ _ _ _ _);have HP:=hid hp80;have HRR:=hid hr80;clear hp80 hr80
    go_wp2
    have hx:=HX.out;exact zan Tryz.results98 rfl HRR.out (hx ▸ HP.out)
  ·skip
   replace HX:=hid (if_t HX.out rfl)
   obtain⟨c81a,c81b,c81c⟩:=Ht11t.out.cells
   go_wp2_with fail
   clear c81a c81b c81c;refine(zag t1.text HF12.out.hR).mono ?_;rintro e W82 ⟨rfl,g82,r82⟩;obtain⟨t82,ht⟩:∃ t,takT ts t1.text s=t:=⟨_,rfl⟩;obtain⟨s82,hs⟩:∃ s2,takS ts t1.text s=s2:=⟨_,rfl⟩;rw[show takT ts t1.text ⟨s.p,s.bad⟩=t82 from ht];have q82:QdS T W82 g st cap ts s82:=hs ▸ r82;have HT82:Hid (LtQ s s82):=hid (hs ▸ zal _ _)
   try rw[ht] at HX
   try rw[hs] at HX
   have Ht83t:=hid (Ht11t.out.call HF12.out.gB g82);have HF84:=hid (HF12.out.call g82 q82);clear ht hs r82 q82 g82 HF12 Ht11t;obtain⟨c85a,c85b,c85c⟩:=Ht83t.out.cells
   go_wp2_with fail
   clear c85a c85b c85c;refine(zat 10 t1 t1.text W82).mono ?_;rintro e W86 ⟨rfl,b86⟩;have Ht87t:=hid (Ht83t.out.low b86);have HF88:=hid (HF84.out.low b86);clear b86 HF84 Ht83t
   go_wp2_with fail
   refine(zd5 HF88.out 10 t1 t1.text).mono ?_;rintro e W89 ⟨rfl,b89,f89⟩;have HF91:=hid (f89);clear b89 f89 HF88;obtain⟨W92,hst92,hr92,hp92⟩:=za5 HF91.out (v:=(⟨10,t1.text,0,t1.pos,t1.pos,(behI ts s82.p),t1.pos,[]⟩:Qv)) (zdk _ _ _ _ _ _ _);have HP:=hid hp92;have HRR:=hid hr92;clear hp92 hr92
   go_wp2
   have hx:=HX.out;exact zan Tryz.results98 rfl HRR.out (hx ▸ HP.out)
 ·skip
  replace HX:=hid (if_t HX.out rfl)
  obtain⟨c93a,c93b,c93c⟩:=Ht8t.out.cells
  go_wp2_with fail
  clear c93a c93b c93c;refine(zag t1.text HF9.out.hR).mono ?_;rintro e W94 ⟨rfl,g94,r94⟩;obtain⟨t94,ht⟩:∃ t,takT ts t1.text s=t:=⟨_,rfl⟩;obtain⟨s94,hs⟩:∃ s2,takS ts t1.text s=s2:=⟨_,rfl⟩;rw[show takT ts t1.text ⟨s.p,s.bad⟩=t94 from ht];have q94:QdS T W94 g st cap ts s94:=hs ▸ r94;have HT94:Hid (LtQ s s94):=hid (hs ▸ zal _ _)
  try rw[ht] at HX
  try rw[hs] at HX
  have Ht95t:=hid (Ht8t.out.call HF9.out.gB g94);have HF96:=hid (HF9.out.call g94 q94);clear ht hs r94 q94 g94 HF9 Ht8t;obtain⟨c97a,c97b,c97c⟩:=Ht95t.out.cells
  go_wp2_with fail
  clear c97a c97b c97c;refine(zat 10 t1 t1.text W94).mono ?_;rintro e W98 ⟨rfl,b98⟩;have Ht99t:=hid (Ht95t.out.low b98);have HF100:=hid (HF96.out.low b98);clear b98 HF96 Ht95t
  go_wp2_with fail
  refine(zd5 HF100.out 10 t1 t1.text).mono ?_;rintro e W101 ⟨rfl,b101,f101⟩;have HF103:=hid (f101);clear b101 f101 HF100;obtain⟨W104,hst104,hr104,hp104⟩:=za5 HF103.out (v:=(⟨10,t1.text,0,t1.pos,t1.pos,(behI ts s94.p),t1.pos,[]⟩:Qv)) (zdk _ _ _ _ _ _ _);have HP:=hid hp104;have HRR:=hid hr104;clear hp104 hr104
  go_wp2
  have hx:=HX.out;exact zan Tryz.results98 rfl HRR.out (hx ▸ HP.out)
end
theorem zc3 (c:UInt8)(w:World):Calls Tryz.prog 41 #[.int .u8 c.toNat] w fun e w'=>e=.returned (.bool (inC [3] c))∧w'=w:=by
 have HI:Hid (inC [3] c=decide ((97<=(c.toNat:Int)∧(c.toNat:Int)<=122)∨(65<=(c.toNat:Int)∧(c.toNat:Int)<=90)∨(c.toNat:Int)=95)):=by
  show inC [3] c=_;unfold inC clsI;rw[Bool.eq_iff_iff];simp
  repeat' split
  all_goals simp
  all_goals omega
 go_enter Tryz.func41,Tryz.ntmps41
 go_wp2
 all_goals go_ret
 all_goals (refine⟨za9 ?_,rfl⟩;rw[HI.out,Bool.eq_iff_iff];simp_all;try omega)
theorem ze5 (c:UInt8)(w:World):Calls Tryz.prog 68 #[.int .u8 c.toNat] w fun e w'=>e=.returned (.bool (inC [4] c))∧w'=w:=by
 have HI:Hid (inC [4] c=decide (48<=(c.toNat:Int)∧(c.toNat:Int)<=57)):=by
  show inC [4] c=_;unfold inC;rw[Bool.eq_iff_iff];simp;rw[cls4];omega
 go_enter Tryz.func68,Tryz.ntmps68
 go_wp2
 all_goals go_ret
 all_goals (refine⟨za9 ?_,rfl⟩;rw[HI.out,Bool.eq_iff_iff];simp_all;try omega)
theorem zcy (c:UInt8)(w:World):Calls Tryz.prog 21 #[.int .u8 c.toNat] w fun e w'=>e=.returned (.bool (inC [1] c))∧w'=w:=by
 have HI:Hid (inC [1] c=decide ((c.toNat:Int)=9∨(c.toNat:Int)=13∨(c.toNat:Int)=32)):=by
  show inC [1] c=_;unfold inC clsI;rw[Bool.eq_iff_iff];simp
  repeat' split
  all_goals simp
  all_goals omega
 go_enter Tryz.func21,Tryz.ntmps21
 go_wp2
 all_goals go_ret
 all_goals (refine⟨za9 ?_,rfl⟩;rw[HI.out,Bool.eq_iff_iff];simp_all;try omega)
theorem zbs (s:ByteArray)(w:World)(hs:s.size<=100000):Calls Tryz.prog 39 #[.string s] w fun e w'=>e=.returned (.int .i64 (runN (inC [4]) s.data.toList))∧w'=w:=by
 have HS:Hid (s.size=s.data.toList.length):=by show s.size=s.data.toList.length;simp
 have hmx:s.size<9223372036854775807:=by omega
 go_enter Tryz.func39,Tryz.ntmps39
 go_wp2
 go_loopw [3] (fun i wr=>∃ t:Nat,t<=s.size∧i=.int .i64 t∧wr=w∧∀ j d,j<t->s.data.toList[j]?=some d->inC [4] d=true) (fun i _=>s.size - (intOf i).toNat)
 case atStart=>exact⟨0,Nat.zero_le _,rfl,rfl,fun j d hj=>by omega⟩
 case round=>
  obtain⟨t,ht,rfl,rfl,hall⟩:=hrel;have HA:=hid hall;clear hall
  by_cases hlt:t<s.size
  ·have hd:decide ((t:Int)<s.size)=true:=decide_eq_true (by omega);have HB:Hid (s.data.toList[t]?=some (s[t]'hlt)):=zcq hlt
   cases hq:inC [4] (s[t]'hlt)
   ·have HY:Hid (runN (inC [4]) s.data.toList=t):=zg0 HA.out HB.out hq
    go_wp2_with (go_at_call 68;refine(ze5 _ _).mono ?_;rintro e W1 ⟨rfl,hW1⟩;subst hW1;rw[hq])
    go_ret
    exact⟨zce (by rw[HY.out]),rfl⟩
   ·have HNX:Hid (∀ j d,j<t+1->s.data.toList[j]?=some d->inC [4] d=true):=fun j d hj hjd=>by
     by_cases hjt:j<t
     ·exact HA.out j d hjt hjd
     ·obtain rfl:j=t:=by omega
      rw[HB.out] at hjd;injection hjd with hjd;rw[<-hjd];exact hq
    go_wp2_with (go_at_call 68;refine(ze5 _ _).mono ?_;rintro e W1 ⟨rfl,hW1⟩;subst hW1;rw[hq])
    exact⟨⟨t+1,by omega,by go_num,trivial,HNX.out⟩,by simp[intOf];omega⟩
  ·have hd:decide ((t:Int)<s.size)=false:=decide_eq_false (by omega);have HY:Hid (runN (inC [4]) s.data.toList=t):=by
    have h:=HS.out;have:runN (inC [4]) s.data.toList=s.data.toList.length:=zfi fun j d hj hdd=>HA.out j d (by omega) hdd;show runN (inC [4]) s.data.toList=t;omega
   go_wp2
   go_ret
   exact⟨zce (by rw[HY.out]),rfl⟩
theorem zh5 (c:UInt8)(r:List UInt8)(h:inC [3] c=true):runN (inC [3,4]) (c::r)=1+runN (inC [3,4]) r:=by
 have:inC [3,4] c=true:=by
  unfold inC at h ⊢;simp at h ⊢;exact .inl h
 rw[zcd,this];simp[Nat.add_comm]
def wrdN (L:List UInt8):Nat:=match L with | []=>0|c::r=>if inC [3] c then 1+runN (inC [3,4]) r else 0
theorem inC34 (c:UInt8):inC [3,4] c=(inC [3] c || inC [4] c):=by
 unfold inC;rw[Bool.eq_iff_iff];simp
theorem zc0 (s:ByteArray)(w:World)(hs:s.size<=100000):Calls Tryz.prog 38 #[.string s] w fun e w'=>e=.returned (.int .i64 (wrdN s.data.toList))∧w'=w:=by
 have HS:Hid (s.size=s.data.toList.length):=by show s.size=s.data.toList.length;simp
 have HT:Hid (s.toList=s.data.toList):=ByteArray.toList_eq s;have hmx:s.size<9223372036854775807:=by omega
 by_cases h0:s.data.toList=[]
 ·have e0:s.toList.isEmpty=true:=by rw[HT.out,h0];rfl
  have HN:Hid (wrdN s.data.toList=0):=by rw[h0];exact rfl
  clear h0
  go_enter Tryz.func38,Tryz.ntmps38
  go_wp2
  go_ret
  exact⟨zce (by rw[HN.out];rfl),rfl⟩
 have hpos:0<s.size:=by rw[HS.out];exact List.length_pos_iff.2 h0
 have e0:s.toList.isEmpty=false:=by rw[HT.out];cases h:s.data.toList with|nil=>exact absurd h h0|cons a l=>rfl
 have b0:=zcq hpos;have HD:Hid (s.data.toList=(s[0]'hpos)::s.data.toList.drop 1):=by have:=zc5 b0;rw[List.drop_zero] at this;exact this
 clear h0 b0
 cases hq:inC [3] (s[0]'hpos)
 ·have HN:Hid (wrdN s.data.toList=0):=by rw[HD.out];show(if inC [3] (s[0]'hpos) then _ else _)=_;rw[hq];exact rfl
  go_enter Tryz.func38,Tryz.ntmps38
  go_wp2_with (go_at_call 41;refine(zc3 _ _).mono ?_;rintro e W1 ⟨rfl,hW1⟩;subst hW1;rw[hq])
  go_ret
  exact⟨zce (by rw[HN.out];rfl),rfl⟩
 ·have HN:Hid (wrdN s.data.toList=runN (inC [3,4]) s.data.toList):=by
   rw[HD.out];show(if inC [3] (s[0]'hpos) then _ else _)=_;rw[hq,zh5 _ _ hq];exact rfl
  have H1:Hid (∀ j d,j<1->s.data.toList[j]?=some d->inC [3,4] d=true):=fun j d hj hd=>by
   obtain rfl:j=0:=by omega
   rw[zcq hpos] at hd;injection hd with hd;rw[<-hd,inC34,hq];rfl
  go_enter Tryz.func38,Tryz.ntmps38
  go_wp2_with (go_at_call 41;refine(zc3 _ _).mono ?_;rintro e W1 ⟨rfl,hW1⟩;rw[hW1,hq];clear hW1)
  generalize (s[0]'hpos).toNat=z0;clear hq HD
  go_loopw [3] (fun i wr=>∃ t:Nat,1<=t∧t<=s.size∧i=.int .i64 t∧wr=w∧∀ j d,j<t->s.data.toList[j]?=some d->inC [3,4] d=true) (fun i _=>s.size - (intOf i).toNat)
  case atStart=>exact⟨1,Nat.le_refl _,hpos,rfl,rfl,H1.out⟩
  case round=>
   obtain⟨t,ht1,ht,rfl,rfl,hall⟩:=hrel;have HA:=hid hall;clear hall H1
   by_cases hlt:t<s.size
   ·have hd:decide ((t:Int)<s.size)=true:=decide_eq_true (by omega);have HB:Hid (s.data.toList[t]?=some (s[t]'hlt)):=zcq hlt;have HNX:Hid (inC [3,4] (s[t]'hlt)=true->∀ j d,j<t+1->s.data.toList[j]?=some d->inC [3,4] d=true):=fun hq j d hj hjd=>by
     by_cases hjt:j<t
     ·exact HA.out j d hjt hjd
     ·obtain rfl:j=t:=by omega
      rw[HB.out] at hjd;injection hjd with hjd;rw[<-hjd];exact hq
    cases h3:inC [3] (s[t]'hlt)
    ·cases h4:inC [4] (s[t]'hlt)
     ·have HY:Hid (runN (inC [3,4]) s.data.toList=t):=zg0 HA.out HB.out (by rw[inC34,h3,h4];rfl)
      go_wp2_with (first
       | (go_at_call 41;refine(zc3 _ _).mono ?_;rintro e W1 ⟨rfl,hW1⟩;subst hW1;rw[h3])
       | (go_at_call 68;refine(ze5 _ _).mono ?_;rintro e W1 ⟨rfl,hW1⟩;subst hW1;rw[h4]))
      go_ret
      exact⟨zce (by rw[HN.out,HY.out]),rfl⟩
     ·have HX:Hid (∀ j d,j<t+1->s.data.toList[j]?=some d->inC [3,4] d=true):=HNX.out (by rw[inC34,h3,h4];rfl)
      go_wp2_with (first
       | (go_at_call 41;refine(zc3 _ _).mono ?_;rintro e W1 ⟨rfl,hW1⟩;subst hW1;rw[h3])
       | (go_at_call 68;refine(ze5 _ _).mono ?_;rintro e W1 ⟨rfl,hW1⟩;subst hW1;rw[h4]))
      exact⟨⟨t+1,by omega,by omega,by go_num,trivial,HX.out⟩,by simp[intOf];omega⟩
    ·have HX:Hid (∀ j d,j<t+1->s.data.toList[j]?=some d->inC [3,4] d=true):=HNX.out (by rw[inC34,h3];rfl)
     go_wp2_with (go_at_call 41;refine(zc3 _ _).mono ?_;rintro e W1 ⟨rfl,hW1⟩;subst hW1;rw[h3])
     exact⟨⟨t+1,by omega,by omega,by go_num,trivial,HX.out⟩,by simp[intOf];omega⟩
   ·have hd:decide ((t:Int)<s.size)=false:=decide_eq_false (by omega);have HY:Hid (runN (inC [3,4]) s.data.toList=t):=by
     have h:=HS.out;have:runN (inC [3,4]) s.data.toList=s.data.toList.length:=zfi fun j d hj hdd=>HA.out j d (by omega) hdd;show runN (inC [3,4]) s.data.toList=t;omega
    go_wp2
    go_ret
    exact⟨zce (by rw[HN.out,HY.out]),rfl⟩
end Go.Proofs.YtmclgbkijeidaaaGreatDoor
