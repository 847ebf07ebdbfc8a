import Derived.Test.YtabiangdmibocaaGreatDoorUne
import Derived.Test.YtabiangdmibocaaGreatDoorUnW
import Derived.Deep.Cut
import Derived.Deep.CutRange
import Derived.Deep.CutBlock
import Derived.Deep.DeepCutAuto
namespace Go.Proofs.YtabiangdmibocaaGreatDoor
set_option maxRecDepth 100000
set_option maxHeartbeats 4000000
open Go.RowKit
theorem elZ:El 51 3 1 intZ:=by
 have h:(Tryz.prog.info? 3).map (fun i=>(i.zero,i.size,i.bytes))=some (some (.int .i64 0),1,8):=by kernel_rfl
 refine⟨Tryz.underlying51,?_,fun _=>rfl,fun _=>by simp[intZ,Value.oneCell'],by omega⟩
 cases hi:Tryz.prog.info? 3 with
 | none=>rw[hi] at h;cases h
 | some i=>
  rw[hi] at h;simp only[Option.map_some,Option.some.injEq,Prod.mk.injEq] at h;exact⟨i,_,rfl,h.1,h.2.1,by omega,rfl⟩
abbrev OwnZ:=OwnG 3 1 intZ
def RepI (w:World) (N:List NdM) (Z:List NdZ):Prop:=N.length=Z.length∧∀ (i:Nat) (m:NdM) (d:NdZ),N[i]?=some m->Z[i]?=some d ->
 (m.k=d.kind∧m.x=d.text∧m.n=d.num∧m.a=d.pos∧m.f=d.frm∧m.t=d.to)∧m.kn=d.kids.length∧RowsAt w 1 intZ m.ks d.kids∧(m.ks=none->m.kn=0∧m.kc=0)∧m.kn<=m.kc∧m.kc<=maxLen
theorem RepI.below {w w':World}{N:List NdM}{Z:List NdZ}(h:RepI w N Z)(hb:Below w.heap.size w w'):RepI w' N Z :=
 ⟨h.1,fun i m d h1 h2=>by
  obtain⟨a,b,c,e⟩:=h.2 i m d h1 h2;exact⟨a,b,c.below hb,e⟩⟩
def RepO (B:Nat) (w:World) (N:List NdM) (Z:List NdZ):Prop:=N.length=Z.length∧∀ (i:Nat) (m:NdM) (d:NdZ),N[i]?=some m->Z[i]?=some d ->
 (m.k=d.kind∧m.x=d.text∧m.n=d.num∧m.a=d.pos∧m.f=d.frm∧m.t=d.to)∧m.kn=d.kids.length∧OwnZ B w (.slice m.ks m.kn m.kc) d.kids∧d.kids.length<=300
theorem RepO.keep {B:Nat}{w w':World}{N:List NdM}{Z:List NdZ}(h:RepO B w N Z)(hh:∀ (k:Nat)(cs:Array Value)(fr:Nat × Nat),w.heap[k]?=some (.cells cs 3 fr)->w'.heap[k]?=w.heap[k]?):RepO B w' N Z :=
 ⟨h.1,fun i m d h1 h2=>by
  obtain⟨a,b,c,e⟩:=h.2 i m d h1 h2;refine⟨a,b,OwnG.keep c fun k hk=>?_,e⟩;rcases c.2 with⟨e1,_⟩ | ⟨g',cap,cur,e1,_,hg,_⟩
  ·rw[e1] at hk;cases hk
  ·rw[e1] at hk;have:g'=k:=by simpa[Value.ownBlock] using hk
   subst this;exact hh _ _ _ hg⟩
theorem RepO.below {B:Nat}{w w':World}{N:List NdM}{Z:List NdZ}(h:RepO B w N Z)(hb:Below w.heap.size w w'):RepO B w' N Z:=h.keep fun k _ _ hk=>hb.block k (lt_of_block hk)
theorem RepO.snoc {B:Nat}{w:World}{N:List NdM}{Z:List NdZ}{m:NdM}{d:NdZ}(h:RepO B w N Z)(hd:(m.k=d.kind∧m.x=d.text∧m.n=d.num∧m.a=d.pos∧m.f=d.frm∧m.t=d.to)∧m.kn=d.kids.length∧OwnZ B w (.slice m.ks m.kn m.kc) d.kids∧d.kids.length<=300):RepO B w (N++[m]) (Z++[d]) :=
 ⟨by simp[h.1],fun i m' d' e1 e2=>by
  by_cases hi:i<N.length
  ·rw[List.getElem?_append_left hi] at e1;rw[List.getElem?_append_left (by rw[<-h.1];exact hi)] at e2;exact h.2 i m' d' e1 e2
  ·rw[List.getElem?_append_right (by omega)] at e1;rw[List.getElem?_append_right (by rw[<-h.1];omega),<-h.1] at e2;have h0:i - N.length=0:=by have:=(List.getElem?_eq_some_iff.1 e1).1;simp at this;omega
   rw[h0] at e1 e2;obtain rfl:m=m':=by simpa using e1
   obtain rfl:d=d':=by simpa using e2
   exact hd⟩
theorem RepO.z {B:Nat}{w:World}{N:List NdM}{Z:List NdZ}(h:RepO B w N Z):RepZ w N Z :=
 ⟨h.1,fun i m d h1 h2=>by
  obtain⟨a,b,c,e⟩:=h.2 i m d h1 h2;obtain⟨s,c',e1,hr,hz,hc,hm⟩:=OwnG.rows elZ c;injection e1 with e1 e2 e3;subst e1 e3;exact⟨a,b,hr,⟨fun h=>⟨by rw[b];exact(hz h).1,(hz h).2⟩,by rw[b];exact hc,hm⟩,by omega⟩⟩
def cutZ (d:NdZ):NdZ:=⟨d.kind,strU (d.text.data.toList.take 4096),d.num,d.kids.take 300,d.pos,d.frm,d.to⟩
def fewZ (Z:List NdZ):List NdZ:=(Z.take 2049).map cutZ
theorem zio (Z:List NdZ):(fewZ Z).length=min Z.length 2049:=by simp[fewZ,Nat.min_comm]
theorem z45 {Z:List NdZ}{q:Nat}{d:NdZ}(h:Z[q]?=some d)(hq:q<2049):(fewZ Z).take (q+1)=(fewZ Z).take q++[cutZ d]:=by
 rw[List.take_add_one]
 congr 1
 unfold fewZ;rw[List.getElem?_map,List.getElem?_take,if_pos hq,h];rfl
theorem zq1 {w:World}{sp:Option Addr}{ks:List Int}(h:RowsAt w 1 intZ sp ks)(n:Nat):RowsAt w 1 intZ sp (ks.take n):=fun hl=>by
 obtain⟨b,o,e,hc⟩:=h (by rw[List.length_take] at hl;omega);refine⟨b,o,e,fun i x hx=>hc i x ?_⟩;rw[List.getElem?_take] at hx
 split at hx
 ·exact hx
 ·cases hx
theorem zx6 {B:Nat}{W0 wr:World}{s3:Option Addr}{n3 c3:Nat}{M:List NdM}{Y:List NdZ}{m:NdM}{d:NdZ}{T:ByteArray}(ho:OwnN B wr (.slice s3 n3 c3) M)(hr:RepO B wr M Y)(hb:Below B W0 wr)(hBs:B<=wr.heap.size)(hY:Y.length<=2049)
  (hn:m.ks=none->m.kn=0∧m.kc=0) (hk:m.kn=d.kids.length) (hR:RowsAt wr 1 intZ m.ks d.kids) (hT:T=strU (d.text.data.toList.take 4096)) :
  ∃ ks kn kc X v2 X2,(Builtin.append_ #[51,51] 51 #[.slice (some ⟨wr.heap.size+1,0,none⟩) 0 0,.slice m.ks (min (d.kids.length:Int) 300).toNat m.kc]).run Tryz.prog ((wr.alloc (.cells #[.int .i64 d.kind,.string T,.int .i64 d.num,.slice m.ks d.kids.length m.kc,.int .i64 d.pos,.int .i64 d.frm,.int .i64 d.to] 59)).alloc (.cells #[] 3))=.ok (.slice ks kn kc) X ∧
   X.cell? ⟨wr.heap.size,3,none⟩=some (.slice m.ks d.kids.length m.kc)∧X.frozen? ⟨wr.heap.size,3,none⟩=false ∧
   (X.setCell ⟨wr.heap.size,3,none⟩ (.slice ks kn kc)).heap[wr.heap.size]?=some (.cells (NdM.cells ⟨d.kind,T,d.num,ks,kn,kc,d.pos,d.frm,d.to⟩) 59 (0,0)) ∧
   (Builtin.append_ #[23,23] 23 #[.slice s3 n3 c3,.slice (some ⟨X.heap.size,0,none⟩) 1 1]).run Tryz.prog ((X.setCell ⟨wr.heap.size,3,none⟩ (.slice ks kn kc)).alloc (.cells (NdM.cells ⟨d.kind,T,d.num,ks,kn,kc,d.pos,d.frm,d.to⟩) 59))=.ok v2 X2 ∧
   OwnN B X2 v2 (M++[⟨d.kind,T,d.num,ks,kn,kc,d.pos,d.frm,d.to⟩])∧RepO B X2 (M++[⟨d.kind,T,d.num,ks,kn,kc,d.pos,d.frm,d.to⟩]) (Y++[cutZ d])∧Below B W0 X2:=by
 obtain⟨W2,hW2⟩:∃ W2,(wr.alloc (.cells #[.int .i64 d.kind,.string T,.int .i64 d.num,.slice m.ks d.kids.length m.kc,.int .i64 d.pos,.int .i64 d.frm,.int .i64 d.to] 59)).alloc (.cells #[] 3)=W2:=⟨_,rfl⟩;have hb2:Below wr.heap.size wr W2:=by rw[<-hW2];exact((Below.refl _ _).alloc (Nat.le_refl _) _).alloc (by simp) _
 have hs2:W2.heap.size=wr.heap.size+2:=by rw[<-hW2];simp
 have n0:W2.heap[wr.heap.size]?=some (.cells #[.int .i64 d.kind,.string T,.int .i64 d.num,.slice m.ks d.kids.length m.kc,.int .i64 d.pos,.int .i64 d.frm,.int .i64 d.to] 59 (0,0)):=by rw[<-hW2];exact(Below.heap_alloc _ _ _ (by simp)).trans (heap_alloc_new _ _)
 have n1:W2.heap[wr.heap.size+1]?=some (.cells #[] 3 (0,0)):=by
  have:=heap_alloc_new (wr.alloc (.cells #[.int .i64 d.kind,.string T,.int .i64 d.num,.slice m.ks d.kids.length m.kc,.int .i64 d.pos,.int .i64 d.frm,.int .i64 d.to] 59)) (.cells #[] 3);rw[World.size_alloc,hW2] at this;exact this
 rw[hW2];have o1:OwnZ wr.heap.size W2 (.slice (some ⟨wr.heap.size+1,0,none⟩) 0 0) []:=⟨rfl,.inr ⟨wr.heap.size+1,0,#[],rfl,by omega,n1,Nat.le_refl _,Nat.zero_le _,rfl,rfl⟩⟩;have hl:(d.kids.take 300).length=(min (d.kids.length:Int) 300).toNat:=by rw[List.length_take];omega
 obtain⟨v1,X,q1,q2,q3,q4⟩:=zdm (ys:=d.kids.take 300) (cap:=m.kc) elZ 51 o1 (fun e=>by have:=hn e;rw[List.length_take];omega) (zq1 (hR.below hb2) 300) (by rw[List.length_take];simp;omega) (by omega);rw[hl] at q1;rw[List.nil_append] at q2;obtain⟨ks,kc,rfl⟩:=OwnG.shape q2;have hbX:Below wr.heap.size wr X:=OwnG.grown o1 (Nat.le_refl _) (by omega) hb2 q3;have r0:=(q3.block wr.heap.size (by omega) (by simp[Value.ownBlock])).trans n0;obtain⟨X1,hX1⟩:∃ X1,X.setCell ⟨wr.heap.size,3,none⟩ (.slice ks (d.kids.take 300).length kc)=X1:=⟨_,rfl⟩;have r1:X1.heap[wr.heap.size]?=some (.cells (NdM.cells ⟨d.kind,T,d.num,ks,(d.kids.take 300).length,kc,d.pos,d.frm,d.to⟩) 59 (0,0)):=by rw[<-hX1];exact heap_setCell_same _ _ 3 _ _ _ r0
 have hs1:X1.heap.size=X.heap.size:=by rw[<-hX1];simp
 have hb1:Below wr.heap.size wr X1:=by rw[<-hX1];exact hbX.setCell (p:=⟨wr.heap.size,3,none⟩) (Nat.le_refl _) _
 have k1:OwnZ wr.heap.size X1 (.slice ks (d.kids.take 300).length kc) (d.kids.take 300):=by
  rw[<-hX1];refine q2.keep fun k hk=>heap_setCell_other _ _ _ _ fun e=>?_;have e':k=wr.heap.size:=e;rcases q4 with h|h
  ·rw[hk,e'] at h;simp[Value.ownBlock] at h
  ·rw[hk,e'] at h;simp at h;omega
 refine⟨ks,(d.kids.take 300).length,kc,X,?_⟩;rw[hX1];obtain⟨m',hm'⟩:∃ m':NdM,(⟨d.kind,T,d.num,ks,(d.kids.take 300).length,kc,d.pos,d.frm,d.to⟩:NdM)=m':=⟨_,rfl⟩;have hb5:Below wr.heap.size wr (X1.alloc (.cells m'.cells 59)):=hb1.alloc hb1.size _;have hb6:Below X1.heap.size X1 (X1.alloc (.cells m'.cells 59)):=(Below.refl _ _).alloc (Nat.le_refl _) _;have hrow:=heap_alloc_new X1 (.cells m'.cells 59);have hMl:=hr.1;have hxs:=hb1.size;obtain⟨v2,X2,p1,p2,p3,-⟩:=zdm (ys:=[m']) (cap:=1) elN 23 (ho.below hb5) (fun e=>by cases e) (zao (x:=m') hrow) (by simp;omega) (by simp;omega);rw[hs1] at p1;have hk5:OwnZ B (X1.alloc (.cells m'.cells 59)) (.slice ks (d.kids.take 300).length kc) (d.kids.take 300):=OwnG.mono (k1.below hb6) hBs;have hro:RepO B (X1.alloc (.cells m'.cells 59)) (M++[m']) (Y++[cutZ d]):=by
  refine(hr.below hb5).snoc ?_;rw[<-hm'] at hk5 ⊢;exact⟨⟨rfl,hT,rfl,rfl,rfl,rfl⟩,rfl,hk5,by show(d.kids.take 300).length<=300;rw[List.length_take];omega⟩
 refine⟨v2,X2,q1,?_⟩;rw[hm'];refine⟨(cell_of_row _ _ _ _ _ _ r0).trans rfl,frozen_of_row _ _ _ _ _ r0,by rw[<-hm'];exact r1,p1,p2,hro.keep fun k cs fr hk=>?_,OwnG.grown (ho.below hb5) (Nat.le_refl _) (by simp;omega) (hb.trans (hb5.mono hBs)) p3⟩;exact p3.block k (lt_of_block hk) (fun e=>OwnG.ne (ho.below hb5) hk (by decide) e.symm)
theorem zvn {w W:World}{v:Value}{M:List NdM}{Z:List NdZ}(h1:OwnN w.heap.size W v M)(h2:RepO w.heap.size W M Z)(hb:Below w.heap.size w W)(hz:W.heap[w.heap.size+1]?=some (.cells #[.slice none 0 0] 25 (0,0))) :
  OwnN w.heap.size (W.setCell ⟨w.heap.size+1,0,none⟩ v) v M∧RepO w.heap.size (W.setCell ⟨w.heap.size+1,0,none⟩ v) M Z∧Below w.heap.size w (W.setCell ⟨w.heap.size+1,0,none⟩ v)∧(W.setCell ⟨w.heap.size+1,0,none⟩ v).heap[w.heap.size+1]?=some (.cells #[v] 25 (0,0)):=by
 refine⟨h1.keep fun q hq=>heap_setCell_other _ _ _ _ fun e=>h1.ne hz (by decide) (by rw[hq,show q=w.heap.size+1 from e]),h2.keep fun k cs fr hk=>heap_setCell_other _ _ _ _ fun e=>?_,hb.setCell (p:=⟨w.heap.size+1,0,none⟩) (by simp) _,heap_setCell_same _ _ 0 _ _ _ hz⟩;have e':k=w.heap.size+1:=e;rw[e',hz] at hk;simp at hk
set_option maxHeartbeats 8000000 in
theorem zvo (sp:Option Addr)(cap:Nat) (N:List NdM) (Z:List NdZ)(w:World)(hr:RowsAt w 7 NdM.cells sp N)(hi:RepI w N Z)(hlm:N.length<=maxLen):Calls Tryz.prog 23 #[.agg #[.slice sp N.length cap]] w fun e w'=>
  ∃ v M,e=.returned (.agg #[v])∧OwnN w.heap.size w' v M∧RepO w.heap.size w' M (fewZ Z)∧Below w.heap.size w w':=by
 have HRW:=hid hr;have HIW:=hid hi;have hNm:N.length<=9223372036854775807:=hlm;have HNZ:Hid (N.length=Z.length):=hi.1;clear hr hi hlm
 go_enter Tryz.func23,Tryz.ntmps23
 go_wp2_with fail
 have hb0:Below w.heap.size w ((w.alloc (.cells #[.slice sp N.length cap] 25)).alloc (.cells #[.slice none 0 0] 25)):=((Below.refl _ _).alloc (Nat.le_refl _) _).alloc (by simp) _;have hrr:=heap_alloc_new (w.alloc (.cells #[.slice sp N.length cap] 25)) (.cells #[.slice none 0 0] 25);simp only[World.size_alloc] at hrr;have hns:=zcy (e:=59) (m:=7) (f:=NdM.cells) ((w.alloc (.cells #[.slice sp N.length cap] 25)).alloc (.cells #[.slice none 0 0] 25)).heap.size ((w.alloc (.cells #[.slice sp N.length cap] 25)).alloc (.cells #[.slice none 0 0] 25));have HB0:Hid _:=hb0;have HRR:Hid _:=hrr;have HNS:Hid _:=hns;clear hb0 hrr hns;generalize ((w.alloc (.cells #[.slice sp N.length cap] 25)).alloc (.cells #[.slice none 0 0] 25))=W1 at *
 go_loopw [3,9] (fun u i wr=>∃ (q:Nat) (M:List NdM),q<=N.length∧q<=2049∧i=.int .i64 q∧OwnN W1.heap.size wr u M∧RepO W1.heap.size wr M ((fewZ Z).take q)∧Below W1.heap.size W1 wr) (fun _ i _=>N.length - (intOf i).toNat)
 case atStart=>exact⟨0,[],Nat.zero_le _,Nat.zero_le _,rfl,HNS.out,⟨rfl,fun i m d h=>by simp at h⟩,Below.refl _ _⟩
 case round=>
  obtain⟨q,M,hq,hq2,rfl,ho,hro,hb⟩:=hrel;have HO:=hid ho;have HRO:=hid hro;have HB:=hid hb;clear ho hro hb;have fin:∀ (_:(fewZ Z).length<=q),∃ v M,OwnN w.heap.size wr v M∧RepO w.heap.size wr M (fewZ Z)∧v=u3:=fun h=>by
   have h2:=HRO.out;rw[List.take_of_length_le h] at h2;have hs:=HB0.out.size;refine⟨u3,M,OwnG.mono HO.out hs,⟨h2.1,fun i m d e1 e2=>?_⟩,rfl⟩;obtain⟨a,b,c,e⟩:=h2.2 i m d e1 e2;exact⟨a,b,OwnG.mono c hs,e⟩
  by_cases z:q<N.length
  ·have hd:decide ((q:Int)<N.length)=true:=by simp;omega
   obtain⟨m,hm⟩:∃ m,N[q]?=some m:=⟨_,List.getElem?_eq_getElem z⟩;obtain⟨d,hdz⟩:∃ d,Z[q]?=some d:=⟨_,List.getElem?_eq_getElem (by have:=HNZ.out;omega)⟩;obtain⟨hie,hik,hir,hin,hic,hix⟩:=(HIW.out.below (HB0.out.trans (HB.out.mono HB0.out.size))).2 q m d hm hdz;have hnr:=HRW.out.below (HB0.out.trans (HB.out.mono HB0.out.size));obtain⟨b,o,rfl,-⟩:=hnr (by omega);obtain⟨k0,k1,k2,k3,k4,k5,k6⟩:=zai hnr hm;have ltb:=block_lt_of_cell k0;have HIR:=hid hir;clear hnr hm hir
   cases z1:(q == 2049)
   rotate_left
   focus (
    have z1':((q:Int) == 2049)=true:=by have h0:q=2049:=(by simpa using z1);simp;omega
    obtain⟨v,M2,f1,f2,rfl⟩:=fin (by have h0:q=2049:=(by simpa using z1);rw[zio];omega);obtain⟨s1,c1,rfl⟩:=OwnG.shape f1;have hrr1:wr.heap[w.heap.size+1]?=some (.cells #[.slice none 0 0] 25):=(HB.out.block _ (lt_of_block HRR.out)).trans HRR.out;have hx:w.heap.size+1<wr.heap.size:=lt_of_block hrr1;obtain⟨W2,HW2⟩:∃ W2,Hid (wr.alloc (.cells #[.int .i64 d.kind,.string d.text,.int .i64 d.num,.slice m.ks d.kids.length m.kc,.int .i64 d.pos,.int .i64 d.frm,.int .i64 d.to] 59)=W2):=⟨_,rfl⟩;have hb2:Below wr.heap.size wr W2:=by rw[<-HW2.out];exact(Below.refl _ _).alloc (Nat.le_refl _) _
    have hrr2:=(hb2.block _ hx).trans hrr1;have FE:Hid _:=zvn (f1.below hb2) (RepO.below f2 hb2) ((HB0.out.trans (HB.out.mono HB0.out.size)).trans (hb2.mono (Nat.le_trans HB0.out.size HB.out.size))) hrr2;have cz:W2.cell? ⟨w.heap.size+1,0,none⟩=some (.slice none 0 0):=(cell_of_row _ _ _ _ _ _ hrr2).trans rfl;have fz:W2.frozen? ⟨w.heap.size+1,0,none⟩=false:=frozen_of_row _ _ _ _ _ hrr2;clear z1 f1 f2 fin hb2 hrr2 hrr1 hx
    go_wp2_with (rw[HW2.out])
    exact bodyPost_ret (v:=.agg #[.slice s1 M2.length c1]) (zdu Tryz.results23 _ _ (w.heap.size+1) 25 #[.slice s1 M2.length c1] (0,0) _ rfl FE.out.2.2.2 Tryz.underlying25 rfl (by kernel_rfl)) rfl (by first|exact⟨_,rfl,_,FE.out.1,FE.out.2.1,FE.out.2.2.1⟩ | exact⟨_,_,rfl,FE.out.1,FE.out.2.1,FE.out.2.2.1⟩))
   have z1':((q:Int) == 2049)=false:=by have h0:¬ q=2049:=(by simpa using z1);simp;omega
   clear z1;clear fin;obtain⟨s3,c3,rfl⟩:=OwnG.shape HO.out;obtain⟨T,hT⟩:∃ T,strU (d.text.data.toList.take 4096)=T:=⟨_,rfl⟩;have hcs:d.text.extract 0 (min (d.text.size:Int) 4096).toNat=T:=(zov d.text 4096).trans hT;have hq9:q<2049:=by have:¬ ((q:Int)=2049):=(by simpa using z1');omega
   obtain⟨ks,kn,kc,X,v2,X2,e1,e2,e3,e4,e5,e6,e7,e8⟩:=zx6 (T:=T) HO.out HRO.out HB.out HB.out.size (by rw[List.length_take,zio];omega) hin hik HIR.out hT.symm;rw[<-z45 hdz hq9] at e7;obtain⟨X1,HX1⟩:∃ X1,Hid (X.setCell ⟨wr.heap.size,3,none⟩ (.slice ks kn kc)=X1):=⟨_,rfl⟩;rw[HX1.out] at e4 e5;have y0:X1.cell? ⟨wr.heap.size,0,none⟩=some (.int .i64 d.kind):=(cell_of_row _ _ _ _ _ _ e4).trans rfl;have y1:X1.cell? ⟨wr.heap.size,1,none⟩=some (.string T):=(cell_of_row _ _ _ _ _ _ e4).trans rfl;have y2:X1.cell? ⟨wr.heap.size,2,none⟩=some (.int .i64 d.num):=(cell_of_row _ _ _ _ _ _ e4).trans rfl;have y3:X1.cell? ⟨wr.heap.size,3,none⟩=some (.slice ks kn kc):=(cell_of_row _ _ _ _ _ _ e4).trans rfl;have y4:X1.cell? ⟨wr.heap.size,4,none⟩=some (.int .i64 d.pos):=(cell_of_row _ _ _ _ _ _ e4).trans rfl;have y5:X1.cell? ⟨wr.heap.size,5,none⟩=some (.int .i64 d.frm):=(cell_of_row _ _ _ _ _ _ e4).trans rfl;have y6:X1.cell? ⟨wr.heap.size,6,none⟩=some (.int .i64 d.to):=(cell_of_row _ _ _ _ _ _ e4).trans rfl;have hs1:X1.heap.size=X.heap.size:=by rw[<-HX1.out];simp
   have E6:Hid _:=e6;have E7:Hid _:=e7;have E8:Hid _:=e8;rw[<-hs1] at e5;clear e4 e6 e7 e8 hT HO HRO HB hdz hs1
   go_wp2_with (first|rw[HX1.out] | (at_builtin;refine za2 (.tmp 24) (.tmp 31) 51 (by rfl) (by rfl) (by rfl) (by rfl) e1 ?_) | (at_builtin;refine za2 (.tmp 34) (.tmp 36) 23 (by rfl) (by rfl) (by rfl) (by rfl) e5 ?_))
   exact⟨⟨q+1,_,by omega,by omega,by go_num,E6.out,E7.out,E8.out⟩,by simp[intOf];omega⟩
  ·have hd:decide ((q:Int)<N.length)=false:=by simp;omega
   obtain⟨v,M2,f1,f2,rfl⟩:=fin (by have:=HNZ.out;rw[zio];omega);obtain⟨s1,c1,rfl⟩:=OwnG.shape f1;have hrr1:wr.heap[w.heap.size+1]?=some (.cells #[.slice none 0 0] 25):=(HB.out.block _ (lt_of_block HRR.out)).trans HRR.out;have FE:Hid _:=zvn f1 f2 (HB0.out.trans (HB.out.mono HB0.out.size)) hrr1;have cz:wr.cell? ⟨w.heap.size+1,0,none⟩=some (.slice none 0 0):=(cell_of_row _ _ _ _ _ _ hrr1).trans rfl;have fz:wr.frozen? ⟨w.heap.size+1,0,none⟩=false:=frozen_of_row _ _ _ _ _ hrr1;clear f1 f2 fin hrr1
   go_wp2
   exact bodyPost_ret (v:=.agg #[.slice s1 M2.length c1]) (zdu Tryz.results23 _ _ (w.heap.size+1) 25 #[.slice s1 M2.length c1] (0,0) _ rfl FE.out.2.2.2 Tryz.underlying25 rfl (by kernel_rfl)) rfl (by first|exact⟨_,rfl,_,FE.out.1,FE.out.2.1,FE.out.2.2.1⟩ | exact⟨_,_,rfl,FE.out.1,FE.out.2.1,FE.out.2.2.1⟩)
theorem z47 {Z:List NdZ}(h:∀ d ∈ Z,-9223372036854775808<=d.num∧d.num<=9223372036854775807):SmZ (fewZ Z):=fun d hd=>by
 unfold fewZ at hd;obtain⟨d0,h0,rfl⟩:=List.mem_map.1 hd;refine⟨?_,h d0 (List.mem_of_mem_take h0)⟩;show(strU (d0.text.data.toList.take 4096)).size<=40000;rw[zad,List.length_take];omega
theorem z48 {B:Nat}{w:World}{v:Value}{M:List NdM}{Z:List NdZ}(h:OwnN B w v M)(hr:RepO B w M (fewZ Z)):∃ sn cn,v=.slice sn (fewZ Z).length cn∧EnZ w v (fewZ Z):=by
 obtain⟨s,c,rfl,h1,-⟩:=OwnG.rows elN h;rw[hr.1];exact⟨s,c,rfl,⟨s,c,M,rfl,h1,hr.z⟩,by rw[zio];omega⟩
def zEq (a b:NdZ):Bool:=(a.kind == b.kind) && (a.text.toList == b.text.toList) && (a.num == b.num) && (a.kids == b.kids)
theorem zx7 (a:NdZ):zEq a a=true:=by simp[zEq]
theorem zjk {w:World}{b o:Nat}{xs:List Int}(h:RowsAt w 1 intZ (some ⟨b,o,none⟩) xs):∀ j,j<xs.length->w.cell? ⟨b,o+j,none⟩=some (.int .i64 (xs.getD j 0)):=fun j hj=>by
 obtain⟨b',o',e,hc⟩:=h (by omega);injection e with e;injection e with e1 e2;subst e1 e2;have:=hc j _ (List.getElem?_eq_getElem hj) 0 (.int .i64 (xs[j]'hj)) rfl;rw[Nat.mul_one,Nat.add_zero] at this;rw[this,List.getD_eq_getElem?_getD,List.getElem?_eq_getElem hj];rfl
theorem zq2 (sp tp:Option Addr)(c1 c2:Nat)(xs ys:List Int)(w:World)(h1:RowsAt w 1 intZ sp xs)(h2:RowsAt w 1 intZ tp ys)(l1:xs.length<=1000000)(l2:ys.length<=1000000) :
  Calls Tryz.prog 87 #[.slice sp xs.length c1,.slice tp ys.length c2] w fun e w'=>e=.returned (.bool (xs == ys))∧∃ q,w'=w.drewN q:=by
 by_cases hl:xs.length=ys.length
 ·by_cases h0:xs.length=0
  ·have e1:xs=[]:=List.eq_nil_of_length_eq_zero h0;have e2:ys=[]:=List.eq_nil_of_length_eq_zero (by omega);subst e1 e2;refine(Tryz.slices_Equal_int_empty sp tp c1 0 c2 w (by omega)).mono ?_;rintro e w' ⟨rfl,rfl⟩;exact⟨rfl,0,rfl⟩
  ·obtain⟨b1,o1,rfl,-⟩:=h1 (by omega);obtain⟨b2,o2,rfl,-⟩:=h2 (by omega);refine(Tryz.slices_Equal_int b1 o1 xs.length c1 b2 o2 ys.length c2 xs ys w (Nat.le_refl _) (Nat.le_refl _) (by omega) (by omega) (zjk h1) (zjk h2)).mono ?_;rintro e w' ⟨rfl,hq⟩;exact⟨by rw[List.take_length,List.take_length],hq⟩
 ·refine(Tryz.slices_Equal_int_lens sp tp xs.length c1 ys.length c2 w hl).mono ?_;rintro e w' ⟨rfl,rfl⟩;have h2:(xs == ys)=false:=by
   rw[<-Bool.not_eq_true];intro h;exact hl (by rw[eq_of_beq h])
  exact⟨by rw[h2],0,rfl⟩
def NzAt (w:World) (m:NdM) (d:NdZ):Prop:=(m.k=d.kind∧m.x=d.text∧m.n=d.num∧m.a=d.pos∧m.f=d.frm∧m.t=d.to)∧m.kn=d.kids.length∧RowsAt w 1 intZ m.ks d.kids
theorem zjl (m n:NdM)(a b:NdZ)(w:World)(h1:NzAt w m a)(h2:NzAt w n b)(l1:a.kids.length<=1000000)(l2:b.kids.length<=1000000) :
  Calls Tryz.prog 86 #[.agg m.cells,.agg n.cells] w fun e w'=>e=.returned (.bool (zEq a b))∧Below w.heap.size w w':=by
 obtain⟨mk,mx,mn,ms,mkn,mkc,ma,mf,mt⟩:=m;obtain⟨nk,nx,nn,ns,nkn,nkc,na,nf,nt⟩:=n;obtain⟨⟨e1,e2,e3,-⟩,e4,r1⟩:=h1;obtain⟨⟨f1,f2,f3,-⟩,f4,r2⟩:=h2
 dsimp only at e1 e2 e3 e4 f1 f2 f3 f4 r1 r2
 subst e1 e2 e3 e4 f1 f2 f3 f4;have R1:Hid (RowsAt w 1 intZ ms a.kids):=r1;have R2:Hid (RowsAt w 1 intZ ns b.kids):=r2;clear r1 r2;have HQ:Hid (zEq a b=((a.kind == b.kind) && (a.text.toList == b.text.toList) && (a.num == b.num) && (a.kids == b.kids))):=rfl;unfold NdM.cells;have HB:Hid (Below w.heap.size w ((w.alloc (Obj.cells #[.int .i64 a.kind,.string a.text,.int .i64 a.num,.slice ms a.kids.length mkc,.int .i64 ma,.int .i64 mf,.int .i64 mt] 59)).alloc (Obj.cells #[.int .i64 b.kind,.string b.text,.int .i64 b.num,.slice ns b.kids.length nkc,.int .i64 na,.int .i64 nf,.int .i64 nt] 59))):=((Below.refl _ _).alloc (Nat.le_refl _) _).alloc (by simp) _
 cases q1:(a.kind == b.kind)
 ·have HX:Hid (zEq a b=false):=by show _=_;rw[HQ.out,q1];rfl
  go_enter Tryz.func86,Tryz.ntmps86
  go_wp2
  go_ret
  exact⟨zal HX.out.symm,HB.out⟩
 cases q2:(a.text.toList == b.text.toList)
 ·have HX:Hid (zEq a b=false):=by show _=_;rw[HQ.out,q1,q2];rfl
  go_enter Tryz.func86,Tryz.ntmps86
  go_wp2
  go_ret
  exact⟨zal HX.out.symm,HB.out⟩
 cases q3:(a.num == b.num)
 ·have HX:Hid (zEq a b=false):=by show _=_;rw[HQ.out,q1,q2,q3];rfl
  go_enter Tryz.func86,Tryz.ntmps86
  go_wp2
  go_ret
  exact⟨zal HX.out.symm,HB.out⟩
 have HX:Hid (zEq a b=(a.kids == b.kids)):=by show _=_;rw[HQ.out,q1,q2,q3];rfl
 go_enter Tryz.func86,Tryz.ntmps86
 go_wp2_with (go_at_call 87;refine(zq2 ms ns mkc nkc a.kids b.kids _ (R1.out.below HB.out) (R2.out.below HB.out) l1 l2).mono ?_;rintro e W1 ⟨rfl,q4,rfl⟩)
 go_ret
 exact⟨zal HX.out.symm,HB.out.trans (zb1 _ _)⟩
theorem NzAt.low {w w':World}{m:NdM}{d:NdZ}(h:NzAt w m d)(hb:Below w.heap.size w w'):NzAt w' m d:=⟨h.1,h.2.1,h.2.2.below hb⟩
theorem RepZ.at {w:World}{N:List NdM}{Z:List NdZ}(h:RepZ w N Z){i:Nat}{m:NdM}{d:NdZ}(h1:N[i]?=some m)(h2:Z[i]?=some d):NzAt w m d:=by
 obtain⟨a,b,c,-⟩:=h.2 i m d h1 h2;exact⟨a,b,c⟩
theorem zx8 (sp tp:Option Addr)(c1 c2:Nat) (N M:List NdM) (L K:List NdZ)(w:World)(h1:RowsAt w 7 NdM.cells sp N)(r1:RepZ w N L)(h2:RowsAt w 7 NdM.cells tp M)(r2:RepZ w M K)
  (hl:L.length<=1000000) (hk:K.length<=1000000) (kl:∀ d ∈ L,d.kids.length<=1000000) (kk:∀ d ∈ K,d.kids.length<=1000000) :
  Calls Tryz.prog 85 #[.slice sp L.length c1,.slice tp K.length c2,.func (.func 86) #[] #[]] w fun e w'=>e=.returned (.bool (eqAll zEq L K))∧Below w.heap.size w w':=by
 have H1:=hid h1;have H2:=hid h2;have R1:Hid (RepZ w N L):=r1;have R2:Hid (RepZ w M K):=r2;have KL:Hid (∀ d ∈ L,d.kids.length<=1000000):=kl;have KK:Hid (∀ d ∈ K,d.kids.length<=1000000):=kk;clear h1 h2 r1 r2 kl kk
 by_cases hlen:L.length=K.length
 ·have HIF:Hid (eqAll zEq L K=true ↔ ∀ (i:Nat) a b,L[i]?=some a->K[i]?=some b->zEq a b=true):=zc2 hlen;have hln:((L.length:Int) != (K.length:Int))=false:=by simp;omega
  have HLEN:=hid hlen;clear hlen
  go_enter Tryz.func85,Tryz.ntmps85
  go_wp2
  go_loopw [17] (fun i wr=>∃ t:Nat,t<=L.length∧i=.int .i64 t∧Below w.heap.size w wr∧∀ (j:Nat) (a b:NdZ),j<t->L[j]?=some a->K[j]?=some b->zEq a b=true) (fun i _=>L.length - (intOf i).toNat)
  case atStart=>exact⟨0,Nat.zero_le _,rfl,Below.refl _ _,fun j a b hj=>by omega⟩
  case round=>
   obtain⟨t,ht,rfl,hB,hz⟩:=hrel;have HZ:=hid hz;clear hz
   by_cases hlt:t<L.length
   ·have hlt2:t<K.length:=by have:=HLEN.out;omega
    have hNl:N.length=L.length:=R1.out.1;have hMl:M.length=K.length:=R2.out.1;have hd:decide ((t:Int)<L.length)=true:=by simp;omega
    have hd2:decide ((t:Int)<K.length)=true:=by simp;omega
    obtain⟨b1,f1,rfl,-⟩:=H1.out (by omega);obtain⟨b2,f2,rfl,-⟩:=H2.out (by omega);obtain⟨x,hx⟩:∃ x,N[t]?=some x:=⟨_,List.getElem?_eq_getElem (by omega)⟩;obtain⟨y,hy⟩:∃ y,M[t]?=some y:=⟨_,List.getElem?_eq_getElem (by omega)⟩;obtain⟨a,ha⟩:∃ a,L[t]?=some a:=⟨_,List.getElem?_eq_getElem hlt⟩;obtain⟨b,hb⟩:∃ b,K[t]?=some b:=⟨_,List.getElem?_eq_getElem hlt2⟩;obtain⟨k0,k1,k2,k3,k4,k5,k6⟩:=zai (RowsAt.below H1.out hB) hx;obtain⟨l0,l1,l2,l3,l4,l5,l6⟩:=zai (RowsAt.below H2.out hB) hy;have A1:Hid (NzAt w x a):=R1.out.at hx ha;have A2:Hid (NzAt w y b):=R2.out.at hy hb;have kx:a.kids.length<=1000000:=KL.out a (List.mem_of_getElem? ha);have ky:b.kids.length<=1000000:=KK.out b (List.mem_of_getElem? hb);have HX:=hid ha;have HY:=hid hb;have lt2:b2<wr.heap.size:=block_lt_of_cell l0;clear ha hb hx hy;have HBB:Hid (Below w.heap.size w ((wr.alloc (.cells x.cells 59)).alloc (.cells y.cells 59))):=(hB.alloc hB.size _).alloc (by simp;exact Nat.le_succ_of_le hB.size) _;have B1:Hid (NzAt ((wr.alloc (.cells x.cells 59)).alloc (.cells y.cells 59)) x a):=A1.out.low HBB.out;have B2:Hid (NzAt ((wr.alloc (.cells x.cells 59)).alloc (.cells y.cells 59)) y b):=A2.out.low HBB.out
    cases hq:zEq a b
    ·have HNO:Hid (eqAll zEq L K=false):=zju HX.out HY.out hq
     go_wp2_with (go_at_call 86;refine(zjl x y a b _ B1.out B2.out kx ky).mono ?_;rintro e W10 ⟨rfl,b10⟩;rw[hq])
     go_ret
     exact⟨zal HNO.out.symm,HBB.out.trans (b10.mono HBB.out.size)⟩
    ·have HNX:Hid (∀ (j:Nat) (a b:NdZ),j<t+1->L[j]?=some a->K[j]?=some b->zEq a b=true):=fun j a' b' hj ha hb=>by
      by_cases hjt:j<t
      ·exact HZ.out j a' b' hjt ha hb
      ·obtain rfl:j=t:=by omega
       rw[HX.out] at ha;rw[HY.out] at hb;injection ha with ha;injection hb with hb;rw[<-ha,<-hb];exact hq
     go_wp2_with (go_at_call 86;refine(zjl x y a b _ B1.out B2.out kx ky).mono ?_;rintro e W10 ⟨rfl,b10⟩;rw[hq])
     exact⟨⟨t+1,by omega,by go_num,HBB.out.trans (b10.mono HBB.out.size),HNX.out⟩,by simp[intOf];omega⟩
   ·have hd:decide ((t:Int)<L.length)=false:=by simp;omega
    have HYES:Hid (eqAll zEq L K=true):=HIF.out.2 fun j a b ha hb=>HZ.out j a b (by have:=(List.getElem?_eq_some_iff.1 ha).1;omega) ha hb
    go_wp2
    go_ret
    exact⟨zal HYES.out.symm,hB⟩
 ·have hln:((L.length:Int) != (K.length:Int))=true:=by simp;omega
  have HNO:Hid (eqAll zEq L K=false):=zjt hlen
  go_enter Tryz.func85,Tryz.ntmps85
  go_wp2
  go_ret
  exact⟨zal HNO.out.symm,Below.refl _ _⟩
theorem zvp (sp tp:Option Addr)(c1 c2:Nat) (N M:List NdM) (L K:List NdZ)(w:World)(h1:RowsAt w 7 NdM.cells sp N)(r1:RepZ w N L)(h2:RowsAt w 7 NdM.cells tp M)(r2:RepZ w M K)
  (hl:L.length<=1000000) (hk:K.length<=1000000) (kl:∀ d ∈ L,d.kids.length<=1000000) (kk:∀ d ∈ K,d.kids.length<=1000000) :
  Calls Tryz.prog 48 #[.agg #[.slice sp L.length c1],.agg #[.slice tp K.length c2]] w fun e w'=>e=.returned (.bool (eqAll zEq L K))∧Below w.heap.size w w':=by
 have H1:=hid h1;have H2:=hid h2;have R1:Hid (RepZ w N L):=r1;have R2:Hid (RepZ w M K):=r2;have KL:Hid (∀ d ∈ L,d.kids.length<=1000000):=kl;have KK:Hid (∀ d ∈ K,d.kids.length<=1000000):=kk;clear h1 h2 r1 r2 kl kk
 go_enter Tryz.func48,Tryz.ntmps48
 go_wp2_with fail
 refine zag (fun W=>Below w.heap.size w W) (((Below.refl _ _).alloc (Nat.le_refl _) _).alloc (by simp) _) ?_;intro W hB;refine(zx8 sp tp c1 c2 N M L K W (H1.out.below hB) (R1.out.below hB) (H2.out.below hB) (R2.out.below hB) hl hk KL.out KK.out).mono ?_;rintro e W1 ⟨rfl,b1⟩;have HB:Hid (Below w.heap.size w W1):=hB.trans (b1.mono hB.size);clear hB b1
 go_wp2
 go_ret
 exact⟨rfl,HB.out⟩
theorem zq3 (sp tp:Option Addr)(c1 c2:Nat) (N M:List NdM) (Z:List NdZ)(w:World)(h1:RowsAt w 7 NdM.cells sp N)(r1:RepZ w N Z)(h2:RowsAt w 7 NdM.cells tp M)(r2:RepZ w M Z)(hl:Z.length<=1000000) :
  Calls Tryz.prog 25 #[.agg #[.slice sp Z.length c1],.agg #[.slice tp Z.length c2]] w fun e w'=>e=.returned (.bool true)∧Below w.heap.size w w':=by
 have kl:∀ d ∈ Z,d.kids.length<=1000000:=fun d hd=>by
  obtain⟨i,hi,rfl⟩:=List.mem_iff_getElem.1 hd;obtain⟨m,hm⟩:∃ m,N[i]?=some m:=⟨_,List.getElem?_eq_getElem (by have:=r1.1;omega)⟩;have:=r1.2 i m _ hm (List.getElem?_eq_getElem hi);have h5:=this.2.1;have h6:=this.2.2.2.2;omega
 have heq:eqAll zEq Z Z=true:=(zc2 rfl).2 fun i a b ha hb=>by
  rw[ha] at hb;injection hb with hb;rw[hb];exact zx7 _
 have HSA:Hid (∀ W,Below w.heap.size w W->Calls Tryz.prog 48 #[.agg #[.slice sp Z.length c1],.agg #[.slice tp Z.length c2]] W fun e w'=>e=.returned (.bool true)∧Below W.heap.size W w'):=fun W hb=>by
  have:=zvp sp tp c1 c2 N M Z Z W (h1.below hb) (r1.below hb) (h2.below hb) (r2.below hb) hl hl kl kl;rw[heq] at this;exact this
 have H1:=hid h1;have H2:=hid h2;have R1:Hid (RepZ w N Z):=r1;have R2:Hid (RepZ w M Z):=r2;clear h1 h2 r1 r2 kl heq
 go_enter Tryz.func25,Tryz.ntmps25
 go_wp2_with fail
 refine zag (fun W=>W.heap[w.heap.size]?=some (.cells #[.slice sp Z.length c1] 25 (0,0))∧W.heap[w.heap.size+1]?=some (.cells #[.slice tp Z.length c2] 25 (0,0))∧Below w.heap.size w W) (zb9 w _ _ _ _) ?_;rintro W0 ⟨hr0,hr1,hB0⟩;refine(HSA.out W0 hB0).mono ?_;rintro e W1 ⟨rfl,b1⟩;have HR0:Hid (∀ W,Below W1.heap.size W1 W->W.heap[w.heap.size]?=some (.cells #[.slice sp Z.length c1] 25 (0,0))∧W.heap[w.heap.size+1]?=some (.cells #[.slice tp Z.length c2] 25 (0,0))∧Below w.heap.size w W):=fun W hb=>by
  have g0:=(b1.block _ (zab hr0)).trans hr0;have g1:=(b1.block _ (zab hr1)).trans hr1;have g2:=hB0.trans (b1.mono hB0.size);exact⟨(hb.block _ (zab g0)).trans g0,(hb.block _ (zab g1)).trans g1,g2.trans (hb.mono g2.size)⟩
 obtain⟨q0,q1,-⟩:=HR0.out W1 (Below.refl _ _);have p0:W1.cell? ⟨w.heap.size,0,none⟩=some (.slice sp Z.length c1):=(cell_of_row _ _ 0 _ _ _ q0).trans rfl;have p1:W1.cell? ⟨w.heap.size+1,0,none⟩=some (.slice tp Z.length c2):=(cell_of_row _ _ 0 _ _ _ q1).trans rfl;clear hr0 hr1 hB0 b1 HSA q0 q1
 go_wp2
 clear p0 p1
 go_loopw [24] (fun i wr=>∃ t:Nat,t<=Z.length∧i=.int .i64 t∧Below W1.heap.size W1 wr) (fun i _=>Z.length - (intOf i).toNat)
 case atStart=>exact⟨0,Nat.zero_le _,rfl,Below.refl _ _⟩
 case round=>
  obtain⟨t,ht,rfl,hB⟩:=hrel;obtain⟨q0,q1,q2⟩:=HR0.out wr hB;have HB:=hid hB;have p0:wr.cell? ⟨w.heap.size,0,none⟩=some (.slice sp Z.length c1):=(cell_of_row _ _ 0 _ _ _ q0).trans rfl;have p1:wr.cell? ⟨w.heap.size+1,0,none⟩=some (.slice tp Z.length c2):=(cell_of_row _ _ 0 _ _ _ q1).trans rfl;have s0:w.heap.size<wr.heap.size:=zab q0;have s1:w.heap.size+1<wr.heap.size:=zab q1;have HQ2:Hid (Below w.heap.size w wr):=q2;clear hB q0 q1 q2
  by_cases hlt:t<Z.length
  ·have hNl:N.length=Z.length:=R1.out.1;have hMl:M.length=Z.length:=R2.out.1;have hd:decide ((t:Int)<Z.length)=true:=by simp;omega
   obtain⟨b1,f1,rfl,-⟩:=H1.out (by omega);obtain⟨b2,f2,rfl,-⟩:=H2.out (by omega);obtain⟨x,hx⟩:∃ x,N[t]?=some x:=⟨_,List.getElem?_eq_getElem (by omega)⟩;obtain⟨y,hy⟩:∃ y,M[t]?=some y:=⟨_,List.getElem?_eq_getElem (by omega)⟩;obtain⟨a,ha⟩:∃ a,Z[t]?=some a:=⟨_,List.getElem?_eq_getElem hlt⟩;obtain⟨k0,k1,k2,k3,k4,k5,k6⟩:=zai (RowsAt.below H1.out HQ2.out) hx;obtain⟨l0,l1,l2,l3,l4,l5,l6⟩:=zai (RowsAt.below H2.out HQ2.out) hy;have A1:Hid (NzAt w x a):=R1.out.at hx ha;have A2:Hid (NzAt w y a):=R2.out.at hy ha;have lt1:b1<wr.heap.size:=block_lt_of_cell k0;have lt2:b2<wr.heap.size:=block_lt_of_cell l0;clear ha hx hy;obtain⟨xk,xx,xn,xs,xkn,xkc,xa,xf,xt⟩:=x;obtain⟨yk,yx,yn,ys,ykn,ykc,ya,yf,yt⟩:=y;obtain⟨⟨e1,e2,e3,e4,e5,e6⟩,e7,-⟩:=A1.out;obtain⟨⟨i1,i2,i3,i4,i5,i6⟩,i7,-⟩:=A2.out
   dsimp only at e1 e2 e3 e4 e5 e6 e7 i1 i2 i3 i4 i5 i6 i7 k0 k1 k2 k3 k4 k5 k6 l0 l1 l2 l3 l4 l5 l6
   clear A1 A2;subst e1 e2 e3 e4 e5 e6 e7 i1 i2 i3 i4 i5 i6 i7
   go_upto_region 6 with fail
   go_cut [6,7] (fun px py wc=>∃ gx gy:Nat,px=.pointer (some ⟨gx,0,none⟩)∧py=.pointer (some ⟨gy,0,none⟩)∧wc.heap[gx]?=some (.cells #[.int .i64 a.kind,.string a.text,.int .i64 a.num,.slice xs a.kids.length xkc,.int .i64 a.pos,.int .i64 a.frm,.int .i64 a.to] 59 (0,0))∧wc.heap[gy]?=some (.cells #[.int .i64 a.kind,.string a.text,.int .i64 a.num,.slice ys a.kids.length ykc,.int .i64 a.pos,.int .i64 a.frm,.int .i64 a.to] 59 (0,0))∧Below wr.heap.size wr wc)
   case first=>
    go_region
    focus (
     go_wp2_with fail
     go_meet
     case rel=>
      have n0:=heap_alloc_new wr (.cells #[.int .i64 a.kind,.string a.text,.int .i64 a.num,.slice xs a.kids.length xkc,.int .i64 a.pos,.int .i64 a.frm,.int .i64 a.to] 59);have n1:=heap_alloc_new (wr.alloc (.cells #[.int .i64 a.kind,.string a.text,.int .i64 a.num,.slice xs a.kids.length xkc,.int .i64 a.pos,.int .i64 a.frm,.int .i64 a.to] 59)) (.cells #[.int .i64 a.kind,.string a.text,.int .i64 a.num,.slice ys a.kids.length ykc,.int .i64 a.pos,.int .i64 a.frm,.int .i64 a.to] 59);simp only[World.size_alloc] at n1;exact⟨_,_,rfl,rfl,(Below.heap_alloc (wr.alloc (.cells #[.int .i64 a.kind,.string a.text,.int .i64 a.num,.slice xs a.kids.length xkc,.int .i64 a.pos,.int .i64 a.frm,.int .i64 a.to] 59)) (.cells #[.int .i64 a.kind,.string a.text,.int .i64 a.num,.slice ys a.kids.length ykc,.int .i64 a.pos,.int .i64 a.frm,.int .i64 a.to] 59) wr.heap.size (by simp)).trans n0,n1,(((Below.refl wr.heap.size wr).alloc (Nat.le_refl _) (.cells #[.int .i64 a.kind,.string a.text,.int .i64 a.num,.slice xs a.kids.length xkc,.int .i64 a.pos,.int .i64 a.frm,.int .i64 a.to] 59)).alloc (by simp) (.cells #[.int .i64 a.kind,.string a.text,.int .i64 a.num,.slice ys a.kids.length ykc,.int .i64 a.pos,.int .i64 a.frm,.int .i64 a.to] 59)).drew⟩)
    focus (
     go_wp2_with fail
     go_meet
     case rel=>
      have n0:=heap_alloc_new wr (.cells #[.int .i64 a.kind,.string a.text,.int .i64 a.num,.slice ys a.kids.length ykc,.int .i64 a.pos,.int .i64 a.frm,.int .i64 a.to] 59);have n1:=heap_alloc_new (wr.alloc (.cells #[.int .i64 a.kind,.string a.text,.int .i64 a.num,.slice ys a.kids.length ykc,.int .i64 a.pos,.int .i64 a.frm,.int .i64 a.to] 59)) (.cells #[.int .i64 a.kind,.string a.text,.int .i64 a.num,.slice xs a.kids.length xkc,.int .i64 a.pos,.int .i64 a.frm,.int .i64 a.to] 59);simp only[World.size_alloc] at n1;exact⟨_,_,rfl,rfl,n1,(Below.heap_alloc (wr.alloc (.cells #[.int .i64 a.kind,.string a.text,.int .i64 a.num,.slice ys a.kids.length ykc,.int .i64 a.pos,.int .i64 a.frm,.int .i64 a.to] 59)) (.cells #[.int .i64 a.kind,.string a.text,.int .i64 a.num,.slice xs a.kids.length xkc,.int .i64 a.pos,.int .i64 a.frm,.int .i64 a.to] 59) wr.heap.size (by simp)).trans n0,(((Below.refl wr.heap.size wr).alloc (Nat.le_refl _) (.cells #[.int .i64 a.kind,.string a.text,.int .i64 a.num,.slice ys a.kids.length ykc,.int .i64 a.pos,.int .i64 a.frm,.int .i64 a.to] 59)).alloc (by simp) (.cells #[.int .i64 a.kind,.string a.text,.int .i64 a.num,.slice xs a.kids.length xkc,.int .i64 a.pos,.int .i64 a.frm,.int .i64 a.to] 59)).drew⟩)
   case rest=>
    obtain⟨gx,gy,rfl,rfl,hgx,hgy,hbw⟩:=hcut;have HBW:=hid (HB.out.trans (hbw.mono HB.out.size));clear k0 k1 k2 k3 k4 k5 k6 l0 l1 l2 l3 l4 l5 l6 p0 p1 hbw;have x4:wc.cell? ⟨gx,4,none⟩=some (.int .i64 a.pos):=(cell_of_row _ _ 4 _ _ _ hgx).trans rfl;have x5:wc.cell? ⟨gx,5,none⟩=some (.int .i64 a.frm):=(cell_of_row _ _ 5 _ _ _ hgx).trans rfl;have x6:wc.cell? ⟨gx,6,none⟩=some (.int .i64 a.to):=(cell_of_row _ _ 6 _ _ _ hgx).trans rfl;have y4:wc.cell? ⟨gy,4,none⟩=some (.int .i64 a.pos):=(cell_of_row _ _ 4 _ _ _ hgy).trans rfl;have y5:wc.cell? ⟨gy,5,none⟩=some (.int .i64 a.frm):=(cell_of_row _ _ 5 _ _ _ hgy).trans rfl;have y6:wc.cell? ⟨gy,6,none⟩=some (.int .i64 a.to):=(cell_of_row _ _ 6 _ _ _ hgy).trans rfl;clear hgx hgy
    go_wp2
    exact⟨⟨t+1,hlt,by go_num,HBW.out⟩,by simp[intOf];omega⟩
  ·have hd:decide ((t:Int)<Z.length)=false:=by simp;omega
   go_wp2
   go_ret
   exact⟨rfl,HQ2.out⟩
inductive Few12 (w:World) (Y:List NdZ):Prop
 | bad (no:Int) (hne:no≠0)
   (tk:∀ (W:World) (sn:Option Addr) (cn:Nat),Below w.heap.size w W->EnZ W (.slice sn Y.length cn) Y->Calls Tryz.prog 18 #[.agg #[.slice sn Y.length cn]] W fun e w'=>e=.returned (.tuple #[.slice none 0 0,.int .i64 no])∧Below W.heap.size W w')
   (pr:∀ (W:World) (sn:Option Addr) (cn:Nat),Below w.heap.size w W->EnZ W (.slice sn Y.length cn) Y->Calls Tryz.prog 24 #[.agg #[.slice sn Y.length cn]] W fun e w'=>e=.returned (.tuple #[.string ⟨#[]⟩,.int .i64 no])∧Below W.heap.size W w')
   (nd:∀ (i:Int) (W:World) (sn:Option Addr) (cn:Nat),Below w.heap.size w W->EnZ W (.slice sn Y.length cn) Y->Calls Tryz.prog 26 #[.agg #[.slice sn Y.length cn],.int .i64 i] W fun e w'=>e=.returned (.tuple #[.string ⟨#[]⟩,.int .i64 no])∧Below W.heap.size W w')
 | good (m:Nat) (R:List UInt8) (hm:m<=1024)
   (tk:∀ (W:World) (sn:Option Addr) (cn:Nat),Below w.heap.size w W->EnZ W (.slice sn Y.length cn) Y->Calls Tryz.prog 18 #[.agg #[.slice sn Y.length cn]] W fun e w'=>∃ sl cl,e=.returned (.tuple #[.slice sl m cl,.int .i64 0])∧Below W.heap.size W w')
   (pr:∀ (W:World) (sn:Option Addr) (cn:Nat),Below w.heap.size w W->EnZ W (.slice sn Y.length cn) Y->Calls Tryz.prog 24 #[.agg #[.slice sn Y.length cn]] W fun e w'=>e=.returned (.tuple (if 4096<R.length then #[.string ⟨#[]⟩,.int .i64 3] else #[.string (strU R),.int .i64 0]))∧Below W.heap.size W w')
   (tx:∀ (W:World) (sn:Option Addr) (cn:Nat),Below w.heap.size w W->EnZ W (.slice sn Y.length cn) Y->Calls Tryz.prog 28 #[.agg #[.slice sn Y.length cn],.int .i64 0,.int .i64 0] W fun e w'=>e=.returned (.string (strU R))∧Below W.heap.size W w')
   (out:∀ (i:Int),(i<0∨Y.length<=i)->∀ (W:World) (sn:Option Addr) (cn:Nat),Below w.heap.size w W->EnZ W (.slice sn Y.length cn) Y->Calls Tryz.prog 26 #[.agg #[.slice sn Y.length cn],.int .i64 i] W fun e w'=>e=.returned (.tuple #[.string ⟨#[]⟩,.int .i64 2])∧Below W.heap.size W w')
   (nd:∀ (q:Nat) (d:NdZ),Y[q]?=some d->∃ S:ByteArray,(∀ (W:World) (sn:Option Addr) (cn:Nat),Below w.heap.size w W->EnZ W (.slice sn Y.length cn) Y->Calls Tryz.prog 26 #[.agg #[.slice sn Y.length cn],.int .i64 q] W fun e w'=>e=.returned (.tuple (if aloB d.kind then #[.string S,.int .i64 0] else #[.string ⟨#[]⟩,.int .i64 2]))∧Below W.heap.size W w') ∧
    (aloB d.kind=true->∀ (W:World) (sn:Option Addr) (cn:Nat),Below w.heap.size w W->EnZ W (.slice sn Y.length cn) Y->Calls Tryz.prog 28 #[.agg #[.slice sn Y.length cn],.int .i64 q,.int .i64 0] W fun e w'=>e=.returned (.string S)∧Below W.heap.size W w'))
theorem zx9 {w:World}{Y:List NdZ}(hT:Tabl w)(hP:TabP w)(hs:SmZ Y):Few12 w Y:=by
 have HT:∀ W,Below w.heap.size w W->Tabl W:=fun W hb=>zbj hb.block hT;have HP:∀ W,Below w.heap.size w W->TabP W:=fun W hb=>hP.low hb
 by_cases hb:∃ t,Y=(layP 0 t).map toZ∧TrW t
 ·obtain⟨t,hz,hW⟩:=hb;obtain⟨t',hsm,hp⟩:=hW.trp;have hl:Y.length=(layP 0 t).length:=by rw[hz,List.length_map]
  have en:∀ (W:World) (sn:Option Addr) (cn:Nat),Below w.heap.size w W->EnZ W (.slice sn Y.length cn) Y->EnW W (.slice sn (layP 0 t).length cn) (layP 0 t):=fun W sn cn hb hE=>by
   have:=hE.enw hz (HT W hb);rw[hl] at this;exact this
  by_cases hl2:1024<(wrP t).length
  ·refine .bad 3 (by decide) (fun W sn cn h hE=>?_) (fun W sn cn h hE=>?_) (fun i W sn cn h hE=>?_)
   ·have:=zec (HP W h) (en W sn cn h hE) hW hl2;rw[<-hl] at this;exact this
   ·have h1:=zjh hW hsm hp (HP W h) (en W sn cn h hE);rw[show prnO t'=([],3) by unfold prnO;rw[<-zxk t t' hsm,if_pos hl2],<-hl] at h1;exact h1
   ·have:=zvm i hW hl2 (HP W h) (en W sn cn h hE);rw[<-hl] at this;exact this
  ·refine .good (wrP t).length (rn (prP 0 t)) (by omega) (fun W sn cn h hE=>?_) (fun W sn cn h hE=>?_) (fun W sn cn h hE=>?_) (fun i hi W sn cn h hE=>?_) (fun q d hd=>?_)
   ·have h1:=zd5 (HP W h) (en W sn cn h hE) hW (by omega);rw[<-hl] at h1;refine h1.mono fun e w' ⟨v',h2,h3,h4⟩=>?_;obtain⟨sp,cp,rfl,-⟩:=OwnG.rows elT h3;exact⟨sp,cp,h2,h4⟩
   ·have h1:=zjh hW hsm hp (HP W h) (en W sn cn h hE);rw[show prnO t'=if 4096<(rn (prP 0 t)).length then([],3) else(rn (prP 0 t),0) by unfold prnO;rw[<-zxk t t' hsm,if_neg hl2,<-zl2 t t' 0 hsm],<-hl] at h1
    split at h1
    ·rename_i h2;rw[if_pos h2];exact h1
    ·rename_i h2;rw[if_neg h2];exact h1
   ·have h1:=zpk hsm hp (en W sn cn h hE) W (Below.refl _ _);rw[<-hl] at h1;exact h1
   ·have h1:=zx2 i (by rw[<-hl];exact hi) hW (by omega) (HP W h) (en W sn cn h hE);rw[<-hl] at h1;exact h1
   ·have hq:q<cntP t:=by
     have:=(List.getElem?_eq_some_iff.1 hd).1;rw[hl,zbt] at this;exact this
    obtain⟨d0,hd0,rfl⟩:∃ d0,(layP 0 t)[q]?=some d0∧toZ d0=d:=by
     rw[hz,List.getElem?_map] at hd
     cases h0:(layP 0 t)[q]? with
     | none=>rw[h0] at hd;cases hd
     | some d0=>rw[h0] at hd;exact⟨d0,rfl,by simpa using hd⟩
    obtain⟨u,hu,he⟩:=z1m hq;refine⟨strU (rn (prP 0 u)),fun W sn cn h hE=>?_,fun ha W sn cn h hE=>?_⟩
    ·have h1:=z2e hd0 he hW (zy2 hu (zx0 t t' hsm hp.ar)) (by have:=zt8 hu;have:=hW.n;omega) (fun h=>z44 hsm hp hu (by rw[<-zph he hd0];exact h)) (by omega) (HP W h) (en W sn cn h hE);rw[<-hl] at h1;exact h1
    ·have h1:=zx5 hsm hp hu he (by rw[<-zph he hd0];exact ha) (en W sn cn h hE) W (Below.refl _ _);rw[<-hl] at h1;exact h1
 ·refine .bad 211 (by decide) (fun W sn cn h hE=>zgx (HT W h) (HP W h) hE hs fun t h1 h2=>hb ⟨t,h1,h2⟩) (fun W sn cn h hE=>zvl (HT W h) (HP W h) hE hs fun t h1 h2=>hb ⟨t,h1,h2⟩) (fun i W sn cn h hE=>zx3 i (HT W h) (HP W h) hE hs fun t h1 h2=>hb ⟨t,h1,h2⟩)
end Go.Proofs.YtabiangdmibocaaGreatDoor
