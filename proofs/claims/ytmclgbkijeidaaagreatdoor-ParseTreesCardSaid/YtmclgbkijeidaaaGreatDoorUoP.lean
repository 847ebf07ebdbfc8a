import Derived.Test.YtmclgbkijeidaaaGreatDoorUoO
import Derived.Test.YtmclgbkijeidaaaGreatDoorUoShelf
import Derived.Lib.AppendIntMem
namespace Go.Proofs.YtmclgbkijeidaaaGreatDoor
set_option maxRecDepth 100000
set_option maxHeartbeats 4000000
open Go.RowKit
theorem KsA.drop {w0:World}{g:Nat}{nv:Value}{L:List Nd}{sk sk2:Option Addr}{ks:List Nat}{ts:List Pt}(h:KsA w0 g nv L sk ks ts)(q:Nat)(hr:RowsAt w0 1 intC sk2 (ks.drop q)):KsA w0 g nv L sk2 (ks.drop q) (ts.drop q):=by
 refine⟨hr,by rw[List.length_drop,List.length_drop,h.l],fun j k t y A=>?_,fun t y=>h.n t (List.mem_of_mem_drop y),by rw[List.length_drop];have:=h.s;omega⟩;rw[List.getElem?_drop] at y A;exact h.e _ k t y A
theorem KsA.take {w0:World}{g:Nat}{nv:Value}{L:List Nd}{sk:Option Addr}{ks:List Nat}{ts:List Pt}(h:KsA w0 g nv L sk ks ts)(q:Nat):KsA w0 g nv L sk (ks.take q) (ts.take q):=by
 refine⟨fun F=>?_,by rw[List.length_take,List.length_take,h.l],fun j k t A D=>?_,fun t A=>h.n t (List.mem_of_mem_take A),by rw[List.length_take];have:=h.s;omega⟩
 ·obtain⟨b,o,e,E⟩:=h.r (by rw[List.length_take] at F;omega);refine⟨b,o,e,fun j y C=>E j y ?_⟩;rw[List.getElem?_take] at C
  split at C
  ·exact C
  ·cases C
 ·rw[List.getElem?_take] at A D
  split at A
  ·rename_i hj
   rw[if_pos hj] at D;exact h.e _ k t A D
  ·cases A
theorem Wp.step {w0 w W:World}{g:Nat}{nv v:Value}{out:List Tok}(h:Wp w0 g nv w v out W):∃ v',Wr w0 g nv W v' out∧∀ W2 out2,Wp w0 g nv W v' out2 W2->Wp w0 g nv w v out2 W2∧∀ (j:Nat)(cs:Array Value)(ty:TypeId)(fr:Nat × Nat),W.heap[j]?=some (.cells cs ty fr)->j≠g->38≠ty->W2.heap[j]?=some (.cells cs ty fr):=by
 obtain⟨v',y,I,C⟩:=h;refine⟨v',y,fun W2 out2 A=>⟨Wp.trans I C A,fun j cs ty fr D F E=>?_⟩⟩;obtain⟨M,-,K,-⟩:=A;exact Wp.row y K D F E
theorem zne (l:List Pt):(wBrk (l.map wrP)).length<=2+12 * cntL l:=by
 have:=znd [44] l;unfold wBrk;rw[List.length_append,List.length_append,List.length_singleton,List.length_singleton];omega
theorem zl7 {w0 w:World}{g:Nat}{nv v:Value}{out:List Tok}{L:List Nd}{m:NdM}{k:Int}{x:ByteArray}{n:Int}{ts:List Pt}(hE:EnW w0 nv L)(hm:NdW w0 g nv L m k x n ts)(h:Wr w0 g nv w v out)(hl:out.length+7+12 * cntL ts<=900000) :
  Calls Tryz.prog 121 #[.pointer (some ⟨g,0,none⟩),.agg m.cells] w fun e w'=>e=.returned (.tuple #[])∧Wp w0 g nv w v (out++wFun x (ts.map hdP) (ts.map wrP)) w':=by
 have HW:=J h;have HE:=J hE;obtain⟨A,ay,hK⟩:=hm.k;have HK:=J hK;have a1:=J ay;have aX:Hid (m.x=x):=hm.e.2.1;have bf:A.length<=100000:=hK.s;have aZ:A.length<=m.kc:=by have:=hm.c.1;omega
 have aV:Hid (m.kc<=maxLen∧(m.ks=none->m.kc=0)):=hm.c.2;clear h hm hK ay hE;rw[show m.cells=#[.int .i64 m.k,.string m.x,.int .i64 m.n,.slice m.ks m.kn m.kc,.int .i64 m.a,.int .i64 m.f,.int .i64 m.t] from rfl,a1.out,aX.out]
 go_enter Tryz.func121,Tryz.ntmps121
 go_wp2_with fail
 have aa:Below w.heap.size w (w.alloc (.cells #[.int .i64 m.k,.string x,.int .i64 m.n,.slice m.ks A.length m.kc,.int .i64 m.a,.int .i64 m.f,.int .i64 m.t] 53)):=(Yb _ _).alloc (Ya _) _;have ap:=Yd w (.cells #[.int .i64 m.k,.string x,.int .i64 m.n,.slice m.ks A.length m.kc,.int .i64 m.a,.int .i64 m.f,.int .i64 m.t] 53);have aU:=HW.out.low aa;have aT:w.heap.size≠g:=by have:=HW.out.lt;omega
 have aw:Hid _:=aT;refine(zsj 8 m.ks m.kc A ts HE HK aU aZ aV.out.1 aV.out.2).mono ?_;rintro e W1 ⟨⟨K,am,rfl,aQ,aR,aO,aN⟩,n1,rfl⟩;have aF:=aa.trans ((zc8 (w.alloc (.cells #[.int .i64 m.k,.string x,.int .i64 m.n,.slice m.ks A.length m.kc,.int .i64 m.a,.int .i64 m.f,.int .i64 m.t] 53)) n1).mono aa.size);generalize aE:(w.alloc (.cells #[.int .i64 m.k,.string x,.int .i64 m.n,.slice m.ks A.length m.kc,.int .i64 m.a,.int .i64 m.f,.int .i64 m.t] 53)).drewN n1=W1 at *;have r1:W1.heap[w.heap.size]?=some (.cells #[.int .i64 m.k,.string x,.int .i64 m.n,.slice m.ks A.length m.kc,.int .i64 m.a,.int .i64 m.f,.int .i64 m.t] 53 (0,0)):=by
  rw[<-aE];exact((zc8 _ n1).block _ (zaa ap)).trans ap
 generalize ai:cutN 8 (ts.map hdP)=c8 at *;have bc:c8<=A.length:=by have:=zm9 8 (ts.map hdP);rw[List.length_map,<-HK.out.l,ai] at this;exact this
 rw[<-List.length_drop] at aR ⊢;have ae:KsA w0 g nv L K (A.drop c8) (ts.drop c8):=HK.out.drop c8 aQ;have aM:KsA w0 g nv L m.ks (A.take c8) (ts.take c8):=HK.out.take c8;have aJ:(A.take c8).length=c8:=by rw[List.length_take];omega
 have a7:=zfp ts c8;have aI:Hid (wFun x (ts.map hdP) (ts.map wrP)=[wdT [102,117,110,99]]++(if 0<c8 then wBrk ((ts.take c8).map wrP) else[])++[tkW 1 x]++wBrk (((ts.drop c8).take (cutN 9 ((ts.drop c8).map hdP))).map wrP)++(((ts.drop c8).drop (cutN 9 ((ts.drop c8).map hdP))).map wrP).flatten):=by
  show _=_;unfold wFun;rw[ai];simp only[List.map_take,List.map_drop]
 generalize A.take c8=ksR at *;generalize ts.take c8=tsR at *;generalize A.drop c8=ks2 at *;generalize ts.drop c8=ts2 at *;have a4:Hid _:=aM;have ab:Hid _:=ae;have ak:Hid _:=aF;have az:Hid _:=r1;have a5:Hid _:=aJ;have a9:ks2.length<=100000:=ae.s;have ax:=zsj 9 K am ks2 ts2 HE ab (HW.out.low ak) aR aO aN;clear aa ap aU aT aF r1 ai aQ aE aM ae aJ aO aN
 go_wp2_with fail
 refine ax.mono ?_;rintro e W2 ⟨⟨ao,aC,rfl,M,ar,a2,aW⟩,n2,rfl⟩;generalize av:cutN 9 (ts2.map hdP)=c9 at *;have a8:c9<=ks2.length:=by have:=zm9 9 (ts2.map hdP);rw[List.length_map,<-ab.out.l,av] at this;exact this
 rw[<-List.length_drop] at ar ⊢;have aj:KsA w0 g nv L ao (ks2.drop c9) (ts2.drop c9):=ab.out.drop c9 M;have aK:KsA w0 g nv L K (ks2.take c9) (ts2.take c9):=ab.out.take c9;have aH:(ks2.take c9).length=c9:=by rw[List.length_take];omega
 have be:=zfp ts2 c9;generalize ks2.take c9=ksP at *;generalize ts2.take c9=tsP at *;generalize ks2.drop c9=ks3 at *;generalize ts2.drop c9=ts3 at *;have au:Hid _:=aj;have aP:Hid _:=aK;have aL:Hid _:=aH;have an:=ak.out.trans ((zc8 W1 n2).mono ak.out.size);have r2:=((zc8 W1 n2).block _ (zaa az)).trans az;generalize W1.drewN n2=W2 at *;have aY:Hid _:=r2;have aG:Wp w0 g nv w v out W2:=Wp.pre an (Wp.start (HW.out.low an));obtain⟨v2,w2,s2⟩:=aG.step;have a3:Hid _:=s2;have C:=zbi [strU [102,117,110,99]] w2 (by simp;omega) (by simp);have a6:ks3.length<=100000:=aj.s;clear M ar a2 aW av aj aK aH an r2 aG w2 s2 ax
 go_wp2_with fail
 refine C.mono ?_;rintro e W3 ⟨rfl,y⟩;obtain⟨ah,M⟩:=a3.out _ _ y;have r3:=M _ _ _ _ aY aw (by decide);obtain⟨v3,w3,s3⟩:=ah.step;clear y M C;have aA:Wp w0 g nv w v (out++[wdT [102,117,110,99]]) W3:=ah;have aB:=J aA;have aD:Hid _:=r3;clear r3 w3 s3 ah aA
 by_cases hc0:0<c8
 rotate_left
 ·have hd:decide (0<c8)=false:=by simp;omega
  have al:Hid ((if 0<c8 then wBrk (tsR.map wrP) else[])=([]:List Tok)):=if_neg hc0;have bb:Hid _:=hc0;have V:Wp w0 g nv w v (out++[wdT [102,117,110,99]]) W3:=aB.out;have Y:=aD.out;have D:(out++[wdT [102,117,110,99]]).length+4+12 * cntL ts2<=900000:=by simp;omega
  generalize ba:W3=WA at *;clear hc0;obtain⟨v4,Z,I⟩:=Wp.step V;have c4:WA.cell? ⟨w.heap.size,1,none⟩=some (.string x):=Yp 1 Y rfl;have C:=zbi [x] Z (by simp at D ⊢;omega) (by simp);have af:Hid _:=I;clear V Y Z I
  go_wp2_with fail
  refine C.mono ?_;rintro e W5 ⟨rfl,y⟩;obtain⟨v5,w5,N⟩:=(af _ _ y).1.step;have E:=zdz K am ksP tsP aP w5 (by simp at D ⊢;omega);rw[aL.out] at E;have ac:Hid _:=N;clear y w5 N C
  go_wp2_with fail
  refine E.mono ?_;rintro e W6 ⟨rfl,y⟩;obtain⟨v6,U,X⟩:=(ac _ _ y).1.step;have F:=zec ao aC ks3 ts3 au U (by have:=zne tsP;simp at D ⊢;omega);have ag:Hid _:=X;clear y U X E
  go_wp2_with fail
  refine F.mono ?_;rintro e W7 ⟨rfl,y⟩;have HN:Hid (Wp w0 g nv w v (out++wFun x (ts.map hdP) (ts.map wrP)) W7):=by
   show Wp _ _ _ _ _ _ _;rw[aI.out,al.out];have:=(ag _ _ y).1;simpa using this
  clear y F
  go_wp2
  go_end0
  exact⟨rfl,HN.out⟩
 ·have hd:decide (0<c8)=true:=by simp;omega
  have al:Hid ((if 0<c8 then wBrk (tsR.map wrP) else[])=wBrk (tsR.map wrP)):=if_pos hc0;obtain⟨v3,w3,s3⟩:=Wp.step aB;have C:=zdz m.ks m.kc ksR tsR a4 w3 (by simp;omega);rw[a5.out] at C;have a0:Hid _:=s3;clear w3 s3
  go_wp2_with fail
  refine C.mono ?_;rintro e WA ⟨rfl,y⟩;obtain⟨V,aq⟩:=a0.out _ _ y;have Y:=aq _ _ _ _ aD aw (by decide);have D:(out++[wdT [102,117,110,99]]++wBrk (tsR.map wrP)).length+4+12 * cntL ts2<=900000:=by have:=zne tsR;simp;omega
  clear y aq C;obtain⟨v4,Z,I⟩:=Wp.step V;have c4:WA.cell? ⟨w.heap.size,1,none⟩=some (.string x):=Yp 1 Y rfl;have C:=zbi [x] Z (by simp at D ⊢;omega) (by simp);have af:Hid _:=I;clear V Y Z I
  go_wp2_with fail
  refine C.mono ?_;rintro e W5 ⟨rfl,y⟩;obtain⟨v5,w5,N⟩:=(af _ _ y).1.step;have E:=zdz K am ksP tsP aP w5 (by simp at D ⊢;omega);rw[aL.out] at E;have ac:Hid _:=N;clear y w5 N C
  go_wp2_with fail
  refine E.mono ?_;rintro e W6 ⟨rfl,y⟩;obtain⟨v6,U,X⟩:=(ac _ _ y).1.step;have F:=zec ao aC ks3 ts3 au U (by have:=zne tsP;simp at D ⊢;omega);have ag:Hid _:=X;clear y U X E
  go_wp2_with fail
  refine F.mono ?_;rintro e W7 ⟨rfl,y⟩;have HN:Hid (Wp w0 g nv w v (out++wFun x (ts.map hdP) (ts.map wrP)) W7):=by
   show Wp _ _ _ _ _ _ _;rw[aI.out,al.out];have:=(ag _ _ y).1;simpa using this
  clear y F
  go_wp2
  go_end0
  exact⟨rfl,HN.out⟩
theorem NdW.pre {w0 w:World}{g:Nat}{nv v:Value}{out:List Tok}{L:List Nd}{m:NdM}{k:Int}{x:ByteArray}{n:Int}{ts:List Pt}(hm:NdW w0 g nv L m k x n ts)(h:Wr w0 g nv w v out):∃ ks,m.kn=ks.length∧KsA w0 g nv L m.ks ks ts∧Hid (KsA w0 g nv L m.ks ks ts)∧ks.length<=100000∧ks.length<=m.kc∧Hid (m.kc<=maxLen∧(m.ks=none->m.kc=0))∧Hid (m.cells=#[.int .i64 k,.string x,.int .i64 n,.slice m.ks ks.length m.kc,.int .i64 m.a,.int .i64 m.f,.int .i64 m.t])∧Hid (w.heap.size≠g)∧Hid ((w.alloc (.cells #[.int .i64 k,.string x,.int .i64 n,.slice m.ks ks.length m.kc,.int .i64 m.a,.int .i64 m.f,.int .i64 m.t] 53)).heap[w.heap.size]?=some (.cells #[.int .i64 k,.string x,.int .i64 n,.slice m.ks ks.length m.kc,.int .i64 m.a,.int .i64 m.f,.int .i64 m.t] 53 (0,0)))∧∃ v1,Hid (Wr w0 g nv (w.alloc (.cells #[.int .i64 k,.string x,.int .i64 n,.slice m.ks ks.length m.kc,.int .i64 m.a,.int .i64 m.f,.int .i64 m.t] 53)) v1 out)∧Hid (∀ W2 out2,Wp w0 g nv (w.alloc (.cells #[.int .i64 k,.string x,.int .i64 n,.slice m.ks ks.length m.kc,.int .i64 m.a,.int .i64 m.f,.int .i64 m.t] 53)) v1 out2 W2->Wp w0 g nv w v out2 W2∧∀ (j:Nat)(cs:Array Value)(ty:TypeId)(fr:Nat × Nat),(w.alloc (.cells #[.int .i64 k,.string x,.int .i64 n,.slice m.ks ks.length m.kc,.int .i64 m.a,.int .i64 m.f,.int .i64 m.t] 53)).heap[j]?=some (.cells cs ty fr)->j≠g->38≠ty->W2.heap[j]?=some (.cells cs ty fr)):=by
 obtain⟨ks,C,y⟩:=hm.k;have e:m.cells=#[.int .i64 k,.string x,.int .i64 n,.slice m.ks ks.length m.kc,.int .i64 m.a,.int .i64 m.f,.int .i64 m.t]:=by
  show m.cells=_;rw[<-C,<-hm.e.1,<-hm.e.2.1,<-hm.e.2.2];rfl
 have A:Below w.heap.size w (w.alloc (.cells #[.int .i64 k,.string x,.int .i64 n,.slice m.ks ks.length m.kc,.int .i64 m.a,.int .i64 m.f,.int .i64 m.t] 53)):=(Yb _ _).alloc (Ya _) _;obtain⟨v1,w1,D⟩:=Wp.step (Wp.pre A (Wp.start (h.low A)));exact⟨ks,C,y,y,y.s,by have:=hm.c.1;omega,hm.c.2,e,by have:=h.lt;show _≠_;omega,Yd w _,v1,w1,D⟩
def TabP (w:World):Prop:=Lib.TabIs Tryz.prog w "internal/strconv.uint64pow10" .u64 Lib.pow10Tab
theorem TabP.low {w w':World}(h:TabP w)(hb:Below w.heap.size w w'):TabP w':=Lib.tabBelow_of_tabIs h w' hb
theorem zir (k:Int)(x:ByteArray)(ts:List Pt):(wOpe k x (ts.map hdP) (ts.map wrP) 0).length<=12 * cntL ts∧(wOpe k x (ts.map hdP) (ts.map wrP) 0).length+12 * cntL (ts.drop 1)<=12 * cntL ts:=by
 cases ts with
 | nil=>simp[wOpe,cntL]
 | cons t r=>
  have A:=zjr t;have C:(wOpe k x ((t::r).map hdP) ((t::r).map wrP) 0).length<=(wrP t).length+2:=by
   apply zjq;intro o y;have:wrP t=o:=by simpa using y
   rw[this];exact Ya _
  rw[show(t::r).drop 1=r from rfl,cntL];omega
theorem zl8 {ts:List Pt}{i:Nat}{t:Pt}(h:ts[i]?=some t):cntP t<=cntL ts:=by have:=zgp ts i t h;omega
section
variable {w0 w:World}{g:Nat}{nv v:Value}{out:List Tok}{L:List Nd}{m:NdM}{x:ByteArray}{n:Int}{ts:List Pt}
theorem zsk (hx:x.size<=100000)(hE:EnW w0 nv L)(hm:NdW w0 g nv L m 21 x n ts)(h:Wr w0 g nv w v out)(hl:out.length+7+12 * cntL ts<=900000) :
  Calls Tryz.prog 147 #[.pointer (some ⟨g,0,none⟩),.agg m.cells] w fun e w'=>e=.returned (.tuple #[])∧Wp w0 g nv w v (out++[tkW 3 (quoT x)]) w':=by
 have HW:=J h;have M:=J hE;have HM:=J hm;obtain⟨Z,I,C,U,Y,X,aa,F,V,N,v1,E,D⟩:=NdW.pre hm h;clear h hm C I hE;rw[F.out];have y:=zl5 x E (by omega) hx
 go_enter Tryz.func147,Tryz.ntmps147
 go_wp2_with fail
 refine y.mono ?_;rintro e W ⟨rfl,A⟩;have K:Hid (Wp w0 g nv w v (out++[tkW 3 (quoT x)]) W):=by
  have:=(D _ _ A).1;show Wp _ _ _ _ _ _ _;simpa[sgT] using this
 clear A y
 go_wp2
 go_end0
 exact⟨rfl,K.out⟩
theorem zsl (hE:EnW w0 nv L)(hm:NdW w0 g nv L m 22 x n ts)(h:Wr w0 g nv w v out)(hl:out.length+7+12 * cntL ts<=900000) :
  Calls Tryz.prog 147 #[.pointer (some ⟨g,0,none⟩),.agg m.cells] w fun e w'=>e=.returned (.tuple #[])∧Wp w0 g nv w v (out++[tkW 1 x]) w':=by
 have HW:=J h;have M:=J hE;have HM:=J hm;obtain⟨Z,I,C,U,Y,X,aa,F,V,N,v1,E,D⟩:=NdW.pre hm h;clear h hm C I hE;rw[F.out];have y:=zbi [x] E.out (by simp;omega) (by simp);simp only[World.size_alloc] at y
 go_enter Tryz.func147,Tryz.ntmps147
 go_wp2_with fail
 refine y.mono ?_;rintro e W ⟨rfl,A⟩;have K:Hid (Wp w0 g nv w v (out++[tkW 1 x]) W):=by
  have:=(D _ _ A).1;show Wp _ _ _ _ _ _ _;simpa[sgT] using this
 clear A y
 go_wp2
 go_end0
 exact⟨rfl,K.out⟩
theorem zsm (hE:EnW w0 nv L)(hm:NdW w0 g nv L m 23 x n ts)(h:Wr w0 g nv w v out)(hl:out.length+7+12 * cntL ts<=900000) :
  Calls Tryz.prog 147 #[.pointer (some ⟨g,0,none⟩),.agg m.cells] w fun e w'=>e=.returned (.tuple #[])∧Wp w0 g nv w v (out++[tkW 1 x]) w':=by
 have HW:=J h;have M:=J hE;have HM:=J hm;obtain⟨Z,I,C,U,Y,X,aa,F,V,N,v1,E,D⟩:=NdW.pre hm h;clear h hm C I hE;rw[F.out];have y:=zbi [x] E.out (by simp;omega) (by simp);simp only[World.size_alloc] at y
 go_enter Tryz.func147,Tryz.ntmps147
 go_wp2_with fail
 refine y.mono ?_;rintro e W ⟨rfl,A⟩;have K:Hid (Wp w0 g nv w v (out++[tkW 1 x]) W):=by
  have:=(D _ _ A).1;show Wp _ _ _ _ _ _ _;simpa[sgT] using this
 clear A y
 go_wp2
 go_end0
 exact⟨rfl,K.out⟩
theorem zv7 (hE:EnW w0 nv L)(hm:NdW w0 g nv L m 24 x n ts)(h:Wr w0 g nv w v out)(hl:out.length+7+12 * cntL ts<=900000) :
  Calls Tryz.prog 147 #[.pointer (some ⟨g,0,none⟩),.agg m.cells] w fun e w'=>e=.returned (.tuple #[])∧Wp w0 g nv w v (out++(wOpe 24 x (ts.map hdP) (ts.map wrP) 0++[sgT [46]]++[tkW 1 x])) w':=by
 have HW:=J h;have HE:=J hE;have HM:=J hm;obtain⟨ks,af,hK,HK,aB,an,aD,V,F,aa,v1,ae,aj⟩:=NdW.pre hm h;clear h hm hK af hE;rw[V.out];have C:=zeo 0 (by omega) HE.out HM ae (fun t ht=>by have:=zl8 ht;omega);rw[V.out] at C
 go_enter Tryz.func147,Tryz.ntmps147
 go_wp2_with fail
 refine C.mono ?_;rintro e W2 ⟨rfl,y⟩;obtain⟨K,N⟩:=aj.out _ _ y;have D:=N _ _ _ _ aa F (by decide);obtain⟨v2,w2,U⟩:=Wp.step K;have ai:Hid _:=D;have ah:Hid _:=w2;have Z:Hid _:=U;obtain⟨av,au,ar,aw,aC,al,ao⟩:=cells7 D;clear y K N D w2 U C;have E:=zdb (strU [46]) ah.out (by have:=(zir 24 x ts).1;simp;omega)
 go_wp2_with fail
 refine E.mono ?_;rintro e W3 ⟨rfl,y⟩;obtain⟨M,X⟩:=Z.out _ _ y;have A:=X _ _ _ _ ai F (by decide);obtain⟨v3,I,Y⟩:=Wp.step M;have am:Hid _:=A;have ac:Hid _:=I;have ag:Hid _:=Y;obtain⟨aq,ax,ay,ap,az,aA,ak⟩:=cells7 A;clear y M X A I Y E;have ab:=zbi [x] ac.out (by have:=(zir 24 x ts).1;simp;omega) (by simp)
 go_wp2_with fail
 refine ab.mono ?_;rintro e WZ ⟨rfl,y⟩;have HN:Hid (Wp w0 g nv w v (out++(wOpe 24 x (ts.map hdP) (ts.map wrP) 0++[sgT [46]]++[tkW 1 x])) WZ):=by
  have:=(ag _ _ y).1;show Wp _ _ _ _ _ _ _;simpa[sgT] using this
 clear y
 go_wp2
 go_end0
 exact⟨rfl,HN.out⟩
theorem zp6 (hE:EnW w0 nv L)(hm:NdW w0 g nv L m 26 x n ts)(h:Wr w0 g nv w v out)(hl:out.length+7+12 * cntL ts<=900000) :
  Calls Tryz.prog 147 #[.pointer (some ⟨g,0,none⟩),.agg m.cells] w fun e w'=>e=.returned (.tuple #[])∧Wp w0 g nv w v (out++([tkW 4 x]++wOpe 26 x (ts.map hdP) (ts.map wrP) 0)) w':=by
 have HW:=J h;have HE:=J hE;have HM:=J hm;obtain⟨ks,Z,hK,HK,al,ae,an,K,Y,U,v1,X,ab⟩:=NdW.pre hm h;clear h hm hK Z hE;rw[K.out];have E:=zdb x X (by omega)
 go_enter Tryz.func147,Tryz.ntmps147
 go_wp2_with fail
 refine E.mono ?_;rintro e W2 ⟨rfl,y⟩;obtain⟨D,F⟩:=ab.out _ _ y;have A:=F _ _ _ _ U Y (by decide);obtain⟨v2,w2,I⟩:=Wp.step D;have ah:Hid _:=A;have aa:Hid _:=w2;have M:Hid _:=I;obtain⟨aj,ai,ag,ak,am,ac,af⟩:=cells7 A;clear y D F A w2 I E;have C:=zeo 0 (by omega) HE.out HM aa (fun t N=>by have:=zl8 N;simp;omega);rw[K.out] at C
 go_wp2_with fail
 refine C.mono ?_;rintro e V ⟨rfl,y⟩;have HN:Hid (Wp w0 g nv w v (out++([tkW 4 x]++wOpe 26 x (ts.map hdP) (ts.map wrP) 0)) V):=by
  have:=(M _ _ y).1;show Wp _ _ _ _ _ _ _;simpa[sgT] using this
 clear y
 go_wp2
 go_end0
 exact⟨rfl,HN.out⟩
theorem znf (hE:EnW w0 nv L)(hm:NdW w0 g nv L m 27 x n ts)(h:Wr w0 g nv w v out)(hl:out.length+7+12 * cntL ts<=900000) :
  Calls Tryz.prog 147 #[.pointer (some ⟨g,0,none⟩),.agg m.cells] w fun e w'=>e=.returned (.tuple #[])∧Wp w0 g nv w v (out++(wOpe 27 x (ts.map hdP) (ts.map wrP) 0++[tkW 4 x]++wOpe 27 x (ts.map hdP) (ts.map wrP) 1)) w':=by
 have HW:=J h;have V:=J hE;have HM:=J hm;obtain⟨ks,ag,hK,HK,aC,ao,aE,E,M,ac,v1,af,ak⟩:=NdW.pre hm h;clear h hm hK ag hE;rw[E.out];have D:=zeo 0 (by omega) V.out HM af (fun t A=>by have:=zl8 A;omega);rw[E.out] at D
 go_enter Tryz.func147,Tryz.ntmps147
 go_wp2_with fail
 refine D.mono ?_;rintro e W2 ⟨rfl,y⟩;obtain⟨U,Y⟩:=ak.out _ _ y;have F:=Y _ _ _ _ ac M (by decide);obtain⟨v2,w2,Z⟩:=Wp.step U;have aj:Hid _:=F;have ai:Hid _:=w2;have ab:Hid _:=Z;obtain⟨aw,av,au,ax,aD,am,ap⟩:=cells7 F;clear y U Y F w2 Z D;have I:=zdb x ai (by have:=(zir 27 x ts).1;simp;omega)
 go_wp2_with fail
 refine I.mono ?_;rintro e W3 ⟨rfl,y⟩;obtain⟨X,aa⟩:=ab.out _ _ y;have C:=aa _ _ _ _ aj M (by decide);obtain⟨v3,N,s3⟩:=Wp.step X;have an:Hid _:=C;have ae:Hid _:=N;have ah:Hid _:=s3;obtain⟨ar,ay,az,aq,aA,aB,al⟩:=cells7 C;clear y X aa C N s3 I;have K:=zeo 1 (by omega) V.out HM ae (fun t A=>by have:=(zir 27 x ts).2;have:=zl8 (i:=0) (ts:=ts.drop 1) (t:=t) (by rw[List.getElem?_drop];exact A);simp;omega);rw[E.out] at K
 go_wp2_with fail
 refine K.mono ?_;rintro e WZ ⟨rfl,y⟩;have HN:Hid (Wp w0 g nv w v (out++(wOpe 27 x (ts.map hdP) (ts.map wrP) 0++[tkW 4 x]++wOpe 27 x (ts.map hdP) (ts.map wrP) 1)) WZ):=by
  have:=(ah _ _ y).1;show Wp _ _ _ _ _ _ _;simpa[sgT] using this
 clear y
 go_wp2
 go_end0
 exact⟨rfl,HN.out⟩
end
theorem zp7 (w:World)(k:Nat)(os:Array Obj):Below w.heap.size w (Sort.grow (w.drewN k) os) :=
 ⟨(zc8 (B:=w.heap.size) w k).os,(zc8 (B:=w.heap.size) w k).tape,(zc8 (B:=w.heap.size) w k).output,by have:=(zc8 (B:=w.heap.size) w k).size;show w.heap.size<=((w.drewN k).heap++os).size;rw[Array.size_append];omega,fun j y=>Lib.heap_grow_old w k os j y⟩
section
variable {w0 w:World}{g:Nat}{nv v:Value}{out:List Tok}{L:List Nd}{m:NdM}{x:ByteArray}{n:Int}{ts:List Pt}
theorem zv8 (hP:TabP w0)(hn:-9223372036854775808<=n∧n<=9223372036854775807)(hE:EnW w0 nv L)(hm:NdW w0 g nv L m 20 x n ts)(h:Wr w0 g nv w v out)(hl:out.length+7+12 * cntL ts<=900000) :
  Calls Tryz.prog 147 #[.pointer (some ⟨g,0,none⟩),.agg m.cells] w fun e w'=>e=.returned (.tuple #[])∧Wp w0 g nv w v (out++[nuT n]) w':=by
 have HW:=J h;have HE:=J hE;have HM:=J hm;obtain⟨E,X,K,HK,ae,ac,af,V,ab,aa,v1,A,N⟩:=NdW.pre hm h;clear h hm K X hE;have Z:=J hP;have I:=J hn;clear hP hn;rw[V.out]
 go_enter Tryz.func147,Tryz.ntmps147
 go_wp2_with fail
 refine(Tryz.strconv_FormatInt_10 n I.out.1 I.out.2 _ (TabP.low Z A.out.b)).mono ?_;rintro e W ⟨rfl,k,C,rfl⟩;have y:=zp7 (w.alloc (.cells #[.int .i64 20,.string x,.int .i64 n,.slice m.ks E.length m.kc,.int .i64 m.a,.int .i64 m.f,.int .i64 m.t] 53)) k C;generalize Sort.grow ((w.alloc (.cells #[.int .i64 20,.string x,.int .i64 n,.slice m.ks E.length m.kc,.int .i64 m.a,.int .i64 m.f,.int .i64 m.t] 53)).drewN k) C=W at *;have Y:Hid _:=y;have D:=zkz 2 ⟨(Lib.itoa n).toArray⟩ (A.out.low y) (by omega);clear y
 go_wp2_with fail
 refine D.mono ?_;rintro e M ⟨rfl,F⟩;have U:Hid (Wp w0 g nv w v (out++[nuT n]) M):=(N _ _ (Wp.pre Y F)).1;clear F D
 go_wp2
 go_end0
 exact⟨rfl,U.out⟩
theorem zsn (hE:EnW w0 nv L)(hm:NdW w0 g nv L m 25 x n ts)(h:Wr w0 g nv w v out)(hl:out.length+7+12 * cntL ts<=900000) :
  Calls Tryz.prog 147 #[.pointer (some ⟨g,0,none⟩),.agg m.cells] w fun e w'=>e=.returned (.tuple #[])∧Wp w0 g nv w v (out++(wOpe 25 x (ts.map hdP) (ts.map wrP) 0++wBrk ((ts.drop 1).map wrP))) w':=by
 have HW:=J h;have HE:=J hE;have HM:=J hm;obtain⟨y,ag,hK,F,ar,ak,av,Z,af,ab,v1,ae,ai⟩:=NdW.pre hm h;clear h hm hK ag hE;rw[Z.out];have K:=zeo 0 (by omega) HE.out HM ae (fun t ht=>by have:=zl8 ht;omega);rw[Z.out] at K
 go_enter Tryz.func147,Tryz.ntmps147
 go_wp2_with fail
 refine K.mono ?_;rintro e W2 ⟨rfl,A⟩;obtain⟨V,X⟩:=ai.out _ _ A;have N:=X _ _ _ _ ab af (by decide);obtain⟨v2,w2,Y⟩:=Wp.step V;have an:Hid _:=N;have ah:Hid _:=w2;have U:Hid _:=Y;obtain⟨ap,ao,am,aq,au,aj,al⟩:=cells7 N;clear A V X N w2 Y K;have aa:Hid (∀ D I,RowsAt w0 1 intC D (y.drop 1)->Calls Tryz.prog 145 #[.pointer (some ⟨g,0,none⟩),.slice D (y.length - (min 1 (y.length:Int)).toNat) I] W2 fun e w'=>e=.returned (.tuple #[])∧Wp w0 g nv W2 v2 (out++wOpe 25 x (ts.map hdP) (ts.map wrP) 0++wBrk ((ts.drop 1).map wrP)) w'):=fun D I C=>by
  rw[show y.length - (min 1 (y.length:Int)).toNat=(y.drop 1).length by rw[List.length_drop];omega];exact zdz D I (y.drop 1) (ts.drop 1) (F.out.drop 1 C) ah.out (by have:=(zir 25 x ts).2;simp;simp at this;omega)
 go_wp2_with fail
 ·rename_i hq
  have C:RowsAt w0 1 intC m.ks (y.drop 1):=fun hl=>by rw[List.length_drop] at hl;omega
  refine(aa _ _ C).mono ?_;rintro e E ⟨rfl,A⟩;have M:Hid (Wp w0 g nv w v (out++(wOpe 25 x (ts.map hdP) (ts.map wrP) 0++wBrk ((ts.drop 1).map wrP))) E):=by
   have:=(U _ _ A).1;show Wp _ _ _ _ _ _ _;rw[<-List.append_assoc];exact this
  clear A
  go_wp2
  go_end0
  exact⟨rfl,M.out⟩
 ·rename_i hq
  have C:RowsAt w0 1 intC (Option.map (fun x=>x.add (min 1 (y.length:Int)).toNat) m.ks) (y.drop 1):=fun hl=>by
   have ac:=hl;rw[List.length_drop] at ac;obtain⟨b,o,e,-⟩:=F.out.r (by omega);have:=zhq (by rw[<-e];exact F.out.r) 1 hl;rw[show(min 1 (y.length:Int)).toNat=1 by omega,e];exact this
  refine(aa _ _ C).mono ?_;rintro e E ⟨rfl,A⟩;have M:Hid (Wp w0 g nv w v (out++(wOpe 25 x (ts.map hdP) (ts.map wrP) 0++wBrk ((ts.drop 1).map wrP))) E):=by
   have:=(U _ _ A).1;show Wp _ _ _ _ _ _ _;rw[<-List.append_assoc];exact this
  clear A
  go_wp2
  go_end0
  exact⟨rfl,M.out⟩
theorem zso {k:Int}(n20:(k == 20)=false)(n21:(k == 21)=false)(n22:(k == 22)=false)(n23:(k == 23)=false)(n24:(k == 24)=false)(n25:(k == 25)=false)(n26:(k == 26)=false)(n27:(k == 27)=false)(hE:EnW w0 nv L)(hm:NdW w0 g nv L m k x n ts)(h:Wr w0 g nv w v out) (_hl:out.length+7+12 * cntL ts<=900000) :
  Calls Tryz.prog 147 #[.pointer (some ⟨g,0,none⟩),.agg m.cells] w fun e w'=>e=.returned (.tuple #[])∧Wp w0 g nv w v (out++[]) w':=by
 have HW:=J h;have I:=J hE;have Z:=J hm;obtain⟨F,E,A,N,Y,X,aa,D,V,K,v1,U,M⟩:=NdW.pre hm h;have y:Below w.heap.size w (w.alloc (.cells #[.int .i64 k,.string x,.int .i64 n,.slice m.ks F.length m.kc,.int .i64 m.a,.int .i64 m.f,.int .i64 m.t] 53)):=(Yb _ _).alloc (Ya _) _;have C:Hid _:=Wp.pre y (Wp.start (h.low y));clear y h hm A E hE;rw[D.out]
 go_enter Tryz.func147,Tryz.ntmps147
 go_wp2
 go_end0
 refine⟨rfl,?_⟩;rw[List.append_nil];exact C
theorem zv9 {k:Int}(hP:TabP w0)(hx:x.size<=100000)(hn:-9223372036854775808<=n∧n<=9223372036854775807)(hE:EnW w0 nv L)(hm:NdW w0 g nv L m k x n ts)(h:Wr w0 g nv w v out)(hl:out.length+7+12 * cntL ts<=900000) :
  Calls Tryz.prog 147 #[.pointer (some ⟨g,0,none⟩),.agg m.cells] w fun e w'=>e=.returned (.tuple #[])∧Wp w0 g nv w v (out++wrX k x n (ts.map hdP) (ts.map wrP)) w':=by
 unfold wrX
 by_cases h20:k=20
 ·subst h20;exact zv8 hP hn hE hm h hl
 by_cases h21:k=21
 ·subst h21;exact zsk hx hE hm h hl
 by_cases h22:k=22
 ·subst h22;exact zsl hE hm h hl
 by_cases h23:k=23
 ·subst h23;exact zsm hE hm h hl
 by_cases h24:k=24
 ·subst h24;exact zv7 hE hm h hl
 by_cases h25:k=25
 ·subst h25;have:=zsn hE hm h hl;rw[List.map_drop] at this;exact this
 by_cases h26:k=26
 ·subst h26;exact zp6 hE hm h hl
 by_cases h27:k=27
 ·subst h27;exact znf hE hm h hl
 rw[if_neg h20,if_neg h21,if_neg (by omega),if_neg h24,if_neg h25,if_neg h26,if_neg h27];exact zso (by simpa using h20) (by simpa using h21) (by simpa using h22) (by simpa using h23) (by simpa using h24) (by simpa using h25) (by simpa using h26) (by simpa using h27) hE hm h hl
end
section
variable {w0 w:World}{g:Nat}{nv v:Value}{out:List Tok}{L:List Nd}{m:NdM}{x:ByteArray}{n:Int}{ts:List Pt}
theorem zp8 (hE:EnW w0 nv L)(hm:NdW w0 g nv L m 13 x n ts)(h:Wr w0 g nv w v out)(hl:out.length+7+12 * cntL ts<=900000) :
  Calls Tryz.prog 122 #[.pointer (some ⟨g,0,none⟩),.agg m.cells] w fun e w'=>e=.returned (.tuple #[])∧Wp w0 g nv w v (out++wBra (ts.map wrP)) w':=by
 have HW:=J h;have V:=J hE;have HM:=J hm;obtain⟨N,K,A,E,aa,Z,ab,I,Y,X,v1,F,D⟩:=NdW.pre hm h;clear h hm A K hE;rw[I.out];have M:=zjs m.ks m.kc N ts E F (by omega)
 go_enter Tryz.func122,Tryz.ntmps122
 go_wp2_with fail
 refine M.mono ?_;rintro e C ⟨rfl,y⟩;have U:Hid (Wp w0 g nv w v (out++wBra (ts.map wrP)) C):=by
  have:=(D _ _ y).1;show Wp _ _ _ _ _ _ _;simpa[sgT,wdT] using this
 clear y
 go_wp2
 go_end0
 exact⟨rfl,U.out⟩
theorem zy8 (hE:EnW w0 nv L)(hm:NdW w0 g nv L m 14 x n ts)(h:Wr w0 g nv w v out)(hl:out.length+7+12 * cntL ts<=900000) :
  Calls Tryz.prog 122 #[.pointer (some ⟨g,0,none⟩),.agg m.cells] w fun e w'=>e=.returned (.tuple #[])∧Wp w0 g nv w v (out++([wdT [105,102]]++wIf (ts.map wrP))) w':=by
 have HW:=J h;have U:=J hE;have N:=J hm;obtain⟨ks,K,D,X,aa,Z,ab,y,Y,V,v1,I,F⟩:=NdW.pre hm h;clear h hm D K hE;rw[y.out];have A:=zp5 N I (by omega);rw[y.out] at A
 go_enter Tryz.func122,Tryz.ntmps122
 go_wp2_with fail
 refine A.mono ?_;rintro e E ⟨rfl,C⟩;have M:Hid (Wp w0 g nv w v (out++([wdT [105,102]]++wIf (ts.map wrP))) E):=by
  have:=(F _ _ C).1;show Wp _ _ _ _ _ _ _;simpa[sgT,wdT] using this
 clear C
 go_wp2
 go_end0
 exact⟨rfl,M.out⟩
theorem zwa (hE:EnW w0 nv L)(hm:NdW w0 g nv L m 15 x n ts)(h:Wr w0 g nv w v out)(hl:out.length+7+12 * cntL ts<=900000) :
  Calls Tryz.prog 122 #[.pointer (some ⟨g,0,none⟩),.agg m.cells] w fun e w'=>e=.returned (.tuple #[])∧Wp w0 g nv w v (out++([wdT [102,111,114]]++(ts.map wrP).flatten)) w':=by
 have HW:=J h;have HE:=J hE;have HM:=J hm;obtain⟨Z,Y,hK,U,am,af,ao,ac,X,M,v1,V,ab⟩:=NdW.pre hm h;clear h hm hK Y hE;rw[ac.out];have A:=zbi [strU [102,111,114]] V.out (by simp;omega) (by simp);simp only[World.size_alloc] at A
 go_enter Tryz.func122,Tryz.ntmps122
 go_wp2_with fail
 refine A.mono ?_;rintro e W2 ⟨rfl,y⟩;obtain⟨D,E⟩:=ab.out _ _ y;have C:=E _ _ _ _ M X (by decide);obtain⟨v2,w2,F⟩:=Wp.step D;have ai:Hid _:=C;have aa:Hid _:=w2;have I:Hid _:=F;obtain⟨ak,aj,ah,al,an,ae,ag⟩:=cells7 C;clear y D E C w2 F A;have K:=zec m.ks m.kc Z ts U aa (by have:=zb4 ts;simp at this ⊢;omega)
 go_wp2_with fail
 refine K.mono ?_;rintro e N ⟨rfl,y⟩;have HN:Hid (Wp w0 g nv w v (out++([wdT [102,111,114]]++(ts.map wrP).flatten)) N):=by
  have:=(I _ _ y).1;show Wp _ _ _ _ _ _ _;simpa[sgT,wdT] using this
 clear y
 go_wp2
 go_end0
 exact⟨rfl,HN.out⟩
theorem zng (hE:EnW w0 nv L)(hm:NdW w0 g nv L m 16 x n ts)(h:Wr w0 g nv w v out)(hl:out.length+7+12 * cntL ts<=900000) :
  Calls Tryz.prog 122 #[.pointer (some ⟨g,0,none⟩),.agg m.cells] w fun e w'=>e=.returned (.tuple #[])∧Wp w0 g nv w v (out++([wdT [114,101,116,117,114,110]]++(ts.map wrP).flatten)) w':=by
 have HW:=J h;have HE:=J hE;have HM:=J hm;obtain⟨Z,Y,hK,U,am,af,ao,ac,X,M,v1,V,ab⟩:=NdW.pre hm h;clear h hm hK Y hE;rw[ac.out];have A:=zbi [strU [114,101,116,117,114,110]] V.out (by simp;omega) (by simp);simp only[World.size_alloc] at A
 go_enter Tryz.func122,Tryz.ntmps122
 go_wp2_with fail
 refine A.mono ?_;rintro e W2 ⟨rfl,y⟩;obtain⟨D,E⟩:=ab.out _ _ y;have C:=E _ _ _ _ M X (by decide);obtain⟨v2,w2,F⟩:=Wp.step D;have ai:Hid _:=C;have aa:Hid _:=w2;have I:Hid _:=F;obtain⟨ak,aj,ah,al,an,ae,ag⟩:=cells7 C;clear y D E C w2 F A;have K:=zec m.ks m.kc Z ts U aa (by have:=zb4 ts;simp at this ⊢;omega)
 go_wp2_with fail
 refine K.mono ?_;rintro e N ⟨rfl,y⟩;have HN:Hid (Wp w0 g nv w v (out++([wdT [114,101,116,117,114,110]]++(ts.map wrP).flatten)) N):=by
  have:=(I _ _ y).1;show Wp _ _ _ _ _ _ _;simpa[sgT,wdT] using this
 clear y
 go_wp2
 go_end0
 exact⟨rfl,HN.out⟩
theorem zp9 (hE:EnW w0 nv L)(hm:NdW w0 g nv L m 17 x n ts)(h:Wr w0 g nv w v out)(hl:out.length+7+12 * cntL ts<=900000) :
  Calls Tryz.prog 122 #[.pointer (some ⟨g,0,none⟩),.agg m.cells] w fun e w'=>e=.returned (.tuple #[])∧Wp w0 g nv w v (out++([tkW 1 x]++[sgT [58,61]]++(ts.map wrP).flatten)) w':=by
 have HW:=J h;have HE:=J hE;have HM:=J hm;obtain⟨ks,ae,hK,HK,aB,an,aD,aj,F,Z,v1,ac,ai⟩:=NdW.pre hm h;clear h hm hK ae hE;rw[aj.out];have C:=zbi [x] ac.out (by simp;omega) (by simp);simp only[World.size_alloc] at C
 go_enter Tryz.func122,Tryz.ntmps122
 go_wp2_with fail
 refine C.mono ?_;rintro e W2 ⟨rfl,y⟩;obtain⟨K,N⟩:=ai.out _ _ y;have D:=N _ _ _ _ Z F (by decide);obtain⟨v2,w2,U⟩:=Wp.step K;have ah:Hid _:=D;have ag:Hid _:=w2;have Y:Hid _:=U;obtain⟨av,au,ar,aw,aC,al,ao⟩:=cells7 D;clear y K N D w2 U C;have E:=zdb (strU [58,61]) ag.out (by have:=zb4 ts;simp at this ⊢;omega)
 go_wp2_with fail
 refine E.mono ?_;rintro e W3 ⟨rfl,y⟩;obtain⟨M,V⟩:=Y.out _ _ y;have A:=V _ _ _ _ ah F (by decide);obtain⟨v3,I,X⟩:=Wp.step M;have am:Hid _:=A;have ab:Hid _:=I;have af:Hid _:=X;obtain⟨aq,ax,ay,ap,az,aA,ak⟩:=cells7 A;clear y M V A I X E;have aa:=zec m.ks m.kc ks ts HK ab (by have:=zb4 ts;simp at this ⊢;omega)
 go_wp2_with fail
 refine aa.mono ?_;rintro e WZ ⟨rfl,y⟩;have HN:Hid (Wp w0 g nv w v (out++([tkW 1 x]++[sgT [58,61]]++(ts.map wrP).flatten)) WZ):=by
  have:=(af _ _ y).1;show Wp _ _ _ _ _ _ _;simpa[sgT,wdT] using this
 clear y
 go_wp2
 go_end0
 exact⟨rfl,HN.out⟩
theorem znh (hE:EnW w0 nv L)(hm:NdW w0 g nv L m 18 x n ts)(h:Wr w0 g nv w v out)(hl:out.length+7+12 * cntL ts<=900000) :
  Calls Tryz.prog 122 #[.pointer (some ⟨g,0,none⟩),.agg m.cells] w fun e w'=>e=.returned (.tuple #[])∧Wp w0 g nv w v (out++wPar [61] (ts.map wrP)) w':=by
 have HW:=J h;have V:=J hE;have HM:=J hm;obtain⟨N,K,A,E,aa,Z,ab,I,Y,X,v1,F,D⟩:=NdW.pre hm h;clear h hm A K hE;rw[I.out];have M:=zhp [61] m.ks m.kc N ts E F (by omega)
 go_enter Tryz.func122,Tryz.ntmps122
 go_wp2_with fail
 refine M.mono ?_;rintro e C ⟨rfl,y⟩;have U:Hid (Wp w0 g nv w v (out++wPar [61] (ts.map wrP)) C):=by
  have:=(D _ _ y).1;show Wp _ _ _ _ _ _ _;simpa[sgT,wdT] using this
 clear y
 go_wp2
 go_end0
 exact⟨rfl,U.out⟩
theorem zsp (hE:EnW w0 nv L)(hm:NdW w0 g nv L m 19 x n ts)(h:Wr w0 g nv w v out)(hl:out.length+7+12 * cntL ts<=900000) :
  Calls Tryz.prog 122 #[.pointer (some ⟨g,0,none⟩),.agg m.cells] w fun e w'=>e=.returned (.tuple #[])∧Wp w0 g nv w v (out++(ts.map wrP).flatten) w':=by
 have HW:=J h;have V:=J hE;have HM:=J hm;obtain⟨N,K,A,E,aa,Z,ab,I,Y,X,v1,F,D⟩:=NdW.pre hm h;clear h hm A K hE;rw[I.out];have M:=zec m.ks m.kc N ts E F (by omega)
 go_enter Tryz.func122,Tryz.ntmps122
 go_wp2_with fail
 refine M.mono ?_;rintro e C ⟨rfl,y⟩;have U:Hid (Wp w0 g nv w v (out++(ts.map wrP).flatten) C):=by
  have:=(D _ _ y).1;show Wp _ _ _ _ _ _ _;simpa[sgT,wdT] using this
 clear y
 go_wp2
 go_end0
 exact⟨rfl,U.out⟩
theorem zqa {k:Int}(hP:TabP w0)(hx:x.size<=100000)(hn:-9223372036854775808<=n∧n<=9223372036854775807)(n13:(k == 13)=false)(n14:(k == 14)=false)(n15:(k == 15)=false)(n16:(k == 16)=false)(n17:(k == 17)=false)(n18:(k == 18)=false)(n19:(k == 19)=false)(hE:EnW w0 nv L)(hm:NdW w0 g nv L m k x n ts)(h:Wr w0 g nv w v out)(hl:out.length+7+12 * cntL ts<=900000) :
  Calls Tryz.prog 122 #[.pointer (some ⟨g,0,none⟩),.agg m.cells] w fun e w'=>e=.returned (.tuple #[])∧Wp w0 g nv w v (out++wrX k x n (ts.map hdP) (ts.map wrP)) w':=by
 have HW:=J h;have E:=J hE;have Y:=J hm;obtain⟨ks,U,F,HK,ac,ab,ae,y,aa,Z,v1,N,M⟩:=NdW.pre hm h;clear h hm F U hE;have V:=J hP;have D:=J hx;have K:=J hn;clear hP hx hn;rw[y.out];have C:=zv9 V D K E Y N (by omega);rw[y.out] at C
 go_enter Tryz.func122,Tryz.ntmps122
 go_wp2_with fail
 refine C.mono ?_;rintro e I ⟨rfl,A⟩;have X:Hid (Wp w0 g nv w v (out++wrX k x n (ts.map hdP) (ts.map wrP)) I):=by
  have:=(M _ _ A).1;show Wp _ _ _ _ _ _ _;simpa[sgT,wdT] using this
 clear A
 go_wp2
 go_end0
 exact⟨rfl,X.out⟩
theorem zwb {k:Int}(hP:TabP w0)(hx:x.size<=100000)(hn:-9223372036854775808<=n∧n<=9223372036854775807)(hE:EnW w0 nv L)(hm:NdW w0 g nv L m k x n ts)(h:Wr w0 g nv w v out)(hl:out.length+7+12 * cntL ts<=900000) :
  Calls Tryz.prog 122 #[.pointer (some ⟨g,0,none⟩),.agg m.cells] w fun e w'=>e=.returned (.tuple #[])∧Wp w0 g nv w v (out++wrS k x n (ts.map hdP) (ts.map wrP)) w':=by
 unfold wrS
 by_cases h13:k=13
 ·subst h13;exact zp8 hE hm h hl
 by_cases h14:k=14
 ·subst h14;exact zy8 hE hm h hl
 by_cases h15:k=15
 ·subst h15;exact zwa hE hm h hl
 by_cases h16:k=16
 ·subst h16;exact zng hE hm h hl
 by_cases h17:k=17
 ·subst h17;exact zp9 hE hm h hl
 by_cases h18:k=18
 ·subst h18;exact znh hE hm h hl
 by_cases h19:k=19
 ·subst h19;exact zsp hE hm h hl
 rw[if_neg h13,if_neg h14,if_neg h15,if_neg h16,if_neg h17,if_neg h18,if_neg h19];exact zqa hP hx hn (by simpa using h13) (by simpa using h14) (by simpa using h15) (by simpa using h16) (by simpa using h17) (by simpa using h18) (by simpa using h19) hE hm h hl
end
end Go.Proofs.YtmclgbkijeidaaaGreatDoor
