import Derived.Test.YtabiangdmibocaaGreatDoorUnO
import Derived.Test.YtabiangdmibocaaGreatDoorUnShelf
import Derived.Lib.AppendIntMem
namespace Go.Proofs.YtabiangdmibocaaGreatDoor
set_option maxRecDepth 100000
set_option maxHeartbeats 4000000
open Go.RowKit
theorem KsA.drop {w0:World}{g:Nat}{nv:Value}{L:List Nd}{sk sk2:Option Addr}{ks:List Nat}{ts:List Pt}(h:KsA w0 g nv L sk ks ts)(q:Nat)(hr:RowsAt w0 1 intC sk2 (ks.drop q)):KsA w0 g nv L sk2 (ks.drop q) (ts.drop q):=by
 refine⟨hr,by rw[List.length_drop,List.length_drop,h.l],fun j k t h1 h2=>?_,fun t h1=>h.n t (List.mem_of_mem_drop h1),by rw[List.length_drop];have:=h.s;omega⟩;rw[List.getElem?_drop] at h1 h2;exact h.e _ k t h1 h2
theorem KsA.take {w0:World}{g:Nat}{nv:Value}{L:List Nd}{sk:Option Addr}{ks:List Nat}{ts:List Pt}(h:KsA w0 g nv L sk ks ts)(q:Nat):KsA w0 g nv L sk (ks.take q) (ts.take q):=by
 refine⟨fun hl=>?_,by rw[List.length_take,List.length_take,h.l],fun j k t h1 h2=>?_,fun t h1=>h.n t (List.mem_of_mem_take h1),by rw[List.length_take];have:=h.s;omega⟩
 ·obtain⟨b,o,e,hc⟩:=h.r (by rw[List.length_take] at hl;omega);refine⟨b,o,e,fun j y hy=>hc j y ?_⟩;rw[List.getElem?_take] at hy
  split at hy
  ·exact hy
  ·cases hy
 ·rw[List.getElem?_take] at h1 h2
  split at h1
  ·rename_i hj
   rw[if_pos hj] at h2;exact h.e _ k t h1 h2
  ·cases h1
theorem Wp.step {w0 w W:World}{g:Nat}{nv v:Value}{out:List Tok}(h:Wp w0 g nv w v out W):∃ v',Wr w0 g nv W v' out∧∀ W2 out2,Wp w0 g nv W v' out2 W2->Wp w0 g nv w v out2 W2∧∀ (j:Nat)(cs:Array Value)(ty:TypeId)(fr:Nat × Nat),W.heap[j]?=some (.cells cs ty fr)->j≠g->38≠ty->W2.heap[j]?=some (.cells cs ty fr):=by
 obtain⟨v',h1,o1,q1⟩:=h;refine⟨v',h1,fun W2 out2 h2=>⟨Wp.trans o1 q1 h2,fun j cs ty fr hr hj ht=>?_⟩⟩;obtain⟨v2,-,o2,-⟩:=h2;exact Wp.row h1 o2 hr hj ht
theorem zms (l:List Pt):(wBrk (l.map wrP)).length<=2+12 * cntL l:=by
 have:=zmr [44] l;unfold wBrk;rw[List.length_append,List.length_append,List.length_singleton,List.length_singleton];omega
theorem zlj {w0 w:World}{g:Nat}{nv v:Value}{out:List Tok}{L:List Nd}{m:NdM}{k:Int}{x:ByteArray}{n:Int}{ts:List Pt}(hE:EnW w0 nv L)(hm:NdW w0 g nv L m k x n ts)(h:Wr w0 g nv w v out)(hl:out.length+7+12 * cntL ts<=900000) :
  Calls Tryz.prog 153 #[.pointer (some ⟨g,0,none⟩),.agg m.cells] w fun e w'=>e=.returned (.tuple #[])∧Wp w0 g nv w v (out++wFun x (ts.map hdP) (ts.map wrP)) w':=by
 have HW:=hid h;have HE:=hid hE;obtain⟨ks,hkn,hK⟩:=hm.k;have HK:=hid hK;have HKN:=hid hkn;have HMX:Hid (m.x=x):=hm.e.2.1;have hks:ks.length<=100000:=hK.s;have hmc:ks.length<=m.kc:=by have:=hm.c.1;omega
 have HMC:Hid (m.kc<=maxLen∧(m.ks=none->m.kc=0)):=hm.c.2;clear h hm hK hkn hE;rw[show m.cells=#[.int .i64 m.k,.string m.x,.int .i64 m.n,.slice m.ks m.kn m.kc,.int .i64 m.a,.int .i64 m.f,.int .i64 m.t] from rfl,HKN.out,HMX.out]
 go_enter Tryz.func153,Tryz.ntmps153
 go_wp2_with fail
 have hB0:Below w.heap.size w (w.alloc (.cells #[.int .i64 m.k,.string x,.int .i64 m.n,.slice m.ks ks.length m.kc,.int .i64 m.a,.int .i64 m.f,.int .i64 m.t] 59)):=(Below.refl _ _).alloc (Nat.le_refl _) _;have hr0:=heap_alloc_new w (.cells #[.int .i64 m.k,.string x,.int .i64 m.n,.slice m.ks ks.length m.kc,.int .i64 m.a,.int .i64 m.f,.int .i64 m.t] 59);have hW0:=HW.out.low hB0;have hne:w.heap.size≠g:=by have:=HW.out.lt;omega
 have HNE:Hid _:=hne;refine(zsd 8 m.ks m.kc ks ts HE.out HK.out hW0 hmc HMC.out.1 HMC.out.2).mono ?_;rintro e W1 ⟨⟨sk2,ck2,rfl,hr2,hl2,hm2,hz2⟩,n1,rfl⟩;have hb1:=hB0.trans ((zb1 (w.alloc (.cells #[.int .i64 m.k,.string x,.int .i64 m.n,.slice m.ks ks.length m.kc,.int .i64 m.a,.int .i64 m.f,.int .i64 m.t] 59)) n1).mono hB0.size);generalize hw1:(w.alloc (.cells #[.int .i64 m.k,.string x,.int .i64 m.n,.slice m.ks ks.length m.kc,.int .i64 m.a,.int .i64 m.f,.int .i64 m.t] 59)).drewN n1=W1 at *;have r1:W1.heap[w.heap.size]?=some (.cells #[.int .i64 m.k,.string x,.int .i64 m.n,.slice m.ks ks.length m.kc,.int .i64 m.a,.int .i64 m.f,.int .i64 m.t] 59 (0,0)):=by
  rw[<-hw1];exact((zb1 _ n1).block _ (zab hr0)).trans hr0
 generalize hc8:cutN 8 (ts.map hdP)=c8 at *;have hc8l:c8<=ks.length:=by have:=zhz 8 (ts.map hdP);rw[List.length_map,<-HK.out.l,hc8] at this;exact this
 rw[<-List.length_drop] at hl2 ⊢;have hK2:KsA w0 g nv L sk2 (ks.drop c8) (ts.drop c8):=HK.out.drop c8 hr2;have hK1:KsA w0 g nv L m.ks (ks.take c8) (ts.take c8):=HK.out.take c8;have hlR:(ks.take c8).length=c8:=by rw[List.length_take];omega
 have hcu:=zda ts c8;have HWF:Hid (wFun x (ts.map hdP) (ts.map wrP)=[wdT [102,117,110,99]]++(if 0<c8 then wBrk ((ts.take c8).map wrP) else[])++[tkW 1 x]++wBrk (((ts.drop c8).take (cutN 9 ((ts.drop c8).map hdP))).map wrP)++(((ts.drop c8).drop (cutN 9 ((ts.drop c8).map hdP))).map wrP).flatten):=by
  show _=_;unfold wFun;rw[hc8];simp only[List.map_take,List.map_drop]
 generalize ks.take c8=ksR at *;generalize ts.take c8=tsR at *;generalize ks.drop c8=ks2 at *;generalize ts.drop c8=ts2 at *;have HK1:Hid _:=hK1;have HK2:Hid _:=hK2;have HB1:Hid _:=hb1;have HR1:Hid _:=r1;have HLR:Hid _:=hlR;have hks2:ks2.length<=100000:=hK2.s;have HCN:=zsd 9 sk2 ck2 ks2 ts2 HE.out HK2.out (HW.out.low HB1.out) hl2 hm2 hz2;clear hB0 hr0 hW0 hne hb1 r1 hc8 hr2 hw1 hK1 hK2 hlR hm2 hz2
 go_wp2_with fail
 refine HCN.mono ?_;rintro e W2 ⟨⟨sk3,ck3,rfl,hr3,hl3,hm3,hz3⟩,n2,rfl⟩;generalize hc9:cutN 9 (ts2.map hdP)=c9 at *;have hc9l:c9<=ks2.length:=by have:=zhz 9 (ts2.map hdP);rw[List.length_map,<-HK2.out.l,hc9] at this;exact this
 rw[<-List.length_drop] at hl3 ⊢;have hK3:KsA w0 g nv L sk3 (ks2.drop c9) (ts2.drop c9):=HK2.out.drop c9 hr3;have hKP:KsA w0 g nv L sk2 (ks2.take c9) (ts2.take c9):=HK2.out.take c9;have hlP:(ks2.take c9).length=c9:=by rw[List.length_take];omega
 have hcv:=zda ts2 c9;generalize ks2.take c9=ksP at *;generalize ts2.take c9=tsP at *;generalize ks2.drop c9=ks3 at *;generalize ts2.drop c9=ts3 at *;have HK3:Hid _:=hK3;have HKP:Hid _:=hKP;have HLP:Hid _:=hlP;have hb2:=HB1.out.trans ((zb1 W1 n2).mono HB1.out.size);have r2:=((zb1 W1 n2).block _ (zab HR1.out)).trans HR1.out;generalize W1.drewN n2=W2 at *;have HR2:Hid _:=r2;have hW2:Wp w0 g nv w v out W2:=Wp.pre hb2 (Wp.start (HW.out.low hb2));obtain⟨v2,w2,s2⟩:=hW2.step;have HS2:Hid _:=s2;have HC:=zbb [strU [102,117,110,99]] w2 (by simp;omega) (by simp);have hks3:ks3.length<=100000:=hK3.s;clear hr3 hl3 hm3 hz3 hc9 hK3 hKP hlP hb2 r2 hW2 w2 s2 HCN
 go_wp2_with fail
 refine HC.mono ?_;rintro e W3 ⟨rfl,hp⟩;obtain⟨hp3,hr3⟩:=HS2.out _ _ hp;have r3:=hr3 _ _ _ _ HR2.out HNE.out (by decide);obtain⟨v3,w3,s3⟩:=hp3.step;clear hp hr3 HC;have hp3':Wp w0 g nv w v (out++[wdT [102,117,110,99]]) W3:=hp3;have HP3:=hid hp3';have HR3:Hid _:=r3;clear r3 w3 s3 hp3 hp3'
 by_cases hc0:0<c8
 rotate_left
 ·have hd:decide (0<c8)=false:=by simp;omega
  have HIF:Hid ((if 0<c8 then wBrk (tsR.map wrP) else[])=([]:List Tok)):=if_neg hc0;have HC0:Hid _:=hc0;have hpA:Wp w0 g nv w v (out++[wdT [102,117,110,99]]) W3:=HP3.out;have rA:=HR3.out;have hlA:(out++[wdT [102,117,110,99]]).length+4+12 * cntL ts2<=900000:=by simp;omega
  generalize hWA:W3=WA at *;clear hc0;obtain⟨v4,w4,s4⟩:=Wp.step hpA;have c4:WA.cell? ⟨w.heap.size,1,none⟩=some (.string x):=(cell_of_row _ _ 1 _ _ _ rA).trans rfl;have HC:=zbb [x] w4 (by simp at hlA ⊢;omega) (by simp);have HS4:Hid _:=s4;clear hpA rA w4 s4
  go_wp2_with fail
  refine HC.mono ?_;rintro e W5 ⟨rfl,hp⟩;obtain⟨v5,w5,s5⟩:=(HS4.out _ _ hp).1.step;have HC2:=zdh sk2 ck2 ksP tsP HKP.out w5 (by simp at hlA ⊢;omega);rw[HLP.out] at HC2;have HS5:Hid _:=s5;clear hp w5 s5 HC
  go_wp2_with fail
  refine HC2.mono ?_;rintro e W6 ⟨rfl,hp⟩;obtain⟨v6,w6,s6⟩:=(HS5.out _ _ hp).1.step;have HC3:=zdy sk3 ck3 ks3 ts3 HK3.out w6 (by have:=zms tsP;simp at hlA ⊢;omega);have HS6:Hid _:=s6;clear hp w6 s6 HC2
  go_wp2_with fail
  refine HC3.mono ?_;rintro e W7 ⟨rfl,hp⟩;have HN:Hid (Wp w0 g nv w v (out++wFun x (ts.map hdP) (ts.map wrP)) W7):=by
   show Wp _ _ _ _ _ _ _;rw[HWF.out,HIF.out];have:=(HS6.out _ _ hp).1;simpa using this
  clear hp HC3
  go_wp2
  go_end0
  exact⟨rfl,HN.out⟩
 ·have hd:decide (0<c8)=true:=by simp;omega
  have HIF:Hid ((if 0<c8 then wBrk (tsR.map wrP) else[])=wBrk (tsR.map wrP)):=if_pos hc0;obtain⟨v3,w3,s3⟩:=Wp.step HP3.out;have HC:=zdh m.ks m.kc ksR tsR HK1.out w3 (by simp;omega);rw[HLR.out] at HC;have HS3:Hid _:=s3;clear w3 s3
  go_wp2_with fail
  refine HC.mono ?_;rintro e WA ⟨rfl,hp⟩;obtain⟨hpA,hrA⟩:=HS3.out _ _ hp;have rA:=hrA _ _ _ _ HR3.out HNE.out (by decide);have hlA:(out++[wdT [102,117,110,99]]++wBrk (tsR.map wrP)).length+4+12 * cntL ts2<=900000:=by have:=zms tsR;simp;omega
  clear hp hrA HC;obtain⟨v4,w4,s4⟩:=Wp.step hpA;have c4:WA.cell? ⟨w.heap.size,1,none⟩=some (.string x):=(cell_of_row _ _ 1 _ _ _ rA).trans rfl;have HC:=zbb [x] w4 (by simp at hlA ⊢;omega) (by simp);have HS4:Hid _:=s4;clear hpA rA w4 s4
  go_wp2_with fail
  refine HC.mono ?_;rintro e W5 ⟨rfl,hp⟩;obtain⟨v5,w5,s5⟩:=(HS4.out _ _ hp).1.step;have HC2:=zdh sk2 ck2 ksP tsP HKP.out w5 (by simp at hlA ⊢;omega);rw[HLP.out] at HC2;have HS5:Hid _:=s5;clear hp w5 s5 HC
  go_wp2_with fail
  refine HC2.mono ?_;rintro e W6 ⟨rfl,hp⟩;obtain⟨v6,w6,s6⟩:=(HS5.out _ _ hp).1.step;have HC3:=zdy sk3 ck3 ks3 ts3 HK3.out w6 (by have:=zms tsP;simp at hlA ⊢;omega);have HS6:Hid _:=s6;clear hp w6 s6 HC2
  go_wp2_with fail
  refine HC3.mono ?_;rintro e W7 ⟨rfl,hp⟩;have HN:Hid (Wp w0 g nv w v (out++wFun x (ts.map hdP) (ts.map wrP)) W7):=by
   show Wp _ _ _ _ _ _ _;rw[HWF.out,HIF.out];have:=(HS6.out _ _ hp).1;simpa using this
  clear hp HC3
  go_wp2
  go_end0
  exact⟨rfl,HN.out⟩
theorem NdW.pre {w0 w:World}{g:Nat}{nv v:Value}{out:List Tok}{L:List Nd}{m:NdM}{k:Int}{x:ByteArray}{n:Int}{ts:List Pt}(hm:NdW w0 g nv L m k x n ts)(h:Wr w0 g nv w v out):∃ ks,m.kn=ks.length∧KsA w0 g nv L m.ks ks ts∧Hid (KsA w0 g nv L m.ks ks ts)∧ks.length<=100000∧ks.length<=m.kc∧Hid (m.kc<=maxLen∧(m.ks=none->m.kc=0))∧Hid (m.cells=#[.int .i64 k,.string x,.int .i64 n,.slice m.ks ks.length m.kc,.int .i64 m.a,.int .i64 m.f,.int .i64 m.t])∧Hid (w.heap.size≠g)∧Hid ((w.alloc (.cells #[.int .i64 k,.string x,.int .i64 n,.slice m.ks ks.length m.kc,.int .i64 m.a,.int .i64 m.f,.int .i64 m.t] 59)).heap[w.heap.size]?=some (.cells #[.int .i64 k,.string x,.int .i64 n,.slice m.ks ks.length m.kc,.int .i64 m.a,.int .i64 m.f,.int .i64 m.t] 59 (0,0)))∧∃ v1,Hid (Wr w0 g nv (w.alloc (.cells #[.int .i64 k,.string x,.int .i64 n,.slice m.ks ks.length m.kc,.int .i64 m.a,.int .i64 m.f,.int .i64 m.t] 59)) v1 out)∧Hid (∀ W2 out2,Wp w0 g nv (w.alloc (.cells #[.int .i64 k,.string x,.int .i64 n,.slice m.ks ks.length m.kc,.int .i64 m.a,.int .i64 m.f,.int .i64 m.t] 59)) v1 out2 W2->Wp w0 g nv w v out2 W2∧∀ (j:Nat)(cs:Array Value)(ty:TypeId)(fr:Nat × Nat),(w.alloc (.cells #[.int .i64 k,.string x,.int .i64 n,.slice m.ks ks.length m.kc,.int .i64 m.a,.int .i64 m.f,.int .i64 m.t] 59)).heap[j]?=some (.cells cs ty fr)->j≠g->38≠ty->W2.heap[j]?=some (.cells cs ty fr)):=by
 obtain⟨ks,hkn,hK⟩:=hm.k;have e:m.cells=#[.int .i64 k,.string x,.int .i64 n,.slice m.ks ks.length m.kc,.int .i64 m.a,.int .i64 m.f,.int .i64 m.t]:=by
  show m.cells=_;rw[<-hkn,<-hm.e.1,<-hm.e.2.1,<-hm.e.2.2];rfl
 have hB0:Below w.heap.size w (w.alloc (.cells #[.int .i64 k,.string x,.int .i64 n,.slice m.ks ks.length m.kc,.int .i64 m.a,.int .i64 m.f,.int .i64 m.t] 59)):=(Below.refl _ _).alloc (Nat.le_refl _) _;obtain⟨v1,w1,s1⟩:=Wp.step (Wp.pre hB0 (Wp.start (h.low hB0)));exact⟨ks,hkn,hK,hK,hK.s,by have:=hm.c.1;omega,hm.c.2,e,by have:=h.lt;show _≠_;omega,heap_alloc_new w _,v1,w1,s1⟩
def TabP (w:World):Prop:=Lib.TabIs Tryz.prog w "internal/strconv.uint64pow10" .u64 Lib.pow10Tab
theorem TabP.low {w w':World}(h:TabP w)(hb:Below w.heap.size w w'):TabP w':=Lib.tabBelow_of_tabIs h w' hb
theorem zh1 (k:Int)(x:ByteArray)(ts:List Pt):(wOpe k x (ts.map hdP) (ts.map wrP) 0).length<=12 * cntL ts∧(wOpe k x (ts.map hdP) (ts.map wrP) 0).length+12 * cntL (ts.drop 1)<=12 * cntL ts:=by
 cases ts with
 | nil=>simp[wOpe,cntL]
 | cons t r=>
  have h1:=zi4 t;have h2:(wOpe k x ((t::r).map hdP) ((t::r).map wrP) 0).length<=(wrP t).length+2:=by
   apply zi3;intro o ho;have:wrP t=o:=by simpa using ho
   rw[this];exact Nat.le_refl _
  rw[show(t::r).drop 1=r from rfl,cntL];omega
theorem zlk {ts:List Pt}{i:Nat}{t:Pt}(h:ts[i]?=some t):cntP t<=cntL ts:=by have:=zb8 ts i t h;omega
section
variable {w0 w:World}{g:Nat}{nv v:Value}{out:List Tok}{L:List Nd}{m:NdM}{x:ByteArray}{n:Int}{ts:List Pt}
theorem zse (hx:x.size<=100000)(hE:EnW w0 nv L)(hm:NdW w0 g nv L m 21 x n ts)(h:Wr w0 g nv w v out)(hl:out.length+7+12 * cntL ts<=900000) :
  Calls Tryz.prog 186 #[.pointer (some ⟨g,0,none⟩),.agg m.cells] w fun e w'=>e=.returned (.tuple #[])∧Wp w0 g nv w v (out++[tkW 3 (quoT x)]) w':=by
 have HW:=hid h;have HE:=hid hE;have HM:=hid hm;obtain⟨ks,hkn,hK,HK,hks,hmc,HMC,HCE,HNE,HR0,v1,HW1,HS1⟩:=NdW.pre hm h;clear h hm hK hkn hE;rw[HCE.out];have HC:=zlh x HW1.out (by omega) hx
 go_enter Tryz.func186,Tryz.ntmps186
 go_wp2_with fail
 refine HC.mono ?_;rintro e W ⟨rfl,hp⟩;have HN:Hid (Wp w0 g nv w v (out++[tkW 3 (quoT x)]) W):=by
  have:=(HS1.out _ _ hp).1;show Wp _ _ _ _ _ _ _;simpa[sgT] using this
 clear hp HC
 go_wp2
 go_end0
 exact⟨rfl,HN.out⟩
theorem zsf (hE:EnW w0 nv L)(hm:NdW w0 g nv L m 22 x n ts)(h:Wr w0 g nv w v out)(hl:out.length+7+12 * cntL ts<=900000) :
  Calls Tryz.prog 186 #[.pointer (some ⟨g,0,none⟩),.agg m.cells] w fun e w'=>e=.returned (.tuple #[])∧Wp w0 g nv w v (out++[tkW 1 x]) w':=by
 have HW:=hid h;have HE:=hid hE;have HM:=hid hm;obtain⟨ks,hkn,hK,HK,hks,hmc,HMC,HCE,HNE,HR0,v1,HW1,HS1⟩:=NdW.pre hm h;clear h hm hK hkn hE;rw[HCE.out];have HC:=zbb [x] HW1.out (by simp;omega) (by simp);simp only[World.size_alloc] at HC
 go_enter Tryz.func186,Tryz.ntmps186
 go_wp2_with fail
 refine HC.mono ?_;rintro e W ⟨rfl,hp⟩;have HN:Hid (Wp w0 g nv w v (out++[tkW 1 x]) W):=by
  have:=(HS1.out _ _ hp).1;show Wp _ _ _ _ _ _ _;simpa[sgT] using this
 clear hp HC
 go_wp2
 go_end0
 exact⟨rfl,HN.out⟩
theorem zsg (hE:EnW w0 nv L)(hm:NdW w0 g nv L m 23 x n ts)(h:Wr w0 g nv w v out)(hl:out.length+7+12 * cntL ts<=900000) :
  Calls Tryz.prog 186 #[.pointer (some ⟨g,0,none⟩),.agg m.cells] w fun e w'=>e=.returned (.tuple #[])∧Wp w0 g nv w v (out++[tkW 1 x]) w':=by
 have HW:=hid h;have HE:=hid hE;have HM:=hid hm;obtain⟨ks,hkn,hK,HK,hks,hmc,HMC,HCE,HNE,HR0,v1,HW1,HS1⟩:=NdW.pre hm h;clear h hm hK hkn hE;rw[HCE.out];have HC:=zbb [x] HW1.out (by simp;omega) (by simp);simp only[World.size_alloc] at HC
 go_enter Tryz.func186,Tryz.ntmps186
 go_wp2_with fail
 refine HC.mono ?_;rintro e W ⟨rfl,hp⟩;have HN:Hid (Wp w0 g nv w v (out++[tkW 1 x]) W):=by
  have:=(HS1.out _ _ hp).1;show Wp _ _ _ _ _ _ _;simpa[sgT] using this
 clear hp HC
 go_wp2
 go_end0
 exact⟨rfl,HN.out⟩
theorem zwn (hE:EnW w0 nv L)(hm:NdW w0 g nv L m 24 x n ts)(h:Wr w0 g nv w v out)(hl:out.length+7+12 * cntL ts<=900000) :
  Calls Tryz.prog 186 #[.pointer (some ⟨g,0,none⟩),.agg m.cells] w fun e w'=>e=.returned (.tuple #[])∧Wp w0 g nv w v (out++(wOpe 24 x (ts.map hdP) (ts.map wrP) 0++[sgT [46]]++[tkW 1 x])) w':=by
 have HW:=hid h;have HE:=hid hE;have HM:=hid hm;obtain⟨ks,hkn,hK,HK,hks,hmc,HMC,HCE,HNE,HR0,v1,HW1,HS1⟩:=NdW.pre hm h;clear h hm hK hkn hE;rw[HCE.out];have HC1:=zd8 0 (by omega) HE.out HM.out HW1.out (fun t ht=>by have:=zlk ht;omega);rw[HCE.out] at HC1
 go_enter Tryz.func186,Tryz.ntmps186
 go_wp2_with fail
 refine HC1.mono ?_;rintro e W2 ⟨rfl,hp⟩;obtain⟨hp2,hrr2⟩:=HS1.out _ _ hp;have r2:=hrr2 _ _ _ _ HR0.out HNE.out (by decide);obtain⟨v2,w2,s2⟩:=Wp.step hp2;have HR1:Hid _:=r2;have HW2:Hid _:=w2;have HS2:Hid _:=s2;obtain⟨cx20,cx21,cx22,cx23,cx24,cx25,cx26⟩:=cells7 r2;clear hp hp2 hrr2 r2 w2 s2 HC1;have HC2:=zcx (strU [46]) HW2.out (by have:=(zh1 24 x ts).1;simp;omega)
 go_wp2_with fail
 refine HC2.mono ?_;rintro e W3 ⟨rfl,hp⟩;obtain⟨hp3,hrr3⟩:=HS2.out _ _ hp;have r3:=hrr3 _ _ _ _ HR1.out HNE.out (by decide);obtain⟨v3,w3,s3⟩:=Wp.step hp3;have HR2:Hid _:=r3;have HW3:Hid _:=w3;have HS3:Hid _:=s3;obtain⟨cx30,cx31,cx32,cx33,cx34,cx35,cx36⟩:=cells7 r3;clear hp hp3 hrr3 r3 w3 s3 HC2;have HC3:=zbb [x] HW3.out (by have:=(zh1 24 x ts).1;simp;omega) (by simp)
 go_wp2_with fail
 refine HC3.mono ?_;rintro e WZ ⟨rfl,hp⟩;have HN:Hid (Wp w0 g nv w v (out++(wOpe 24 x (ts.map hdP) (ts.map wrP) 0++[sgT [46]]++[tkW 1 x])) WZ):=by
  have:=(HS3.out _ _ hp).1;show Wp _ _ _ _ _ _ _;simpa[sgT] using this
 clear hp
 go_wp2
 go_end0
 exact⟨rfl,HN.out⟩
theorem zp4 (hE:EnW w0 nv L)(hm:NdW w0 g nv L m 26 x n ts)(h:Wr w0 g nv w v out)(hl:out.length+7+12 * cntL ts<=900000) :
  Calls Tryz.prog 186 #[.pointer (some ⟨g,0,none⟩),.agg m.cells] w fun e w'=>e=.returned (.tuple #[])∧Wp w0 g nv w v (out++([tkW 4 x]++wOpe 26 x (ts.map hdP) (ts.map wrP) 0)) w':=by
 have HW:=hid h;have HE:=hid hE;have HM:=hid hm;obtain⟨ks,hkn,hK,HK,hks,hmc,HMC,HCE,HNE,HR0,v1,HW1,HS1⟩:=NdW.pre hm h;clear h hm hK hkn hE;rw[HCE.out];have HC1:=zcx x HW1.out (by omega)
 go_enter Tryz.func186,Tryz.ntmps186
 go_wp2_with fail
 refine HC1.mono ?_;rintro e W2 ⟨rfl,hp⟩;obtain⟨hp2,hrr2⟩:=HS1.out _ _ hp;have r2:=hrr2 _ _ _ _ HR0.out HNE.out (by decide);obtain⟨v2,w2,s2⟩:=Wp.step hp2;have HR1:Hid _:=r2;have HW2:Hid _:=w2;have HS2:Hid _:=s2;obtain⟨cx20,cx21,cx22,cx23,cx24,cx25,cx26⟩:=cells7 r2;clear hp hp2 hrr2 r2 w2 s2 HC1;have HC2:=zd8 0 (by omega) HE.out HM.out HW2.out (fun t ht=>by have:=zlk ht;simp;omega);rw[HCE.out] at HC2
 go_wp2_with fail
 refine HC2.mono ?_;rintro e WZ ⟨rfl,hp⟩;have HN:Hid (Wp w0 g nv w v (out++([tkW 4 x]++wOpe 26 x (ts.map hdP) (ts.map wrP) 0)) WZ):=by
  have:=(HS2.out _ _ hp).1;show Wp _ _ _ _ _ _ _;simpa[sgT] using this
 clear hp
 go_wp2
 go_end0
 exact⟨rfl,HN.out⟩
theorem zmt (hE:EnW w0 nv L)(hm:NdW w0 g nv L m 27 x n ts)(h:Wr w0 g nv w v out)(hl:out.length+7+12 * cntL ts<=900000) :
  Calls Tryz.prog 186 #[.pointer (some ⟨g,0,none⟩),.agg m.cells] w fun e w'=>e=.returned (.tuple #[])∧Wp w0 g nv w v (out++(wOpe 27 x (ts.map hdP) (ts.map wrP) 0++[tkW 4 x]++wOpe 27 x (ts.map hdP) (ts.map wrP) 1)) w':=by
 have HW:=hid h;have HE:=hid hE;have HM:=hid hm;obtain⟨ks,hkn,hK,HK,hks,hmc,HMC,HCE,HNE,HR0,v1,HW1,HS1⟩:=NdW.pre hm h;clear h hm hK hkn hE;rw[HCE.out];have HC1:=zd8 0 (by omega) HE.out HM.out HW1.out (fun t ht=>by have:=zlk ht;omega);rw[HCE.out] at HC1
 go_enter Tryz.func186,Tryz.ntmps186
 go_wp2_with fail
 refine HC1.mono ?_;rintro e W2 ⟨rfl,hp⟩;obtain⟨hp2,hrr2⟩:=HS1.out _ _ hp;have r2:=hrr2 _ _ _ _ HR0.out HNE.out (by decide);obtain⟨v2,w2,s2⟩:=Wp.step hp2;have HR1:Hid _:=r2;have HW2:Hid _:=w2;have HS2:Hid _:=s2;obtain⟨cx20,cx21,cx22,cx23,cx24,cx25,cx26⟩:=cells7 r2;clear hp hp2 hrr2 r2 w2 s2 HC1;have HC2:=zcx x HW2.out (by have:=(zh1 27 x ts).1;simp;omega)
 go_wp2_with fail
 refine HC2.mono ?_;rintro e W3 ⟨rfl,hp⟩;obtain⟨hp3,hrr3⟩:=HS2.out _ _ hp;have r3:=hrr3 _ _ _ _ HR1.out HNE.out (by decide);obtain⟨v3,w3,s3⟩:=Wp.step hp3;have HR2:Hid _:=r3;have HW3:Hid _:=w3;have HS3:Hid _:=s3;obtain⟨cx30,cx31,cx32,cx33,cx34,cx35,cx36⟩:=cells7 r3;clear hp hp3 hrr3 r3 w3 s3 HC2;have HC3:=zd8 1 (by omega) HE.out HM.out HW3.out (fun t ht=>by have:=(zh1 27 x ts).2;have:=zlk (i:=0) (ts:=ts.drop 1) (t:=t) (by rw[List.getElem?_drop];exact ht);simp;omega);rw[HCE.out] at HC3
 go_wp2_with fail
 refine HC3.mono ?_;rintro e WZ ⟨rfl,hp⟩;have HN:Hid (Wp w0 g nv w v (out++(wOpe 27 x (ts.map hdP) (ts.map wrP) 0++[tkW 4 x]++wOpe 27 x (ts.map hdP) (ts.map wrP) 1)) WZ):=by
  have:=(HS3.out _ _ hp).1;show Wp _ _ _ _ _ _ _;simpa[sgT] using this
 clear hp
 go_wp2
 go_end0
 exact⟨rfl,HN.out⟩
end
theorem zi6 (w:World)(k:Nat)(os:Array Obj):Below w.heap.size w (Sort.grow (w.drewN k) os) :=
 ⟨(zb1 (B:=w.heap.size) w k).os,(zb1 (B:=w.heap.size) w k).tape,(zb1 (B:=w.heap.size) w k).output,by have:=(zb1 (B:=w.heap.size) w k).size;show w.heap.size<=((w.drewN k).heap++os).size;rw[Array.size_append];omega,fun j hj=>Lib.heap_grow_old w k os j hj⟩
section
variable {w0 w:World}{g:Nat}{nv v:Value}{out:List Tok}{L:List Nd}{m:NdM}{x:ByteArray}{n:Int}{ts:List Pt}
theorem zwo (hP:TabP w0)(hn:-9223372036854775808<=n∧n<=9223372036854775807)(hE:EnW w0 nv L)(hm:NdW w0 g nv L m 20 x n ts)(h:Wr w0 g nv w v out)(hl:out.length+7+12 * cntL ts<=900000) :
  Calls Tryz.prog 186 #[.pointer (some ⟨g,0,none⟩),.agg m.cells] w fun e w'=>e=.returned (.tuple #[])∧Wp w0 g nv w v (out++[nuT n]) w':=by
 have HW:=hid h;have HE:=hid hE;have HM:=hid hm;obtain⟨ks,hkn,hK,HK,hks,hmc,HMC,HCE,HNE,HR0,v1,HW1,HS1⟩:=NdW.pre hm h;clear h hm hK hkn hE;have HP:=hid hP;have HN:=hid hn;clear hP hn;rw[HCE.out]
 go_enter Tryz.func186,Tryz.ntmps186
 go_wp2_with fail
 refine(Tryz.strconv_FormatInt_10 n HN.out.1 HN.out.2 _ (TabP.low HP.out HW1.out.b)).mono ?_;rintro e W ⟨rfl,k,os,rfl⟩;have hb:=zi6 (w.alloc (.cells #[.int .i64 20,.string x,.int .i64 n,.slice m.ks ks.length m.kc,.int .i64 m.a,.int .i64 m.f,.int .i64 m.t] 59)) k os;generalize Sort.grow ((w.alloc (.cells #[.int .i64 20,.string x,.int .i64 n,.slice m.ks ks.length m.kc,.int .i64 m.a,.int .i64 m.f,.int .i64 m.t] 59)).drewN k) os=W at *;have HB:Hid _:=hb;have HC:=zka 2 ⟨(Lib.itoa n).toArray⟩ (HW1.out.low hb) (by omega);clear hb
 go_wp2_with fail
 refine HC.mono ?_;rintro e WZ ⟨rfl,hp⟩;have HZ:Hid (Wp w0 g nv w v (out++[nuT n]) WZ):=(HS1.out _ _ (Wp.pre HB.out hp)).1;clear hp HC
 go_wp2
 go_end0
 exact⟨rfl,HZ.out⟩
theorem zsh (hE:EnW w0 nv L)(hm:NdW w0 g nv L m 25 x n ts)(h:Wr w0 g nv w v out)(hl:out.length+7+12 * cntL ts<=900000) :
  Calls Tryz.prog 186 #[.pointer (some ⟨g,0,none⟩),.agg m.cells] w fun e w'=>e=.returned (.tuple #[])∧Wp w0 g nv w v (out++(wOpe 25 x (ts.map hdP) (ts.map wrP) 0++wBrk ((ts.drop 1).map wrP))) w':=by
 have HW:=hid h;have HE:=hid hE;have HM:=hid hm;obtain⟨ks,hkn,hK,HK,hks,hmc,HMC,HCE,HNE,HR0,v1,HW1,HS1⟩:=NdW.pre hm h;clear h hm hK hkn hE;rw[HCE.out];have HC1:=zd8 0 (by omega) HE.out HM.out HW1.out (fun t ht=>by have:=zlk ht;omega);rw[HCE.out] at HC1
 go_enter Tryz.func186,Tryz.ntmps186
 go_wp2_with fail
 refine HC1.mono ?_;rintro e W2 ⟨rfl,hp⟩;obtain⟨hp2,hrr2⟩:=HS1.out _ _ hp;have r2:=hrr2 _ _ _ _ HR0.out HNE.out (by decide);obtain⟨v2,w2,s2⟩:=Wp.step hp2;have HR1:Hid _:=r2;have HW2:Hid _:=w2;have HS2:Hid _:=s2;obtain⟨cx20,cx21,cx22,cx23,cx24,cx25,cx26⟩:=cells7 r2;clear hp hp2 hrr2 r2 w2 s2 HC1;have HALL:Hid (∀ sk' c',RowsAt w0 1 intC sk' (ks.drop 1)->Calls Tryz.prog 184 #[.pointer (some ⟨g,0,none⟩),.slice sk' (ks.length - (min 1 (ks.length:Int)).toNat) c'] W2 fun e w'=>e=.returned (.tuple #[])∧Wp w0 g nv W2 v2 (out++wOpe 25 x (ts.map hdP) (ts.map wrP) 0++wBrk ((ts.drop 1).map wrP)) w'):=fun sk' c' hr=>by
  rw[show ks.length - (min 1 (ks.length:Int)).toNat=(ks.drop 1).length by rw[List.length_drop];omega];exact zdh sk' c' (ks.drop 1) (ts.drop 1) (HK.out.drop 1 hr) HW2.out (by have:=(zh1 25 x ts).2;simp;simp at this;omega)
 go_wp2_with fail
 ·rename_i hq
  have hr:RowsAt w0 1 intC m.ks (ks.drop 1):=fun hl=>by rw[List.length_drop] at hl;omega
  refine(HALL.out _ _ hr).mono ?_;rintro e WZ ⟨rfl,hp⟩;have HN:Hid (Wp w0 g nv w v (out++(wOpe 25 x (ts.map hdP) (ts.map wrP) 0++wBrk ((ts.drop 1).map wrP))) WZ):=by
   have:=(HS2.out _ _ hp).1;show Wp _ _ _ _ _ _ _;rw[<-List.append_assoc];exact this
  clear hp
  go_wp2
  go_end0
  exact⟨rfl,HN.out⟩
 ·rename_i hq
  have hr:RowsAt w0 1 intC (Option.map (fun x=>x.add (min 1 (ks.length:Int)).toNat) m.ks) (ks.drop 1):=fun hl=>by
   have hl':=hl;rw[List.length_drop] at hl';obtain⟨b,o,e,-⟩:=HK.out.r (by omega);have:=zdo (by rw[<-e];exact HK.out.r) 1 hl;rw[show(min 1 (ks.length:Int)).toNat=1 by omega,e];exact this
  refine(HALL.out _ _ hr).mono ?_;rintro e WZ ⟨rfl,hp⟩;have HN:Hid (Wp w0 g nv w v (out++(wOpe 25 x (ts.map hdP) (ts.map wrP) 0++wBrk ((ts.drop 1).map wrP))) WZ):=by
   have:=(HS2.out _ _ hp).1;show Wp _ _ _ _ _ _ _;rw[<-List.append_assoc];exact this
  clear hp
  go_wp2
  go_end0
  exact⟨rfl,HN.out⟩
theorem zsi {k:Int}(n20:(k == 20)=false)(n21:(k == 21)=false)(n22:(k == 22)=false)(n23:(k == 23)=false)(n24:(k == 24)=false)(n25:(k == 25)=false)(n26:(k == 26)=false)(n27:(k == 27)=false)(hE:EnW w0 nv L)(hm:NdW w0 g nv L m k x n ts)(h:Wr w0 g nv w v out) (_hl:out.length+7+12 * cntL ts<=900000) :
  Calls Tryz.prog 186 #[.pointer (some ⟨g,0,none⟩),.agg m.cells] w fun e w'=>e=.returned (.tuple #[])∧Wp w0 g nv w v (out++[]) w':=by
 have HW:=hid h;have HE:=hid hE;have HM:=hid hm;obtain⟨ks,hkn,hK,HK,hks,hmc,HMC,HCE,HNE,HR0,v1,HW1,HS1⟩:=NdW.pre hm h;have hB0:Below w.heap.size w (w.alloc (.cells #[.int .i64 k,.string x,.int .i64 n,.slice m.ks ks.length m.kc,.int .i64 m.a,.int .i64 m.f,.int .i64 m.t] 59)):=(Below.refl _ _).alloc (Nat.le_refl _) _;have HP0:Hid _:=Wp.pre hB0 (Wp.start (h.low hB0));clear hB0 h hm hK hkn hE;rw[HCE.out]
 go_enter Tryz.func186,Tryz.ntmps186
 go_wp2
 go_end0
 refine⟨rfl,?_⟩;rw[List.append_nil];exact HP0.out
theorem zwp {k:Int}(hP:TabP w0)(hx:x.size<=100000)(hn:-9223372036854775808<=n∧n<=9223372036854775807)(hE:EnW w0 nv L)(hm:NdW w0 g nv L m k x n ts)(h:Wr w0 g nv w v out)(hl:out.length+7+12 * cntL ts<=900000) :
  Calls Tryz.prog 186 #[.pointer (some ⟨g,0,none⟩),.agg m.cells] w fun e w'=>e=.returned (.tuple #[])∧Wp w0 g nv w v (out++wrX k x n (ts.map hdP) (ts.map wrP)) w':=by
 unfold wrX
 by_cases h20:k=20
 ·subst h20;exact zwo hP hn hE hm h hl
 by_cases h21:k=21
 ·subst h21;exact zse hx hE hm h hl
 by_cases h22:k=22
 ·subst h22;exact zsf hE hm h hl
 by_cases h23:k=23
 ·subst h23;exact zsg hE hm h hl
 by_cases h24:k=24
 ·subst h24;exact zwn hE hm h hl
 by_cases h25:k=25
 ·subst h25;have:=zsh hE hm h hl;rw[List.map_drop] at this;exact this
 by_cases h26:k=26
 ·subst h26;exact zp4 hE hm h hl
 by_cases h27:k=27
 ·subst h27;exact zmt hE hm h hl
 rw[if_neg h20,if_neg h21,if_neg (by omega),if_neg h24,if_neg h25,if_neg h26,if_neg h27];exact zsi (by simpa using h20) (by simpa using h21) (by simpa using h22) (by simpa using h23) (by simpa using h24) (by simpa using h25) (by simpa using h26) (by simpa using h27) hE hm h hl
end
section
variable {w0 w:World}{g:Nat}{nv v:Value}{out:List Tok}{L:List Nd}{m:NdM}{x:ByteArray}{n:Int}{ts:List Pt}
theorem zp5 (hE:EnW w0 nv L)(hm:NdW w0 g nv L m 13 x n ts)(h:Wr w0 g nv w v out)(hl:out.length+7+12 * cntL ts<=900000) :
  Calls Tryz.prog 154 #[.pointer (some ⟨g,0,none⟩),.agg m.cells] w fun e w'=>e=.returned (.tuple #[])∧Wp w0 g nv w v (out++wBra (ts.map wrP)) w':=by
 have HW:=hid h;have HE:=hid hE;have HM:=hid hm;obtain⟨ks,hkn,hK,HK,hks,hmc,HMC,HCE,HNE,HR0,v1,HW1,HS1⟩:=NdW.pre hm h;clear h hm hK hkn hE;rw[HCE.out];have HC1:=zi5 m.ks m.kc ks ts HK.out HW1.out (by omega)
 go_enter Tryz.func154,Tryz.ntmps154
 go_wp2_with fail
 refine HC1.mono ?_;rintro e WZ ⟨rfl,hp⟩;have HN:Hid (Wp w0 g nv w v (out++wBra (ts.map wrP)) WZ):=by
  have:=(HS1.out _ _ hp).1;show Wp _ _ _ _ _ _ _;simpa[sgT,wdT] using this
 clear hp
 go_wp2
 go_end0
 exact⟨rfl,HN.out⟩
theorem z0g (hE:EnW w0 nv L)(hm:NdW w0 g nv L m 14 x n ts)(h:Wr w0 g nv w v out)(hl:out.length+7+12 * cntL ts<=900000) :
  Calls Tryz.prog 154 #[.pointer (some ⟨g,0,none⟩),.agg m.cells] w fun e w'=>e=.returned (.tuple #[])∧Wp w0 g nv w v (out++([wdT [105,102]]++wIf (ts.map wrP))) w':=by
 have HW:=hid h;have HE:=hid hE;have HM:=hid hm;obtain⟨ks,hkn,hK,HK,hks,hmc,HMC,HCE,HNE,HR0,v1,HW1,HS1⟩:=NdW.pre hm h;clear h hm hK hkn hE;rw[HCE.out];have HC1:=zp3 HM.out HW1.out (by omega);rw[HCE.out] at HC1
 go_enter Tryz.func154,Tryz.ntmps154
 go_wp2_with fail
 refine HC1.mono ?_;rintro e WZ ⟨rfl,hp⟩;have HN:Hid (Wp w0 g nv w v (out++([wdT [105,102]]++wIf (ts.map wrP))) WZ):=by
  have:=(HS1.out _ _ hp).1;show Wp _ _ _ _ _ _ _;simpa[sgT,wdT] using this
 clear hp
 go_wp2
 go_end0
 exact⟨rfl,HN.out⟩
theorem zwq (hE:EnW w0 nv L)(hm:NdW w0 g nv L m 15 x n ts)(h:Wr w0 g nv w v out)(hl:out.length+7+12 * cntL ts<=900000) :
  Calls Tryz.prog 154 #[.pointer (some ⟨g,0,none⟩),.agg m.cells] w fun e w'=>e=.returned (.tuple #[])∧Wp w0 g nv w v (out++([wdT [102,111,114]]++(ts.map wrP).flatten)) w':=by
 have HW:=hid h;have HE:=hid hE;have HM:=hid hm;obtain⟨ks,hkn,hK,HK,hks,hmc,HMC,HCE,HNE,HR0,v1,HW1,HS1⟩:=NdW.pre hm h;clear h hm hK hkn hE;rw[HCE.out];have HC1:=zbb [strU [102,111,114]] HW1.out (by simp;omega) (by simp);simp only[World.size_alloc] at HC1
 go_enter Tryz.func154,Tryz.ntmps154
 go_wp2_with fail
 refine HC1.mono ?_;rintro e W2 ⟨rfl,hp⟩;obtain⟨hp2,hrr2⟩:=HS1.out _ _ hp;have r2:=hrr2 _ _ _ _ HR0.out HNE.out (by decide);obtain⟨v2,w2,s2⟩:=Wp.step hp2;have HR1:Hid _:=r2;have HW2:Hid _:=w2;have HS2:Hid _:=s2;obtain⟨cx20,cx21,cx22,cx23,cx24,cx25,cx26⟩:=cells7 r2;clear hp hp2 hrr2 r2 w2 s2 HC1;have HC2:=zdy m.ks m.kc ks ts HK.out HW2.out (by have:=zbq ts;simp at this ⊢;omega)
 go_wp2_with fail
 refine HC2.mono ?_;rintro e WZ ⟨rfl,hp⟩;have HN:Hid (Wp w0 g nv w v (out++([wdT [102,111,114]]++(ts.map wrP).flatten)) WZ):=by
  have:=(HS2.out _ _ hp).1;show Wp _ _ _ _ _ _ _;simpa[sgT,wdT] using this
 clear hp
 go_wp2
 go_end0
 exact⟨rfl,HN.out⟩
theorem zmu (hE:EnW w0 nv L)(hm:NdW w0 g nv L m 16 x n ts)(h:Wr w0 g nv w v out)(hl:out.length+7+12 * cntL ts<=900000) :
  Calls Tryz.prog 154 #[.pointer (some ⟨g,0,none⟩),.agg m.cells] w fun e w'=>e=.returned (.tuple #[])∧Wp w0 g nv w v (out++([wdT [114,101,116,117,114,110]]++(ts.map wrP).flatten)) w':=by
 have HW:=hid h;have HE:=hid hE;have HM:=hid hm;obtain⟨ks,hkn,hK,HK,hks,hmc,HMC,HCE,HNE,HR0,v1,HW1,HS1⟩:=NdW.pre hm h;clear h hm hK hkn hE;rw[HCE.out];have HC1:=zbb [strU [114,101,116,117,114,110]] HW1.out (by simp;omega) (by simp);simp only[World.size_alloc] at HC1
 go_enter Tryz.func154,Tryz.ntmps154
 go_wp2_with fail
 refine HC1.mono ?_;rintro e W2 ⟨rfl,hp⟩;obtain⟨hp2,hrr2⟩:=HS1.out _ _ hp;have r2:=hrr2 _ _ _ _ HR0.out HNE.out (by decide);obtain⟨v2,w2,s2⟩:=Wp.step hp2;have HR1:Hid _:=r2;have HW2:Hid _:=w2;have HS2:Hid _:=s2;obtain⟨cx20,cx21,cx22,cx23,cx24,cx25,cx26⟩:=cells7 r2;clear hp hp2 hrr2 r2 w2 s2 HC1;have HC2:=zdy m.ks m.kc ks ts HK.out HW2.out (by have:=zbq ts;simp at this ⊢;omega)
 go_wp2_with fail
 refine HC2.mono ?_;rintro e WZ ⟨rfl,hp⟩;have HN:Hid (Wp w0 g nv w v (out++([wdT [114,101,116,117,114,110]]++(ts.map wrP).flatten)) WZ):=by
  have:=(HS2.out _ _ hp).1;show Wp _ _ _ _ _ _ _;simpa[sgT,wdT] using this
 clear hp
 go_wp2
 go_end0
 exact⟨rfl,HN.out⟩
theorem zp6 (hE:EnW w0 nv L)(hm:NdW w0 g nv L m 17 x n ts)(h:Wr w0 g nv w v out)(hl:out.length+7+12 * cntL ts<=900000) :
  Calls Tryz.prog 154 #[.pointer (some ⟨g,0,none⟩),.agg m.cells] w fun e w'=>e=.returned (.tuple #[])∧Wp w0 g nv w v (out++([tkW 1 x]++[sgT [58,61]]++(ts.map wrP).flatten)) w':=by
 have HW:=hid h;have HE:=hid hE;have HM:=hid hm;obtain⟨ks,hkn,hK,HK,hks,hmc,HMC,HCE,HNE,HR0,v1,HW1,HS1⟩:=NdW.pre hm h;clear h hm hK hkn hE;rw[HCE.out];have HC1:=zbb [x] HW1.out (by simp;omega) (by simp);simp only[World.size_alloc] at HC1
 go_enter Tryz.func154,Tryz.ntmps154
 go_wp2_with fail
 refine HC1.mono ?_;rintro e W2 ⟨rfl,hp⟩;obtain⟨hp2,hrr2⟩:=HS1.out _ _ hp;have r2:=hrr2 _ _ _ _ HR0.out HNE.out (by decide);obtain⟨v2,w2,s2⟩:=Wp.step hp2;have HR1:Hid _:=r2;have HW2:Hid _:=w2;have HS2:Hid _:=s2;obtain⟨cx20,cx21,cx22,cx23,cx24,cx25,cx26⟩:=cells7 r2;clear hp hp2 hrr2 r2 w2 s2 HC1;have HC2:=zcx (strU [58,61]) HW2.out (by have:=zbq ts;simp at this ⊢;omega)
 go_wp2_with fail
 refine HC2.mono ?_;rintro e W3 ⟨rfl,hp⟩;obtain⟨hp3,hrr3⟩:=HS2.out _ _ hp;have r3:=hrr3 _ _ _ _ HR1.out HNE.out (by decide);obtain⟨v3,w3,s3⟩:=Wp.step hp3;have HR2:Hid _:=r3;have HW3:Hid _:=w3;have HS3:Hid _:=s3;obtain⟨cx30,cx31,cx32,cx33,cx34,cx35,cx36⟩:=cells7 r3;clear hp hp3 hrr3 r3 w3 s3 HC2;have HC3:=zdy m.ks m.kc ks ts HK.out HW3.out (by have:=zbq ts;simp at this ⊢;omega)
 go_wp2_with fail
 refine HC3.mono ?_;rintro e WZ ⟨rfl,hp⟩;have HN:Hid (Wp w0 g nv w v (out++([tkW 1 x]++[sgT [58,61]]++(ts.map wrP).flatten)) WZ):=by
  have:=(HS3.out _ _ hp).1;show Wp _ _ _ _ _ _ _;simpa[sgT,wdT] using this
 clear hp
 go_wp2
 go_end0
 exact⟨rfl,HN.out⟩
theorem zmv (hE:EnW w0 nv L)(hm:NdW w0 g nv L m 18 x n ts)(h:Wr w0 g nv w v out)(hl:out.length+7+12 * cntL ts<=900000) :
  Calls Tryz.prog 154 #[.pointer (some ⟨g,0,none⟩),.agg m.cells] w fun e w'=>e=.returned (.tuple #[])∧Wp w0 g nv w v (out++wPar [61] (ts.map wrP)) w':=by
 have HW:=hid h;have HE:=hid hE;have HM:=hid hm;obtain⟨ks,hkn,hK,HK,hks,hmc,HMC,HCE,HNE,HR0,v1,HW1,HS1⟩:=NdW.pre hm h;clear h hm hK hkn hE;rw[HCE.out];have HC1:=zgq [61] m.ks m.kc ks ts HK.out HW1.out (by omega)
 go_enter Tryz.func154,Tryz.ntmps154
 go_wp2_with fail
 refine HC1.mono ?_;rintro e WZ ⟨rfl,hp⟩;have HN:Hid (Wp w0 g nv w v (out++wPar [61] (ts.map wrP)) WZ):=by
  have:=(HS1.out _ _ hp).1;show Wp _ _ _ _ _ _ _;simpa[sgT,wdT] using this
 clear hp
 go_wp2
 go_end0
 exact⟨rfl,HN.out⟩
theorem zsj (hE:EnW w0 nv L)(hm:NdW w0 g nv L m 19 x n ts)(h:Wr w0 g nv w v out)(hl:out.length+7+12 * cntL ts<=900000) :
  Calls Tryz.prog 154 #[.pointer (some ⟨g,0,none⟩),.agg m.cells] w fun e w'=>e=.returned (.tuple #[])∧Wp w0 g nv w v (out++(ts.map wrP).flatten) w':=by
 have HW:=hid h;have HE:=hid hE;have HM:=hid hm;obtain⟨ks,hkn,hK,HK,hks,hmc,HMC,HCE,HNE,HR0,v1,HW1,HS1⟩:=NdW.pre hm h;clear h hm hK hkn hE;rw[HCE.out];have HC1:=zdy m.ks m.kc ks ts HK.out HW1.out (by omega)
 go_enter Tryz.func154,Tryz.ntmps154
 go_wp2_with fail
 refine HC1.mono ?_;rintro e WZ ⟨rfl,hp⟩;have HN:Hid (Wp w0 g nv w v (out++(ts.map wrP).flatten) WZ):=by
  have:=(HS1.out _ _ hp).1;show Wp _ _ _ _ _ _ _;simpa[sgT,wdT] using this
 clear hp
 go_wp2
 go_end0
 exact⟨rfl,HN.out⟩
theorem zp7 {k:Int}(hP:TabP w0)(hx:x.size<=100000)(hn:-9223372036854775808<=n∧n<=9223372036854775807)(n13:(k == 13)=false)(n14:(k == 14)=false)(n15:(k == 15)=false)(n16:(k == 16)=false)(n17:(k == 17)=false)(n18:(k == 18)=false)(n19:(k == 19)=false)(hE:EnW w0 nv L)(hm:NdW w0 g nv L m k x n ts)(h:Wr w0 g nv w v out)(hl:out.length+7+12 * cntL ts<=900000) :
  Calls Tryz.prog 154 #[.pointer (some ⟨g,0,none⟩),.agg m.cells] w fun e w'=>e=.returned (.tuple #[])∧Wp w0 g nv w v (out++wrX k x n (ts.map hdP) (ts.map wrP)) w':=by
 have HW:=hid h;have HE:=hid hE;have HM:=hid hm;obtain⟨ks,hkn,hK,HK,hks,hmc,HMC,HCE,HNE,HR0,v1,HW1,HS1⟩:=NdW.pre hm h;clear h hm hK hkn hE;have HP:=hid hP;have HXS:=hid hx;have HNB:=hid hn;clear hP hx hn;rw[HCE.out];have HC1:=zwp HP.out HXS.out HNB.out HE.out HM.out HW1.out (by omega);rw[HCE.out] at HC1
 go_enter Tryz.func154,Tryz.ntmps154
 go_wp2_with fail
 refine HC1.mono ?_;rintro e WZ ⟨rfl,hp⟩;have HN:Hid (Wp w0 g nv w v (out++wrX k x n (ts.map hdP) (ts.map wrP)) WZ):=by
  have:=(HS1.out _ _ hp).1;show Wp _ _ _ _ _ _ _;simpa[sgT,wdT] using this
 clear hp
 go_wp2
 go_end0
 exact⟨rfl,HN.out⟩
theorem zwr {k:Int}(hP:TabP w0)(hx:x.size<=100000)(hn:-9223372036854775808<=n∧n<=9223372036854775807)(hE:EnW w0 nv L)(hm:NdW w0 g nv L m k x n ts)(h:Wr w0 g nv w v out)(hl:out.length+7+12 * cntL ts<=900000) :
  Calls Tryz.prog 154 #[.pointer (some ⟨g,0,none⟩),.agg m.cells] w fun e w'=>e=.returned (.tuple #[])∧Wp w0 g nv w v (out++wrS k x n (ts.map hdP) (ts.map wrP)) w':=by
 unfold wrS
 by_cases h13:k=13
 ·subst h13;exact zp5 hE hm h hl
 by_cases h14:k=14
 ·subst h14;exact z0g hE hm h hl
 by_cases h15:k=15
 ·subst h15;exact zwq hE hm h hl
 by_cases h16:k=16
 ·subst h16;exact zmu hE hm h hl
 by_cases h17:k=17
 ·subst h17;exact zp6 hE hm h hl
 by_cases h18:k=18
 ·subst h18;exact zmv hE hm h hl
 by_cases h19:k=19
 ·subst h19;exact zsj hE hm h hl
 rw[if_neg h13,if_neg h14,if_neg h15,if_neg h16,if_neg h17,if_neg h18,if_neg h19];exact zp7 hP hx hn (by simpa using h13) (by simpa using h14) (by simpa using h15) (by simpa using h16) (by simpa using h17) (by simpa using h18) (by simpa using h19) hE hm h hl
end
end Go.Proofs.YtabiangdmibocaaGreatDoor
