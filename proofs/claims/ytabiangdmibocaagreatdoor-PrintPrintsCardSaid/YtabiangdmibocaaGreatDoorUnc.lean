import Derived.Test.YtabiangdmibocaaGreatDoorUnb
import Derived.Test.YtabiangdmibocaaGreatDoorUnP
namespace Go.Proofs.YtabiangdmibocaaGreatDoor
set_option maxRecDepth 100000
set_option maxHeartbeats 4000000
open Go.RowKit
theorem KsP.drop {w0:World}{g:Nat}{nv:Value}{L:List Nd}{sk sk2:Option Addr}{ks:List Nat}{ts:List Pt}(h:KsP w0 g nv L sk ks ts)(q:Nat)(hr:RowsAt w0 1 intC sk2 (ks.drop q)):KsP w0 g nv L sk2 (ks.drop q) (ts.drop q):=by
 refine⟨hr,by rw[List.length_drop,List.length_drop,h.l],fun j k t h1 h2=>?_,fun t h1=>h.n t (List.mem_of_mem_drop h1),by rw[List.length_drop];have:=h.s;omega⟩;rw[List.getElem?_drop] at h1 h2;exact h.e _ k t h1 h2
theorem KsP.take {w0:World}{g:Nat}{nv:Value}{L:List Nd}{sk:Option Addr}{ks:List Nat}{ts:List Pt}(h:KsP w0 g nv L sk ks ts)(q:Nat):KsP w0 g nv L sk (ks.take q) (ts.take q):=by
 refine⟨fun hl=>?_,by rw[List.length_take,List.length_take,h.l],fun j k t h1 h2=>?_,fun t h1=>h.n t (List.mem_of_mem_take h1),by rw[List.length_take];have:=h.s;omega⟩
 ·obtain⟨b,o,e,hc⟩:=h.r (by rw[List.length_take] at hl;omega);refine⟨b,o,e,fun j y hy=>hc j y ?_⟩;rw[List.getElem?_take] at hy
  split at hy
  ·exact hy
  ·cases hy
 ·rw[List.getElem?_take] at h1 h2
  split at h1
  ·rename_i hj
   rw[if_pos hj] at h2;exact h.e _ k t h1 h2
  ·cases h1
theorem zku {w0 w:World}{g d:Nat}{nv v:Value}{out:List UInt8}{L:List Nd}{m:NdM}{k:Int}{x:ByteArray}{n:Int}{ts:List Pt}(hE:EnW w0 nv L)(hm:NdP w0 g nv L m k x n ts)(h:Pw w0 g nv d w v out)(hd1:d+cntL ts<=100000)(hl:out.length+(rn (pFun x (ts.map hdP) (ts.map (prP d)))).length<=1000000000000) :
  Calls Tryz.prog 122 #[.pointer (some ⟨g,0,none⟩),.agg m.cells] w fun e w'=>e=.returned (.tuple #[])∧Pp w0 g nv d w v (out++rn (pFun x (ts.map hdP) (ts.map (prP d)))) w':=by
 have HW:Hid (Pw w0 g nv d w v out):=h;have HE:Hid (EnW w0 nv L):=hE;obtain⟨ks,hkn,hK⟩:=hm.k;have HK:Hid (KsP w0 g nv L m.ks ks ts):=hK;have HKN:Hid (m.kn=ks.length):=hkn;have HMX:Hid (m.x=x):=hm.e.2.1;have hks:ks.length<=100000:=hK.s;have hmc:ks.length<=m.kc:=by have:=hm.c.1;omega
 have HMC:Hid (m.kc<=maxLen∧(m.ks=none->m.kc=0)):=hm.c.2;have HL0:Hid _:=hl;have HD1:Hid _:=hd1;clear h hm hK hkn hE hl hd1;rw[show m.cells=#[.int .i64 m.k,.string m.x,.int .i64 m.n,.slice m.ks m.kn m.kc,.int .i64 m.a,.int .i64 m.f,.int .i64 m.t] from rfl,HKN.out,HMX.out]
 go_enter Tryz.func122,Tryz.ntmps122
 go_wp2_with fail
 have hB0:Below w.heap.size w (w.alloc (.cells #[.int .i64 m.k,.string x,.int .i64 m.n,.slice m.ks ks.length m.kc,.int .i64 m.a,.int .i64 m.f,.int .i64 m.t] 59)):=(Below.refl _ _).alloc (Nat.le_refl _) _;have hr0:=heap_alloc_new w (.cells #[.int .i64 m.k,.string x,.int .i64 m.n,.slice m.ks ks.length m.kc,.int .i64 m.a,.int .i64 m.f,.int .i64 m.t] 59);have hW0:=HW.out.low hB0;have hne:w.heap.size≠g:=by have:=HW.out.lt;omega
 have HNE:Hid _:=hne;refine(zpe 8 m.ks m.kc ks ts HE.out HK.out hW0 hmc HMC.out.1 HMC.out.2).mono ?_;rintro e W1 ⟨⟨sk2,ck2,rfl,hr2,hl2,hm2,hz2⟩,n1,rfl⟩;have hb1:=hB0.trans ((zb1 (w.alloc (.cells #[.int .i64 m.k,.string x,.int .i64 m.n,.slice m.ks ks.length m.kc,.int .i64 m.a,.int .i64 m.f,.int .i64 m.t] 59)) n1).mono hB0.size);generalize hw1:(w.alloc (.cells #[.int .i64 m.k,.string x,.int .i64 m.n,.slice m.ks ks.length m.kc,.int .i64 m.a,.int .i64 m.f,.int .i64 m.t] 59)).drewN n1=W1 at *;have r1:W1.heap[w.heap.size]?=some (.cells #[.int .i64 m.k,.string x,.int .i64 m.n,.slice m.ks ks.length m.kc,.int .i64 m.a,.int .i64 m.f,.int .i64 m.t] 59 (0,0)):=by
  rw[<-hw1];exact((zb1 _ n1).block _ (zab hr0)).trans hr0
 generalize hc8:cutN 8 (ts.map hdP)=c8 at *;have hc8l:c8<=ks.length:=by have:=zhz 8 (ts.map hdP);rw[List.length_map,<-HK.out.l,hc8] at this;exact this
 rw[<-List.length_drop] at hl2 ⊢;have hK2:KsP w0 g nv L sk2 (ks.drop c8) (ts.drop c8):=HK.out.drop c8 hr2;have hK1:KsP w0 g nv L m.ks (ks.take c8) (ts.take c8):=HK.out.take c8;have hlR:(ks.take c8).length=c8:=by rw[List.length_take];omega
 have hcu:=zda ts c8;have HWF:Hid (rn (pFun x (ts.map hdP) (ts.map (prP d)))=[102,117,110,99,32]++(if 0<c8 then rn (pBrk ((ts.take c8).map (prP d)))++[32] else[])++x.data.toList++rn (pBrk (((ts.drop c8).take (cutN 9 ((ts.drop c8).map hdP))).map (prP d)))++rn (pBeh [sp] (((ts.drop c8).drop (cutN 9 ((ts.drop c8).map hdP))).map (prP d)))):=by
  show _=_;unfold pFun;rw[hc8,zac,zac,zac,zac];simp only[List.map_take,List.map_drop]
  congr 1
  congr 1
  congr 1
  ·congr 1
   split
   ·rw[zac];rfl
   ·rfl
  ·simp[rn,Pe.bs,tkW]
 generalize ks.take c8=ksR at *;generalize ts.take c8=tsR at *;generalize ks.drop c8=ks2 at *;generalize ts.drop c8=ts2 at *;have HK1:Hid _:=hK1;have HK2:Hid _:=hK2;have HB1:Hid _:=hb1;have HR1:Hid _:=r1;have HLR:Hid _:=hlR;have hks2:ks2.length<=100000:=hK2.s;have HCN:=zpe 9 sk2 ck2 ks2 ts2 HE.out HK2.out (HW.out.low HB1.out) hl2 hm2 hz2;clear hB0 hr0 hW0 hne hb1 r1 hc8 hr2 hw1 hK1 hK2 hlR hm2 hz2
 go_wp2_with fail
 refine HCN.mono ?_;rintro e W2 ⟨⟨sk3,ck3,rfl,hr3,hl3,hm3,hz3⟩,n2,rfl⟩;generalize hc9:cutN 9 (ts2.map hdP)=c9 at *;have hc9l:c9<=ks2.length:=by have:=zhz 9 (ts2.map hdP);rw[List.length_map,<-HK2.out.l,hc9] at this;exact this
 rw[<-List.length_drop] at hl3 ⊢;have hK3:KsP w0 g nv L sk3 (ks2.drop c9) (ts2.drop c9):=HK2.out.drop c9 hr3;have hKP:KsP w0 g nv L sk2 (ks2.take c9) (ts2.take c9):=HK2.out.take c9;have hlP:(ks2.take c9).length=c9:=by rw[List.length_take];omega
 have hcv:=zda ts2 c9;generalize ks2.take c9=ksP at *;generalize ts2.take c9=tsP at *;generalize ks2.drop c9=ks3 at *;generalize ts2.drop c9=ts3 at *;have HK3:Hid _:=hK3;have HKP:Hid _:=hKP;have HLP:Hid _:=hlP;have hb2:=HB1.out.trans ((zb1 W1 n2).mono HB1.out.size);have r2:=((zb1 W1 n2).block _ (zab HR1.out)).trans HR1.out;generalize W1.drewN n2=W2 at *;have HR2:Hid _:=r2;have hW2:Pp w0 g nv d w v out W2:=Pp.pre hb2 (Pp.start (HW.out.low hb2));obtain⟨v2,w2,s2⟩:=hW2.step;have HS2:Hid _:=s2;have HL:Hid (out.length+([102,117,110,99,32]++(if 0<c8 then rn (pBrk (tsR.map (prP d)))++[32] else[])++x.data.toList++rn (pBrk (tsP.map (prP d)))++rn (pBeh [sp] (ts3.map (prP d)))).length<=1000000000000):=by
  have:=HL0.out;rw[HWF.out] at this;exact this
 have HC:=za6 [strU [102,117,110,99,32]] w2 (by have:=HL.out;simp only[List.length_append] at this;show _+(5:Nat)<=_;have e5:([102,117,110,99,32]:List UInt8).length=5:=rfl;omega) (by simp);have hks3:ks3.length<=100000:=hK3.s;clear hr3 hl3 hm3 hz3 hc9 hK3 hKP hlP hb2 r2 hW2 w2 s2 HCN
 go_wp2_with fail
 refine HC.mono ?_;rintro e W3 ⟨rfl,hp⟩;obtain⟨hp3,hr3⟩:=HS2.out _ _ _ hp;have r3:=hr3 _ _ _ _ HR2.out HNE.out (by decide);clear hp hr3 HC;have HP3:Hid (Pp w0 g nv d w v (out++[102,117,110,99,32]) W3):=hp3;have HR3:Hid _:=r3;have HDR:Hid (d+cntL tsR<=100000):=by show _<=_;have:=HD1.out;omega
 have HDP:Hid (d+cntL tsP<=100000):=by show _<=_;have:=HD1.out;omega
 have HD3:Hid (d+cntL ts3<=100000):=by show _<=_;have:=HD1.out;omega
 clear r3 hp3 hcu hcv
 by_cases hc0:0<c8
 rotate_left
 ·have hd:decide (0<c8)=false:=by simp;omega
  have HA:Hid ((if 0<c8 then rn (pBrk (tsR.map (prP d)))++[32] else[])=([]:List UInt8)):=if_neg hc0;have hpA:Pp w0 g nv d w v (out++[102,117,110,99,32]++[]) W3:=by rw[List.append_nil];exact HP3.out
  have rA:=HR3.out;have HL2:=HL.out;rw[HA.out] at HL2;generalize hWA:W3=WA at *;clear hc0;obtain⟨v4,w4,s4⟩:=hpA.step;have c4:WA.cell? ⟨w.heap.size,1,none⟩=some (.string x):=(cell_of_row _ _ 1 _ _ _ rA).trans rfl;have e1:fl [x]=x.data.toList:=by simp[fl]
  have HC:=za6 [x] w4 (by rw[e1];simp only[List.length_append] at HL2 ⊢;omega) (by simp);rw[e1] at HC;have HS4:Hid _:=s4;have HLx:Hid _:=HL2;clear hpA rA w4 s4 e1 HL2
  go_wp2_with fail
  refine HC.mono ?_;rintro e W5 ⟨rfl,hp⟩;obtain⟨v5,w5,s5⟩:=(HS4.out _ _ _ hp).1.step;have HC2:=zge sk2 ck2 ksP tsP HKP.out w5 HDP.out (by have HL2:=HLx.out;simp only[List.length_append] at HL2 ⊢;omega);rw[HLP.out] at HC2;have HS5:Hid _:=s5;clear hp w5 s5 HC
  go_wp2_with fail
  refine HC2.mono ?_;rintro e W6 ⟨rfl,hp⟩;obtain⟨v6,w6,s6⟩:=(HS5.out _ _ _ hp).1.step;have HC3:=ze2 [sp] (strU [32]) rfl sk3 ck3 ks3 ts3 HK3.out w6 HD3.out (by have HL2:=HLx.out;simp only[List.length_append] at HL2 ⊢;omega);have HS6:Hid _:=s6;clear hp w6 s6 HC2
  go_wp2_with fail
  refine HC3.mono ?_;rintro e W7 ⟨rfl,hp⟩;have HN:Hid (Pp w0 g nv d w v (out++rn (pFun x (ts.map hdP) (ts.map (prP d)))) W7):=by
   show Pp _ _ _ _ _ _ _ _;rw[HWF.out,HA.out];have:=(HS6.out _ _ _ hp).1;simpa using this
  clear hp HC3
  go_wp2
  go_end0
  exact⟨rfl,HN.out⟩
 ·have hd:decide (0<c8)=true:=by simp;omega
  have HA:Hid ((if 0<c8 then rn (pBrk (tsR.map (prP d)))++[32] else[])=rn (pBrk (tsR.map (prP d)))++[32]):=if_pos hc0;have HL2:=HL.out;rw[HA.out] at HL2;obtain⟨v3,w3,s3⟩:=HP3.out.step;have HC:=zge m.ks m.kc ksR tsR HK1.out w3 HDR.out (by simp only[List.length_append] at HL2 ⊢;omega);rw[HLR.out] at HC;have HS3:Hid _:=s3;have HL3:Hid _:=HL2;clear w3 s3 HL2
  go_wp2_with fail
  refine HC.mono ?_;rintro e WB ⟨rfl,hp⟩;obtain⟨hpB,hrB⟩:=HS3.out _ _ _ hp;have rB:=hrB _ _ _ _ HR3.out HNE.out (by decide);obtain⟨v4,w4,s4⟩:=hpB.step;have HC4:=za6 [strU [32]] w4 (by have:=HL3.out;have e1:(fl [strU [32]]).length=1:=rfl;simp only[List.length_append,List.length_cons,List.length_nil] at this ⊢;omega) (by simp);have HS4:Hid _:=s4;have HRB:Hid _:=rB;clear hp hrB HC hpB rB w4 s4
  go_wp2_with fail
  refine HC4.mono ?_;rintro e WA ⟨rfl,hp⟩;obtain⟨hpA',hrA⟩:=HS4.out _ _ _ hp;have rA:=hrA _ _ _ _ HRB.out HNE.out (by decide);have hpA:Pp w0 g nv d w v (out++[102,117,110,99,32]++(rn (pBrk (tsR.map (prP d)))++[32])) WA:=by
   rw[<-List.append_assoc];exact hpA'
  have HL2:=HL3.out;clear hp hrA hpA' HC4;obtain⟨v4,w4,s4⟩:=hpA.step;have c4:WA.cell? ⟨w.heap.size,1,none⟩=some (.string x):=(cell_of_row _ _ 1 _ _ _ rA).trans rfl;have e1:fl [x]=x.data.toList:=by simp[fl]
  have HC:=za6 [x] w4 (by rw[e1];simp only[List.length_append] at HL2 ⊢;omega) (by simp);rw[e1] at HC;have HS4:Hid _:=s4;have HLx:Hid _:=HL2;clear hpA rA w4 s4 e1 HL2
  go_wp2_with fail
  refine HC.mono ?_;rintro e W5 ⟨rfl,hp⟩;obtain⟨v5,w5,s5⟩:=(HS4.out _ _ _ hp).1.step;have HC2:=zge sk2 ck2 ksP tsP HKP.out w5 HDP.out (by have HL2:=HLx.out;simp only[List.length_append] at HL2 ⊢;omega);rw[HLP.out] at HC2;have HS5:Hid _:=s5;clear hp w5 s5 HC
  go_wp2_with fail
  refine HC2.mono ?_;rintro e W6 ⟨rfl,hp⟩;obtain⟨v6,w6,s6⟩:=(HS5.out _ _ _ hp).1.step;have HC3:=ze2 [sp] (strU [32]) rfl sk3 ck3 ks3 ts3 HK3.out w6 HD3.out (by have HL2:=HLx.out;simp only[List.length_append] at HL2 ⊢;omega);have HS6:Hid _:=s6;clear hp w6 s6 HC2
  go_wp2_with fail
  refine HC3.mono ?_;rintro e W7 ⟨rfl,hp⟩;have HN:Hid (Pp w0 g nv d w v (out++rn (pFun x (ts.map hdP) (ts.map (prP d)))) W7):=by
   show Pp _ _ _ _ _ _ _ _;rw[HWF.out,HA.out];have:=(HS6.out _ _ _ hp).1;simpa using this
  clear hp HC3
  go_wp2
  go_end0
  exact⟨rfl,HN.out⟩
theorem zpf (d:Nat):∀ (q:Nat)(b:Bool)(hs:List (Int × ByteArray))(os:List (List Pe))(h:Int × ByteArray)(o:List Pe),hs[q]?=some h->os[q]?=some o ->
  pFiK d b (hs.take (q+1)) (os.take (q+1))=pFiK d b (hs.take q) (os.take q)++((if ((q == 0) && b) || h.1 != 2 then[fe] else[])++(tb d++o++[.e]))
 | 0,b,hs,os,h,o,h1,h2=>by
  cases hs with
  | nil=>simp at h1
  | cons a r=>
   cases os with
   | nil=>simp at h2
   | cons c s=>
    obtain rfl:a=h:=by simpa using h1
    obtain rfl:c=o:=by simpa using h2
    simp[pFiK]
 | q+1,b,hs,os,h,o,h1,h2=>by
  cases hs with
  | nil=>simp at h1
  | cons a r=>
   cases os with
   | nil=>simp at h2
   | cons c s=>
    rw[List.take_succ_cons,List.take_succ_cons,pFiK,zpf d q false r s h o (by simpa using h1) (by simpa using h2),List.take_succ_cons,List.take_succ_cons,pFiK];simp
theorem zu9 (d:Nat):∀ (n:Nat)(b:Bool)(hs:List (Int × ByteArray))(os:List (List Pe)),∃ r,pFiK d b hs os=pFiK d b (hs.take n) (os.take n)++r
 | 0,b,hs,os=>⟨pFiK d b hs os,by simp[pFiK]⟩
 | n+1,b,hs,os=>by
  cases hs with
  | nil=>exact⟨[],by simp[pFiK]⟩
  | cons a r=>
   cases os with
   | nil=>exact⟨[],by simp[pFiK]⟩
   | cons c s=>
    obtain⟨z,hz⟩:=zu9 d n false r s;exact⟨z,by rw[List.take_succ_cons,List.take_succ_cons,pFiK,pFiK,hz];simp⟩
section
variable {w0 w:World}{g d:Nat}{nv v:Value}{out:List UInt8}{L:List Nd}
theorem zva {m:NdM}{k:Int}{x:ByteArray}{n:Int}{ts:List Pt}(hE:EnW w0 nv L)(hm:NdP w0 g nv L m k x n ts)(h:Pw w0 g nv d w v out)(hd1:d+cntL ts<=100000)(hl:out.length+(rn ([wd [112,97,99,107,97,103,101],sp,.t (tkW 1 x),.e]++pFiK d true (ts.map hdP) (ts.map (prP d)))).length<=1000000000000) :
  Calls Tryz.prog 117 #[.pointer (some ⟨g,0,none⟩),.agg m.cells] w fun e w'=>e=.returned (.tuple #[])∧Pp w0 g nv d w v (out++rn ([wd [112,97,99,107,97,103,101],sp,.t (tkW 1 x),.e]++pFiK d true (ts.map hdP) (ts.map (prP d)))) w':=by
 have HW:=hid h;have HE:=hid hE;obtain⟨ks,hkn,hK⟩:=hm.k;have HK:=hid hK;have HKN:=hid hkn;have HMX:Hid (m.x=x):=hm.e.2.1;have hks:ks.length<=100000:=hK.s;have HL0:Hid _:=hl;have HD1:Hid _:=hd1;have e0:rn ([wd [112,97,99,107,97,103,101],sp,.t (tkW 1 x),.e]++pFiK d true (ts.map hdP) (ts.map (prP d)))=fl [strU [112,97,99,107,97,103,101,32],x,strU [10]]++rn (pFiK d true (ts.map hdP) (ts.map (prP d))):=by
  rw[zac]
  congr 1
 have HE0:Hid _:=e0;clear h hm hK hkn hE hl hd1 e0;rw[show m.cells=#[.int .i64 m.k,.string m.x,.int .i64 m.n,.slice m.ks m.kn m.kc,.int .i64 m.a,.int .i64 m.f,.int .i64 m.t] from rfl,HKN.out,HMX.out];have hB0:Below w.heap.size w (w.alloc (.cells #[.int .i64 m.k,.string x,.int .i64 m.n,.slice m.ks ks.length m.kc,.int .i64 m.a,.int .i64 m.f,.int .i64 m.t] 59)):=(Below.refl _ _).alloc (Nat.le_refl _) _;have hr0:=heap_alloc_new w (.cells #[.int .i64 m.k,.string x,.int .i64 m.n,.slice m.ks ks.length m.kc,.int .i64 m.a,.int .i64 m.f,.int .i64 m.t] 59);have hne:w.heap.size≠g:=by have:=HW.out.lt;omega
 have hW0:=HW.out.low hB0;have HC:=za6 [strU [112,97,99,107,97,103,101,32],x,strU [10]] hW0 (by have:=HL0.out;rw[HE0.out,List.length_append] at this;omega) (by simp);simp only[World.size_alloc] at HC
 go_enter Tryz.func117,Tryz.ntmps117
 go_wp2_with fail
 refine HC.mono ?_;rintro e W1 ⟨rfl,hp⟩;obtain⟨v1,w1,s1⟩:=hp.step;have r1:W1.heap[w.heap.size]?=some (.cells #[.int .i64 m.k,.string x,.int .i64 m.n,.slice m.ks ks.length m.kc,.int .i64 m.a,.int .i64 m.f,.int .i64 m.t] 59 (0,0)):=by
  obtain⟨v',-,o',-⟩:=hp;exact Pp.row hW0 o' hr0 hne (by decide)
 have c1:W1.cell? ⟨w.heap.size,3,none⟩=some (.slice m.ks ks.length m.kc):=(cell_of_row _ _ 3 _ _ _ r1).trans rfl;obtain⟨A,hA⟩:∃ A,fl [strU [112,97,99,107,97,103,101,32],x,strU [10]]=A:=⟨_,rfl⟩;have HS:Hid (Pp w0 g nv d w v (out++A) W1):=by
  rw[<-hA];exact Pp.pre hB0 hp
 rw[hA] at HE0;have HL:Hid (out.length+(A.length+(rn (pFiK d true (ts.map hdP) (ts.map (prP d)))).length)<=1000000000000):=by
  have:=HL0.out;rw[HE0.out,List.length_append] at this;exact this
 clear hB0 hr0 hne hW0 HC hp w1 s1 r1 hA
 go_wp2
 go_loopw [14] (fun i wr=>∃ q:Nat,q<=ks.length∧i=.int .i64 q∧Pp w0 g nv d w v (out++A++rn (pFiK d true ((ts.map hdP).take q) ((ts.map (prP d)).take q))) wr) (fun i _=>ks.length - (intOf i).toNat)
 case atStart=>exact⟨0,Nat.zero_le _,rfl,by simpa[pFiK,rn] using HS.out⟩
 case round=>
  obtain⟨q,hq,rfl,v1,h1,o1,q1⟩:=hrel;have hlk:=HK.out.l
  by_cases hlt:q<ks.length
  ·have hd:decide ((q:Int)<ks.length)=true:=by simp;omega
   obtain⟨k,hk⟩:∃ k,ks[q]?=some k:=⟨_,List.getElem?_eq_getElem hlt⟩;obtain⟨t,ht⟩:∃ t,ts[q]?=some t:=⟨_,List.getElem?_eq_getElem (by omega)⟩;have hrk:=h1.env HK.out.r;obtain⟨b,o,hksm,-⟩:=hrk (by omega);rw[hksm] at hrk;have kc:=za9 hrk q (by simpa using hlt);rw[List.getD_eq_getElem?_getD,List.getElem?_map,hk] at kc;simp only[Option.map_some,Option.getD_some] at kc;obtain⟨dd,hdL,hde⟩:=(HK.out.e q k t hk ht).hd;have hkL:k<L.length:=(List.getElem?_eq_some_iff.1 hdL).1;obtain⟨sn,cn,N,S,hnv,hN,hR⟩:=HE.out.x;have hLl:=HE.out.l;obtain⟨m2,hm2⟩:∃ m2,N[k]?=some m2:=⟨_,List.getElem?_eq_getElem (by have:=hR.1;omega)⟩;have hrn:=h1.env hN;obtain⟨bn,on,hsn,-⟩:=hrn (by have:=hR.1;omega);rw[hsn] at hrn hnv;have kn:=(zai hrn hm2).1;rw[(hR.at hm2 hdL).1.1,show dd.kind=(hdP t).1 by rw[<-hde]] at kn;have cg:=h1.c2;rw[hnv] at cg;have hkk:decide ((k:Int)<L.length)=true:=by simp;omega
   have HTK:Hid (pFiK d true ((ts.map hdP).take (q+1)) ((ts.map (prP d)).take (q+1))=pFiK d true ((ts.map hdP).take q) ((ts.map (prP d)).take q)++((if (q == 0) || (hdP t).1 != 2 then[fe] else[])++(tb d++prP d t++[.e]))):=by
    show _=_;rw[zpf d q true (ts.map hdP) (ts.map (prP d)) (hdP t) (prP d t) (by rw[List.getElem?_map,ht];rfl) (by rw[List.getElem?_map,ht];rfl),Bool.and_true]
   have hbud:out.length+(A.length+(rn (pFiK d true ((ts.map hdP).take q) ((ts.map (prP d)).take q)++((if (q == 0) || (hdP t).1 != 2 then[fe] else[])++(tb d++prP d t++[.e])))).length)<=1000000000000:=by
    obtain⟨r,hr⟩:=zu9 d (q+1) true (ts.map hdP) (ts.map (prP d));have:=zo6 hr;rw[<-HTK.out];have:=HL.out;omega
   have HDT:Hid (d+cntP t<=100000):=by show _<=_;have:=zb8 ts q t ht;have:=HD1.out;omega
   have HNC:Hid (NodP w0 g nv L t):=HK.out.n t (List.mem_of_getElem? ht);have HEM:Hid (Emb L k t):=HK.out.e q k t hk ht;have HO:Hid _:=o1;have HQ:Hid _:=q1;have HKM:Hid _:=hksm;rw[zac,zac,List.length_append,List.length_append] at hbud;have HBD:Hid _:=hbud;have HW1:Hid _:=h1;clear h1 o1 q1 hk ht hrk hbud hlk hksm hdL hde hm2 hrn hsn hnv hN hR;rw[HKM.out]
   cases z1:(q == 0)
   rotate_left
   focus (
    have hq0:q=0:=by simpa using z1
    have z1':((q:Int) == 0)=true:=by rw[hq0];rfl
    rw[z1,Bool.true_or] at HTK HBD;clear hq0;have hfe:fl [strU [10]]=rn [fe]:=rfl;have HC:=za6 [strU [10]] HW1.out (by have:=HBD.out;rw[if_pos (by trivial)] at this;rw[hfe];simp only[List.length_append] at this ⊢;omega) (by simp);rw[hfe] at HC
    go_wp2_with fail
    refine HC.mono ?_;rintro e W ⟨rfl,v2,h2,o2,q2⟩;have HD:=zgf k t HNC.out HEM.out h2 HDT.out (by have:=HBD.out;rw[if_pos (by trivial)] at this;simp only[List.length_append] at this ⊢;omega);have HO2:Hid _:=o2;have HQ2:Hid _:=q2;clear h2 o2 q2 HC
    go_wp2_with fail
    refine HD.mono ?_;rintro e W3 ⟨rfl,hp⟩;have HN:Hid (Pp w0 g nv d w v (out++A++rn (pFiK d true ((ts.map hdP).take (q+1)) ((ts.map (prP d)).take (q+1)))) W3):=by
     refine Pp.trans HO.out HQ.out (Pp.trans HO2.out HQ2.out ?_);rw[HTK.out,if_pos (by trivial),zac,zac [fe],<-List.append_assoc,<-List.append_assoc];exact hp
    clear hp HD
    go_wp2
    exact⟨⟨q+1,by omega,by go_num,HN.out⟩,by simp[intOf];omega⟩)
   have z1':((q:Int) == 0)=false:=by have h0:¬ q=0:=(by simpa using z1);simp;omega
   cases z2:((hdP t).1 != 2)
   ·rw[z1,z2] at HTK HBD;have HC:=zgf k t HNC.out HEM.out HW1.out HDT.out (by have:=HBD.out;simp only[List.length_append] at this ⊢;omega)
    go_wp2_with fail
    refine HC.mono ?_;rintro e W ⟨rfl,hp⟩;have HN:Hid (Pp w0 g nv d w v (out++A++rn (pFiK d true ((ts.map hdP).take (q+1)) ((ts.map (prP d)).take (q+1)))) W):=by
     refine Pp.trans HO.out HQ.out ?_;rw[HTK.out,if_neg (by simp),List.nil_append,zac,<-List.append_assoc];exact hp
    clear hp HC
    go_wp2
    exact⟨⟨q+1,by omega,by go_num,HN.out⟩,by simp[intOf];omega⟩
   ·rw[z1,z2] at HTK HBD;rw[Bool.false_or] at HTK HBD;have hfe:fl [strU [10]]=rn [fe]:=rfl;have HC:=za6 [strU [10]] HW1.out (by have:=HBD.out;rw[if_pos (by trivial)] at this;rw[hfe];simp only[List.length_append] at this ⊢;omega) (by simp);rw[hfe] at HC
    go_wp2_with fail
    refine HC.mono ?_;rintro e W ⟨rfl,v2,h2,o2,q2⟩;have HD:=zgf k t HNC.out HEM.out h2 HDT.out (by have:=HBD.out;rw[if_pos (by trivial)] at this;simp only[List.length_append] at this ⊢;omega);have HO2:Hid _:=o2;have HQ2:Hid _:=q2;clear h2 o2 q2 HC
    go_wp2_with fail
    refine HD.mono ?_;rintro e W3 ⟨rfl,hp⟩;have HN:Hid (Pp w0 g nv d w v (out++A++rn (pFiK d true ((ts.map hdP).take (q+1)) ((ts.map (prP d)).take (q+1)))) W3):=by
     refine Pp.trans HO.out HQ.out (Pp.trans HO2.out HQ2.out ?_);rw[HTK.out,if_pos (by trivial),zac,zac [fe],<-List.append_assoc,<-List.append_assoc];exact hp
    clear hp HD
    go_wp2
    exact⟨⟨q+1,by omega,by go_num,HN.out⟩,by simp[intOf];omega⟩
  ·have hd:decide ((q:Int)<ks.length)=false:=by simp;omega
   have HP:Hid (Pp w0 g nv d w v (out++(A++rn (pFiK d true (ts.map hdP) (ts.map (prP d))))) wr):=by
    have hp:Pp w0 g nv d w v (out++A++rn (pFiK d true ((ts.map hdP).take q) ((ts.map (prP d)).take q))) wr:=⟨v1,h1,o1,q1⟩;rw[zej d (by omega),List.take_of_length_le (by rw[List.length_map];omega),List.append_assoc] at hp;exact hp
   clear h1 o1 q1
   go_wp2
   go_end0
   refine⟨rfl,?_⟩;have e:=HE0.out;simp only[List.cons_append,List.nil_append] at e;rw[e];exact HP.out
end
theorem zik (x:ByteArray)(w:World)(hx:x.size<=100000):Calls Tryz.prog 119 #[.string x] w fun e w'=>e=.returned (.string (quoT x))∧Below w.heap.size w w':=by
 have hqv:∃ er,strV (quoO x.data.toList) 2=.tuple #[.string (quoT x),.int .i64 er]:=by
  unfold strV quoT
  cases quoO x.data.toList with
  | none=>exact⟨_,rfl⟩
  | some q=>exact⟨_,rfl⟩
 obtain⟨er,hqv⟩:=hqv
 go_enter Tryz.func119,Tryz.ntmps119
 go_wp2_with fail
 refine(zk1 x w hx).mono ?_;rintro e W ⟨rfl,hb⟩;rw[hqv];have HB:Hid _:=hb;clear hb hqv
 go_wp2
 go_ret
 exact⟨rfl,HB.out⟩
section
variable {w0 w:World}{g d:Nat}{nv v:Value}{out:List UInt8}{L:List Nd}{m:NdM}{x:ByteArray}{n:Int}{ts:List Pt}
theorem zvb (hP:TabP w0)(hn:-9223372036854775808<=n∧n<=9223372036854775807)(hE:EnW w0 nv L)(hm:NdP w0 g nv L m 20 x n ts)(h:Pw w0 g nv d w v out)(hd1:d+1+cntL ts<=100000)(hl:out.length+(rn [.t (nuT n)]).length<=1000000000000) :
  Calls Tryz.prog 162 #[.pointer (some ⟨g,0,none⟩),.agg m.cells] w fun e w'=>e=.returned (.tuple #[])∧Pp w0 g nv d w v (out++rn [.t (nuT n)]) w':=by
 have HE:=hid hE;have HM:=hid hm;obtain⟨ks,hkn,hK,HK,hks,hmc,HMC,HCE,HNE,HR1,v1,HW1,HS1⟩:=NdP.pre hm h;have HD1:=hid hd1;have HRES:Hid (rn [.t (nuT n)]=fl [⟨(Lib.itoa n).toArray⟩]):=by
  show _=_
  first|rfl|(rw[zac];done) | (rw[zac];rfl) | (rw[zac,zac,List.append_assoc];done) | (rw[zac,zac,List.append_assoc];rfl)
 have HL:Hid (out.length+(fl [⟨(Lib.itoa n).toArray⟩]).length<=1000000000000):=by
  rw[HRES.out] at hl;exact hl
 clear h hm hK hkn hE hl hd1;have HP:=hid hP;have HNB:=hid hn;clear hP hn;rw[HCE.out]
 go_enter Tryz.func162,Tryz.ntmps162
 go_wp2_with fail
 refine(Tryz.strconv_FormatInt_10 n HNB.out.1 HNB.out.2 _ (TabP.low HP.out HW1.out.b)).mono ?_;rintro e W ⟨rfl,k,os,rfl⟩;have hb:=zi6 (w.alloc (.cells #[.int .i64 20,.string x,.int .i64 n,.slice m.ks ks.length m.kc,.int .i64 m.a,.int .i64 m.f,.int .i64 m.t] 59)) k os;generalize Sort.grow ((w.alloc (.cells #[.int .i64 20,.string x,.int .i64 n,.slice m.ks ks.length m.kc,.int .i64 m.a,.int .i64 m.f,.int .i64 m.t] 59)).drewN k) os=W at *;have HB:Hid _:=hb;have HC:=za6 [⟨(Lib.itoa n).toArray⟩] (HW1.out.low hb) HL.out (by simp);clear hb
 go_wp2_with fail
 refine HC.mono ?_;rintro e WZ ⟨rfl,hp⟩;have HZ:Hid (Pp w0 g nv d w v (out++rn [.t (nuT n)]) WZ):=by
  show Pp _ _ _ _ _ _ _ _;rw[HRES.out];exact(HS1.out _ _ _ (Pp.pre HB.out hp)).1
 clear hp HC
 go_wp2
 go_end0
 exact⟨rfl,HZ.out⟩
theorem zqq (hx:x.size<=100000)(hE:EnW w0 nv L)(hm:NdP w0 g nv L m 21 x n ts)(h:Pw w0 g nv d w v out)(hd1:d+1+cntL ts<=100000)(hl:out.length+(rn [.t (tkW 3 (quoT x))]).length<=1000000000000) :
  Calls Tryz.prog 162 #[.pointer (some ⟨g,0,none⟩),.agg m.cells] w fun e w'=>e=.returned (.tuple #[])∧Pp w0 g nv d w v (out++rn [.t (tkW 3 (quoT x))]) w':=by
 have HE:=hid hE;have HM:=hid hm;obtain⟨ks,hkn,hK,HK,hks,hmc,HMC,HCE,HNE,HR1,v1,HW1,HS1⟩:=NdP.pre hm h;have HD1:=hid hd1;have HRES:Hid (rn [.t (tkW 3 (quoT x))]=fl [quoT x]):=by
  show _=_
  first|rfl|(rw[zac];done) | (rw[zac];rfl) | (rw[zac,zac,List.append_assoc];done) | (rw[zac,zac,List.append_assoc];rfl)
 have HL:Hid (out.length+(fl [quoT x]).length<=1000000000000):=by
  rw[HRES.out] at hl;exact hl
 clear h hm hK hkn hE hl hd1;have HXS:=hid hx;clear hx;rw[HCE.out]
 go_enter Tryz.func162,Tryz.ntmps162
 go_wp2_with fail
 refine(zik x _ HXS.out).mono ?_;rintro e W ⟨rfl,hb⟩;have HB:Hid _:=hb;have HC:=za6 [quoT x] (HW1.out.low hb) HL.out (by simp);clear hb
 go_wp2_with fail
 refine HC.mono ?_;rintro e WZ ⟨rfl,hp⟩;have HZ:Hid (Pp w0 g nv d w v (out++rn [.t (tkW 3 (quoT x))]) WZ):=by
  show Pp _ _ _ _ _ _ _ _;rw[HRES.out];exact(HS1.out _ _ _ (Pp.pre HB.out hp)).1
 clear hp HC
 go_wp2
 go_end0
 exact⟨rfl,HZ.out⟩
theorem zqr (hE:EnW w0 nv L)(hm:NdP w0 g nv L m 22 x n ts)(h:Pw w0 g nv d w v out)(hd1:d+1+cntL ts<=100000)(hl:out.length+(rn [.t (tkW 1 x)]).length<=1000000000000) :
  Calls Tryz.prog 162 #[.pointer (some ⟨g,0,none⟩),.agg m.cells] w fun e w'=>e=.returned (.tuple #[])∧Pp w0 g nv d w v (out++rn [.t (tkW 1 x)]) w':=by
 have HE:=hid hE;have HM:=hid hm;obtain⟨ks,hkn,hK,HK,hks,hmc,HMC,HCE,HNE,HR1,v1,HW1,HS1⟩:=NdP.pre hm h;have HD1:=hid hd1;have HRES:Hid (rn [.t (tkW 1 x)]=fl [x]):=by
  show _=_
  first|rfl|(rw[zac];done) | (rw[zac];rfl) | (rw[zac,zac,List.append_assoc];done) | (rw[zac,zac,List.append_assoc];rfl)
 have HL:Hid (out.length+(fl [x]).length<=1000000000000):=by
  rw[HRES.out] at hl;exact hl
 clear h hm hK hkn hE hl hd1;rw[HCE.out];have HC1:=za6 [x] HW1.out (by have:=HL.out;(try simp only[List.length_append] at this);(try simp only[List.length_append]);omega) (by simp);simp only[World.size_alloc] at HC1
 go_enter Tryz.func162,Tryz.ntmps162
 go_wp2_with fail
 refine HC1.mono ?_;rintro e W2 ⟨rfl,hp⟩;have HN:Hid (Pp w0 g nv d w v (out++rn [.t (tkW 1 x)]) W2):=by
  have hq:=(HS1.out _ _ _ hp).1;show Pp _ _ _ _ _ _ _ _;rw[HRES.out]
  first|exact hq|(simp only[<-List.append_assoc];exact hq) | (simpa using hq)
 clear hp HC1
 go_wp2
 go_end0
 exact⟨rfl,HN.out⟩
theorem zqs (hE:EnW w0 nv L)(hm:NdP w0 g nv L m 23 x n ts)(h:Pw w0 g nv d w v out)(hd1:d+1+cntL ts<=100000)(hl:out.length+(rn [.t (tkW 1 x)]).length<=1000000000000) :
  Calls Tryz.prog 162 #[.pointer (some ⟨g,0,none⟩),.agg m.cells] w fun e w'=>e=.returned (.tuple #[])∧Pp w0 g nv d w v (out++rn [.t (tkW 1 x)]) w':=by
 have HE:=hid hE;have HM:=hid hm;obtain⟨ks,hkn,hK,HK,hks,hmc,HMC,HCE,HNE,HR1,v1,HW1,HS1⟩:=NdP.pre hm h;have HD1:=hid hd1;have HRES:Hid (rn [.t (tkW 1 x)]=fl [x]):=by
  show _=_
  first|rfl|(rw[zac];done) | (rw[zac];rfl) | (rw[zac,zac,List.append_assoc];done) | (rw[zac,zac,List.append_assoc];rfl)
 have HL:Hid (out.length+(fl [x]).length<=1000000000000):=by
  rw[HRES.out] at hl;exact hl
 clear h hm hK hkn hE hl hd1;rw[HCE.out];have HC1:=za6 [x] HW1.out (by have:=HL.out;(try simp only[List.length_append] at this);(try simp only[List.length_append]);omega) (by simp);simp only[World.size_alloc] at HC1
 go_enter Tryz.func162,Tryz.ntmps162
 go_wp2_with fail
 refine HC1.mono ?_;rintro e W2 ⟨rfl,hp⟩;have HN:Hid (Pp w0 g nv d w v (out++rn [.t (tkW 1 x)]) W2):=by
  have hq:=(HS1.out _ _ _ hp).1;show Pp _ _ _ _ _ _ _ _;rw[HRES.out]
  first|exact hq|(simp only[<-List.append_assoc];exact hq) | (simpa using hq)
 clear hp HC1
 go_wp2
 go_end0
 exact⟨rfl,HN.out⟩
theorem zvc (hlen:1<=ts.length)(hE:EnW w0 nv L)(hm:NdP w0 g nv L m 24 x n ts)(h:Pw w0 g nv d w v out)(hd1:d+1+cntL ts<=100000)(hl:out.length+(rn (pOpe 24 x (ts.map hdP) (ts.map (prP d)) 0++[sg [46],.t (tkW 1 x)])).length<=1000000000000) :
  Calls Tryz.prog 162 #[.pointer (some ⟨g,0,none⟩),.agg m.cells] w fun e w'=>e=.returned (.tuple #[])∧Pp w0 g nv d w v (out++rn (pOpe 24 x (ts.map hdP) (ts.map (prP d)) 0++[sg [46],.t (tkW 1 x)])) w':=by
 have HE:=hid hE;have HM:=hid hm;obtain⟨ks,hkn,hK,HK,hks,hmc,HMC,HCE,HNE,HR1,v1,HW1,HS1⟩:=NdP.pre hm h;have HD1:=hid hd1;have HI0:Hid (0<ts.length):=by show _<_;omega
 have HRES:Hid (rn (pOpe 24 x (ts.map hdP) (ts.map (prP d)) 0++[sg [46],.t (tkW 1 x)])=rn (pOpe 24 x (ts.map hdP) (ts.map (prP d)) 0)++(fl [strU [46],x])):=by
  show _=_
  first|rfl|(rw[zac];done) | (rw[zac];rfl) | (rw[zac,zac,List.append_assoc];done) | (rw[zac,zac,List.append_assoc];rfl)
 have HL:Hid (out.length+(rn (pOpe 24 x (ts.map hdP) (ts.map (prP d)) 0)++(fl [strU [46],x])).length<=1000000000000):=by
  rw[HRES.out] at hl;exact hl
 clear h hm hK hkn hE hl hd1;rw[HCE.out];have HC1:=zdx 0 HI0.out HE.out HM.out HW1.out (by have:=HD1.out;omega) (by have:=HL.out;(try simp only[List.length_append] at this);(try simp only[List.length_append]);omega);rw[HCE.out] at HC1
 go_enter Tryz.func162,Tryz.ntmps162
 go_wp2_with fail
 refine HC1.mono ?_;rintro e W2 ⟨rfl,hp⟩;obtain⟨hp2,hrr⟩:=HS1.out _ _ _ hp;have r2:=hrr _ _ _ _ HR1.out HNE.out (by decide);obtain⟨v2,w2,s2⟩:=hp2.step;have HR2:Hid _:=r2;have HW2:Hid _:=w2;have HS2:Hid _:=s2;obtain⟨cx20,cx21,cx22,cx23,cx24,cx25,cx26⟩:=cells7 r2;clear hp hp2 hrr r2 w2 s2 HC1;have HC2:=za6 [strU [46],x] HW2.out (by have:=HL.out;(try simp only[List.length_append] at this);(try simp only[List.length_append]);omega) (by simp)
 go_wp2_with fail
 refine HC2.mono ?_;rintro e W3 ⟨rfl,hp⟩;have HN:Hid (Pp w0 g nv d w v (out++rn (pOpe 24 x (ts.map hdP) (ts.map (prP d)) 0++[sg [46],.t (tkW 1 x)])) W3):=by
  have hq:=(HS2.out _ _ _ hp).1;show Pp _ _ _ _ _ _ _ _;rw[HRES.out]
  first|exact hq|(simp only[<-List.append_assoc];exact hq) | (simpa using hq)
 clear hp HC2
 go_wp2
 go_end0
 exact⟨rfl,HN.out⟩
theorem zqt (hlen:1<=ts.length)(hE:EnW w0 nv L)(hm:NdP w0 g nv L m 25 x n ts)(h:Pw w0 g nv d w v out)(hd1:d+1+cntL ts<=100000)(hl:out.length+(rn (pOpe 25 x (ts.map hdP) (ts.map (prP d)) 0++pBrk ((ts.drop 1).map (prP d)))).length<=1000000000000) :
  Calls Tryz.prog 162 #[.pointer (some ⟨g,0,none⟩),.agg m.cells] w fun e w'=>e=.returned (.tuple #[])∧Pp w0 g nv d w v (out++rn (pOpe 25 x (ts.map hdP) (ts.map (prP d)) 0++pBrk ((ts.drop 1).map (prP d)))) w':=by
 have HE:=hid hE;have HM:=hid hm;obtain⟨ks,hkn,hK,HK,hks,hmc,HMC,HCE,HNE,HR1,v1,HW1,HS1⟩:=NdP.pre hm h;have HD1:=hid hd1;have HI0:Hid (0<ts.length):=by show _<_;omega
 have HRES:Hid (rn (pOpe 25 x (ts.map hdP) (ts.map (prP d)) 0++pBrk ((ts.drop 1).map (prP d)))=rn (pOpe 25 x (ts.map hdP) (ts.map (prP d)) 0)++(rn (pBrk ((ts.drop 1).map (prP d))))):=by
  show _=_
  first|rfl|(rw[zac];done) | (rw[zac];rfl) | (rw[zac,zac,List.append_assoc];done) | (rw[zac,zac,List.append_assoc];rfl)
 have HL:Hid (out.length+(rn (pOpe 25 x (ts.map hdP) (ts.map (prP d)) 0)++(rn (pBrk ((ts.drop 1).map (prP d))))).length<=1000000000000):=by
  rw[HRES.out] at hl;exact hl
 clear h hm hK hkn hE hl hd1;rw[HCE.out];have HC1:=zdx 0 HI0.out HE.out HM.out HW1.out (by have:=HD1.out;omega) (by have:=HL.out;(try simp only[List.length_append] at this);(try simp only[List.length_append]);omega);rw[HCE.out] at HC1
 go_enter Tryz.func162,Tryz.ntmps162
 go_wp2_with fail
 refine HC1.mono ?_;rintro e W2 ⟨rfl,hp⟩;obtain⟨hp2,hrr⟩:=HS1.out _ _ _ hp;have r2:=hrr _ _ _ _ HR1.out HNE.out (by decide);obtain⟨v2,w2,s2⟩:=hp2.step;have HR2:Hid _:=r2;have HW2:Hid _:=w2;have HS2:Hid _:=s2;obtain⟨cx20,cx21,cx22,cx23,cx24,cx25,cx26⟩:=cells7 r2;clear hp hp2 hrr r2 w2 s2 HC1;have HALL:Hid (∀ sk' c',RowsAt w0 1 intC sk' (ks.drop 1)->Calls Tryz.prog 160 #[.pointer (some ⟨g,0,none⟩),.slice sk' (ks.length - 1) c'] W2 fun e w'=>e=.returned (.tuple #[])∧Pp w0 g nv d W2 v2 (out++rn (pOpe 25 x (ts.map hdP) (ts.map (prP d)) 0)++rn (pBrk ((ts.drop 1).map (prP d)))) w'):=fun sk' c' hr=>by
  rw[show ks.length - 1=(ks.drop 1).length by rw[List.length_drop]];exact zge sk' c' (ks.drop 1) (ts.drop 1) (HK.out.drop 1 hr) HW2.out (by have:=zda ts 1;have:=HD1.out;omega) (by have:=HL.out;(try simp only[List.length_append] at this);(try simp only[List.length_append]);omega)
 have hk1:(1:Int)<=ks.length:=by have:=HI0.out;have:=HK.out.l;omega
 go_wp2_with fail
 ·rename_i hq
  have hr:RowsAt w0 1 intC m.ks (ks.drop 1):=fun hl=>by rw[List.length_drop] at hl;omega
  refine(HALL.out _ _ hr).mono ?_;rintro e WZ ⟨rfl,hp⟩;have HN:Hid (Pp w0 g nv d w v (out++rn (pOpe 25 x (ts.map hdP) (ts.map (prP d)) 0++pBrk ((ts.drop 1).map (prP d)))) WZ):=by
   have hq:=(HS2.out _ _ _ hp).1;show Pp _ _ _ _ _ _ _ _;rw[HRES.out];simp only[<-List.append_assoc];exact hq
  clear hp
  go_wp2
  go_end0
  exact⟨rfl,HN.out⟩
 ·rename_i hq
  have hr:RowsAt w0 1 intC (Option.map (fun x=>x.add 1) m.ks) (ks.drop 1):=fun hl=>by
   have hl':=hl;rw[List.length_drop] at hl';obtain⟨b,o,e,-⟩:=HK.out.r (by omega);have:=zdo (by rw[<-e];exact HK.out.r) 1 hl;rw[e];exact this
  refine(HALL.out _ _ hr).mono ?_;rintro e WZ ⟨rfl,hp⟩;have HN:Hid (Pp w0 g nv d w v (out++rn (pOpe 25 x (ts.map hdP) (ts.map (prP d)) 0++pBrk ((ts.drop 1).map (prP d)))) WZ):=by
   have hq:=(HS2.out _ _ _ hp).1;show Pp _ _ _ _ _ _ _ _;rw[HRES.out];simp only[<-List.append_assoc];exact hq
  clear hp
  go_wp2
  go_end0
  exact⟨rfl,HN.out⟩
theorem zvd (hlen:1<=ts.length)(hE:EnW w0 nv L)(hm:NdP w0 g nv L m 26 x n ts)(h:Pw w0 g nv d w v out)(hd1:d+1+cntL ts<=100000)(hl:out.length+(rn ([.t (tkW 4 x)]++pOpe 26 x (ts.map hdP) (ts.map (prP d)) 0)).length<=1000000000000) :
  Calls Tryz.prog 162 #[.pointer (some ⟨g,0,none⟩),.agg m.cells] w fun e w'=>e=.returned (.tuple #[])∧Pp w0 g nv d w v (out++rn ([.t (tkW 4 x)]++pOpe 26 x (ts.map hdP) (ts.map (prP d)) 0)) w':=by
 have HE:=hid hE;have HM:=hid hm;obtain⟨ks,hkn,hK,HK,hks,hmc,HMC,HCE,HNE,HR1,v1,HW1,HS1⟩:=NdP.pre hm h;have HD1:=hid hd1;have HI0:Hid (0<ts.length):=by show _<_;omega
 have HRES:Hid (rn ([.t (tkW 4 x)]++pOpe 26 x (ts.map hdP) (ts.map (prP d)) 0)=fl [x]++(rn (pOpe 26 x (ts.map hdP) (ts.map (prP d)) 0))):=by
  show _=_
  first|rfl|(rw[zac];done) | (rw[zac];rfl) | (rw[zac,zac,List.append_assoc];done) | (rw[zac,zac,List.append_assoc];rfl)
 have HL:Hid (out.length+(fl [x]++(rn (pOpe 26 x (ts.map hdP) (ts.map (prP d)) 0))).length<=1000000000000):=by
  rw[HRES.out] at hl;exact hl
 clear h hm hK hkn hE hl hd1;rw[HCE.out];have HC1:=za6 [x] HW1.out (by have:=HL.out;(try simp only[List.length_append] at this);(try simp only[List.length_append]);omega) (by simp);simp only[World.size_alloc] at HC1
 go_enter Tryz.func162,Tryz.ntmps162
 go_wp2_with fail
 refine HC1.mono ?_;rintro e W2 ⟨rfl,hp⟩;obtain⟨hp2,hrr⟩:=HS1.out _ _ _ hp;have r2:=hrr _ _ _ _ HR1.out HNE.out (by decide);obtain⟨v2,w2,s2⟩:=hp2.step;have HR2:Hid _:=r2;have HW2:Hid _:=w2;have HS2:Hid _:=s2;obtain⟨cx20,cx21,cx22,cx23,cx24,cx25,cx26⟩:=cells7 r2;clear hp hp2 hrr r2 w2 s2 HC1;have HC2:=zdx 0 HI0.out HE.out HM.out HW2.out (by have:=HD1.out;omega) (by have:=HL.out;(try simp only[List.length_append] at this);(try simp only[List.length_append]);omega);rw[HCE.out] at HC2
 go_wp2_with fail
 refine HC2.mono ?_;rintro e W3 ⟨rfl,hp⟩;have HN:Hid (Pp w0 g nv d w v (out++rn ([.t (tkW 4 x)]++pOpe 26 x (ts.map hdP) (ts.map (prP d)) 0)) W3):=by
  have hq:=(HS2.out _ _ _ hp).1;show Pp _ _ _ _ _ _ _ _;rw[HRES.out]
  first|exact hq|(simp only[<-List.append_assoc];exact hq) | (simpa using hq)
 clear hp HC2
 go_wp2
 go_end0
 exact⟨rfl,HN.out⟩
theorem zve (hlen:2<=ts.length)(hE:EnW w0 nv L)(hm:NdP w0 g nv L m 27 x n ts)(h:Pw w0 g nv d w v out)(hd1:d+1+cntL ts<=100000)(hl:out.length+(rn (pOpe 27 x (ts.map hdP) (ts.map (prP d)) 0++[sp,.t (tkW 4 x),sp]++pOpe 27 x (ts.map hdP) (ts.map (prP d)) 1)).length<=1000000000000) :
  Calls Tryz.prog 162 #[.pointer (some ⟨g,0,none⟩),.agg m.cells] w fun e w'=>e=.returned (.tuple #[])∧Pp w0 g nv d w v (out++rn (pOpe 27 x (ts.map hdP) (ts.map (prP d)) 0++[sp,.t (tkW 4 x),sp]++pOpe 27 x (ts.map hdP) (ts.map (prP d)) 1)) w':=by
 have HE:=hid hE;have HM:=hid hm;obtain⟨ks,hkn,hK,HK,hks,hmc,HMC,HCE,HNE,HR1,v1,HW1,HS1⟩:=NdP.pre hm h;have HD1:=hid hd1;have HI0:Hid (0<ts.length):=by show _<_;omega
 have HI1:Hid (1<ts.length):=by show _<_;omega
 have HRES:Hid (rn (pOpe 27 x (ts.map hdP) (ts.map (prP d)) 0++[sp,.t (tkW 4 x),sp]++pOpe 27 x (ts.map hdP) (ts.map (prP d)) 1)=rn (pOpe 27 x (ts.map hdP) (ts.map (prP d)) 0)++(fl [strU [32],x,strU [32]]++(rn (pOpe 27 x (ts.map hdP) (ts.map (prP d)) 1)))):=by
  show _=_
  first|rfl|(rw[zac];done) | (rw[zac];rfl) | (rw[zac,zac,List.append_assoc];done) | (rw[zac,zac,List.append_assoc];rfl)
 have HL:Hid (out.length+(rn (pOpe 27 x (ts.map hdP) (ts.map (prP d)) 0)++(fl [strU [32],x,strU [32]]++(rn (pOpe 27 x (ts.map hdP) (ts.map (prP d)) 1)))).length<=1000000000000):=by
  rw[HRES.out] at hl;exact hl
 clear h hm hK hkn hE hl hd1;rw[HCE.out];have HC1:=zdx 0 HI0.out HE.out HM.out HW1.out (by have:=HD1.out;omega) (by have:=HL.out;(try simp only[List.length_append] at this);(try simp only[List.length_append]);omega);rw[HCE.out] at HC1
 go_enter Tryz.func162,Tryz.ntmps162
 go_wp2_with fail
 refine HC1.mono ?_;rintro e W2 ⟨rfl,hp⟩;obtain⟨hp2,hrr⟩:=HS1.out _ _ _ hp;have r2:=hrr _ _ _ _ HR1.out HNE.out (by decide);obtain⟨v2,w2,s2⟩:=hp2.step;have HR2:Hid _:=r2;have HW2:Hid _:=w2;have HS2:Hid _:=s2;obtain⟨cx20,cx21,cx22,cx23,cx24,cx25,cx26⟩:=cells7 r2;clear hp hp2 hrr r2 w2 s2 HC1;have HC2:=za6 [strU [32],x,strU [32]] HW2.out (by have:=HL.out;(try simp only[List.length_append] at this);(try simp only[List.length_append]);omega) (by simp)
 go_wp2_with fail
 refine HC2.mono ?_;rintro e W3 ⟨rfl,hp⟩;obtain⟨hp3,hrr⟩:=HS2.out _ _ _ hp;have r3:=hrr _ _ _ _ HR2.out HNE.out (by decide);obtain⟨v3,w3,s3⟩:=hp3.step;have HR3:Hid _:=r3;have HW3:Hid _:=w3;have HS3:Hid _:=s3;obtain⟨cx30,cx31,cx32,cx33,cx34,cx35,cx36⟩:=cells7 r3;clear hp hp3 hrr r3 w3 s3 HC2;have HC3:=zdx 1 HI1.out HE.out HM.out HW3.out (by have:=HD1.out;omega) (by have:=HL.out;(try simp only[List.length_append] at this);(try simp only[List.length_append]);omega);rw[HCE.out] at HC3
 go_wp2_with fail
 refine HC3.mono ?_;rintro e W4 ⟨rfl,hp⟩;have HN:Hid (Pp w0 g nv d w v (out++rn (pOpe 27 x (ts.map hdP) (ts.map (prP d)) 0++[sp,.t (tkW 4 x),sp]++pOpe 27 x (ts.map hdP) (ts.map (prP d)) 1)) W4):=by
  have hq:=(HS3.out _ _ _ hp).1;show Pp _ _ _ _ _ _ _ _;rw[HRES.out]
  first|exact hq|(simp only[<-List.append_assoc];exact hq) | (simpa using hq)
 clear hp HC3
 go_wp2
 go_end0
 exact⟨rfl,HN.out⟩
theorem zqu {k:Int}(n20:(k == 20)=false)(n21:(k == 21)=false)(n22:(k == 22)=false)(n23:(k == 23)=false)(n24:(k == 24)=false)(n25:(k == 25)=false)(n26:(k == 26)=false)(n27:(k == 27)=false)(hE:EnW w0 nv L)(hm:NdP w0 g nv L m k x n ts)(h:Pw w0 g nv d w v out)(hd1:d+1+cntL ts<=100000)(hl:out.length+(rn ([]:List Pe)).length<=1000000000000) :
  Calls Tryz.prog 162 #[.pointer (some ⟨g,0,none⟩),.agg m.cells] w fun e w'=>e=.returned (.tuple #[])∧Pp w0 g nv d w v (out++rn ([]:List Pe)) w':=by
 have HE:=hid hE;have HM:=hid hm;obtain⟨ks,hkn,hK,HK,hks,hmc,HMC,HCE,HNE,HR1,v1,HW1,HS1⟩:=NdP.pre hm h;have HD1:=hid hd1;have HRES:Hid (rn ([]:List Pe)=([]:List UInt8)):=by
  show _=_
  first|rfl|(rw[zac];done) | (rw[zac];rfl) | (rw[zac,zac,List.append_assoc];done) | (rw[zac,zac,List.append_assoc];rfl)
 have HL:Hid (out.length+(([]:List UInt8)).length<=1000000000000):=by
  rw[HRES.out] at hl;exact hl
 clear h hm hK hkn hE hl hd1;rw[HCE.out]
 go_enter Tryz.func162,Tryz.ntmps162
 go_wp2
 go_end0
 refine⟨rfl,?_⟩;rw[HRES.out,List.append_nil];exact(HS1.out _ _ _ (Pp.start HW1.out)).1
theorem zvf {k:Int}(hP:TabP w0)(hx:x.size<=100000)(hn:-9223372036854775808<=n∧n<=9223372036854775807)(hnd:ndK k<=ts.length)(hE:EnW w0 nv L)(hm:NdP w0 g nv L m k x n ts)(h:Pw w0 g nv d w v out)(hd1:d+1+cntL ts<=100000)(hl:out.length+(rn (prX k x n (ts.map hdP) (ts.map (prP d)))).length<=1000000000000) :
  Calls Tryz.prog 162 #[.pointer (some ⟨g,0,none⟩),.agg m.cells] w fun e w'=>e=.returned (.tuple #[])∧Pp w0 g nv d w v (out++rn (prX k x n (ts.map hdP) (ts.map (prP d)))) w':=by
 unfold prX at hl ⊢
 by_cases h20:k=20
 ·subst h20;exact zvb hP hn hE hm h hd1 hl
 rw[if_neg h20] at hl ⊢
 by_cases h21:k=21
 ·subst h21;exact zqq hx hE hm h hd1 hl
 rw[if_neg h21] at hl ⊢
 by_cases h22:k=22
 ·subst h22;exact zqr hE hm h hd1 hl
 by_cases h23:k=23
 ·subst h23;exact zqs hE hm h hd1 hl
 rw[if_neg (by omega)] at hl ⊢
 by_cases h24:k=24
 ·subst h24;exact zvc hnd hE hm h hd1 hl
 rw[if_neg h24] at hl ⊢
 by_cases h25:k=25
 ·subst h25;rw[if_pos rfl,<-List.map_drop] at hl ⊢;exact zqt hnd hE hm h hd1 hl
 rw[if_neg h25] at hl ⊢
 by_cases h26:k=26
 ·subst h26;exact zvd hnd hE hm h hd1 hl
 rw[if_neg h26] at hl ⊢
 by_cases h27:k=27
 ·subst h27;exact zve hnd hE hm h hd1 hl
 rw[if_neg h27] at hl ⊢;exact zqu (by simpa using h20) (by simpa using h21) (by simpa using h22) (by simpa using h23) (by simpa using h24) (by simpa using h25) (by simpa using h26) (by simpa using h27) hE hm h hd1 hl
end
end Go.Proofs.YtabiangdmibocaaGreatDoor
