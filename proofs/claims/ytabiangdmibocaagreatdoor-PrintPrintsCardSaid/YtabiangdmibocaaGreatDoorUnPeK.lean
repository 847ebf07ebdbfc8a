import Derived.Test.YtabiangdmibocaaGreatDoorUnc
namespace Go.Proofs.YtabiangdmibocaaGreatDoor
set_option maxRecDepth 100000
set_option maxHeartbeats 4000000
open Go.RowKit
section
variable {w0 w:World}{g d:Nat}{nv v:Value}{out:List UInt8}{L:List Nd}{m:NdM}{x:ByteArray}{n:Int}{ts:List Pt}
theorem znh (hE:EnW w0 nv L)(hm:NdP w0 g nv L m 13 x n ts)(h:Pw w0 g nv d w v out)(hd1:d+1+cntL ts<=100000)(hl:out.length+(rn (pBra d (ts.map (prP (d+1))))).length<=1000000000000) :
  Calls Tryz.prog 123 #[.pointer (some ⟨g,0,none⟩),.agg m.cells] w fun e w'=>e=.returned (.tuple #[])∧Pp w0 g nv d w v (out++rn (pBra d (ts.map (prP (d+1))))) w':=by
 have HE:=hid hE;have HM:=hid hm;obtain⟨ks,hkn,hK,HK,hks,hmc,HMC,HCE,HNE,HR1,v1,HW1,HS1⟩:=NdP.pre hm h;have HD1:=hid hd1;have HRES:Hid (rn (pBra d (ts.map (prP (d+1))))=rn (pBra d (ts.map (prP (d+1))))):=by
  show _=_
  first|rfl|(rw[zac];done) | (rw[zac];rfl) | (rw[zac,zac,List.append_assoc];done) | (rw[zac,zac,List.append_assoc];rfl)
 have HL:Hid (out.length+(rn (pBra d (ts.map (prP (d+1))))).length<=1000000000000):=by
  rw[HRES.out] at hl;exact hl
 clear h hm hK hkn hE hl hd1;rw[HCE.out];have HC1:=zig m.ks m.kc ks ts HK.out HW1.out (by have:=HD1.out;omega) (by have:=HL.out;(try simp only[List.length_append] at this);(try simp only[List.length_append]);omega)
 go_enter Tryz.func123,Tryz.ntmps123
 go_wp2_with fail
 refine HC1.mono ?_;rintro e W2 ⟨rfl,hp⟩;have HN:Hid (Pp w0 g nv d w v (out++rn (pBra d (ts.map (prP (d+1))))) W2):=by
  have hq:=(HS1.out _ _ _ hp).1;show Pp _ _ _ _ _ _ _ _
  first
   | exact hq
   | (rw[HRES.out];first | exact hq | (simp only[<-List.append_assoc];exact hq))
 clear hp HC1
 go_wp2
 go_end0
 exact⟨rfl,HN.out⟩
theorem zxz (hlen:2<=ts.length)(hE:EnW w0 nv L)(hm:NdP w0 g nv L m 14 x n ts)(h:Pw w0 g nv d w v out)(hd1:d+1+cntL ts<=100000)(hl:out.length+(rn ([wd [105,102],sp]++pPar [sp] ((ts.take 2).map (prP d))++pBeh [sp,wd [101,108,115,101],sp] ((ts.drop 2).map (prP d)))).length<=1000000000000) :
  Calls Tryz.prog 123 #[.pointer (some ⟨g,0,none⟩),.agg m.cells] w fun e w'=>e=.returned (.tuple #[])∧Pp w0 g nv d w v (out++rn ([wd [105,102],sp]++pPar [sp] ((ts.take 2).map (prP d))++pBeh [sp,wd [101,108,115,101],sp] ((ts.drop 2).map (prP d)))) w':=by
 have HE:=hid hE;have HM:=hid hm;obtain⟨ks,hkn,hK,HK,hks,hmc,HMC,HCE,HNE,HR1,v1,HW1,HS1⟩:=NdP.pre hm h;have HD1:=hid hd1;have HRES:Hid (rn ([wd [105,102],sp]++pPar [sp] ((ts.take 2).map (prP d))++pBeh [sp,wd [101,108,115,101],sp] ((ts.drop 2).map (prP d)))=fl [strU [105,102,32]]++(rn (pPar [sp] ((ts.take 2).map (prP d)))++(rn (pBeh [sp,wd [101,108,115,101],sp] ((ts.drop 2).map (prP d)))))):=by
  show _=_
  first|rfl|(rw[zac];done) | (rw[zac];rfl) | (rw[zac,zac,List.append_assoc];done) | (rw[zac,zac,List.append_assoc];rfl)
 have HL:Hid (out.length+(fl [strU [105,102,32]]++(rn (pPar [sp] ((ts.take 2).map (prP d)))++(rn (pBeh [sp,wd [101,108,115,101],sp] ((ts.drop 2).map (prP d)))))).length<=1000000000000):=by
  rw[HRES.out] at hl;exact hl
 clear h hm hK hkn hE hl hd1;have HLEN:=hid hlen;clear hlen;rw[HCE.out];have HC1:=za6 [strU [105,102,32]] HW1.out (by have:=HL.out;(try simp only[List.length_append] at this);(try simp only[List.length_append]);omega) (by simp);simp only[World.size_alloc] at HC1
 go_enter Tryz.func123,Tryz.ntmps123
 go_wp2_with fail
 refine HC1.mono ?_;rintro e W2 ⟨rfl,hp⟩;obtain⟨hp2,hrr⟩:=HS1.out _ _ _ hp;have r2:=hrr _ _ _ _ HR1.out HNE.out (by decide);obtain⟨v2,w2,s2⟩:=hp2.step;have HR2:Hid _:=r2;have HW2:Hid _:=w2;have HS2:Hid _:=s2;obtain⟨cx20,cx21,cx22,cx23,cx24,cx25,cx26⟩:=cells7 r2;clear hp hp2 hrr r2 w2 s2 HC1;have hk2:(2:Int)<=ks.length:=by have:=HLEN.out;have:=HK.out.l;omega
 have hk2':(2:Int)<=m.kc:=by omega
 have hkl:(ks.take 2).length=2:=by rw[List.length_take];omega
 have HC2:=zeb [sp] (strU [32]) rfl m.ks m.kc (ks.take 2) (ts.take 2) (HK.out.take 2) HW2.out (by have:=zda ts 2;have:=HD1.out;omega) (by have:=HL.out;(try simp only[List.length_append] at this);(try simp only[List.length_append]);omega);rw[hkl] at HC2;clear hkl
 go_wp2_with fail
 refine HC2.mono ?_;rintro e W3 ⟨rfl,hp⟩;obtain⟨hp3,hrr⟩:=HS2.out _ _ _ hp;have r3:=hrr _ _ _ _ HR2.out HNE.out (by decide);obtain⟨v3,w3,s3⟩:=hp3.step;have HR3:Hid _:=r3;have HW3:Hid _:=w3;have HS3:Hid _:=s3;obtain⟨cx30,cx31,cx32,cx33,cx34,cx35,cx36⟩:=cells7 r3;clear hp hp3 hrr r3 w3 s3 HC2;have HALL:Hid (∀ sk' c',RowsAt w0 1 intC sk' (ks.drop 2)->Calls Tryz.prog 161 #[.pointer (some ⟨g,0,none⟩),.string (strU [32,101,108,115,101,32]),.slice sk' (ks.length - 2) c'] W3 fun e w'=>e=.returned (.tuple #[])∧Pp w0 g nv d W3 v3 (out++fl [strU [105,102,32]]++rn (pPar [sp] ((ts.take 2).map (prP d)))++rn (pBeh [sp,wd [101,108,115,101],sp] ((ts.drop 2).map (prP d)))) w'):=fun sk' c' hr=>by
  rw[show ks.length - 2=(ks.drop 2).length by rw[List.length_drop]];exact ze2 [sp,wd [101,108,115,101],sp] (strU [32,101,108,115,101,32]) rfl sk' c' (ks.drop 2) (ts.drop 2) (HK.out.drop 2 hr) HW3.out (by have:=zda ts 2;have:=HD1.out;omega) (by have:=HL.out;(try simp only[List.length_append] at this);(try simp only[List.length_append]);omega)
 go_wp2_with fail
 ·rename_i hq
  have hr:RowsAt w0 1 intC m.ks (ks.drop 2):=fun hl=>by rw[List.length_drop] at hl;omega
  refine(HALL.out _ _ hr).mono ?_;rintro e WZ ⟨rfl,hp⟩;have HN:Hid (Pp w0 g nv d w v (out++rn ([wd [105,102],sp]++pPar [sp] ((ts.take 2).map (prP d))++pBeh [sp,wd [101,108,115,101],sp] ((ts.drop 2).map (prP d)))) WZ):=by
   have hq:=(HS3.out _ _ _ hp).1;show Pp _ _ _ _ _ _ _ _;rw[HRES.out];simp only[<-List.append_assoc];exact hq
  clear hp
  go_wp2
  go_end0
  exact⟨rfl,HN.out⟩
 ·rename_i hq
  have hr:RowsAt w0 1 intC (Option.map (fun x=>x.add 2) m.ks) (ks.drop 2):=fun hl=>by
   have hl':=hl;rw[List.length_drop] at hl';obtain⟨b,o,e,-⟩:=HK.out.r (by omega);have:=zdo (by rw[<-e];exact HK.out.r) 2 hl;rw[e];exact this
  refine(HALL.out _ _ hr).mono ?_;rintro e WZ ⟨rfl,hp⟩;have HN:Hid (Pp w0 g nv d w v (out++rn ([wd [105,102],sp]++pPar [sp] ((ts.take 2).map (prP d))++pBeh [sp,wd [101,108,115,101],sp] ((ts.drop 2).map (prP d)))) WZ):=by
   have hq:=(HS3.out _ _ _ hp).1;show Pp _ _ _ _ _ _ _ _;rw[HRES.out];simp only[<-List.append_assoc];exact hq
  clear hp
  go_wp2
  go_end0
  exact⟨rfl,HN.out⟩
theorem zvg (hE:EnW w0 nv L)(hm:NdP w0 g nv L m 15 x n ts)(h:Pw w0 g nv d w v out)(hd1:d+1+cntL ts<=100000)(hl:out.length+(rn ([wd [102,111,114],sp]++pPar [sp] (ts.map (prP d)))).length<=1000000000000) :
  Calls Tryz.prog 123 #[.pointer (some ⟨g,0,none⟩),.agg m.cells] w fun e w'=>e=.returned (.tuple #[])∧Pp w0 g nv d w v (out++rn ([wd [102,111,114],sp]++pPar [sp] (ts.map (prP d)))) w':=by
 have HE:=hid hE;have HM:=hid hm;obtain⟨ks,hkn,hK,HK,hks,hmc,HMC,HCE,HNE,HR1,v1,HW1,HS1⟩:=NdP.pre hm h;have HD1:=hid hd1;have HRES:Hid (rn ([wd [102,111,114],sp]++pPar [sp] (ts.map (prP d)))=fl [strU [102,111,114,32]]++(rn (pPar [sp] (ts.map (prP d))))):=by
  show _=_
  first|rfl|(rw[zac];done) | (rw[zac];rfl) | (rw[zac,zac,List.append_assoc];done) | (rw[zac,zac,List.append_assoc];rfl)
 have HL:Hid (out.length+(fl [strU [102,111,114,32]]++(rn (pPar [sp] (ts.map (prP d))))).length<=1000000000000):=by
  rw[HRES.out] at hl;exact hl
 clear h hm hK hkn hE hl hd1;rw[HCE.out];have HC1:=za6 [strU [102,111,114,32]] HW1.out (by have:=HL.out;(try simp only[List.length_append] at this);(try simp only[List.length_append]);omega) (by simp);simp only[World.size_alloc] at HC1
 go_enter Tryz.func123,Tryz.ntmps123
 go_wp2_with fail
 refine HC1.mono ?_;rintro e W2 ⟨rfl,hp⟩;obtain⟨hp2,hrr⟩:=HS1.out _ _ _ hp;have r2:=hrr _ _ _ _ HR1.out HNE.out (by decide);obtain⟨v2,w2,s2⟩:=hp2.step;have HR2:Hid _:=r2;have HW2:Hid _:=w2;have HS2:Hid _:=s2;obtain⟨cx20,cx21,cx22,cx23,cx24,cx25,cx26⟩:=cells7 r2;clear hp hp2 hrr r2 w2 s2 HC1;have HC2:=zeb [sp] (strU [32]) rfl m.ks m.kc ks ts HK.out HW2.out (by have:=HD1.out;omega) (by have:=HL.out;(try simp only[List.length_append] at this);(try simp only[List.length_append]);omega)
 go_wp2_with fail
 refine HC2.mono ?_;rintro e W3 ⟨rfl,hp⟩;have HN:Hid (Pp w0 g nv d w v (out++rn ([wd [102,111,114],sp]++pPar [sp] (ts.map (prP d)))) W3):=by
  have hq:=(HS2.out _ _ _ hp).1;show Pp _ _ _ _ _ _ _ _
  first
   | exact hq
   | (rw[HRES.out];first | exact hq | (simp only[<-List.append_assoc];exact hq))
 clear hp HC2
 go_wp2
 go_end0
 exact⟨rfl,HN.out⟩
theorem zmd (hE:EnW w0 nv L)(hm:NdP w0 g nv L m 16 x n ts)(h:Pw w0 g nv d w v out)(hd1:d+1+cntL ts<=100000)(hl:out.length+(rn ([wd [114,101,116,117,114,110]]++pBeh [sp] (ts.map (prP d)))).length<=1000000000000) :
  Calls Tryz.prog 123 #[.pointer (some ⟨g,0,none⟩),.agg m.cells] w fun e w'=>e=.returned (.tuple #[])∧Pp w0 g nv d w v (out++rn ([wd [114,101,116,117,114,110]]++pBeh [sp] (ts.map (prP d)))) w':=by
 have HE:=hid hE;have HM:=hid hm;obtain⟨ks,hkn,hK,HK,hks,hmc,HMC,HCE,HNE,HR1,v1,HW1,HS1⟩:=NdP.pre hm h;have HD1:=hid hd1;have HRES:Hid (rn ([wd [114,101,116,117,114,110]]++pBeh [sp] (ts.map (prP d)))=fl [strU [114,101,116,117,114,110]]++(rn (pBeh [sp] (ts.map (prP d))))):=by
  show _=_
  first|rfl|(rw[zac];done) | (rw[zac];rfl) | (rw[zac,zac,List.append_assoc];done) | (rw[zac,zac,List.append_assoc];rfl)
 have HL:Hid (out.length+(fl [strU [114,101,116,117,114,110]]++(rn (pBeh [sp] (ts.map (prP d))))).length<=1000000000000):=by
  rw[HRES.out] at hl;exact hl
 clear h hm hK hkn hE hl hd1;rw[HCE.out];have HC1:=za6 [strU [114,101,116,117,114,110]] HW1.out (by have:=HL.out;(try simp only[List.length_append] at this);(try simp only[List.length_append]);omega) (by simp);simp only[World.size_alloc] at HC1
 go_enter Tryz.func123,Tryz.ntmps123
 go_wp2_with fail
 refine HC1.mono ?_;rintro e W2 ⟨rfl,hp⟩;obtain⟨hp2,hrr⟩:=HS1.out _ _ _ hp;have r2:=hrr _ _ _ _ HR1.out HNE.out (by decide);obtain⟨v2,w2,s2⟩:=hp2.step;have HR2:Hid _:=r2;have HW2:Hid _:=w2;have HS2:Hid _:=s2;obtain⟨cx20,cx21,cx22,cx23,cx24,cx25,cx26⟩:=cells7 r2;clear hp hp2 hrr r2 w2 s2 HC1;have HC2:=ze2 [sp] (strU [32]) rfl m.ks m.kc ks ts HK.out HW2.out (by have:=HD1.out;omega) (by have:=HL.out;(try simp only[List.length_append] at this);(try simp only[List.length_append]);omega)
 go_wp2_with fail
 refine HC2.mono ?_;rintro e W3 ⟨rfl,hp⟩;have HN:Hid (Pp w0 g nv d w v (out++rn ([wd [114,101,116,117,114,110]]++pBeh [sp] (ts.map (prP d)))) W3):=by
  have hq:=(HS2.out _ _ _ hp).1;show Pp _ _ _ _ _ _ _ _
  first
   | exact hq
   | (rw[HRES.out];first | exact hq | (simp only[<-List.append_assoc];exact hq))
 clear hp HC2
 go_wp2
 go_end0
 exact⟨rfl,HN.out⟩
theorem zni (hlen:1<=ts.length)(hE:EnW w0 nv L)(hm:NdP w0 g nv L m 17 x n ts)(h:Pw w0 g nv d w v out)(hd1:d+1+cntL ts<=100000)(hl:out.length+(rn ([.t (tkW 1 x),sp,sg [58,61],sp]++pOne (ts.map (prP d)))).length<=1000000000000) :
  Calls Tryz.prog 123 #[.pointer (some ⟨g,0,none⟩),.agg m.cells] w fun e w'=>e=.returned (.tuple #[])∧Pp w0 g nv d w v (out++rn ([.t (tkW 1 x),sp,sg [58,61],sp]++pOne (ts.map (prP d)))) w':=by
 have HE:=hid hE;have HM:=hid hm;obtain⟨ks,hkn,hK⟩:=hm.k;have HK:=hid hK;have hks:ks.length<=100000:=hK.s;have hmc:ks.length<=m.kc:=by have:=hm.c.1;omega
 have HMC:Hid (m.kc<=maxLen∧(m.ks=none->m.kc=0)):=hm.c.2;have HD1:=hid hd1;obtain⟨t0,tr,hts⟩:∃ t0 tr,ts=t0::tr:=by
  cases ts with
  | nil=>simp at hlen
  | cons a b=>exact⟨a,b,rfl⟩
 have ht0:ts[0]?=some t0:=by rw[hts];rfl
 obtain⟨k0,hk0⟩:∃ k0,ks[0]?=some k0:=⟨_,List.getElem?_eq_getElem (by rw[hK.l,hts];simp)⟩;have hpos:0<ks.length:=(List.getElem?_eq_some_iff.1 hk0).1;obtain⟨b,o,hks1,-⟩:=hK.r hpos;have HKC:Hid (∀ W v out,Pw w0 g nv d W v out->W.cell? ⟨b,o,none⟩=some (.int .i64 k0)):=fun W v out hW=>by
  have hrk:=hW.env hK.r;rw[hks1] at hrk;have:=za9 hrk 0 (by simpa using hpos);rw[List.getD_eq_getElem?_getD,List.getElem?_map,hk0] at this;simpa using this
 have HNC:Hid (NodP w0 g nv L t0):=hK.n t0 (List.mem_of_getElem? ht0);have HEM:Hid (Emb L k0 t0):=hK.e 0 k0 t0 hk0 ht0;have HDT:Hid (d+cntP t0<=100000):=by show _<=_;have:=zb8 ts 0 t0 ht0;omega
 have HONE:Hid (pOne (ts.map (prP d))=prP d t0):=by show _=_;rw[hts];rfl
 have HKS:=hid hks1;have hp0:decide ((0:Int)<ks.length)=true:=by simp;omega
 have HRES:Hid (rn ([.t (tkW 1 x),sp,sg [58,61],sp]++pOne (ts.map (prP d)))=fl [x,strU [32,58,61,32]]++(rn (prP d t0))):=by
  show _=_;rw[HONE.out]
  first|rfl|(rw[zac];done) | (rw[zac];rfl) | (rw[zac,zac,List.append_assoc];done) | (rw[zac,zac,List.append_assoc];rfl)
 have HL:Hid (out.length+(fl [x,strU [32,58,61,32]]++(rn (prP d t0))).length<=1000000000000):=by
  rw[HRES.out] at hl;exact hl
 have HCE:Hid (m.cells=#[.int .i64 17,.string x,.int .i64 n,.slice m.ks ks.length m.kc,.int .i64 m.a,.int .i64 m.f,.int .i64 m.t]):=by
  show m.cells=_;rw[<-hkn,<-hm.e.1,<-hm.e.2.1,<-hm.e.2.2];rfl
 have hB0:Below w.heap.size w (w.alloc (.cells m.cells 59)):=(Below.refl _ _).alloc (Nat.le_refl _) _;have hr0:=heap_alloc_new w (.cells m.cells 59);have HP0:Hid (Pp w0 g nv d w v out (w.alloc (.cells m.cells 59))):=Pp.pre hB0 (Pp.start (h.low hB0));have hne:w.heap.size≠g:=by have:=h.lt;omega
 have HNE:=hid hne;rw[HKS.out] at HCE;rw[HCE.out] at hr0 HP0;have HR1:Hid _:=hr0;obtain⟨v1,w1,s1⟩:=HP0.out.step;have HW1:Hid _:=w1;have HS1:Hid _:=s1;have ltb:=block_lt_of_cell (HKC.out _ _ _ h);clear h hm hK hkn hE hB0 hr0 hne w1 s1 hl hd1 HP0 hts ht0 hk0 hks1;rw[HCE.out];have HC1:=za6 [x,strU [32,58,61,32]] HW1.out (by have:=HL.out;(try simp only[List.length_append] at this);(try simp only[List.length_append]);omega) (by simp);simp only[World.size_alloc] at HC1
 go_enter Tryz.func123,Tryz.ntmps123
 go_wp2_with fail
 refine HC1.mono ?_;rintro e W2 ⟨rfl,hp⟩;obtain⟨hp2,hrr⟩:=HS1.out _ _ _ hp;have r2:=hrr _ _ _ _ HR1.out HNE.out (by decide);obtain⟨v2,w2,s2⟩:=hp2.step;have HR2:Hid _:=r2;have HW2:Hid _:=w2;have HS2:Hid _:=s2;obtain⟨cx20,cx21,cx22,cx23,cx24,cx25,cx26⟩:=cells7 r2;clear hp hp2 hrr r2 w2 s2 HC1;have kc2:=HKC.out _ _ _ HW2.out;have HC2:=HNC.out d k0 _ _ _ HEM.out HW2.out HDT.out (by have:=HL.out;(try simp only[List.length_append] at this);(try simp only[List.length_append]);omega)
 go_wp2_with fail
 refine HC2.mono ?_;rintro e W3 ⟨rfl,hp⟩;have HN:Hid (Pp w0 g nv d w v (out++rn ([.t (tkW 1 x),sp,sg [58,61],sp]++pOne (ts.map (prP d)))) W3):=by
  have hq:=(HS2.out _ _ _ hp).1;show Pp _ _ _ _ _ _ _ _
  first
   | exact hq
   | (rw[HRES.out];first | exact hq | (simp only[<-List.append_assoc];exact hq))
 clear hp HC2
 go_wp2
 go_end0
 exact⟨rfl,HN.out⟩
theorem zme (hE:EnW w0 nv L)(hm:NdP w0 g nv L m 18 x n ts)(h:Pw w0 g nv d w v out)(hd1:d+1+cntL ts<=100000)(hl:out.length+(rn (pPar [sp,sg [61],sp] (ts.map (prP d)))).length<=1000000000000) :
  Calls Tryz.prog 123 #[.pointer (some ⟨g,0,none⟩),.agg m.cells] w fun e w'=>e=.returned (.tuple #[])∧Pp w0 g nv d w v (out++rn (pPar [sp,sg [61],sp] (ts.map (prP d)))) w':=by
 have HE:=hid hE;have HM:=hid hm;obtain⟨ks,hkn,hK,HK,hks,hmc,HMC,HCE,HNE,HR1,v1,HW1,HS1⟩:=NdP.pre hm h;have HD1:=hid hd1;have HRES:Hid (rn (pPar [sp,sg [61],sp] (ts.map (prP d)))=rn (pPar [sp,sg [61],sp] (ts.map (prP d)))):=by
  show _=_
  first|rfl|(rw[zac];done) | (rw[zac];rfl) | (rw[zac,zac,List.append_assoc];done) | (rw[zac,zac,List.append_assoc];rfl)
 have HL:Hid (out.length+(rn (pPar [sp,sg [61],sp] (ts.map (prP d)))).length<=1000000000000):=by
  rw[HRES.out] at hl;exact hl
 clear h hm hK hkn hE hl hd1;rw[HCE.out];have HC1:=zeb [sp,sg [61],sp] (strU [32,61,32]) rfl m.ks m.kc ks ts HK.out HW1.out (by have:=HD1.out;omega) (by have:=HL.out;(try simp only[List.length_append] at this);(try simp only[List.length_append]);omega)
 go_enter Tryz.func123,Tryz.ntmps123
 go_wp2_with fail
 refine HC1.mono ?_;rintro e W2 ⟨rfl,hp⟩;have HN:Hid (Pp w0 g nv d w v (out++rn (pPar [sp,sg [61],sp] (ts.map (prP d)))) W2):=by
  have hq:=(HS1.out _ _ _ hp).1;show Pp _ _ _ _ _ _ _ _
  first
   | exact hq
   | (rw[HRES.out];first | exact hq | (simp only[<-List.append_assoc];exact hq))
 clear hp HC1
 go_wp2
 go_end0
 exact⟨rfl,HN.out⟩
theorem zqv (hlen:1<=ts.length)(hE:EnW w0 nv L)(hm:NdP w0 g nv L m 19 x n ts)(h:Pw w0 g nv d w v out)(hd1:d+1+cntL ts<=100000)(hl:out.length+(rn (pOne (ts.map (prP d)))).length<=1000000000000) :
  Calls Tryz.prog 123 #[.pointer (some ⟨g,0,none⟩),.agg m.cells] w fun e w'=>e=.returned (.tuple #[])∧Pp w0 g nv d w v (out++rn (pOne (ts.map (prP d)))) w':=by
 have HE:=hid hE;have HM:=hid hm;obtain⟨ks,hkn,hK⟩:=hm.k;have HK:=hid hK;have hks:ks.length<=100000:=hK.s;have hmc:ks.length<=m.kc:=by have:=hm.c.1;omega
 have HMC:Hid (m.kc<=maxLen∧(m.ks=none->m.kc=0)):=hm.c.2;have HD1:=hid hd1;obtain⟨t0,tr,hts⟩:∃ t0 tr,ts=t0::tr:=by
  cases ts with
  | nil=>simp at hlen
  | cons a b=>exact⟨a,b,rfl⟩
 have ht0:ts[0]?=some t0:=by rw[hts];rfl
 obtain⟨k0,hk0⟩:∃ k0,ks[0]?=some k0:=⟨_,List.getElem?_eq_getElem (by rw[hK.l,hts];simp)⟩;have hpos:0<ks.length:=(List.getElem?_eq_some_iff.1 hk0).1;obtain⟨b,o,hks1,-⟩:=hK.r hpos;have HKC:Hid (∀ W v out,Pw w0 g nv d W v out->W.cell? ⟨b,o,none⟩=some (.int .i64 k0)):=fun W v out hW=>by
  have hrk:=hW.env hK.r;rw[hks1] at hrk;have:=za9 hrk 0 (by simpa using hpos);rw[List.getD_eq_getElem?_getD,List.getElem?_map,hk0] at this;simpa using this
 have HNC:Hid (NodP w0 g nv L t0):=hK.n t0 (List.mem_of_getElem? ht0);have HEM:Hid (Emb L k0 t0):=hK.e 0 k0 t0 hk0 ht0;have HDT:Hid (d+cntP t0<=100000):=by show _<=_;have:=zb8 ts 0 t0 ht0;omega
 have HONE:Hid (pOne (ts.map (prP d))=prP d t0):=by show _=_;rw[hts];rfl
 have HKS:=hid hks1;have hp0:decide ((0:Int)<ks.length)=true:=by simp;omega
 have HRES:Hid (rn (pOne (ts.map (prP d)))=rn (prP d t0)):=by
  show _=_;rw[HONE.out]
 have HL:Hid (out.length+(rn (prP d t0)).length<=1000000000000):=by
  rw[HRES.out] at hl;exact hl
 have HCE:Hid (m.cells=#[.int .i64 19,.string x,.int .i64 n,.slice m.ks ks.length m.kc,.int .i64 m.a,.int .i64 m.f,.int .i64 m.t]):=by
  show m.cells=_;rw[<-hkn,<-hm.e.1,<-hm.e.2.1,<-hm.e.2.2];rfl
 have hB0:Below w.heap.size w (w.alloc (.cells m.cells 59)):=(Below.refl _ _).alloc (Nat.le_refl _) _;have hr0:=heap_alloc_new w (.cells m.cells 59);have HP0:Hid (Pp w0 g nv d w v out (w.alloc (.cells m.cells 59))):=Pp.pre hB0 (Pp.start (h.low hB0));have hne:w.heap.size≠g:=by have:=h.lt;omega
 have HNE:=hid hne;rw[HKS.out] at HCE;rw[HCE.out] at hr0 HP0;have HR1:Hid _:=hr0;obtain⟨v1,w1,s1⟩:=HP0.out.step;have HW1:Hid _:=w1;have HS1:Hid _:=s1;have ltb:=block_lt_of_cell (HKC.out _ _ _ h);clear h hm hK hkn hE hB0 hr0 hne w1 s1 hl hd1 HP0 hts ht0 hk0 hks1;rw[HCE.out];have kc1:=HKC.out _ _ _ HW1.out;have HC1:=HNC.out d k0 _ _ _ HEM.out HW1.out HDT.out (by have:=HL.out;(try simp only[List.length_append] at this);(try simp only[List.length_append]);omega)
 go_enter Tryz.func123,Tryz.ntmps123
 go_wp2_with fail
 refine HC1.mono ?_;rintro e W2 ⟨rfl,hp⟩;have HN:Hid (Pp w0 g nv d w v (out++rn (pOne (ts.map (prP d)))) W2):=by
  have hq:=(HS1.out _ _ _ hp).1;show Pp _ _ _ _ _ _ _ _
  first
   | exact hq
   | (rw[HRES.out];first | exact hq | (simp only[<-List.append_assoc];exact hq))
 clear hp HC1
 go_wp2
 go_end0
 exact⟨rfl,HN.out⟩
theorem zil {k:Int}(hP:TabP w0)(hx:x.size<=100000)(hn:-9223372036854775808<=n∧n<=9223372036854775807)(hnd:ndK k<=ts.length)(n13:(k == 13)=false)(n14:(k == 14)=false)(n15:(k == 15)=false)(n16:(k == 16)=false)(n17:(k == 17)=false)(n18:(k == 18)=false)(n19:(k == 19)=false)(hE:EnW w0 nv L)(hm:NdP w0 g nv L m k x n ts)(h:Pw w0 g nv d w v out)(hd1:d+1+cntL ts<=100000)(hl:out.length+(rn (prX k x n (ts.map hdP) (ts.map (prP d)))).length<=1000000000000) :
  Calls Tryz.prog 123 #[.pointer (some ⟨g,0,none⟩),.agg m.cells] w fun e w'=>e=.returned (.tuple #[])∧Pp w0 g nv d w v (out++rn (prX k x n (ts.map hdP) (ts.map (prP d)))) w':=by
 have HE:=hid hE;have HM:=hid hm;obtain⟨ks,hkn,hK,HK,hks,hmc,HMC,HCE,HNE,HR1,v1,HW1,HS1⟩:=NdP.pre hm h;have HD1:=hid hd1;have HL:=hid hl;have HRES:Hid (rn (prX k x n (ts.map hdP) (ts.map (prP d)))=rn (prX k x n (ts.map hdP) (ts.map (prP d)))):=rfl;clear h hm hK hkn hE hl hd1;have HP:=hid hP;have HXS:=hid hx;have HNB:=hid hn;have HND:=hid hnd;clear hP hx hn hnd;rw[HCE.out];have HC1:=zvf HP.out HXS.out HNB.out HND.out HE.out HM.out HW1.out HD1.out HL.out;rw[HCE.out] at HC1
 go_enter Tryz.func123,Tryz.ntmps123
 go_wp2_with fail
 refine HC1.mono ?_;rintro e W2 ⟨rfl,hp⟩;have HN:Hid (Pp w0 g nv d w v (out++rn (prX k x n (ts.map hdP) (ts.map (prP d)))) W2):=by
  have hq:=(HS1.out _ _ _ hp).1;show Pp _ _ _ _ _ _ _ _
  first
   | exact hq
   | (rw[HRES.out];first | exact hq | (simp only[<-List.append_assoc];exact hq))
 clear hp HC1
 go_wp2
 go_end0
 exact⟨rfl,HN.out⟩
def osP (k:Int) (d:Nat) (ts:List Pt):List (List Pe):=ts.map (prP (kdD k d))
theorem z42 {k:Int}{d:Nat}{ts:List Pt}(h:¬ (k=13∨k=5)):osP k d ts=ts.map (prP d):=by unfold osP kdD;rw[if_neg h]
theorem zvh {k:Int}(hP:TabP w0)(hx:x.size<=100000)(hn:-9223372036854775808<=n∧n<=9223372036854775807)(hnd:ndK k<=ts.length)(hE:EnW w0 nv L)(hm:NdP w0 g nv L m k x n ts)(h:Pw w0 g nv d w v out)(hd1:d+1+cntL ts<=100000)(hl:out.length+(rn (prS d k x n (ts.map hdP) (osP k d ts))).length<=1000000000000) :
  Calls Tryz.prog 123 #[.pointer (some ⟨g,0,none⟩),.agg m.cells] w fun e w'=>e=.returned (.tuple #[])∧Pp w0 g nv d w v (out++rn (prS d k x n (ts.map hdP) (osP k d ts))) w':=by
 unfold prS at hl ⊢
 by_cases h13:k=13
 ·subst h13;exact znh hE hm h hd1 hl
 rw[if_neg h13] at hl ⊢
 by_cases h14:k=14
 ·subst h14;rw[if_pos rfl,z42 (by omega),<-List.map_take,<-List.map_drop] at hl ⊢;exact zxz hnd hE hm h hd1 hl
 rw[if_neg h14] at hl ⊢
 by_cases h15:k=15
 ·subst h15;exact zvg hE hm h hd1 hl
 rw[if_neg h15] at hl ⊢
 by_cases h16:k=16
 ·subst h16;exact zmd hE hm h hd1 hl
 rw[if_neg h16] at hl ⊢
 by_cases h17:k=17
 ·subst h17;exact zni hnd hE hm h hd1 hl
 rw[if_neg h17] at hl ⊢
 by_cases h18:k=18
 ·subst h18;exact zme hE hm h hd1 hl
 rw[if_neg h18] at hl ⊢
 by_cases h19:k=19
 ·subst h19;exact zqv hnd hE hm h hd1 hl
 rw[if_neg h19] at hl ⊢
 by_cases h5:k=5
 ·subst h5;have e:prX 5 x n (ts.map hdP) (osP 5 d ts)=prX 5 x n (ts.map hdP) (ts.map (prP d)):=rfl;rw[e] at hl ⊢;exact zil hP hx hn hnd (by decide) (by decide) (by decide) (by decide) (by decide) (by decide) (by decide) hE hm h hd1 hl
 rw[z42 (by omega)] at hl ⊢;exact zil hP hx hn hnd (by simpa using h13) (by simpa using h14) (by simpa using h15) (by simpa using h16) (by simpa using h17) (by simpa using h18) (by simpa using h19) hE hm h hd1 hl
end
end Go.Proofs.YtabiangdmibocaaGreatDoor
