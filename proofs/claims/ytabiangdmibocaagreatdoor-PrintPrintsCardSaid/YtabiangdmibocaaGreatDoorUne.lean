import Derived.Test.YtabiangdmibocaaGreatDoorUnW
import Derived.Test.YtabiangdmibocaaGreatDoorUnd
import Derived.Test.YtabiangdmibocaaGreatDoorUnb
import Derived.Test.YtabiangdmibocaaGreatDoorUnU
import Derived.Test.YtabiangdmibocaaGreatDoorUna
namespace Go.Proofs.YtabiangdmibocaaGreatDoor
set_option maxRecDepth 100000
set_option maxHeartbeats 4000000
open Go.RowKit
theorem TrP.w {t:Pt}(h:TrP t):TrW t:=by
 have ha:=z3z t h.o;refine⟨by rw[<-zbt t 0];exact h.n,h.d,z1b t h.o,?_,fun u hu=>?_,?_⟩
 ·rw[List.any_eq_false];intro u hu;rw[(ha u hu).1];simp
 ·have:=ha u hu;rw[this.2.2];exact⟨by decide,by decide,by have:=this.2.1;omega⟩
 ·obtain⟨t',e1,e2⟩:=zto h.f (wrP t) (z1t _) rfl;refine⟨t',_,e1,?_⟩;have:=zs5 t t' 0 e2;rw[zc2 (zdq this)] at this;rw[zc2 (by have:=zdq (zs5 t t' 0 e2);omega)];intro i a b ha hb;have:=this i b a hb ha;unfold ndEq at this ⊢;simp only[Bool.and_eq_true,beq_iff_eq] at this ⊢;exact⟨⟨⟨this.1.1.1.symm,this.1.1.2.symm⟩,this.1.2.symm⟩,this.2.symm⟩
theorem zkv (t:Pt):Emb (layP 0 t) 0 t:=fun j d hd=>by rw[Nat.zero_add];exact hd
theorem znq {w:World}{sn:Option Addr}{cn:Nat}{t:Pt}(h:TrP t)(hP:TabP w)(hE:EnW w (.slice sn (layP 0 t).length cn) (layP 0 t)) :
  Calls Tryz.prog 24 #[.agg #[.slice sn (layP 0 t).length cn]] w fun e w'=>e=.returned (.tuple #[.string (strU (prnO t).1),.int .i64 (prnO t).2])∧Below w.heap.size w w':=by
 have HTX:Hid (∀ W,Below w.heap.size w W->Calls Tryz.prog 47 #[.agg #[.slice sn (layP 0 t).length cn],.int .i64 0] W fun e w'=>e=.returned (.string (strU (rn (prP 0 t))))∧Below W.heap.size W w'):=fun W hb=>
  zgy (w:=W) (L:=layP 0 t) 0 t (hP.low hb) (hE.low hb) (zkv t) h.ar (by have:=h.len.2;omega) h.len.1 h.ne
 have HTW:Hid (TrW t):=h.w;have HE:=hid hE;have HP:=hid hP;have HPR:Hid (prnO t=if 1024<(wrP t).length then([],3) else if 4096<(rn (prP 0 t)).length then([],3) else(rn (prP 0 t),0)):=rfl;generalize prnO t=pr at HPR ⊢
 by_cases hl:(wrP t).length<=1024
 rotate_left
 ·have HTL:=zec (w:=w.alloc (.cells #[.slice sn (layP 0 t).length cn] 25)) (TabP.low HP.out ((Below.refl _ _).alloc (Nat.le_refl _) _)) (HE.out.low ((Below.refl _ _).alloc (Nat.le_refl _) _)) HTW.out (by omega);have hb0:Below w.heap.size w (w.alloc (.cells #[.slice sn (layP 0 t).length cn] 25)):=(Below.refl _ _).alloc (Nat.le_refl _) _;have HB0:Hid _:=hb0;clear hb0;have HQ:Hid (pr=([],3)):=by show _=_;rw[HPR.out,if_pos (by omega)]
  clear h hP hE hl;generalize (layP 0 t).length=nl at *;rw[HQ.out]
  go_enter Tryz.func24,Tryz.ntmps24
  go_wp2_with fail
  refine HTL.mono ?_;rintro e W ⟨rfl,hb⟩;have HB:=hid (HB0.out.trans (hb.mono HB0.out.size));clear hb HTL
  go_wp2
  go_ret2
  exact⟨rfl,HB.out⟩
 ·have HTL:=zd5 (w:=w.alloc (.cells #[.slice sn (layP 0 t).length cn] 25)) (TabP.low HP.out ((Below.refl _ _).alloc (Nat.le_refl _) _)) (HE.out.low ((Below.refl _ _).alloc (Nat.le_refl _) _)) HTW.out hl;have hb0:Below w.heap.size w (w.alloc (.cells #[.slice sn (layP 0 t).length cn] 25)):=(Below.refl _ _).alloc (Nat.le_refl _) _;have HB0:Hid _:=hb0;have HR0:Hid _:=heap_alloc_new w (.cells #[.slice sn (layP 0 t).length cn] 25);clear hb0;have HQ:Hid (pr=if 4096<(rn (prP 0 t)).length then([],3) else(rn (prP 0 t),0)):=by show _=_;rw[HPR.out,if_neg (by omega)]
  have hsz:(rn (prP 0 t)).length<=1000000000000:=h.len.1;clear h hP hE hl HTW HE HP;generalize (layP 0 t).length=nl at *;generalize hR:rn (prP 0 t)=R at *;have hRs:(strU R).size=R.length:=zad R;have HRS:Hid _:=hRs;generalize hSR:strU R=SR at *;have HSR:Hid _:=hSR;clear hSR hRs hR
  go_enter Tryz.func24,Tryz.ntmps24
  go_wp2_with fail
  refine HTL.mono ?_;rintro e W ⟨v',rfl,-,hb⟩;have hbW:Below w.heap.size w W:=HB0.out.trans (hb.mono HB0.out.size);have r1:W.heap[w.heap.size]?=some (.cells #[.slice sn nl cn] 25 (0,0)):=(hb.block _ (zab HR0.out)).trans HR0.out;have c1:W.cell? ⟨w.heap.size,0,none⟩=some (.slice sn nl cn):=(cell_of_row _ _ 0 _ _ _ r1).trans rfl;have HC:=HTX.out W hbW;have HBW:Hid _:=hbW;clear hb hbW r1 HTL
  go_wp2_with fail
  refine HC.mono ?_;rintro e W2 ⟨rfl,hb⟩;have HB2:=hid (HBW.out.trans (hb.mono HBW.out.size));clear hb HC
  cases hz:decide (4096<R.length)
  ·have hz':decide ((4096:Int)<(SR.size:Int))=false:=by rw[HRS.out];simp at hz ⊢;omega
   have HQ2:Hid (pr=(R,0)):=by show _=_;rw[HQ.out,if_neg (by simpa using hz)]
   clear hz
   go_wp2
   go_ret2
   exact⟨by rw[HQ2.out];show _=Ending.returned (.tuple #[.string (strU R),_]);rw[HSR.out];rfl,HB2.out⟩
  ·have hz':decide ((4096:Int)<(SR.size:Int))=true:=by rw[HRS.out];simp at hz ⊢;omega
   have HQ2:Hid (pr=([],3)):=by show _=_;rw[HQ.out,if_pos (by simpa using hz)]
   clear hz
   go_wp2
   go_ret2
   exact⟨by rw[HQ2.out];rfl,HB2.out⟩
theorem zpg {w W:World}{a b e p:Int}(hb:Below w.heap.size w W)(hr:W.heap[w.heap.size]?=some (.cells #[.int .i64 a,.int .i64 b] 28 (0,0))) :
  Below w.heap.size w ((W.setCell ⟨w.heap.size,0,none⟩ (.int .i64 e)).setCell ⟨w.heap.size,1,none⟩ (.int .i64 p))∧((W.setCell ⟨w.heap.size,0,none⟩ (.int .i64 e)).setCell ⟨w.heap.size,1,none⟩ (.int .i64 p)).heap[w.heap.size]?=some (.cells #[.int .i64 e,.int .i64 p] 28 (0,0)):=by
 have r1:(W.setCell ⟨w.heap.size,0,none⟩ (.int .i64 e)).heap[w.heap.size]?=some (.cells #[.int .i64 e,.int .i64 b] 28 (0,0)):=heap_setCell_same _ _ 0 _ _ _ hr;have r2:((W.setCell ⟨w.heap.size,0,none⟩ (.int .i64 e)).setCell ⟨w.heap.size,1,none⟩ (.int .i64 p)).heap[w.heap.size]?=some (.cells #[.int .i64 e,.int .i64 p] 28 (0,0)):=heap_setCell_same _ _ 1 _ _ _ r1;exact⟨(hb.setCell (p:=⟨w.heap.size,0,none⟩) (Nat.le_refl _) _).setCell (p:=⟨w.heap.size,1,none⟩) (Nat.le_refl _) _,r2⟩
theorem zkw (s:ByteArray)(w:World)(hT:Tabl w)(hP:TabP w):Calls Tryz.prog 29 #[.string s] w fun e w'=>e=.returned (.tuple #[.string (strU (fmO s.data.toList).1),.agg #[.int .i64 (fmO s.data.toList).2.1,.int .i64 (fmO s.data.toList).2.2]])∧Below w.heap.size w w':=by
 have HT:Hid (∀ W,Below w.heap.size w W->Tabl W):=fun W hb=>zbj hb.block hT;have HP:Hid (∀ W,Below w.heap.size w W->TabP W):=fun W hb=>hP.low hb;have HF:Hid (fmO s.data.toList=match txtO s.data.toList with | .inl p=>([],p.1,p.2) | .inr t=>((prnO t).1,(prnO t).2,0)):=rfl;have hb0:Below w.heap.size w (w.alloc (.cells #[.int .i64 0,.int .i64 0] 28)):=(Below.refl _ _).alloc (Nat.le_refl _) _;have HB0:Hid _:=hb0;have HR0:Hid _:=heap_alloc_new w (.cells #[.int .i64 0,.int .i64 0] 28);have HC:=zof (w.alloc (.cells #[.int .i64 0,.int .i64 0] 28)) s (HT.out _ hb0);clear hT hP hb0;generalize fmO s.data.toList=F at HF ⊢
 go_enter Tryz.func29,Tryz.ntmps29
 go_wp2_with fail
 refine HC.mono ?_;rintro e W2 h2;obtain⟨b2,v2,rfl,t2⟩:=zye h2;obtain⟨s2,c2,rfl⟩:=t2.shape;have HB2:=hid (HB0.out.trans (b2.mono HB0.out.size));have HR2:Hid (W2.heap[w.heap.size]?=some (.cells #[.int .i64 0,.int .i64 0] 28 (0,0))):=(b2.block _ (zab HR0.out)).trans HR0.out;have T2:Hid (TrAt (w.alloc (.cells #[.int .i64 0,.int .i64 0] 28)).heap.size W2 (.slice s2 (trO (txtO s.data.toList)).length c2) (trO (txtO s.data.toList))):=t2;clear h2 b2 t2 HC HB0 HR0
 cases ht:txtO s.data.toList with
 | inl p=>
  have hne:=(zuf ht).1;have HF2:Hid (F=([],p.1,p.2)):=by show _=_;rw[HF.out,ht]
  clear T2 HF ht;obtain⟨er,pe⟩:=p;have z4:(er == 0)=false:=by simpa using hne
  have z5:(er != 0)=true:=by simp[bne,z4]
  simp only[spO,trO];clear hne;have hlt:=zab HR2.out
  go_wp2
  refine zdd (fun W=>Below w.heap.size w W∧W.heap[w.heap.size]?=some (.cells #[.int .i64 0,.int .i64 0] 28 (0,0))∧W.heap[W2.heap.size+1]?=some (.cells #[.int .i64 er,.int .i64 pe] 28 (0,0))) ?_ ?_
  ·have n1:=heap_alloc_new (W2.alloc (.cells #[.slice s2 0 c2] 25)) (.cells #[.int .i64 er,.int .i64 pe] 28);simp only[World.size_alloc] at n1;have hb3:Below W2.heap.size W2 ((W2.alloc (.cells #[.slice s2 0 c2] 25)).alloc (.cells #[.int .i64 er,.int .i64 pe] 28)):=((Below.refl _ _).alloc (Nat.le_refl _) _).alloc (by simp) _;exact⟨HB2.out.trans (hb3.mono HB2.out.size),(hb3.block _ hlt).trans HR2.out,n1⟩
  rintro W3 ⟨b3,r3,q3⟩;have d0:W3.cell? ⟨W2.heap.size+1,0,none⟩=some (.int .i64 er):=(cell_of_row _ _ 0 _ _ _ q3).trans rfl;have d1:W3.cell? ⟨W2.heap.size+1,1,none⟩=some (.int .i64 pe):=(cell_of_row _ _ 1 _ _ _ q3).trans rfl;have e0:W3.cell? ⟨w.heap.size,0,none⟩=some (.int .i64 0):=(cell_of_row _ _ 0 _ _ _ r3).trans rfl;have e1:W3.cell? ⟨w.heap.size,1,none⟩=some (.int .i64 0):=(cell_of_row _ _ 1 _ _ _ r3).trans rfl;have f0:W3.frozen? ⟨w.heap.size,0,none⟩=false:=frozen_of_row _ _ _ _ _ r3;have f1:W3.frozen? ⟨w.heap.size,1,none⟩=false:=frozen_of_row _ _ _ _ _ r3;have HDN:Hid _:=zpg (e:=er) (p:=pe) b3 r3;clear b3 r3 q3
  go_region
  all_goals go_wp2
  all_goals (generalize ((W3.setCell ⟨w.heap.size,0,none⟩ (.int .i64 er)).setCell ⟨w.heap.size,1,none⟩ (.int .i64 pe))=Y at HDN ⊢)
  all_goals (exact bodyPost_ret (zc7 Tryz.results29 _ Y.drew w.heap.size 28 _ (0,0) _ _ rfl rfl HDN.out.2 Tryz.underlying28 rfl (by kernel_rfl)) rfl (by rw[HF2.out];exact⟨rfl,HDN.out.1.drew⟩))
 | inr t=>
  have HF2:Hid (F=((prnO t).1,(prnO t).2,0)):=by show _=_;rw[HF.out,ht]
  have htp:=zum ht;have T3:Hid (TrAt (w.alloc (.cells #[.int .i64 0,.int .i64 0] 28)).heap.size W2 (.slice s2 (layP 0 t).length c2) (layP 0 t)):=by have:=T2.out;rw[ht] at this;exact this
  have HE:Hid (∀ W,Below W2.heap.size W2 W->EnW W (.slice s2 (layP 0 t).length c2) (layP 0 t)):=fun W hb=>TrAt.env (T3.out.below hb) (HT.out W (HB2.out.trans (hb.mono HB2.out.size))) (by have:=htp.n;omega);have HPW:Hid (∀ W,Below W2.heap.size W2 W->TabP W):=fun W hb=>HP.out W (HB2.out.trans (hb.mono HB2.out.size));have HPR:Hid (∀ W,Below W2.heap.size W2 W->Calls Tryz.prog 24 #[.agg #[.slice s2 (layP 0 t).length c2]] W fun e w'=>e=.returned (.tuple #[.string (strU (prnO t).1),.int .i64 (prnO t).2])∧Below W.heap.size W w'):=fun W hb=>znq htp (HPW.out W hb) (HE.out W hb);clear T2 T3 HE HPW HF ht htp;simp only[spO,trO];generalize (layP 0 t).length=nl at *;generalize prnO t=pr at *;obtain⟨ps,pe⟩:=pr;have hlt:=zab HR2.out
  go_wp2_with fail
  have hb3:Below W2.heap.size W2 ((W2.alloc (.cells #[.slice s2 nl c2] 25)).alloc (.cells #[.int .i64 0,.int .i64 0] 28)):=((Below.refl _ _).alloc (Nat.le_refl _) _).alloc (by simp) _;refine(HPR.out _ hb3).mono ?_;rintro e W3 ⟨rfl,b4⟩;have b5:Below W2.heap.size W2 W3:=hb3.trans (b4.mono hb3.size);have b6:Below w.heap.size w W3:=HB2.out.trans (b5.mono HB2.out.size);have r6:W3.heap[w.heap.size]?=some (.cells #[.int .i64 0,.int .i64 0] 28 (0,0)):=(b5.block _ hlt).trans HR2.out;have e0:W3.cell? ⟨w.heap.size,0,none⟩=some (.int .i64 0):=(cell_of_row _ _ 0 _ _ _ r6).trans rfl;have e1:W3.cell? ⟨w.heap.size,1,none⟩=some (.int .i64 0):=(cell_of_row _ _ 1 _ _ _ r6).trans rfl;have f0:W3.frozen? ⟨w.heap.size,0,none⟩=false:=frozen_of_row _ _ _ _ _ r6;have f1:W3.frozen? ⟨w.heap.size,1,none⟩=false:=frozen_of_row _ _ _ _ _ r6;have HDN:Hid _:=zpg (e:=pe) (p:=0) b6 r6;clear hb3 b4 b5 b6 r6 HPR
  go_wp2
  generalize ((W3.setCell ⟨w.heap.size,0,none⟩ (.int .i64 pe)).setCell ⟨w.heap.size,1,none⟩ (.int .i64 0))=Y at HDN ⊢;exact bodyPost_ret (zc7 Tryz.results29 _ Y w.heap.size 28 _ (0,0) _ _ rfl rfl HDN.out.2 Tryz.underlying28 rfl (by kernel_rfl)) rfl (by rw[HF2.out];exact⟨rfl,HDN.out.1⟩)
theorem zgz (s:ByteArray)(w:World)(hT:Tabl w)(hP:TabP w):Calls Tryz.prog 30 #[.string s] w fun e w'=>e=.returned (.bool (fdB s.data.toList))∧Below w.heap.size w w':=by
 have HC:=zkw s w hT hP;have HX:Hid (fdB s.data.toList=(((fmO s.data.toList).2.1 == 0) && ((strU (fmO s.data.toList).1).toList == s.toList))):=by
  show _=_;unfold fdB;rw[zcw,ByteArray.toList_eq]
 generalize fmO s.data.toList=F at *;generalize fdB s.data.toList=B at *;obtain⟨fs,fe1,fp⟩:=F;generalize strU fs=S at *;clear hT hP
 go_enter Tryz.func30,Tryz.ntmps30
 go_wp2_with fail
 refine HC.mono ?_;rintro e W ⟨rfl,hb⟩;have HB:Hid (Below w.heap.size w (W.alloc (.cells #[.int .i64 fe1,.int .i64 fp] 28))):=hb.alloc hb.size _;clear hb HC
 cases z1:(fe1 == 0)
 ·rw[z1] at HX
  go_wp2
  go_ret
  exact⟨zal (by rw[HX.out];rfl),HB.out⟩
 ·rw[z1] at HX
  go_wp2
  go_ret
  exact⟨zal (by rw[HX.out];simp),HB.out⟩
def wkPa:List UInt8:=[112,97,99,107,97,103,101,32,97,59,102,117,110,99,32,102,40,120,32,105,110,116,41,105,110,116,123,114,101,116,117,114,110,32,40,120,41,43,49,125]
def wkPb:List UInt8:=[112,97,99,107,97,103,101,32,97,10,10,102,117,110,99,32,102,40,120,32,105,110,116,41,32,105,110,116,32,123,10,9,114,101,116,117,114,110,32,120,32,43,32,49,10,125,10]
def wkPc:List UInt8:=[112,97,99,107,97,103,101,32,97,59]
theorem z2c:fmO wkPa=(wkPb,0,0):=by kernel_rfl
theorem z57:fdB wkPb=true:=by kernel_rfl
theorem z58:fdB wkPc=false:=by kernel_rfl
theorem zim (w:World)(hT:Tabl w)(hP:TabP w):Calls Tryz.prog 22 #[] w fun e w'=>e=.returned (.bool true)∧Below w.heap.size w w':=by
 have HT:Hid (∀ W,Below w.heap.size w W->Tabl W):=fun W hb=>zbj hb.block hT;have HP:Hid (∀ W,Below w.heap.size w W->TabP W):=fun W hb=>hP.low hb;have HC:Calls Tryz.prog 29 #[.string (strU wkPa)] w fun e w'=>e=.returned (.tuple #[.string (strU wkPb),.agg #[.int .i64 0,.int .i64 0]])∧Below w.heap.size w w':=by
  have:=zkw (strU wkPa) w hT hP;rw[zds,z2c] at this;exact this
 have HB1:Hid (∀ W,Below w.heap.size w W->Calls Tryz.prog 30 #[.string (strU wkPb)] W fun e w'=>e=.returned (.bool true)∧Below W.heap.size W w'):=fun W hb=>by
  have:=zgz (strU wkPb) W (HT.out W hb) (HP.out W hb);rw[zds,z57] at this;exact this
 have HC1:Hid (∀ W,Below w.heap.size w W->Calls Tryz.prog 30 #[.string (strU wkPc)] W fun e w'=>e=.returned (.bool false)∧Below W.heap.size W w'):=fun W hb=>by
  have:=zgz (strU wkPc) W (HT.out W hb) (HP.out W hb);rw[zds,z58] at this;exact this
 clear hT hP
 go_enter Tryz.func22,Tryz.ntmps22
 go_wp2_with fail
 refine HC.mono ?_;rintro e W ⟨rfl,hb⟩;have hsw:(strU wkPb).toList=[112,97,99,107,97,103,101,32,97,10,10,102,117,110,99,32,102,40,120,32,105,110,116,41,32,105,110,116,32,123,10,9,114,101,116,117,114,110,32,120,32,43,32,49,10,125,10]:=zcw _;have HW:=hid hb;clear hb HC;have HW2:Hid (Below w.heap.size w (W.alloc (.cells #[.int .i64 0,.int .i64 0] 28))):=HW.out.alloc HW.out.size _
 go_wp2_with fail
 refine(HB1.out _ HW2.out).mono ?_;rintro e W3 ⟨rfl,hb⟩;have HW3:=hid (HW2.out.trans (hb.mono HW2.out.size));clear hb
 go_wp2_with fail
 refine(HC1.out _ HW3.out).mono ?_;rintro e W4 ⟨rfl,hb⟩;have HW4:=hid (HW3.out.trans (hb.mono HW3.out.size));clear hb
 go_wp2
 go_ret
 exact⟨rfl,HW4.out⟩
theorem zin {α:Type}{eq:α->α->Bool}:∀ {a c b d:List α},a.length=c.length->eqAll eq (a++b) (c++d)=true->eqAll eq a c=true∧eqAll eq b d=true
 | [],[],b,d,_,h=>⟨rfl,h⟩
 | [],_::_,_,_,h,_=>by simp at h
 | _::_,[],_,_,h,_=>by simp at h
 | x::a,y::c,b,d,hl,h=>by
  rw[List.cons_append,List.cons_append,eqAll,Bool.and_eq_true] at h;have:=zin (by simpa using hl) h.2;exact⟨by rw[eqAll,Bool.and_eq_true];exact⟨h.1,this.1⟩,this.2⟩
theorem z59 {a b:Nd}(h:ndEq a b=true):a.kind=b.kind∧a.text=b.text∧a.num=b.num∧a.kids=b.kids:=by
 unfold ndEq at h;simp only[Bool.and_eq_true,beq_iff_eq] at h;refine⟨h.1.1.1,?_,h.1.2,h.2⟩;have:=h.1.1.2
 first|exact this|(rw[ByteArray.toList_eq,ByteArray.toList_eq] at this;exact ByteArray.ext (Array.toList_inj.1 this))
mutual
theorem zzq:∀ (t t':Pt)(i:Nat),eqAll ndEq (layP i t) (layP i t')=true->smP t t'
 | .mk k x n a f e l,.mk k' x' n' a' f' e' l',i,h=>by
  rw[layP,layP,eqAll,Bool.and_eq_true] at h;obtain⟨h1,h2,h3,h4⟩:=z59 h.1;have e1:k=k':=h1;have e2:x=x':=h2;have e3:n=n':=h3;subst e1 e2 e3;exact zbk (zvk l l' (i+1) h4 h.2)
theorem zvk:∀ (l l':List Pt)(i:Nat),kidI i l=kidI i l'->eqAll ndEq (layL i l) (layL i l')=true->smL l l'
 | [],[],_,_,_=>zbw
 | [],_::_,_,h,_=>by rw[kidI,kidI] at h;cases h
 | _::_,[],_,h,_=>by rw[kidI,kidI] at h;cases h
 | t::r,t'::r',i,h,h'=>by
  rw[kidI,kidI] at h;injection h with _ h;rw[layL,layL] at h';have hc:cntP t=cntP t':=by
   cases r with
   | nil=>
    cases r' with
    | nil=>
     have hl:=zdq h';rw[layL,layL,List.append_nil,List.append_nil,zbt,zbt] at hl;exact hl
    | cons u s=>rw[kidI,kidI] at h;cases h
   | cons u s=>
    cases r' with
    | nil=>rw[kidI,kidI] at h;cases h
    | cons u' s'=>
     rw[kidI,kidI] at h;injection h with h _;omega
  obtain⟨g1,g2⟩:=zin (by rw[zbt,zbt,hc]) h';rw[hc] at h g2;exact zbu (zzq t t' i g1) (zvk r r' _ h g2)
end
mutual
theorem zx0:∀ (t t':Pt),smP t t'->arP t'->arP t
 | .mk k x n a f e l,.mk k' x' n' a' f' e' l',h,h'=>by
  unfold smP at h;obtain⟨rfl,rfl,rfl,h4⟩:=h;rw[arP] at h' ⊢;exact⟨by rw[zzr l l' h4];exact h'.1,h'.2.1,zzs l l' h4 h'.2.2⟩
theorem zzr:∀ (l l':List Pt),smL l l'->l.length=l'.length
 | [],[],_=>rfl
 | [],_::_,h=>by unfold smL smP.go at h;exact h.elim
 | _::_,[],h=>by unfold smL smP.go at h;exact h.elim
 | t::r,t'::r',h=>by
  unfold smL smP.go at h;rw[List.length_cons,List.length_cons,zzr r r' h.2]
theorem zzs:∀ (l l':List Pt),smL l l'->arL l'->arL l
 | [],[],_,_=>by rw[arL];trivial
 | [],_::_,h,_=>by unfold smL smP.go at h;exact h.elim
 | _::_,[],h,_=>by unfold smL smP.go at h;exact h.elim
 | t::r,t'::r',h,h'=>by
  unfold smL smP.go at h;rw[arL] at h' ⊢;exact⟨zx0 t t' h.1 h'.1,zzs r r' h.2 h'.2⟩
end
theorem z2d {a b:List Nd}(h:eqAll ndEq a b=true):eqAll ndEq b a=true:=by
 have hl:=zdq h;rw[zc2 hl] at h;rw[zc2 hl.symm];intro i x y hx hy;have:=h i y x hy hx;unfold ndEq at this ⊢;simp only[Bool.and_eq_true,beq_iff_eq] at this ⊢;exact⟨⟨⟨this.1.1.1.symm,this.1.1.2.symm⟩,this.1.2.symm⟩,this.2.symm⟩
theorem TrW.trp {t:Pt}(h:TrW t):∃ t',smP t t'∧TrP t':=by
 obtain⟨t',p,hf,he⟩:=h.f;have hG:∀ q,tgood (nxT (wrP t) q):=fun q=>by
  by_cases hq:q<(wrP t).length
  ·have hm:nxT (wrP t) q ∈ wrP t:=by unfold nxT;rw[List.getD_eq_getElem?_getD,List.getElem?_eq_getElem hq];simp
   have:=List.any_eq_false.1 h.a _ hm;exact zoy (z1u (by simpa using this)).2
  ·have:nxT (wrP t) q=tokZ:=by unfold nxT;rw[List.getD_eq_getElem?_getD,List.getElem?_eq_none (by omega)];rfl
   rw[this];exact⟨fun e=>absurd e (by decide),fun e=>absurd e (by decide),fun e=>absurd e (by decide)⟩
 obtain⟨h1,h2⟩:=zou hG hf;have hs:=z2d he;refine⟨t',zzq t t' 0 hs,h1,h2,?_,?_⟩
 ·have:=zdq he;have:=h.n;rw[<-zbt t 0] at this;omega
 ·rw[z4h _ _ _ _ _ he];exact h.d
theorem znr {w:World}{sn:Option Addr}{cn:Nat}{t:Pt}(hW:TrW t)(ha:arP t)(hln:(rn (prP 0 t)).length<=1000000000000∧cntP t<=2048)(hne:rn (prP 0 t)≠[])(hP:TabP w)(hE:EnW w (.slice sn (layP 0 t).length cn) (layP 0 t)) :
  Calls Tryz.prog 24 #[.agg #[.slice sn (layP 0 t).length cn]] w fun e w'=>e=.returned (.tuple #[.string (strU (prnO t).1),.int .i64 (prnO t).2])∧Below w.heap.size w w':=by
 have HTX:Hid (∀ W,Below w.heap.size w W->Calls Tryz.prog 47 #[.agg #[.slice sn (layP 0 t).length cn],.int .i64 0] W fun e w'=>e=.returned (.string (strU (rn (prP 0 t))))∧Below W.heap.size W w'):=fun W hb=>
  zgy (w:=W) (L:=layP 0 t) 0 t (hP.low hb) (hE.low hb) (zkv t) ha (by have:=hln.2;omega) hln.1 hne
 have HTW:=hid hW;have HE:=hid hE;have HP:=hid hP;have HPR:Hid (prnO t=if 1024<(wrP t).length then([],3) else if 4096<(rn (prP 0 t)).length then([],3) else(rn (prP 0 t),0)):=rfl;generalize prnO t=pr at HPR ⊢
 by_cases hl:(wrP t).length<=1024
 rotate_left
 ·have HTL:=zec (w:=w.alloc (.cells #[.slice sn (layP 0 t).length cn] 25)) (TabP.low HP.out ((Below.refl _ _).alloc (Nat.le_refl _) _)) (HE.out.low ((Below.refl _ _).alloc (Nat.le_refl _) _)) HTW.out (by omega);have hb0:Below w.heap.size w (w.alloc (.cells #[.slice sn (layP 0 t).length cn] 25)):=(Below.refl _ _).alloc (Nat.le_refl _) _;have HB0:Hid _:=hb0;clear hb0;have HQ:Hid (pr=([],3)):=by show _=_;rw[HPR.out,if_pos (by omega)]
  clear hW ha hln hne hP hE hl;generalize (layP 0 t).length=nl at *;rw[HQ.out]
  go_enter Tryz.func24,Tryz.ntmps24
  go_wp2_with fail
  refine HTL.mono ?_;rintro e W ⟨rfl,hb⟩;have HB:=hid (HB0.out.trans (hb.mono HB0.out.size));clear hb HTL
  go_wp2
  go_ret2
  exact⟨rfl,HB.out⟩
 ·have HTL:=zd5 (w:=w.alloc (.cells #[.slice sn (layP 0 t).length cn] 25)) (TabP.low HP.out ((Below.refl _ _).alloc (Nat.le_refl _) _)) (HE.out.low ((Below.refl _ _).alloc (Nat.le_refl _) _)) HTW.out hl;have hb0:Below w.heap.size w (w.alloc (.cells #[.slice sn (layP 0 t).length cn] 25)):=(Below.refl _ _).alloc (Nat.le_refl _) _;have HB0:Hid _:=hb0;have HR0:Hid _:=heap_alloc_new w (.cells #[.slice sn (layP 0 t).length cn] 25);clear hb0;have HQ:Hid (pr=if 4096<(rn (prP 0 t)).length then([],3) else(rn (prP 0 t),0)):=by show _=_;rw[HPR.out,if_neg (by omega)]
  have hsz:(rn (prP 0 t)).length<=1000000000000:=hln.1;clear hW ha hln hne hP hE hl HTW HE HP;generalize (layP 0 t).length=nl at *;generalize hR:rn (prP 0 t)=R at *;have hRs:(strU R).size=R.length:=zad R;have HRS:Hid _:=hRs;generalize hSR:strU R=SR at *;have HSR:Hid _:=hSR;clear hSR hRs hR
  go_enter Tryz.func24,Tryz.ntmps24
  go_wp2_with fail
  refine HTL.mono ?_;rintro e W ⟨v',rfl,-,hb⟩;have hbW:Below w.heap.size w W:=HB0.out.trans (hb.mono HB0.out.size);have r1:W.heap[w.heap.size]?=some (.cells #[.slice sn nl cn] 25 (0,0)):=(hb.block _ (zab HR0.out)).trans HR0.out;have c1:W.cell? ⟨w.heap.size,0,none⟩=some (.slice sn nl cn):=(cell_of_row _ _ 0 _ _ _ r1).trans rfl;have HC:=HTX.out W hbW;have HBW:Hid _:=hbW;clear hb hbW r1 HTL
  go_wp2_with fail
  refine HC.mono ?_;rintro e W2 ⟨rfl,hb⟩;have HB2:=hid (HBW.out.trans (hb.mono HBW.out.size));clear hb HC
  cases hz:decide (4096<R.length)
  ·have hz':decide ((4096:Int)<(SR.size:Int))=false:=by rw[HRS.out];simp at hz ⊢;omega
   have HQ2:Hid (pr=(R,0)):=by show _=_;rw[HQ.out,if_neg (by simpa using hz)]
   clear hz
   go_wp2
   go_ret2
   exact⟨by rw[HQ2.out];show _=Ending.returned (.tuple #[.string (strU R),_]);rw[HSR.out];rfl,HB2.out⟩
  ·have hz':decide ((4096:Int)<(SR.size:Int))=true:=by rw[HRS.out];simp at hz ⊢;omega
   have HQ2:Hid (pr=([],3)):=by show _=_;rw[HQ.out,if_pos (by simpa using hz)]
   clear hz
   go_wp2
   go_ret2
   exact⟨by rw[HQ2.out];rfl,HB2.out⟩
theorem zjh {w:World}{sn:Option Addr}{cn:Nat}{t t':Pt}(hW:TrW t)(hs:smP t t')(hp:TrP t')(hP:TabP w)(hE:EnW w (.slice sn (layP 0 t).length cn) (layP 0 t)) :
  Calls Tryz.prog 24 #[.agg #[.slice sn (layP 0 t).length cn]] w fun e w'=>e=.returned (.tuple #[.string (strU (prnO t').1),.int .i64 (prnO t').2])∧Below w.heap.size w w':=by
 have e:=zl2 t t' 0 hs;have:=znr hW (zx0 t t' hs hp.ar) (by rw[e,zi7 t t' hs];exact hp.len) (by rw[e];exact hp.ne) hP hE;rw[z4q hs] at this;exact this
theorem zvl {w:World}{sn:Option Addr}{cn:Nat}{Z:List NdZ}(hT:Tabl w)(hP:TabP w)(hE:EnZ w (.slice sn Z.length cn) Z)(hs:SmZ Z)(hb:∀ t,Z=(layP 0 t).map toZ->¬ TrW t) :
  Calls Tryz.prog 24 #[.agg #[.slice sn Z.length cn]] w fun e w'=>e=.returned (.tuple #[.string ⟨#[]⟩,.int .i64 211])∧Below w.heap.size w w':=by
 have hb0:Below w.heap.size w (w.alloc (.cells #[.slice sn Z.length cn] 25)):=(Below.refl _ _).alloc (Nat.le_refl _) _;have HC:=zgx (zbj hb0.block hT) (hP.low hb0) (hE.below hb0) hs hb;have HB0:Hid _:=hb0;clear hT hP hE hs hb hb0;generalize Z.length=nl at *
 go_enter Tryz.func24,Tryz.ntmps24
 go_wp2_with fail
 refine HC.mono ?_;rintro e W1 ⟨rfl,b1⟩;have HB1:=hid (HB0.out.trans (b1.mono HB0.out.size));clear b1 HC
 go_wp2
 go_ret2
 exact⟨rfl,HB1.out⟩
def aloB (k:Int):Bool:=(k == 10) || (k == 11) || (k == 12) || (k == 20) || (k == 21) || (k == 22) || (k == 23) || (k == 24) || (k == 25) || (k == 26) || (k == 27)
theorem zx1 (k:Int)(w:World):Calls Tryz.prog 49 #[.int .i64 k] w fun e w'=>e=.returned (.bool (aloB k))∧w'=w:=by
 go_enter Tryz.func49,Tryz.ntmps49
 go_wp2
 all_goals (go_ret;refine⟨?_,rfl⟩;simp_all [aloB])
theorem zvm {w:World}{sn:Option Addr}{cn:Nat}{t:Pt}(i:Int)(hW:TrW t)(hl:1024<(wrP t).length)(hP:TabP w)(hE:EnW w (.slice sn (layP 0 t).length cn) (layP 0 t)) :
  Calls Tryz.prog 26 #[.agg #[.slice sn (layP 0 t).length cn],.int .i64 i] w fun e w'=>e=.returned (.tuple #[.string ⟨#[]⟩,.int .i64 3])∧Below w.heap.size w w':=by
 have hb0:Below w.heap.size w (w.alloc (.cells #[.slice sn (layP 0 t).length cn] 25)):=(Below.refl _ _).alloc (Nat.le_refl _) _;have HTL:=zec (w:=w.alloc (.cells #[.slice sn (layP 0 t).length cn] 25)) (TabP.low hP hb0) (hE.low hb0) hW hl;have HB0:Hid _:=hb0;clear hb0 hW hl hP hE;generalize (layP 0 t).length=nl at *
 go_enter Tryz.func26,Tryz.ntmps26
 go_wp2_with fail
 refine HTL.mono ?_;rintro e W ⟨rfl,hb⟩;have HB:=hid (HB0.out.trans (hb.mono HB0.out.size));clear hb HTL
 go_wp2
 go_ret2
 exact⟨rfl,HB.out⟩
theorem zx2 {w:World}{sn:Option Addr}{cn:Nat}{t:Pt}(i:Int)(hi:i<0∨(layP 0 t).length<=i)(hW:TrW t)(hl:(wrP t).length<=1024)(hP:TabP w)(hE:EnW w (.slice sn (layP 0 t).length cn) (layP 0 t)) :
  Calls Tryz.prog 26 #[.agg #[.slice sn (layP 0 t).length cn],.int .i64 i] w fun e w'=>e=.returned (.tuple #[.string ⟨#[]⟩,.int .i64 2])∧Below w.heap.size w w':=by
 have hb0:Below w.heap.size w (w.alloc (.cells #[.slice sn (layP 0 t).length cn] 25)):=(Below.refl _ _).alloc (Nat.le_refl _) _;have HTL:=zd5 (w:=w.alloc (.cells #[.slice sn (layP 0 t).length cn] 25)) (TabP.low hP hb0) (hE.low hb0) hW hl;have HB0:Hid _:=hb0;have HR0:Hid _:=heap_alloc_new w (.cells #[.slice sn (layP 0 t).length cn] 25);clear hb0 hW hl hP hE;generalize (layP 0 t).length=nl at *
 go_enter Tryz.func26,Tryz.ntmps26
 go_wp2_with fail
 refine HTL.mono ?_;rintro e W ⟨v',rfl,-,hb⟩;have HB:=hid (HB0.out.trans (hb.mono HB0.out.size));have r1:W.heap[w.heap.size]?=some (.cells #[.slice sn nl cn] 25 (0,0)):=(hb.block _ (zab HR0.out)).trans HR0.out;have c1:W.cell? ⟨w.heap.size,0,none⟩=some (.slice sn nl cn):=(cell_of_row _ _ 0 _ _ _ r1).trans rfl;clear hb HTL r1
 cases z1:decide (i<0)
 ·have z2:decide ((nl:Int)<=i)=true:=by simp at z1 ⊢;omega
  clear hi
  go_wp2
  go_ret2
  exact⟨rfl,HB.out⟩
 ·clear hi
  go_wp2
  go_ret2
  exact⟨rfl,HB.out⟩
theorem z2e {w:World}{sn:Option Addr}{cn:Nat}{t u:Pt}{q:Nat}{d:Nd}(hd:(layP 0 t)[q]?=some d)(he:Emb (layP 0 t) q u)(hW:TrW t)(hu:arP u)(hc:cntP u<=2048)(hne:aloB d.kind=true->rn (prP 0 u)≠[])(hl:(wrP t).length<=1024)(hP:TabP w)(hE:EnW w (.slice sn (layP 0 t).length cn) (layP 0 t)) :
  Calls Tryz.prog 26 #[.agg #[.slice sn (layP 0 t).length cn],.int .i64 q] w fun e w'=>e=.returned (.tuple (if aloB d.kind then #[.string (strU (rn (prP 0 u))),.int .i64 0] else #[.string ⟨#[]⟩,.int .i64 2]))∧Below w.heap.size w w':=by
 have hb0:Below w.heap.size w (w.alloc (.cells #[.slice sn (layP 0 t).length cn] 25)):=(Below.refl _ _).alloc (Nat.le_refl _) _;have HTL:=zd5 (w:=w.alloc (.cells #[.slice sn (layP 0 t).length cn] 25)) (TabP.low hP hb0) (hE.low hb0) hW hl;have HTX:Hid (aloB d.kind=true->∀ W,Below w.heap.size w W->Calls Tryz.prog 47 #[.agg #[.slice sn (layP 0 t).length cn],.int .i64 q] W fun e w'=>e=.returned (.string (strU (rn (prP 0 u))))∧Below W.heap.size W w'):=fun h W hb=>
  zgy (w:=W) (L:=layP 0 t) q u (hP.low hb) (hE.low hb) he hu (by omega) (by have:=zxi u 0 hu (by omega);omega) (hne h)
 have hq:q<(layP 0 t).length:=(List.getElem?_eq_some_iff.1 hd).1;have HCL:Hid (∀ W,Below w.heap.size w W->∃ b o,sn=some ⟨b,o,none⟩∧W.cell? ⟨b,o+q * 7,none⟩=some (.int .i64 d.kind)):=fun W hb=>by
  obtain⟨s',c',N,S,e1,h1,h2⟩:=(hE.low hb).x;injection e1 with e1 _ _;subst e1;have hN:N.length=(layP 0 t).length:=h2.1;obtain⟨m,hm⟩:∃ m,N[q]?=some m:=⟨_,List.getElem?_eq_getElem (by omega)⟩;obtain⟨b,o,rfl,-⟩:=h1 (by omega);refine⟨b,o,rfl,?_⟩;have:=(zai h1 hm).1;rw[(h2.2 q m d hm hd).1.1] at this;exact this
 have HB0:Hid _:=hb0;have HR0:Hid _:=heap_alloc_new w (.cells #[.slice sn (layP 0 t).length cn] 25);clear hb0 hW hl hP hE hd he hu hc hne;generalize (layP 0 t).length=nl at *;generalize strU (rn (prP 0 u))=SR at *;generalize d.kind=dk at *
 go_enter Tryz.func26,Tryz.ntmps26
 go_wp2_with fail
 refine HTL.mono ?_;rintro e W ⟨v',rfl,-,hb⟩;have hbW:Below w.heap.size w W:=HB0.out.trans (hb.mono HB0.out.size);have HB:=hid hbW;have r1:W.heap[w.heap.size]?=some (.cells #[.slice sn nl cn] 25 (0,0)):=(hb.block _ (zab HR0.out)).trans HR0.out;have c1:W.cell? ⟨w.heap.size,0,none⟩=some (.slice sn nl cn):=(cell_of_row _ _ 0 _ _ _ r1).trans rfl;obtain⟨b,o,rfl,c2⟩:=HCL.out W hbW;clear hb hbW HTL r1 HCL;have z1:decide ((q:Int)<0)=false:=by simp
 have z2:decide ((nl:Int)<=(q:Int))=false:=by simp;omega
 have z3:decide (nl<=q)=false:=by simp;omega
 go_wp2_with fail
 refine(zx1 dk W).mono ?_;rintro e W2 ⟨rfl,rfl⟩
 cases hz:aloB dk with
 | false=>
  clear HTX
  go_wp2
  all_goals (go_ret2;exact⟨rfl,HB.out⟩)
 | true=>
  have HC:=HTX.out hz _ HB.out;clear HTX
  go_wp2_with fail
  refine HC.mono ?_;rintro e W3 ⟨rfl,b3⟩;have HB3:=hid (HB.out.trans (b3.mono HB.out.size));clear b3 HC
  go_wp2
  go_ret2
  exact⟨rfl,HB3.out⟩
theorem zx3 {w:World}{sn:Option Addr}{cn:Nat}{Z:List NdZ}(i:Int)(hT:Tabl w)(hP:TabP w)(hE:EnZ w (.slice sn Z.length cn) Z)(hs:SmZ Z)(hb:∀ t,Z=(layP 0 t).map toZ->¬ TrW t) :
  Calls Tryz.prog 26 #[.agg #[.slice sn Z.length cn],.int .i64 i] w fun e w'=>e=.returned (.tuple #[.string ⟨#[]⟩,.int .i64 211])∧Below w.heap.size w w':=by
 have hb0:Below w.heap.size w (w.alloc (.cells #[.slice sn Z.length cn] 25)):=(Below.refl _ _).alloc (Nat.le_refl _) _;have HC:=zgx (zbj hb0.block hT) (hP.low hb0) (hE.below hb0) hs hb;have HB0:Hid _:=hb0;clear hT hP hE hs hb hb0;generalize Z.length=nl at *
 go_enter Tryz.func26,Tryz.ntmps26
 go_wp2_with fail
 refine HC.mono ?_;rintro e W ⟨rfl,hb⟩;have HB:=hid (HB0.out.trans (hb.mono HB0.out.size));clear hb HC
 go_wp2
 go_ret2
 exact⟨rfl,HB.out⟩
theorem z43 {u t:Pt}(h:Sub u t):okP t->okP u:=by
 induction h with
 | self=>exact id
 | kid hv _ ih=>
  intro ho;rw[okP] at ho;exact ih (zm2.1 ho.2 _ hv)
theorem zzt {v:Pt}:∀ {l l':List Pt},smL l l'->v ∈ l->∃ v',v' ∈ l'∧smP v v'
 | [],_,_,h=>by simp at h
 | _::_,[],h,_=>by unfold smL smP.go at h;exact h.elim
 | t::r,t'::r',h,hv=>by
  unfold smL smP.go at h;rcases List.mem_cons.1 hv with rfl|hv
  ·exact⟨t',by simp,h.1⟩
  ·obtain⟨v',h1,h2⟩:=zzt (l:=r) (l':=r') h.2 hv;exact⟨v',by simp[h1],h2⟩
theorem zzu {u t:Pt}(h:Sub u t):∀ t',smP t t'->∃ u',Sub u' t'∧smP u u':=by
 induction h with
 | self t=>exact fun t' h=>⟨t',.self _,h⟩
 | kid hv _ ih=>
  intro t' hs
  cases t' with
  | mk k' x' n' a' f' e' l'=>
   unfold smP at hs;obtain⟨v',h1,h2⟩:=zzt hs.2.2.2 hv;obtain⟨u',h3,h4⟩:=ih v' h2;exact⟨u',.kid h1 h3,h4⟩
theorem zx4 {z:ByteArray}{a f t:Int}(h:okP (.mk 11 z 0 a f t []))(d:Nat):rn (prP d (.mk 11 z 0 a f t []))≠[]:=by
 rw[zfc];rw[okP] at h;have hw:=h.1.w (by decide);exact zg6 _ _ (zt9 hw.1)
theorem z44 {t t' u:Pt}(hs:smP t t')(hp:TrP t')(hu:Sub u t)(ha:aloB (hdP u).1=true):rn (prP 0 u)≠[]:=by
 obtain⟨u',h1,h2⟩:=zzu hu t' hs;rw[zl2 u u' 0 h2];rw[zxj u u' h2] at ha;have hg:=zy3 h1 (.file hp.f)
 by_cases h20:20<=(hdP u').1
 ·exact z5x (z5v hg h20) 0
 ·have hk:(hdP u').1=10∨(hdP u').1=11∨(hdP u').1=12:=by
   unfold aloB at ha;simp only[Bool.or_eq_true,beq_iff_eq] at ha;omega
  rcases z5w hg hk with h|⟨z,a,f,e,rfl,-⟩
  ·exact z5y h 0
  ·exact zx4 (z43 h1 hp.o) 0
theorem zph {L:List Nd}{i:Nat}{u:Pt}{d:Nd}(h:Emb L i u)(hd:L[i]?=some d):d.kind=(hdP u).1:=by
 obtain⟨d',h1,h2⟩:=h.hd;obtain rfl:d=d':=Option.some.inj (hd.symm.trans h1);exact congrArg Prod.fst h2
mutual
theorem zji {w0:World}{bn on cn:Nat}{L:List Nd}(hE:EnW w0 (.slice (some ⟨bn,on,none⟩) L.length cn) L):∀ t:Pt,arE t->(hdP t).1≠1->DtC w0 (some ⟨bn,on,none⟩) cn L t
 | .mk k x n a f e l,hg,h1=>by
  rw[arE] at hg;obtain⟨⟨h0,hx⟩,hl⟩:=hg;have IH:=zfu hE l hl;intro d i W hem hW hd hln;rw[zc1] at hln ⊢;rw[cntP] at hd;obtain⟨bn',on',sk,kc,hsn,hN⟩:=zft hE hem;injection hsn with hsn;injection hsn with e1 e2;subst e1 e2;have hK:∀ (j:Nat) (t:Pt),l[j]?=some t->DtC w0 (some ⟨bn,on,none⟩) cn L t:=fun j t ht=>IH t (List.mem_of_getElem? ht);have P:Pre w0 bn on cn L i k x n l sk kc a f e d:=⟨hE,hN,hK,by omega,hx⟩
  replace h1:k≠1:=h1
  by_cases k24:k=24
  ·subst k24;exact z13 P (by simpa[ndD] using h0) hln W hW
  by_cases k12:k=12
  ·subst k12;exact z16 P (by simpa[ndD] using h0) hln W hW
  by_cases k25:k=25
  ·subst k25;exact zxr P (by simpa[ndD] using h0) hln W hW
  by_cases k26:k=26
  ·subst k26;exact z19 P (by simpa[ndD] using h0) hln W hW
  by_cases k27:k=27
  ·subst k27;exact z14 P (by simpa[ndD] using h0) hln W hW
  by_cases k5:k=5
  ·subst k5;exact zqn P hln W hW
  by_cases k13:k=13
  ·subst k13;exact zu2 P hln W hW
  by_cases k6:k=6
  ·subst k6;exact zu4 P (by simpa[ndD] using h0) hln W hW
  by_cases k8:k=8
  ·subst k8;exact zxm P (by simpa[ndD] using h0) hln W hW
  by_cases k9:k=9
  ·subst k9;exact zu0 P (by simpa[ndD] using h0) hln W hW
  by_cases k3:k=3
  ·subst k3;exact zu3 P (by simpa[ndD] using h0) hln W hW
  by_cases k7:k=7
  ·subst k7;exact zxo P hln W hW
  by_cases k15:k=15
  ·subst k15;exact z15 P (by simpa[ndD] using h0) hln W hW
  by_cases k17:k=17
  ·subst k17;exact zu5 P (by simpa[ndD] using h0) hln W hW
  by_cases k18:k=18
  ·subst k18;exact zql P (by simpa[ndD] using h0) hln W hW
  by_cases k19:k=19
  ·subst k19;exact zxq P (by simpa[ndD] using h0) hln W hW
  by_cases k20:k=20
  ·subst k20;exact z18 P hln W hW
  by_cases k21:k=21
  ·subst k21;exact zxu P hln W hW
  by_cases k2:k=2
  ·subst k2;exact zqm P hln W hW
  by_cases k4:k=4
  ·subst k4
   by_cases hq:1<l.length
   ·exact zxt P hq hln W hW
   ·exact zxn P (by simpa[ndD] using h0) hq hln W hW
  by_cases k14:k=14
  ·subst k14
   by_cases hq:2<l.length
   ·exact z17 P hq hln W hW
   ·exact z2a P (by simpa[ndD] using h0) hq hln W hW
  by_cases k16:k=16
  ·subst k16
   by_cases hq:0<l.length
   ·exact zxp P hq hln W hW
   ·exact zxs P hq hln W hW
  exact zu1 P (by simpa using k20) (by simpa using k21) (by simpa using k24) (by simpa using k12) (by simpa using k25) (by simpa using k26) (by simpa using k27) (by simpa using k13) (by simpa using k5) (by simpa using k6) (by simpa using k8) (by simpa using k9) (by simpa using k3) (by simpa using k4) (by simpa using k7) (by simpa using k14) (by simpa using k15) (by simpa using k16) (by simpa using k17) (by simpa using k18) (by simpa using k19) (by simpa using k2) (by simpa using h1) hln W hW
theorem zfu {w0:World}{bn on cn:Nat}{L:List Nd}(hE:EnW w0 (.slice (some ⟨bn,on,none⟩) L.length cn) L):∀ l:List Pt,arEL l->∀ t ∈ l,DtC w0 (some ⟨bn,on,none⟩) cn L t
 | [],_,t,h=>by simp at h
 | a::r,hg,t,h=>by
  rw[arEL] at hg;rcases List.mem_cons.1 h with h|h
  ·rw[h];exact zji hE a hg.1.1 hg.1.2
  ·exact zfu hE r hg.2 t h
end
theorem zq0 {w0:World}{bn on cn:Nat}{L:List Nd}{n a f e:Int}{x:ByteArray}{l:List Pt}(hE:EnW w0 (.slice (some ⟨bn,on,none⟩) L.length cn) L)(hem:Emb L 0 (.mk 1 x n a f e l))(hg:arE (.mk 1 x n a f e l))(hc:cntP (.mk 1 x n a f e l)<=100000)(hln:(dtP 0 (.mk 1 x n a f e l)).length<=1000000000000) (W:World)(hW:Below w0.heap.size w0 W) :
  Calls Tryz.prog 28 #[.agg #[.slice (some ⟨bn,on,none⟩) L.length cn],.int .i64 0,.int .i64 0] W fun e' w'=>e'=.returned (.string (strU (dtP 0 (.mk 1 x n a f e l))))∧Below W.heap.size W w':=by
 rw[arE] at hg;obtain⟨⟨h0,hx⟩,hl⟩:=hg;rw[zc1] at hln ⊢;rw[show kdE 1 0=0 by simp[kdE]] at hln ⊢;rw[cntP] at hc;obtain⟨bn',on',sk,kc,hsn,hN⟩:=zft hE hem;injection hsn with hsn;injection hsn with e1 e2;subst e1 e2;have hK:∀ (j:Nat) (t:Pt),l[j]?=some t->DtC w0 (some ⟨bn,on,none⟩) cn L t:=fun j t ht=>zfu hE l hl t (List.mem_of_getElem? ht);have HCQ:Hid (∀ W',Below W.heap.size W W'->Calls Tryz.prog 58 #[.agg #[.slice (some ⟨bn,on,none⟩) L.length cn]] W' fun e' w'=>e'=.returned (.string (strU (dtK 0 1 x n (l.map hdP) (l.map (dtP 0)))))∧Below W'.heap.size W' w'):=fun W' hb=>zqo hE hN hK (by omega) hln W' (hW.trans (hb.mono hW.size));have m0':=hN.c W hW;rw[Nat.zero_mul,Nat.add_zero] at m0';obtain⟨m0,m1,m2,m3,m4,m5,m6⟩:=m0';have lt1:bn<W.heap.size:=block_lt_of_cell m0;have hiL:=hN.hi;have hLl:=hE.l;have z1:decide ((0:Int)<L.length)=true:=by simp;omega
 have z3:(0:Int)<L.length:=by omega
 clear hN hE hK hln hW hem hl h0;generalize strU (dtK 0 1 x n (l.map hdP) (l.map (dtP 0)))=S at *;generalize L.length=nl at *;generalize l.length=ln at *;have HBA:Hid (Below W.heap.size W ((W.alloc (.cells #[.slice (some ⟨bn,on,none⟩) nl cn] 25)).alloc (.cells #[.int .i64 1,.string x,.int .i64 n,.slice sk ln kc,.int .i64 a,.int .i64 f,.int .i64 e] 59))):=((Below.refl _ _).alloc (Nat.le_refl _) _).alloc (by simp) _
 go_enter Tryz.func28,Tryz.ntmps28
 go_wp2_with fail
 refine(HCQ.out _ HBA.out).mono ?_;rintro e' W2 ⟨rfl,b2⟩;have HB2:=hid (HBA.out.trans (b2.mono HBA.out.size));clear b2 HCQ HBA m0 m1 m2 m3 m4 m5 m6
 go_wp2
 go_ret
 exact⟨rfl,HB2.out⟩
theorem zjj (k:Int)(x:ByteArray)(n:Int)(v:Value)(a f e:Int)(w:World):Calls Tryz.prog 27 #[.agg #[.int .i64 k,.string x,.int .i64 n,v,.int .i64 a,.int .i64 f,.int .i64 e]] w fun e' w'=>e'=.returned (.bool (aloB k))∧Below w.heap.size w w':=by
 have HB:Hid (Below w.heap.size w (w.alloc (.cells #[.int .i64 k,.string x,.int .i64 n,v,.int .i64 a,.int .i64 f,.int .i64 e] 59))):=(Below.refl _ _).alloc (Nat.le_refl _) _
 go_enter Tryz.func27,Tryz.ntmps27
 go_wp2
 all_goals (go_ret;refine⟨?_,HB.out⟩;simp_all [aloB])
mutual
theorem zpi:∀ t:Pt,smP t t
 | .mk _ _ _ _ _ _ l=>zbk (zpj l)
theorem zpj:∀ l:List Pt,smL l l
 | []=>zbw
 | t::r=>zbu (zpi t) (zpj r)
end
theorem zpk {w0:World}{sn:Option Addr}{cn:Nat}{t t':Pt}(hs:smP t t')(hp:TrP t')(hE:EnW w0 (.slice sn (layP 0 t).length cn) (layP 0 t)) (W:World)(hW:Below w0.heap.size w0 W) :
  Calls Tryz.prog 28 #[.agg #[.slice sn (layP 0 t).length cn],.int .i64 0,.int .i64 0] W fun e w'=>e=.returned (.string (strU (rn (prP 0 t))))∧Below W.heap.size W w':=by
 have hn:cntP t<=2048:=by have:=hp.n;rw[zbt] at this;rw[zi7 _ _ hs];exact this
 have har:=zut t t' hs (zur t' (.file hp.f) hp.o);have hdt:dtP 0 t=rn (prP 0 t):=by rw[z1x t t' 0 hs,zo9 hp.f,zl2 t t' 0 hs]
 have hlen:(dtP 0 t).length<=1000000000000:=by rw[hdt,zl2 t t' 0 hs];exact hp.len.1
 have hk:(hdP t).1=1:=by
  rw[zxj t t' hs];obtain⟨x,a,f,e,is,ds,rfl,-⟩:=hp.f;rfl
 have hem:=zkv t;rw[<-hdt]
 cases t with
 | mk k x n a f e l=>
 obtain rfl:k=1:=hk;obtain⟨bn,on,sk,kc,rfl,-⟩:=zft hE hem;exact zq0 hE hem har (by omega) hlen W hW
theorem zx5 {w0:World}{sn:Option Addr}{cn:Nat}{t t' u:Pt}{q:Nat}(hs:smP t t')(hp:TrP t')(hu:Sub u t)(he:Emb (layP 0 t) q u)(ha:aloB (hdP u).1=true)(hE:EnW w0 (.slice sn (layP 0 t).length cn) (layP 0 t)) (W:World)(hW:Below w0.heap.size w0 W) :
  Calls Tryz.prog 28 #[.agg #[.slice sn (layP 0 t).length cn],.int .i64 q,.int .i64 0] W fun e w'=>e=.returned (.string (strU (rn (prP 0 u))))∧Below W.heap.size W w':=by
 have hn:cntP t<=2048:=by have:=hp.n;rw[zbt] at this;rw[zi7 _ _ hs];exact this
 have har:=z1y hu (zut t t' hs (zur t' (.file hp.f) hp.o));obtain⟨u',h1,h2⟩:=zzu hu t' hs;have hdt:dtP 0 u=rn (prP 0 u):=by rw[z1x u u' 0 h2,z4t (zy3 h1 (.file hp.f)),zl2 u u' 0 h2]
 have hcu:=zt8 hu;have hlen:(dtP 0 u).length<=1000000000000:=by
  rw[hdt];have:=zxi u 0 (zy2 hu (zx0 t t' hs hp.ar)) (by omega);omega
 have hk:(hdP u).1≠1:=fun h=>by rw[h] at ha;cases ha
 have hcp:0<cntP u:=zdp u;rw[<-hdt];have hq:sn≠none:=fun h=>by
  obtain⟨s,c,N,S,h1,h3,h4⟩:=hE.x;injection h1 with h1;rw[h] at h1;obtain⟨d,hd,-⟩:=he.hd;have:=(List.getElem?_eq_some_iff.1 hd).1;obtain⟨b,o,h5,-⟩:=h3 (by have:=h4.1;omega);rw[<-h1] at h5
  cases h5
 cases u with
 | mk k x n a f e l=>
 obtain⟨bn,on,sk,kc,rfl,-⟩:=zft hE he;exact zji hE _ har hk 0 q W he hW (by omega) hlen
end Go.Proofs.YtabiangdmibocaaGreatDoor
