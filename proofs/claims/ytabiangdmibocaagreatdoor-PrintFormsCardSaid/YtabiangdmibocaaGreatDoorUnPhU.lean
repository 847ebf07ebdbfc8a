import Derived.Test.YtabiangdmibocaaGreatDoorUne
namespace Go.Proofs.YtabiangdmibocaaGreatDoor
set_option maxRecDepth 100000
set_option maxHeartbeats 4000000
open Go.RowKit
theorem zis (sp:Option Addr)(cap:Nat)(xs:List ByteArray)(w:World)(h:RowsAt w 1 (fun s=>#[Value.string s]) sp xs)(hxl:xs.length<=maxLen)(hT:Tabl w)(hP:TabP w):Calls Tryz.prog 7 #[.slice sp xs.length cap] w fun e w'=>e=.returned (.bool true)∧Below w.heap.size w w':=by
 have HT:Hid (∀ W,Below w.heap.size w W->Tabl W):=fun W hb=>zbj hb.block hT;have HP:Hid (∀ W,Below w.heap.size w W->TabP W):=fun W hb=>hP.low hb;have HC:=zim w hT hP;have hxl':xs.length<=9223372036854775807:=hxl;have H0:=hid h;clear h hxl hT hP
 go_enter Tryz.func7,Tryz.ntmps7
 go_wp2_with fail
 refine HC.mono ?_;rintro e W1 ⟨rfl,b1⟩;have HB1:Hid (Below w.heap.size w W1):=b1;clear b1 HC
 go_wp2
 go_loopw [17] (fun i wr=>∃ q:Nat,q<=xs.length∧q<=12∧i=.int .i64 q∧Below w.heap.size w wr) (fun i _=>xs.length - (intOf i).toNat)
 case atStart=>exact⟨0,Nat.zero_le _,Nat.zero_le _,rfl,HB1.out⟩
 case round=>
  obtain⟨q,hq,hq2,rfl,hb⟩:=hrel;have HB:=hid hb;have hws:=hb.size;clear hb
  by_cases hlt:q<xs.length
  ·have hd:decide ((q:Int)<xs.length)=true:=by simp;omega
   obtain⟨s0,hs0⟩:∃ s0,xs[q]?=some s0:=⟨_,List.getElem?_eq_getElem hlt⟩;obtain⟨b,o,rfl,hcells⟩:=RowsAt.below H0.out HB.out (by omega);have c0:=hcells q s0 hs0 0 (.string s0) rfl;simp only[Nat.mul_one,Nat.add_zero] at c0;clear hs0 hcells
   by_cases h12:q=12
   ·subst h12
    go_wp2
    go_ret
    exact⟨rfl,HB.out⟩
   have z12:((q:Int) == 12)=false:=by simp;omega
   have hmn:0<=min (s0.size:Int) 4097∧min (s0.size:Int) 4097<=s0.size:=by omega
   obtain⟨hmn0,hmn1⟩:=hmn;have hcs:s0.extract 0 (min (s0.size:Int) 4097).toNat=strU (s0.data.toList.take 4097):=zov s0 4097;obtain⟨s,hss⟩:∃ s:ByteArray,strU (s0.data.toList.take 4097)=s:=⟨_,rfl⟩;rw[hss] at hcs;have HEND:Hid (∀ w',Below w.heap.size w w'->(∃ q':Nat,q'<=xs.length∧q'<=12∧Value.int .i64 ((q:Int)+1)=.int .i64 (q':Int)∧Below w.heap.size w w')∧xs.length - (intOf (.int .i64 ((q:Int)+1))).toNat<xs.length - (intOf (.int .i64 (q:Int))).toNat):=fun w' hb=>⟨⟨q+1,hlt,by omega,congrArg (Value.int .i64) (by omega),hb⟩,(by show xs.length - ((q:Int)+1).toNat<xs.length - (q:Int).toNat;omega)⟩;clear hss H0
   go_wp2_with fail
   refine(zkw s wr (HT.out _ HB.out) (HP.out _ HB.out)).mono ?_;rintro e W2 ⟨rfl,b2⟩;have HB2:Hid (Below w.heap.size w (W2.alloc (.cells #[.int .i64 (fmO s.data.toList).2.1,.int .i64 (fmO s.data.toList).2.2] 28))):=(HB.out.trans (b2.mono HB.out.size)).alloc (HB.out.trans (b2.mono HB.out.size)).size _;have R2:Hid _:=heap_alloc_new W2 (.cells #[.int .i64 (fmO s.data.toList).2.1,.int .i64 (fmO s.data.toList).2.2] 28);clear b2 c0 hcs hmn0 hmn1
   go_wp2_with fail
   refine(zgz s _ (HT.out _ HB2.out) (HP.out _ HB2.out)).mono ?_;rintro e W3 ⟨rfl,b3⟩;have HB3:=hid (HB2.out.trans (b3.mono HB2.out.size));have R3:Hid (W3.heap[W2.heap.size]?=some (.cells #[.int .i64 (fmO s.data.toList).2.1,.int .i64 (fmO s.data.toList).2.2] 28 (0,0))):=(b3.block _ (by simp)).trans R2.out;clear b3 R2 HB2
   go_wp2_with fail
   refine(zof W3 s (HT.out _ HB3.out)).mono ?_;rintro e W4 h4;obtain⟨b4,v4,rfl,t4⟩:=zye h4;obtain⟨s4,c4,rfl⟩:=t4.shape;have HB4:=hid (HB3.out.trans (b4.mono HB3.out.size));have R4:Hid (W4.heap[W2.heap.size]?=some (.cells #[.int .i64 (fmO s.data.toList).2.1,.int .i64 (fmO s.data.toList).2.2] 28 (0,0))):=(b4.block _ (zab R3.out)).trans R3.out;have T4:Hid (TrAt W3.heap.size W4 (.slice s4 (trO (txtO s.data.toList)).length c4) (trO (txtO s.data.toList))):=t4;clear h4 b4 t4 HB3 R3 HB1;have hlt4:W2.heap.size<W4.heap.size:=zab R4.out;have c40:W4.cell? ⟨W2.heap.size,0,none⟩=some (.int .i64 (fmO s.data.toList).2.1):=(cell_of_row _ _ 0 _ _ _ R4.out).trans rfl;have c41:W4.cell? ⟨W2.heap.size,1,none⟩=some (.int .i64 (fmO s.data.toList).2.2):=(cell_of_row _ _ 1 _ _ _ R4.out).trans rfl
   cases ht:txtO s.data.toList with
   | inl p=>
    have hne:=(zuf ht).1;have hF:fmO s.data.toList=([],p.1,p.2):=by unfold fmO;rw[ht]
    have hD:fdB s.data.toList=false:=by unfold fdB;rw[hF];simp[hne]
    rw[hF] at c40 c41 R4 ⊢;rw[hD];obtain⟨er,pe⟩:=p;have z4:(er == 0)=false:=by simpa using hne
    have z5:(er != 0)=true:=by simp[bne,z4]
    simp only[spO,trO];clear hne T4 hF hD ht R4;have HB5:Hid (Below w.heap.size w ((W4.alloc (.cells #[.slice s4 0 c4] 25)).alloc (.cells #[.int .i64 er,.int .i64 pe] 28))):=(HB4.out.alloc HB4.out.size _).alloc (by have:=HB4.out.size;simp;omega) _;have hz0:(strU []).toList=[]:=by rw[ByteArray.toList_eq];rfl
    go_wp2
    exact HEND.out _ HB5.out
   | inr t=>
    have htp:=zum ht;have hF:fmO s.data.toList=((prnO t).1,(prnO t).2,0):=by unfold fmO;rw[ht]
    have hD:fdB s.data.toList=(((prnO t).2 == 0) && ((prnO t).1 == s.data.toList)):=by unfold fdB;rw[hF]
    have T5:Hid (TrAt W3.heap.size W4 (.slice s4 (layP 0 t).length c4) (layP 0 t)):=by have:=T4.out;rw[ht] at this;exact this
    have HE:Hid (∀ W,Below W4.heap.size W4 W->EnW W (.slice s4 (layP 0 t).length c4) (layP 0 t)):=fun W hb=>TrAt.env (T5.out.below hb) (HT.out W (HB4.out.trans (hb.mono HB4.out.size))) (by have:=htp.n;omega);have HPW:Hid (∀ W,Below W4.heap.size W4 W->TabP W):=fun W hb=>HP.out W (HB4.out.trans (hb.mono HB4.out.size));have HTX:Hid (∀ W,Below W4.heap.size W4 W->Calls Tryz.prog 28 #[.agg #[.slice s4 (layP 0 t).length c4],.int .i64 0,.int .i64 0] W fun e w'=>e=.returned (.string (strU (rn (prP 0 t))))∧Below W.heap.size W w'):=fun W hb=>zpk (zpi t) htp (HE.out _ (Below.refl _ _)) W hb;have HTL:Hid (1024<(wrP t).length->∀ W,Below W4.heap.size W4 W->Calls Tryz.prog 18 #[.agg #[.slice s4 (layP 0 t).length c4]] W fun e w'=>e=.returned (.tuple #[.slice none 0 0,.int .i64 3])∧Below W.heap.size W w'):=fun hl W hb=>zec (HPW.out W hb) (HE.out W hb) htp.w hl;have HTS:Hid ((wrP t).length<=1024->∀ W,Below W4.heap.size W4 W->Calls Tryz.prog 18 #[.agg #[.slice s4 (layP 0 t).length c4]] W fun e w'=>∃ v',e=.returned (.tuple #[v',.int .i64 0])∧Below W.heap.size W w'):=fun hl W hb=>(zd5 (HPW.out W hb) (HE.out W hb) htp.w hl).mono fun e w' ⟨v',h1,h2,h3⟩=>⟨v',h1,h3⟩;have hPN:prnO t=if 1024<(wrP t).length then([],3) else if 4096<(rn (prP 0 t)).length then([],3) else(rn (prP 0 t),0):=rfl;rw[hF] at c40 c41 R4 ⊢;rw[hD];simp only[spO,trO];clear T4 T5 HE HPW hF hD ht htp;obtain⟨R,hR⟩:∃ R,rn (prP 0 t)=R:=⟨_,rfl⟩;rw[hR] at hPN HTX;have hb5:Below W4.heap.size W4 ((W4.alloc (.cells #[.slice s4 (layP 0 t).length c4] 25)).alloc (.cells #[.int .i64 0,.int .i64 0] 28)):=((Below.refl _ _).alloc (Nat.le_refl _) _).alloc (by simp) _;have HB5:Hid _:=hb5;have R5:Hid (((W4.alloc (.cells #[.slice s4 (layP 0 t).length c4] 25)).alloc (.cells #[.int .i64 0,.int .i64 0] 28)).heap[W2.heap.size]?=some (.cells #[.int .i64 (prnO t).2,.int .i64 0] 28 (0,0))):=(hb5.block _ hlt4).trans R4.out;have R6:Hid (((W4.alloc (.cells #[.slice s4 (layP 0 t).length c4] 25)).alloc (.cells #[.int .i64 0,.int .i64 0] 28)).heap[W4.heap.size]?=some (.cells #[.slice s4 (layP 0 t).length c4] 25 (0,0))):=(zb9 W4 _ _ _ _).1
    clear hR hb5;have hz0:(strU []).toList=[]:=by rw[ByteArray.toList_eq];rfl
    have HTX':=HTX.out _ HB5.out;clear HTX
    by_cases hl:1024<(wrP t).length
    ·rw[if_pos hl] at hPN;have HC':=HTL.out hl;clear HTS;have HTL:Hid _:=HC';rw[hPN] at c40 R5 ⊢;clear HC' hPN hl
     go_wp2_with fail
     refine HTX'.mono ?_;rintro e W6 ⟨rfl,b6⟩;have HB6:=hid (HB5.out.trans (b6.mono HB5.out.size));have r5:=(b6.block _ (zab R5.out)).trans R5.out;have r6:=(b6.block _ (zab R6.out)).trans R6.out;have R7:Hid _:=r5;have c60:W6.cell? ⟨W4.heap.size,0,none⟩=some (.slice s4 (layP 0 t).length c4):=(cell_of_row _ _ 0 _ _ _ r6).trans rfl;clear b6 r5 r6 c40 c41 HTX' R5 R6 R4;have HC:=HTL.out _ HB6.out;clear HTL
     go_wp2_with fail
     refine HC.mono ?_;rintro e W7 ⟨rfl,b7⟩;have r7:=(b7.block _ (zab R7.out)).trans R7.out;have c70:W7.cell? ⟨W2.heap.size,0,none⟩=some (.int .i64 3):=(cell_of_row _ _ 0 _ _ _ r7).trans rfl;have c71:W7.cell? ⟨W2.heap.size,1,none⟩=some (.int .i64 0):=(cell_of_row _ _ 1 _ _ _ r7).trans rfl;have HBZ:=hid (HB4.out.trans ((HB6.out.trans (b7.mono HB6.out.size)).mono HB4.out.size));clear b7 r7 HC c60 R7
     go_wp2
     exact HEND.out _ HBZ.out
    ·rw[if_neg hl] at hPN;have HC':=HTS.out (by omega);clear HTL;have HTS:Hid _:=HC';clear HC' hl
     by_cases hr:4096<R.length
     ·rw[if_pos hr] at hPN;rw[hPN] at c40 R5 ⊢;have hsz:decide (((strU R).size:Int) > 4096)=true:=by rw[zad];simp;omega
      clear hPN
      go_wp2_with fail
      refine HTX'.mono ?_;rintro e W6 ⟨rfl,b6⟩;have HB6:=hid (HB5.out.trans (b6.mono HB5.out.size));have r5:=(b6.block _ (zab R5.out)).trans R5.out;have r6:=(b6.block _ (zab R6.out)).trans R6.out;have R7:Hid _:=r5;have c60:W6.cell? ⟨W4.heap.size,0,none⟩=some (.slice s4 (layP 0 t).length c4):=(cell_of_row _ _ 0 _ _ _ r6).trans rfl;clear b6 r5 r6 c40 c41 HTX' R5 R6 R4;have HC:=HTS.out _ HB6.out;clear HTS
      go_wp2_with fail
      refine HC.mono ?_;rintro e W7 ⟨v7,rfl,b7⟩;have r7:=(b7.block _ (zab R7.out)).trans R7.out;have c70:W7.cell? ⟨W2.heap.size,0,none⟩=some (.int .i64 3):=(cell_of_row _ _ 0 _ _ _ r7).trans rfl;have c71:W7.cell? ⟨W2.heap.size,1,none⟩=some (.int .i64 0):=(cell_of_row _ _ 1 _ _ _ r7).trans rfl;have HBZ:=hid (HB4.out.trans ((HB6.out.trans (b7.mono HB6.out.size)).mono HB4.out.size));clear b7 r7 HC c60 R7
      go_wp2
      exact HEND.out _ HBZ.out
     ·rw[if_neg hr] at hPN;rw[hPN] at c40 R5 ⊢;have hsz:decide (((strU R).size:Int) > 4096)=false:=by rw[zad];simp;omega
      have hbb:((0:Int) == 0 && (R == s.data.toList))=(s.toList == (strU R).toList):=by
       rw[ByteArray.toList_eq,ByteArray.toList_eq];show(R == s.data.toList)=(s.data.toList == R);exact Bool.beq_comm
      rw[show(((R,(0:Int)).2 == 0) && ((R,(0:Int)).1 == s.data.toList))=(s.toList == (strU R).toList) from hbb];clear hPN hbb
      go_wp2_with fail
      refine HTX'.mono ?_;rintro e W6 ⟨rfl,b6⟩;have HB6:=hid (HB5.out.trans (b6.mono HB5.out.size));have r5:=(b6.block _ (zab R5.out)).trans R5.out;have r6:=(b6.block _ (zab R6.out)).trans R6.out;have R7:Hid _:=r5;have c60:W6.cell? ⟨W4.heap.size,0,none⟩=some (.slice s4 (layP 0 t).length c4):=(cell_of_row _ _ 0 _ _ _ r6).trans rfl;clear b6 r5 r6 c40 c41 HTX' R5 R6 R4;have HC:=HTS.out _ HB6.out;clear HTS
      cases hq:(s.toList == (strU R).toList)
      ·go_wp2_with fail
       refine HC.mono ?_;rintro e W7 ⟨v7,rfl,b7⟩;have r7:=(b7.block _ (zab R7.out)).trans R7.out;have c70:W7.cell? ⟨W2.heap.size,0,none⟩=some (.int .i64 0):=(cell_of_row _ _ 0 _ _ _ r7).trans rfl;have c71:W7.cell? ⟨W2.heap.size,1,none⟩=some (.int .i64 0):=(cell_of_row _ _ 1 _ _ _ r7).trans rfl;have HBZ:=hid (HB4.out.trans ((HB6.out.trans (b7.mono HB6.out.size)).mono HB4.out.size));clear b7 r7 HC c60 R7
       go_wp2
       exact HEND.out _ HBZ.out
      ·go_wp2_with fail
       refine HC.mono ?_;rintro e W7 ⟨v7,rfl,b7⟩;have r7:=(b7.block _ (zab R7.out)).trans R7.out;have c70:W7.cell? ⟨W2.heap.size,0,none⟩=some (.int .i64 0):=(cell_of_row _ _ 0 _ _ _ r7).trans rfl;have c71:W7.cell? ⟨W2.heap.size,1,none⟩=some (.int .i64 0):=(cell_of_row _ _ 1 _ _ _ r7).trans rfl;have HBZ:=hid (HB4.out.trans ((HB6.out.trans (b7.mono HB6.out.size)).mono HB4.out.size));clear b7 r7 HC c60 R7
       go_wp2
       exact HEND.out _ HBZ.out
  ·have hd:decide ((q:Int)<xs.length)=false:=by simp;omega
   go_wp2
   go_ret
   exact⟨rfl,HB.out⟩
end Go.Proofs.YtabiangdmibocaaGreatDoor
