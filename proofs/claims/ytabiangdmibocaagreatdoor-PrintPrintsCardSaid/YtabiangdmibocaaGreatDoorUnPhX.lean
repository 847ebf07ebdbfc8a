import Derived.Test.YtabiangdmibocaaGreatDoorUnf
namespace Go.Proofs.YtabiangdmibocaaGreatDoor
set_option maxRecDepth 100000
set_option maxHeartbeats 4000000
open Go.RowKit
structure StX (w W:World) (Y:List NdZ) (s1:Option Addr) (n1:Nat) (s2:Option Addr) (n2 g1 g2:Nat):Prop where
 b:Below w.heap.size w W
 e1:EnZ W (.slice s1 Y.length n1) Y
 e2:EnZ W (.slice s2 Y.length n2) Y
 r1:W.heap[g1]?=some (.cells #[.slice s1 Y.length n1] 25 (0,0))
 r2:W.heap[g2]?=some (.cells #[.slice s2 Y.length n2] 25 (0,0))
section
variable {w W:World}{Y:List NdZ}{s1 s2:Option Addr}{n1 n2 g1 g2:Nat}
theorem StX.next {W':World}(h:StX w W Y s1 n1 s2 n2 g1 g2)(hb:Below W.heap.size W W'):StX w W' Y s1 n1 s2 n2 g1 g2 :=
 ⟨h.b.trans (hb.mono h.b.size),h.e1.below hb,h.e2.below hb,(hb.block _ (zab h.r1)).trans h.r1,(hb.block _ (zab h.r2)).trans h.r2⟩
theorem StX.c1 (h:StX w W Y s1 n1 s2 n2 g1 g2):W.cell? ⟨g1,0,none⟩=some (.slice s1 Y.length n1):=(cell_of_row _ _ 0 _ _ _ h.r1).trans rfl
theorem StX.c2 (h:StX w W Y s1 n1 s2 n2 g1 g2):W.cell? ⟨g2,0,none⟩=some (.slice s2 Y.length n2):=(cell_of_row _ _ 0 _ _ _ h.r2).trans rfl
theorem StX.same (h:StX w W Y s1 n1 s2 n2 g1 g2):Calls Tryz.prog 25 #[.agg #[.slice s1 Y.length n1],.agg #[.slice s2 Y.length n2]] W fun e w'=>e=.returned (.bool true)∧Below W.heap.size W w':=by
 obtain⟨sa,ca,N1,e1,q1,q2⟩:=h.e1.x;obtain⟨sb,cb,N2,e2,q3,q4⟩:=h.e2.x;injection e1 with a1 _ a2;injection e2 with a3 _ a4;subst a1 a2 a3 a4;exact zq3 s1 s2 n1 n2 N1 N2 Y W q1 q2 q3 q4 (by have:=h.e1.l;omega)
theorem StX.node (h:StX w W Y s1 n1 s2 n2 g1 g2){q:Nat}{d:NdZ}(hd:Y[q]?=some d):∃ b o sk kc,s2=some ⟨b,o,none⟩∧W.cell? ⟨b,o+q * 7,none⟩=some (.int .i64 d.kind)∧W.cell? ⟨b,o+q * 7+1,none⟩=some (.string d.text)∧W.cell? ⟨b,o+q * 7+2,none⟩=some (.int .i64 d.num)∧W.cell? ⟨b,o+q * 7+3,none⟩=some (.slice sk d.kids.length kc)∧W.cell? ⟨b,o+q * 7+4,none⟩=some (.int .i64 d.pos)∧W.cell? ⟨b,o+q * 7+5,none⟩=some (.int .i64 d.frm)∧W.cell? ⟨b,o+q * 7+6,none⟩=some (.int .i64 d.to):=by
 obtain⟨sb,cb,M,e2,q3,q4⟩:=h.e2.x;injection e2 with a3 _ a4;subst a3 a4;have hq:=(List.getElem?_eq_some_iff.1 hd).1;obtain⟨m,hm⟩:∃ m,M[q]?=some m:=⟨_,List.getElem?_eq_getElem (by have:=q4.1;omega)⟩;obtain⟨b,o,rfl,-⟩:=q3 (by have:=q4.1;omega);have hc:=zai q3 hm;obtain⟨h1,h2,-⟩:=q4.2 q m d hm hd;rw[h1.1,h1.2.1,h1.2.2.1,h1.2.2.2.1,h1.2.2.2.2.1,h1.2.2.2.2.2,h2] at hc;exact⟨b,o,m.ks,m.kc,rfl,hc⟩
end
theorem zh2 (sp:Option Addr)(cap:Nat) (N:List NdM) (Z:List NdZ)(sq:Option Addr)(cq:Nat)(xs:List Int)(w:World)(hr:RowsAt w 7 NdM.cells sp N)(hi:RepI w N Z)(hlm:N.length<=maxLen)(hz:∀ d ∈ Z,-9223372036854775808<=d.num∧d.num<=9223372036854775807)(hx:RowsAt w 1 intZ sq xs)(hxl:xs.length<=maxLen)(hT:Tabl w)(hP:TabP w):Calls Tryz.prog 6 #[.agg #[.slice sp N.length cap],.slice sq xs.length cq] w fun e w'=>e=.returned (.bool true)∧Below w.heap.size w w':=by
 have HT:Hid (∀ W,Below w.heap.size w W->Tabl W):=fun W hb=>zbj hb.block hT;have HP:Hid (∀ W,Below w.heap.size w W->TabP W):=fun W hb=>hP.low hb;have HWK:Hid (∀ W,Below w.heap.size w W->Calls Tryz.prog 22 #[] W fun e w'=>e=.returned (.bool true)∧Below W.heap.size W w'):=fun W hb=>zim W (HT.out W hb) (HP.out W hb);have HFW:Hid (∀ W,Below w.heap.size w W->Calls Tryz.prog 23 #[.agg #[.slice sp N.length cap]] W fun e w'=>∃ sn cn,e=.returned (.agg #[.slice sn (fewZ Z).length cn])∧EnZ w' (.slice sn (fewZ Z).length cn) (fewZ Z)∧Below W.heap.size W w'):=fun W hb=>by
  refine(zvo sp cap N Z W (hr.below hb) (hi.below hb) hlm).mono ?_;rintro e W' ⟨v,M,rfl,h1,h2,h3⟩;obtain⟨sn,cn,rfl,h4⟩:=z48 h1 h2;exact⟨sn,cn,rfl,h4,h3⟩
 have HFC:=zx9 hT hP (z47 hz);have HXR:Hid (∀ W,Below w.heap.size w W->RowsAt W 1 intZ sq xs):=fun W hb=>hx.below hb;have hxl':xs.length<=9223372036854775807:=hxl;have hYl:(fewZ Z).length<=2049:=by rw[zio];omega
 clear hr hi hz hlm hT hP hx hxl;generalize fewZ Z=Y at *;have HB0:Hid (Below w.heap.size w (w.alloc (.cells #[.slice sp N.length cap] 25))):=(Below.refl _ _).alloc (Nat.le_refl _) _;have HR0:Hid _:=heap_alloc_new w (.cells #[.slice sp N.length cap] 25)
 go_enter Tryz.func6,Tryz.ntmps6
 go_wp2_with fail
 refine(HWK.out _ HB0.out).mono ?_;rintro e W1 ⟨rfl,b1⟩;have HB1:=hid (HB0.out.trans (b1.mono HB0.out.size));have HR1:Hid (W1.heap[w.heap.size]?=some (.cells #[.slice sp N.length cap] 25 (0,0))):=(b1.block _ (by simp)).trans HR0.out;have c1:W1.cell? ⟨w.heap.size,0,none⟩=some (.slice sp N.length cap):=(cell_of_row _ _ 0 _ _ _ HR1.out).trans rfl;clear b1 HR0 HB0 HWK
 go_wp2_with fail
 refine(HFW.out _ HB1.out).mono ?_;rintro e W2 ⟨s1,n1,rfl,hE1,b2⟩;have HB2:Hid (Below w.heap.size w (W2.alloc (.cells #[.slice s1 Y.length n1] 25))):=(HB1.out.trans (b2.mono HB1.out.size)).alloc (HB1.out.trans (b2.mono HB1.out.size)).size _;have hbt:Below W2.heap.size W2 (W2.alloc (.cells #[.slice s1 Y.length n1] 25)):=(Below.refl _ _).alloc (Nat.le_refl _) _;have HE1:Hid (EnZ (W2.alloc (.cells #[.slice s1 Y.length n1] 25)) (.slice s1 Y.length n1) Y):=hE1.below hbt;have r1':=(b2.block _ (zab HR1.out)).trans HR1.out;have HR2:Hid _:=(hbt.block _ (zab r1')).trans r1';have HR5:Hid _:=heap_alloc_new W2 (.cells #[.slice s1 Y.length n1] 25);have c2:(W2.alloc (.cells #[.slice s1 Y.length n1] 25)).cell? ⟨w.heap.size,0,none⟩=some (.slice sp N.length cap):=(cell_of_row _ _ 0 _ _ _ HR2.out).trans rfl;have c2':W2.cell? ⟨w.heap.size,0,none⟩=some (.slice sp N.length cap):=(cell_of_row _ _ 0 _ _ _ r1').trans rfl;have hlt2:w.heap.size<W2.heap.size:=zab r1';clear b2 hE1 c1 hbt r1' HR1 HB1
 go_wp2_with fail
 refine(HFW.out _ HB2.out).mono ?_;rintro e W3 ⟨s2,n2,rfl,hE2,b3⟩;have hb3:Below W3.heap.size W3 (W3.alloc (.cells #[.slice s2 Y.length n2] 25)):=(Below.refl _ _).alloc (Nat.le_refl _) _;have hbw3:Below w.heap.size w W3:=HB2.out.trans (b3.mono HB2.out.size);have r5':=(b3.block _ (zab HR5.out)).trans HR5.out;have HE1':Hid (EnZ (W3.alloc (.cells #[.slice s2 Y.length n2] 25)) (.slice s1 Y.length n1) Y):=(HE1.out.below b3).below hb3;have HE2':Hid (EnZ (W3.alloc (.cells #[.slice s2 Y.length n2] 25)) (.slice s2 Y.length n2) Y):=hE2.below hb3;have HB3:Hid (Below w.heap.size w (W3.alloc (.cells #[.slice s2 Y.length n2] 25))):=hbw3.trans (hb3.mono hbw3.size);have HRa:Hid _:=(hb3.block _ (zab r5')).trans r5';have HRb:Hid _:=heap_alloc_new W3 (.cells #[.slice s2 Y.length n2] 25);have ca0:(W3.alloc (.cells #[.slice s2 Y.length n2] 25)).cell? ⟨W2.heap.size,0,none⟩=some (.slice s1 Y.length n1):=(cell_of_row _ _ 0 _ _ _ HRa.out).trans rfl;have ca0':W3.cell? ⟨W2.heap.size,0,none⟩=some (.slice s1 Y.length n1):=(cell_of_row _ _ 0 _ _ _ r5').trans rfl;have hlt3:W2.heap.size<W3.heap.size:=zab r5';clear b3 hE2 c2 c2' HE1 HR2 HR5 hbw3 r5' hb3 HFW;have HSA:Hid (StX w (W3.alloc (.cells #[.slice s2 Y.length n2] 25)) Y s1 n1 s2 n2 W2.heap.size W3.heap.size):=⟨HB3.out,HE1'.out,HE2'.out,HRa.out,HRb.out⟩;have hz0:(⟨#[]⟩:ByteArray).toList=[]:=by rw[ByteArray.toList_eq]
 clear HB3 HE1' HE2' HRa HRb HB2;generalize hg2:W3.heap.size=g2 at *;generalize hg1:W2.heap.size=g1 at *
 cases HFC with
 | bad no hne tk pr nd=>
  have TK:Hid _:=tk;have PR:Hid _:=pr;have ND:Hid _:=nd;have z1:(no == 0)=false:=by simpa using hne
  have z2:(no != 0)=true:=by simp[bne,z1]
  have z3:(no == no)=true:=by simp
  have z4:(no != no)=false:=by simp
  clear tk pr nd hne
  go_wp2_with fail
  refine zag (fun W=>StX w W Y s1 n1 s2 n2 g1 g2) HSA.out ?_;rintro WA hsa;refine(TK.out WA s1 n1 hsa.b hsa.e1).mono ?_;rintro e W4 ⟨rfl,b4⟩;have S4:Hid _:=hsa.next b4;have c4:=S4.out.c1;clear b4 hsa HSA ca0 ca0' TK
  go_wp2_with fail
  refine(PR.out W4 s1 n1 S4.out.b S4.out.e1).mono ?_;rintro e W5 ⟨rfl,b5⟩;have S5:Hid _:=S4.out.next b5;have c5:=S5.out.c1;have c5':=S5.out.c2;clear b5 S4 c4 PR
  go_wp2_with fail
  refine S5.out.same.mono ?_;rintro e W6 ⟨rfl,b6⟩;have S6:Hid _:=S5.out.next b6;clear b6 S5 c5 c5'
  go_wp2
  go_loopw [38] (fun i wr=>∃ q:Nat,q<=xs.length∧q<=40∧i=.int .i64 q∧StX w wr Y s1 n1 s2 n2 g1 g2) (fun i _=>xs.length - (intOf i).toNat)
  case atStart=>exact⟨0,Nat.zero_le _,Nat.zero_le _,rfl,S6.out⟩
  case round=>
   obtain⟨q,hq,hq2,rfl,hs⟩:=hrel;have S7:Hid _:=hs;have c7:=hs.c1;clear hs
   by_cases hlt:q<xs.length
   ·have hd:decide ((q:Int)<xs.length)=true:=by simp;omega
    obtain⟨v0,hv0⟩:∃ v0,xs[q]?=some v0:=⟨_,List.getElem?_eq_getElem hlt⟩;obtain⟨bx,ox,rfl,hcells⟩:=HXR.out wr S7.out.b (by omega);have cx:=hcells q v0 hv0 0 (.int .i64 v0) rfl;simp only[Nat.mul_one,Nat.add_zero] at cx;clear hv0 hcells
    by_cases h40:q=40
    ·subst h40
     go_wp2
     go_ret
     exact⟨rfl,S7.out.b⟩
    have z40:((q:Int) == 40)=false:=by simp;omega
    have HEND:Hid (∀ w',StX w w' Y s1 n1 s2 n2 g1 g2->(∃ q':Nat,q'<=xs.length∧q'<=40∧Value.int .i64 ((q:Int)+1)=.int .i64 (q':Int)∧StX w w' Y s1 n1 s2 n2 g1 g2)∧xs.length - (intOf (.int .i64 ((q:Int)+1))).toNat<xs.length - (intOf (.int .i64 (q:Int))).toNat):=fun w' hb=>⟨⟨q+1,hlt,by omega,congrArg (Value.int .i64) (by omega),hb⟩,(by show xs.length - ((q:Int)+1).toNat<xs.length - (q:Int).toNat;omega)⟩;clear HXR;have HC:=ND.out v0 wr s1 n1 S7.out.b S7.out.e1;clear ND
    go_wp2_with fail
    refine HC.mono ?_;rintro e W8 ⟨rfl,b8⟩;have S8:Hid _:=S7.out.next b8;clear b8 HC c7 cx
    go_wp2
    exact HEND.out _ S8.out
   ·have hd:decide ((q:Int)<xs.length)=false:=by simp;omega
    go_wp2
    go_ret
    exact⟨rfl,S7.out.b⟩
 | good m R hm tk pr tx out nd=>
  obtain⟨PS,pe,hpr,hRR⟩:∃ (PS:ByteArray) (pe:Int),(∀ (W:World) (sn:Option Addr) (cn:Nat),Below w.heap.size w W->EnZ W (.slice sn Y.length cn) Y->Calls Tryz.prog 24 #[.agg #[.slice sn Y.length cn]] W fun e w'=>e=.returned (.tuple #[.string PS,.int .i64 pe])∧Below W.heap.size W w')∧((4096<R.length∧PS=⟨#[]⟩∧pe=3)∨(¬ 4096<R.length∧PS=strU R∧pe=0)):=by
   by_cases hR:4096<R.length
   ·exact⟨⟨#[]⟩,3,fun W sn cn h hE=>by have:=pr W sn cn h hE;rw[if_pos hR] at this;exact this,.inl ⟨hR,rfl,rfl⟩⟩
   ·exact⟨strU R,0,fun W sn cn h hE=>by have:=pr W sn cn h hE;rw[if_neg hR] at this;exact this,.inr ⟨hR,rfl,rfl⟩⟩
  have TK:Hid _:=tk;have PR:Hid _:=hpr;have TX:Hid _:=tx;have OU:Hid _:=out;have ND:Hid _:=nd;have HRR:Hid _:=hRR;clear tk pr tx out nd hpr hRR
  go_wp2_with fail
  refine zag (fun W=>StX w W Y s1 n1 s2 n2 g1 g2) HSA.out ?_;rintro WA hsa;refine(TK.out WA s1 n1 hsa.b hsa.e1).mono ?_;rintro e W4 ⟨sl,cl,rfl,b4⟩;have S4:Hid _:=hsa.next b4;have c4:=S4.out.c1;clear b4 hsa HSA ca0 ca0' TK
  go_wp2_with fail
  refine(PR.out W4 s1 n1 S4.out.b S4.out.e1).mono ?_;rintro e W5 ⟨rfl,b5⟩;have S5:Hid _:=S4.out.next b5;have c5:=S5.out.c1;have c5':=S5.out.c2;clear b5 S4 c4 PR
  go_wp2_with fail
  refine S5.out.same.mono ?_;rintro e W6 ⟨rfl,b6⟩;have S6:Hid _:=S5.out.next b6;clear b6 S5 c5 c5'
  go_wp2
  go_loopw [38] (fun i wr=>∃ q:Nat,q<=xs.length∧q<=40∧i=.int .i64 q∧StX w wr Y s1 n1 s2 n2 g1 g2) (fun i _=>xs.length - (intOf i).toNat)
  case atStart=>exact⟨0,Nat.zero_le _,Nat.zero_le _,rfl,S6.out⟩
  case round=>
   obtain⟨q,hq,hq2,rfl,hs⟩:=hrel;have S7:Hid _:=hs;have c7:=hs.c1;have c7':=hs.c2;clear hs
   by_cases hlt:q<xs.length
   ·have hd:decide ((q:Int)<xs.length)=true:=by simp;omega
    obtain⟨v0,hv0⟩:∃ v0,xs[q]?=some v0:=⟨_,List.getElem?_eq_getElem hlt⟩;obtain⟨bx,ox,rfl,hcells⟩:=HXR.out wr S7.out.b (by omega);have cx:=hcells q v0 hv0 0 (.int .i64 v0) rfl;simp only[Nat.mul_one,Nat.add_zero] at cx;clear hv0 hcells
    by_cases h40:q=40
    ·subst h40;have HTX:=TX.out wr s2 n2 S7.out.b S7.out.e2;have zm:decide ((m:Int) > 1024)=false:=by simp;omega
     rcases HRR.out with⟨hR,rfl,rfl⟩ | ⟨hR,rfl,rfl⟩
     ·have zr:decide (((strU R).size:Int) > 4096)=true:=by rw[zad];simp;omega
      clear HRR ND OU TX
      go_wp2_with fail
      refine HTX.mono ?_;rintro e W8 ⟨rfl,b8⟩;have HBZ:Hid (Below w.heap.size w W8):=S7.out.b.trans (b8.mono S7.out.b.size);clear b8 HTX c7 c7'
      go_wp2
      go_ret
      exact⟨rfl,HBZ.out⟩
     ·have zr:decide (((strU R).size:Int) > 4096)=false:=by rw[zad];simp;omega
      clear HRR ND OU TX
      go_wp2_with fail
      refine HTX.mono ?_;rintro e W8 ⟨rfl,b8⟩;have HBZ:Hid (Below w.heap.size w W8):=S7.out.b.trans (b8.mono S7.out.b.size);clear b8 HTX c7 c7'
      go_wp2
      go_ret
      exact⟨rfl,HBZ.out⟩
    have z40:((q:Int) == 40)=false:=by simp;omega
    have HEND:Hid (∀ w',StX w w' Y s1 n1 s2 n2 g1 g2->(∃ q':Nat,q'<=xs.length∧q'<=40∧Value.int .i64 ((q:Int)+1)=.int .i64 (q':Int)∧StX w w' Y s1 n1 s2 n2 g1 g2)∧xs.length - (intOf (.int .i64 ((q:Int)+1))).toNat<xs.length - (intOf (.int .i64 (q:Int))).toNat):=fun w' hb=>⟨⟨q+1,hlt,by omega,congrArg (Value.int .i64) (by omega),hb⟩,(by show xs.length - ((q:Int)+1).toNat<xs.length - (q:Int).toNat;omega)⟩;clear HXR
    cases y1:decide (v0<0)
    rotate_left
    focus
     have HC:=OU.out v0 (.inl (by simpa using y1)) wr s1 n1 S7.out.b S7.out.e1;clear ND OU TX HRR
     go_wp2_with fail
     refine HC.mono ?_;rintro e W8 ⟨rfl,b8⟩;have S8:Hid _:=S7.out.next b8;have c8:=S8.out.c2;clear b8 HC c7 c7' cx
     go_wp2
     exact HEND.out _ S8.out
    cases y2:decide (v0 ≥ (Y.length:Int))
    rotate_left
    focus
     have HC:=OU.out v0 (.inr (by simpa using y2)) wr s1 n1 S7.out.b S7.out.e1;clear ND OU TX HRR
     go_wp2_with fail
     refine HC.mono ?_;rintro e W8 ⟨rfl,b8⟩;have S8:Hid _:=S7.out.next b8;have c8:=S8.out.c2;clear b8 HC c7 c7' cx
     go_wp2
     exact HEND.out _ S8.out
    obtain⟨k,rfl⟩:∃ k:Nat,v0=k:=⟨v0.toNat,by simp at y1;omega⟩;obtain⟨d,hdk⟩:∃ d,Y[k]?=some d:=⟨_,List.getElem?_eq_getElem (by simp at y2;omega)⟩;obtain⟨S,hnd,htn⟩:=ND.out k d hdk;have HDK:Hid _:=hdk;have HTN:Hid _:=htn;have HC:=hnd wr s1 n1 S7.out.b S7.out.e1;have y3:decide ((k:Int)<Y.length)=true:=by simp at y2 ⊢;omega
    have y4:(k:Int)<Y.length:=by simp at y2;omega
    clear ND OU TX HRR hnd htn hdk
    cases ha:aloB d.kind
    ·rw[ha] at HC;clear HTN
     go_wp2_with fail
     refine HC.mono ?_;rintro e W8 ⟨rfl,b8⟩;have S8:Hid _:=S7.out.next b8;have c8:=S8.out.c2;obtain⟨bs,bo,sk,kc,rfl,k0,k1,k2,k3,k4,k5,k6⟩:=S8.out.node HDK.out;clear b8 HC c7 c7' cx
     go_wp2_with fail
     refine(zjj d.kind d.text d.num _ d.pos d.frm d.to W8).mono ?_;rintro e W9 ⟨rfl,b9⟩;rw[ha];have S9:Hid _:=S8.out.next b9;clear b9 k0 k1 k2 k3 k4 k5 k6 c8
     go_wp2
     exact HEND.out _ S9.out
    ·rw[ha] at HC;have HT2:Hid _:=HTN.out ha;clear HTN
     go_wp2_with fail
     refine HC.mono ?_;rintro e W8 ⟨rfl,b8⟩;have S8:Hid _:=S7.out.next b8;have c8:=S8.out.c2;obtain⟨bs,bo,sk,kc,rfl,k0,k1,k2,k3,k4,k5,k6⟩:=S8.out.node HDK.out;clear b8 HC c7 c7' cx
     go_wp2_with fail
     refine(zjj d.kind d.text d.num _ d.pos d.frm d.to W8).mono ?_;rintro e W9 ⟨rfl,b9⟩;rw[ha];have S9:Hid _:=S8.out.next b9;have c9:=S9.out.c2;have HC:=HT2.out W9 _ _ S9.out.b S9.out.e2;clear b9 k0 k1 k2 k3 k4 k5 k6 c8 HT2
     go_wp2_with fail
     refine HC.mono ?_;rintro e W10 ⟨rfl,b10⟩;have S10:Hid _:=S9.out.next b10;clear b10 HC c9
     go_wp2
     exact HEND.out _ S10.out
   ·have hd:decide ((q:Int)<xs.length)=false:=by simp;omega
    have HTX:=TX.out wr s2 n2 S7.out.b S7.out.e2;have zm:decide ((m:Int) > 1024)=false:=by simp;omega
    rcases HRR.out with⟨hR,rfl,rfl⟩ | ⟨hR,rfl,rfl⟩
    ·have zr:decide (((strU R).size:Int) > 4096)=true:=by rw[zad];simp;omega
     clear HRR ND OU TX
     go_wp2_with fail
     refine HTX.mono ?_;rintro e W8 ⟨rfl,b8⟩;have HBZ:Hid (Below w.heap.size w W8):=S7.out.b.trans (b8.mono S7.out.b.size);clear b8 HTX c7 c7'
     go_wp2
     go_ret
     exact⟨rfl,HBZ.out⟩
    ·have zr:decide (((strU R).size:Int) > 4096)=false:=by rw[zad];simp;omega
     clear HRR ND OU TX
     go_wp2_with fail
     refine HTX.mono ?_;rintro e W8 ⟨rfl,b8⟩;have HBZ:Hid (Below w.heap.size w W8):=S7.out.b.trans (b8.mono S7.out.b.size);clear b8 HTX c7 c7'
     go_wp2
     go_ret
     exact⟨rfl,HBZ.out⟩
end Go.Proofs.YtabiangdmibocaaGreatDoor
