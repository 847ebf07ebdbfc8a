import Derived.Test.YtmclgbkijeidaaaGreatDoorUnJ
namespace Go.Proofs.YtmclgbkijeidaaaGreatDoor
set_option maxRecDepth 100000
set_option maxHeartbeats 4000000
open Go.RowKit
section
variable {T:Nat}{w:World}{g:Nat}{st:Option Addr}{cap:Nat}{ts:List Tok}{p:Nat}
theorem zg8 (k:Int)(hR:Rdr T w g st cap ts p):Calls Tryz.prog 154 #[.pointer (some ⟨g,0,none⟩),.int .i64 k] w (PtP T w g st cap ts (worP ts k p)):=by
 have HR0:=hid hR;have hT:=hR.hT;have hgT:=hR.hg;have HG0:Hid (w.grownBy w (some g)):=zbp _ _;clear hR;obtain⟨r,hX⟩:∃ r,worP ts k p=r:=⟨_,rfl⟩;rw[hX];have HX0:=hid hX;clear hX;unfold worP at HX0
 go_enter Tryz.func154,Tryz.ntmps154
 go_wp2_with fail
 refine(zfm HR0.out).mono ?_;rintro e W1 ⟨rfl,b1⟩;have HR1:=hid (HR0.out.low b1);have HB1:Hid (Below w.heap.size w W1):=b1;clear b1 HR0;unfold Rs.need at HX0;obtain⟨bb,hb⟩:∃ bb,namB ts p=bb:=⟨_,rfl⟩;rw[hb] at HX0 ⊢
 cases bb
 ·go_wp2_with fail
  refine(zep HR1.out).mono ?_;rintro e W2 ⟨rfl,b2⟩;have HP:Hid (PtP T w g st cap ts r (wroE (herI ts p)) W2):=zap (zae (HB1.out.trans (b2.mono HB1.out.size))) HX0.out.symm;clear HX0 HR1 HB1 b2
  go_wp2
  exact⟨rfl,HP.out⟩
 have hp:=zdq hb
 go_wp2_with fail
 refine(zef k HR1.out hp).mono ?_;rintro e W2 ⟨g2,b,v,rfl,hM,r2⟩;have HP:Hid (PtP T w g st cap ts r (.returned (.pointer (some ⟨b,0,none⟩))) W2):=zbj (zab (zae HB1.out) g2) HX0.out (hM.mono HB1.out.size).fin r2;clear HX0 HR1 HB1 g2 hM r2
 go_wp2
 go_ret
 exact HP.out
theorem zgq (hR:Rdr T w g st cap ts p):Calls Tryz.prog 133 #[.pointer (some ⟨g,0,none⟩)] w (PtP T w g st cap ts (typP ts p)):=by
 have HR0:=hid hR;have hT:=hR.hT;have hgT:=hR.hg;have HG0:Hid (w.grownBy w (some g)):=zbp _ _;clear hR;obtain⟨r,hX⟩:∃ r,typP ts p=r:=⟨_,rfl⟩;rw[hX];have HX0:=hid hX;clear hX;unfold typP at HX0
 go_enter Tryz.func133,Tryz.ntmps133
 have hfd:∀ (a b c:Value) (W:World),(Instr.field 38 (.agg #[a,b,c]) 1).run Tryz.prog W=.ok b W:=fun _ _ _ _=>rfl;have HE:Hid (∀ q (s:List UInt8),((nxT ts q).text.toList == s)=isT ts q s):=fun q s=>by unfold isT;rw[ByteArray.toList_eq]
 go_wp2_with fail
 refine(zc8 HR0.out).mono ?_;rintro e W1 ⟨rfl,b1⟩;have HR1:=hid (HR0.out.low b1);have HG1:Hid (w.grownBy W1 (some g)):=zae b1;clear b1 HR0 HG0;obtain⟨bb,hb⟩:∃ bb,(isT ts p [105,110,116] || isT ts p [98,111,111,108] || isT ts p [115,116,114,105,110,103])=bb:=⟨_,rfl⟩;rw[hb] at HX0
 cases bb
 rotate_left
 ·have hp:p<ts.length:=by
   rw[Bool.or_eq_true,Bool.or_eq_true] at hb;rcases hb with(hb|hb) | hb <;> exact zcg hb (by simp)
  have HLF:Hid (∀ W',Below W1.heap.size W1 W'->Calls Tryz.prog 153 #[.pointer (some ⟨g,0,none⟩),.int .i64 10] W' fun e W2=>PtP T w g st cap ts r e W2∧∃ b,e=.returned (.pointer (some ⟨b,0,none⟩))):=fun W' hb'=>(zef 10 (HR1.out.low hb') hp).mono fun e W2 ⟨g2,b,v,he,hM,r2⟩=>by
   subst he;exact⟨zbj (zab (zab HG1.out (zae hb')) g2) (za8 rfl HX0.out) (hM.mono (Nat.le_trans HG1.out.size hb'.size)).fin r2,b,rfl⟩
  have hb3:((nxT ts p).text.toList == [105,110,116])=true∨((nxT ts p).text.toList == [105,110,116])=false∧(((nxT ts p).text.toList == [98,111,111,108])=true∨((nxT ts p).text.toList == [98,111,111,108])=false∧((nxT ts p).text.toList == [115,116,114,105,110,103])=true):=by
   rw[HE.out,HE.out,HE.out]
   cases h1:isT ts p [105,110,116]
   ·cases h2:isT ts p [98,111,111,108]
    ·rw[h1,h2] at hb;exact .inr ⟨rfl,.inr ⟨rfl,hb⟩⟩
    ·exact .inr ⟨rfl,.inl rfl⟩
   ·exact .inl rfl
  clear hb HX0 HE HR1 HG1;unfold Tok.cells;rcases hb3 with h1|⟨h1,h2|⟨h2,h3⟩⟩
  ·go_wp2_with fail
   refine(HLF.out _ (Below.refl _ _)).mono ?_;rintro e W2 ⟨hP,b,rfl⟩;have HP:Hid _:=hP;clear hP
   go_wp2
   go_ret
   exact HP.out
  ·go_wp2_with fail
   refine(HLF.out _ (Below.refl _ _)).mono ?_;rintro e W2 ⟨hP,b,rfl⟩;have HP:Hid _:=hP;clear hP
   go_wp2
   go_ret
   exact HP.out
  ·go_wp2_with fail
   refine(HLF.out _ (Below.refl _ _)).mono ?_;rintro e W2 ⟨hP,b,rfl⟩;have HP:Hid _:=hP;clear hP
   go_wp2
   go_ret
   exact HP.out
 have HX1:Hid _:=zbu rfl HX0.out;obtain⟨h1,h2,h3⟩:((nxT ts p).text.toList == [105,110,116])=false∧((nxT ts p).text.toList == [98,111,111,108])=false∧((nxT ts p).text.toList == [115,116,114,105,110,103])=false:=by
  rw[HE.out,HE.out,HE.out];rw[Bool.or_eq_false_iff,Bool.or_eq_false_iff] at hb;exact⟨hb.1.1,hb.1.2,hb.2⟩
 clear hb HX0;unfold Tok.cells
 go_wp2_with fail
 clear h1 h2 h3;refine(zih 1 (Nat.le_refl _) HR1.out).mono ?_;rintro e W2 ⟨rfl,b2⟩;have HR2:=hid (HR1.out.low b2);have HG2:=hid (zab HG1.out (zae b2));clear b2 HR1 HG1;have HE1:Hid _:=HE.out (p+1) [46];obtain⟨bb,hb⟩:∃ bb,isT ts (p+1) [46]=bb:=⟨_,rfl⟩;rw[hb] at HX1 HE1;unfold Tok.cells
 cases bb
 ·have hne:((nxT ts (p+1)).text.toList == [46])=false:=HE1.out;have HX2:Hid _:=zbu rfl HX1.out;clear HX1 hb
  go_wp2_with fail
  refine(zg8 11 HR2.out).mono ?_;rintro e W3 ⟨g1,hm⟩;rcases hx:worP ts 11 p with⟨t3,q3⟩ | s3|_
  rotate_left
  ·rw[hx] at hm;have hm':e=wroE s3:=hm;subst hm';have HP:Hid (PtP T w g st cap ts r (wroE s3) W3):=zap (zab HG2.out g1) (HX2.out.symm.trans hx);clear HX2 HR2 HG2 g1 hm;unfold wroE
   go_wp2
   exact⟨rfl,HP.out⟩
  ·rw[hx] at hm;exact hm.elim
  rw[hx] at hm;obtain⟨b3,rfl,hpt,r3⟩:=hm;have HP:Hid (PtP T w g st cap ts r (.returned (.pointer (some ⟨b3,0,none⟩))) W3):=zbj (zab HG2.out g1) (hx.symm.trans HX2.out) (hpt.wide HG2.out.size (Nat.le_refl _)) r3;clear HX2 HR2 HG2 g1 hpt r3 hx
  go_wp2
  go_ret
  exact HP.out
 have heq:((nxT ts (p+1)).text.toList == [46])=true:=HE1.out;have HX2:Hid _:=za8 rfl HX1.out;clear HX1 hb HE1 HE
 go_wp2_with fail
 refine(zbi 12 HR2.out).mono ?_;rintro e W11 ⟨bk11,rfl,hM,b1⟩;have HM11:Hid (Mk w.heap.size W11 bk11 12 ⟨#[]⟩ 0 (herI ts p) (herI ts p) 0 (.slice none 0 0) []):=hM.mono HG2.out.size;have HG11:=hid (zab HG2.out (zae b1));have HR11:=hid (HR2.out.low b1);clear hM b1 HG2 HR2;clear heq;have HL12:Hid ((bk11<W11.heap.size∧∀ q,((.slice none 0 0):Value).ownBlock=some q->q<W11.heap.size)∧w.heap.size<=W11.heap.size∧g<W11.heap.size):=⟨HM11.out.at,HG11.out.size,HR11.out.lt⟩
 go_wp2_with fail
 refine(zg8 23 HR11.out).mono ?_;rintro e W12 ⟨g1,hm⟩;rcases hx:worP ts 23 p with⟨t12,q12⟩ | s12|_
 rotate_left
 ·rw[hx] at hm;have hm':e=wroE s12:=hm;subst hm';have HP:Hid (PtP T w g st cap ts r (wroE (s12)) W12):=zap (zab HG11.out g1) (zas hx HX2.out);clear HG11 HR11 HX2 HM11 HL12;unfold wroE
  go_wp2
  exact⟨rfl,HP.out⟩
 ·rw[hx] at hm;exact hm.elim
 rw[hx] at hm;obtain⟨bk12,rfl,hpt,r1⟩:=hm;have HX12:Hid _:=za3 hx HX2.out;have hsz12:=g1.size;have HG13:=hid (zab HG11.out g1);have HM13:=hid (HM11.out.grow (Nat.lt_of_lt_of_le hgT hT) g1);have HK12:=hid hpt;have HR12:Hid (Rdr T W12 g st cap ts q12):=r1;clear g1 r1 hpt hx HX2 HR11 HG11 HM11
 go_wp2_with fail
 refine zaf (fun W=>Below W12.heap.size W12 W∧W.heap[W12.heap.size]?=some (.cells #[.pointer (some ⟨bk12,0,none⟩)] 93 (0,0))) ⟨(Below.refl _ _).alloc (Nat.le_refl _) _,heap_alloc_new _ _⟩ ?_;rintro Wa14 ⟨ba,ra⟩;refine(zcm (bs2:=[bk12]) (l2:=[t12]) (S2:=fun j=>W11.heap.size<=j∧j<W12.heap.size) (HM13.out.below ba) (zau ra) (fun h=>by cases h) (PsAt.one (HK12.out.low (Nat.le_refl _) ba)) (zb7 HL12.out.1 HL12.out.2.1 ba.size) (by simp)).mono ?_;rintro e W14 ⟨rfl,⟨v14,hM⟩,b1⟩;have HM14:=hid hM;have HGa14:=hid (zab HG13.out (zae ba));have HRa14:=hid (HR12.out.low ba);have HG15:=hid (zav HGa14.out b1);have HR15:=hid (HRa14.out.below hT b1);clear hM b1 ba ra HM13 HL12 HG13 HR12 HGa14 HRa14 HK12
 go_wp2_with fail
 refine(zbd ⟨#[46]⟩ (by simp) HR15.out).mono ?_;rintro e W16 ⟨g1,hm0⟩;have hm:(if isT ts q12 [46] then e=.returned (.tuple #[])∧Rdr T W16 g st cap ts (q12+1) else e=wroE (herI ts q12)):=hm0;clear hm0;obtain⟨bb,hb⟩:∃ bb,isT ts q12 [46]=bb:=⟨_,rfl⟩;rw[hb] at hm
 cases bb
 ·simp only[Bool.false_eq_true,if_false] at hm;subst hm;have HP:Hid (PtP T w g st cap ts r (wroE (herI ts q12)) W16):=zap (zab HG15.out g1) (zda hb HX12.out);clear HG15 HR15 HX12 HM14;unfold wroE
  go_wp2
  exact⟨rfl,HP.out⟩
 simp only[if_true] at hm;obtain⟨rfl,r1⟩:=hm;have HX16:Hid _:=zcl hb HX12.out;have HG17:=hid (zab HG15.out g1);have HM17:=hid (HM14.out.grow (Nat.lt_of_lt_of_le hgT hT) g1);have HR16:Hid (Rdr T W16 g st cap ts (q12+1)):=r1;clear g1 r1 hb HX12 HR15 HG15 HM14
 go_wp2_with fail
 refine(zc9 HR16.out).mono ?_;rintro e W18 ⟨g1,hm⟩;obtain⟨bb,hb⟩:∃ bb,namB ts (q12+1)=bb:=⟨_,rfl⟩;rw[hb] at hm
 cases bb
 ·simp only[Bool.false_eq_true,if_false] at hm;subst hm;have HP:Hid (PtP T w g st cap ts r (wroE (herI ts (q12+1))) W18):=zap (zab HG17.out g1) (zeq hb HX16.out);clear HG17 HR16 HX16 HM17;unfold wroE
  go_wp2
  exact⟨rfl,HP.out⟩
 simp only[if_true] at hm;obtain⟨rfl,r1⟩:=hm;have HX18:Hid _:=zdt hb HX16.out;have HG19:=hid (zab HG17.out g1);have HM19:=hid (HM17.out.grow (Nat.lt_of_lt_of_le hgT hT) g1);have HR18:Hid (Rdr T W18 g st cap ts ((q12+1)+1)):=r1;clear g1 r1 hb HX16 HR16 HG17 HM17
 go_wp2_with fail
 refine(zco (nxT ts (q12+1)) HM19.out).mono ?_;rintro e W20 ⟨rfl,hM,b1⟩;have HM20:=hid hM;have HG21:=hid (zav HG19.out b1);have HR21:=hid (HR18.out.below hT b1);clear hM b1 HM19 HG19 HR18
 go_wp2_with fail
 refine(za4 (bs2:=[]) (l2:=[]) (S2:=fun _=>False) HR21.out hT HM20.out RowsAt.none (fun _=>⟨rfl,rfl⟩) (PsAt.nil _ _) (fun _ h=>h.elim) (by simp)).mono ?_;rintro e W22 ⟨rfl,⟨v22,hM⟩,b1⟩;have HM22:=hid hM;have HG23:=hid (zav HG21.out b1);have HR23:=hid (HR21.out.below hT b1);clear hM b1 HM20 HG21 HR21
 go_wp2
 go_ret
 exact zbj HG23.out HX18.out HM22.out.fin HR23.out
theorem zh1 (k:Int)(hR:Rdr T w g st cap ts p):Calls Tryz.prog 156 #[.pointer (some ⟨g,0,none⟩),.int .i64 k] w (PtP T w g st cap ts (tydP ts k p)):=by
 have HR0:=hid hR;have hT:=hR.hT;have hgT:=hR.hg;have HG0:Hid (w.grownBy w (some g)):=zbp _ _;clear hR;obtain⟨r,hX⟩:∃ r,tydP ts k p=r:=⟨_,rfl⟩;rw[hX];have HX0:=hid hX;clear hX;unfold tydP at HX0
 go_enter Tryz.func156,Tryz.ntmps156
 go_wp2_with fail
 refine(zbi k HR0.out).mono ?_;rintro e W1 ⟨bk1,rfl,hM,b1⟩;have HM1:Hid (Mk w.heap.size W1 bk1 k ⟨#[]⟩ 0 (herI ts p) (herI ts p) 0 (.slice none 0 0) []):=hM.mono HG0.out.size;have HG1:=hid (zab HG0.out (zae b1));have HR1:=hid (HR0.out.low b1);clear hM b1 HG0 HR0
 go_wp2_with fail
 refine(zc9 HR1.out).mono ?_;rintro e W2 ⟨g1,hm⟩;obtain⟨bb,hb⟩:∃ bb,namB ts p=bb:=⟨_,rfl⟩;rw[hb] at hm
 cases bb
 ·simp only[Bool.false_eq_true,if_false] at hm;subst hm;have HP:Hid (PtP T w g st cap ts r (wroE (herI ts p)) W2):=zap (zab HG1.out g1) (zeq hb HX0.out);clear HG1 HR1 HX0 HM1;unfold wroE
  go_wp2
  exact⟨rfl,HP.out⟩
 simp only[if_true] at hm;obtain⟨rfl,r1⟩:=hm;have HX2:Hid _:=zdt hb HX0.out;have HG3:=hid (zab HG1.out g1);have HM3:=hid (HM1.out.grow (Nat.lt_of_lt_of_le hgT hT) g1);have HR2:Hid (Rdr T W2 g st cap ts (p+1)):=r1;clear g1 r1 hb HX0 HR1 HG1 HM1
 go_wp2_with fail
 refine(zco (nxT ts p) HM3.out).mono ?_;rintro e W4 ⟨rfl,hM,b1⟩;have HM4:=hid hM;have HG5:=hid (zav HG3.out b1);have HR5:=hid (HR2.out.below hT b1);clear hM b1 HM3 HG3 HR2;have HL6:Hid ((bk1<W4.heap.size∧∀ q,((.slice none 0 0):Value).ownBlock=some q->q<W4.heap.size)∧w.heap.size<=W4.heap.size∧g<W4.heap.size):=⟨HM4.out.at,HG5.out.size,HR5.out.lt⟩
 go_wp2_with fail
 refine(zgq HR5.out).mono ?_;rintro e W6 ⟨g1,hm⟩;rcases hx:typP ts (p+1) with⟨t6,q6⟩ | s6|_
 rotate_left
 ·rw[hx] at hm;have hm':e=wroE s6:=hm;subst hm';have HP:Hid (PtP T w g st cap ts r (wroE (s6)) W6):=zap (zab HG5.out g1) (zas hx HX2.out);clear HG5 HR5 HX2 HM4 HL6;unfold wroE
  go_wp2
  exact⟨rfl,HP.out⟩
 ·rw[hx] at hm;exact hm.elim
 rw[hx] at hm;obtain⟨bk6,rfl,hpt,r1⟩:=hm;have HX6:Hid _:=za3 hx HX2.out;have hsz6:=g1.size;have HG7:=hid (zab HG5.out g1);have HM7:=hid (HM4.out.grow (Nat.lt_of_lt_of_le hgT hT) g1);have HK6:=hid hpt;have HR6:Hid (Rdr T W6 g st cap ts q6):=r1;clear g1 r1 hpt hx HX2 HR5 HG5 HM4
 go_wp2_with fail
 refine zaf (fun W=>Below W6.heap.size W6 W∧W.heap[W6.heap.size]?=some (.cells #[.pointer (some ⟨bk6,0,none⟩)] 93 (0,0))) ⟨(Below.refl _ _).alloc (Nat.le_refl _) _,heap_alloc_new _ _⟩ ?_;rintro Wa8 ⟨ba,ra⟩;refine(za4 (bs2:=[bk6]) (l2:=[t6]) (S2:=fun j=>W4.heap.size<=j∧j<W6.heap.size) (HR6.out.low ba) hT (HM7.out.below ba) (zau ra) (fun h=>by cases h) (PsAt.one (HK6.out.low (Nat.le_refl _) ba)) (zb7 HL6.out.1 HL6.out.2.1 ba.size) (by simp)).mono ?_;rintro e W8 ⟨rfl,⟨v8,hM⟩,b1⟩;have HM8:=hid hM;have HGa8:=hid (zab HG7.out (zae ba));have HRa8:=hid (HR6.out.low ba);have HG9:=hid (zav HGa8.out b1);have HR9:=hid (HRa8.out.below hT b1);clear hM b1 ba ra HM7 HL6 HG7 HR6 HGa8 HRa8 HK6
 go_wp2
 go_ret
 exact zbj HG9.out HX6.out HM8.out.fin HR9.out
theorem zl1 (hR:Rdr T w g st cap ts p):Calls Tryz.prog 137 #[.pointer (some ⟨g,0,none⟩)] w (PtP T w g st cap ts (tydP ts 6 p)):=by
 have HR0:=hid hR;clear hR;have hC:=zh1 6 HR0.out;obtain⟨r,hX⟩:∃ r,tydP ts 6 p=r:=⟨_,rfl⟩;rw[hX] at hC ⊢
 go_enter Tryz.func137,Tryz.ntmps137
 go_wp2_with fail
 refine hC.mono ?_;clear hC hX;rintro e W1 hm;have HP:=hid hm;rcases r with⟨t3,q3⟩ | s3|_
 ·obtain⟨-,b3,rfl,-⟩:=hm
  go_wp2
  go_ret
  exact HP.out
 ·obtain⟨-,hm'⟩:=hm;have hm2:e=wroE s3:=hm';subst hm2;clear hm';unfold wroE at HP ⊢
  go_wp2
  exact⟨rfl,HP.out⟩
 ·exact hm.2.elim
theorem zl2 (hR:Rdr T w g st cap ts p):Calls Tryz.prog 140 #[.pointer (some ⟨g,0,none⟩)] w (PtP T w g st cap ts (tydP ts 9 p)):=by
 have HR0:=hid hR;clear hR;have hC:=zh1 9 HR0.out;obtain⟨r,hX⟩:∃ r,tydP ts 9 p=r:=⟨_,rfl⟩;rw[hX] at hC ⊢
 go_enter Tryz.func140,Tryz.ntmps140
 go_wp2_with fail
 refine hC.mono ?_;clear hC hX;rintro e W1 hm;have HP:=hid hm;rcases r with⟨t3,q3⟩ | s3|_
 ·obtain⟨-,b3,rfl,-⟩:=hm
  go_wp2
  go_ret
  exact HP.out
 ·obtain⟨-,hm'⟩:=hm;have hm2:e=wroE s3:=hm';subst hm2;clear hm';unfold wroE at HP ⊢
  go_wp2
  exact⟨rfl,HP.out⟩
 ·exact hm.2.elim
theorem ziq (hR:Rdr T w g st cap ts p):Calls Tryz.prog 138 #[.pointer (some ⟨g,0,none⟩)] w (PtP T w g st cap ts (recP ts p)):=by
 have HR0:=hid hR;have hT:=hR.hT;have hgT:=hR.hg;have HG0:Hid (w.grownBy w (some g)):=zbp _ _;clear hR;obtain⟨r,hX⟩:∃ r,recP ts p=r:=⟨_,rfl⟩;rw[hX];have HX0:=hid hX;clear hX;unfold recP at HX0
 go_enter Tryz.func138,Tryz.ntmps138
 go_wp2_with fail
 refine(zbi 8 HR0.out).mono ?_;rintro e W1 ⟨bk1,rfl,hM,b1⟩;have HM1:Hid (Mk w.heap.size W1 bk1 8 ⟨#[]⟩ 0 (herI ts p) (herI ts p) 0 (.slice none 0 0) []):=hM.mono HG0.out.size;have HG1:=hid (zab HG0.out (zae b1));have HR1:=hid (HR0.out.low b1);clear hM b1 HG0 HR0
 go_wp2_with fail
 refine(zc9 HR1.out).mono ?_;rintro e W2 ⟨g1,hm⟩;obtain⟨bb,hb⟩:∃ bb,namB ts p=bb:=⟨_,rfl⟩;rw[hb] at hm
 cases bb
 ·simp only[Bool.false_eq_true,if_false] at hm;subst hm;have HP:Hid (PtP T w g st cap ts r (wroE (herI ts p)) W2):=zap (zab HG1.out g1) (zeq hb HX0.out);clear HG1 HR1 HX0 HM1;unfold wroE
  go_wp2
  exact⟨rfl,HP.out⟩
 simp only[if_true] at hm;obtain⟨rfl,r1⟩:=hm;have HX2:Hid _:=zdt hb HX0.out;have HG3:=hid (zab HG1.out g1);have HM3:=hid (HM1.out.grow (Nat.lt_of_lt_of_le hgT hT) g1);have HR2:Hid (Rdr T W2 g st cap ts (p+1)):=r1;clear g1 r1 hb HX0 HR1 HG1 HM1
 go_wp2_with fail
 refine(zco (nxT ts p) HM3.out).mono ?_;rintro e W4 ⟨rfl,hM,b1⟩;have HM4:=hid hM;have HG5:=hid (zav HG3.out b1);have HR5:=hid (HR2.out.below hT b1);clear hM b1 HM3 HG3 HR2;have HL6:Hid ((bk1<W4.heap.size∧∀ q,((.slice none 0 0):Value).ownBlock=some q->q<W4.heap.size)∧w.heap.size<=W4.heap.size∧g<W4.heap.size):=⟨HM4.out.at,HG5.out.size,HR5.out.lt⟩
 go_wp2_with fail
 refine(zg8 11 HR5.out).mono ?_;rintro e W6 ⟨g1,hm⟩;rcases hx:worP ts 11 (p+1) with⟨t6,q6⟩ | s6|_
 rotate_left
 ·rw[hx] at hm;have hm':e=wroE s6:=hm;subst hm';have HP:Hid (PtP T w g st cap ts r (wroE (s6)) W6):=zap (zab HG5.out g1) (zas hx HX2.out);clear HG5 HR5 HX2 HM4 HL6;unfold wroE
  go_wp2
  exact⟨rfl,HP.out⟩
 ·rw[hx] at hm;exact hm.elim
 rw[hx] at hm;obtain⟨bk6,rfl,hpt,r1⟩:=hm;have HX6:Hid _:=za3 hx HX2.out;have hsz6:=g1.size;have HG7:=hid (zab HG5.out g1);have HM7:=hid (HM4.out.grow (Nat.lt_of_lt_of_le hgT hT) g1);have HK6:=hid hpt;have HR6:Hid (Rdr T W6 g st cap ts q6):=r1;clear g1 r1 hpt hx HX2 HR5 HG5 HM4
 go_wp2_with fail
 refine zaf (fun W=>Below W6.heap.size W6 W∧W.heap[W6.heap.size]?=some (.cells #[.pointer (some ⟨bk6,0,none⟩)] 93 (0,0))) ⟨(Below.refl _ _).alloc (Nat.le_refl _) _,heap_alloc_new _ _⟩ ?_;rintro Wa8 ⟨ba,ra⟩;refine(za4 (bs2:=[bk6]) (l2:=[t6]) (S2:=fun j=>W4.heap.size<=j∧j<W6.heap.size) (HR6.out.low ba) hT (HM7.out.below ba) (zau ra) (fun h=>by cases h) (PsAt.one (HK6.out.low (Nat.le_refl _) ba)) (zb7 HL6.out.1 HL6.out.2.1 ba.size) (by simp)).mono ?_;rintro e W8 ⟨rfl,⟨v8,hM⟩,b1⟩;have HM8:=hid hM;have HGa8:=hid (zab HG7.out (zae ba));have HRa8:=hid (HR6.out.low ba);have HG9:=hid (zav HGa8.out b1);have HR9:=hid (HRa8.out.below hT b1);clear hM b1 ba ra HM7 HL6 HG7 HR6 HGa8 HRa8 HK6
 go_wp2
 go_ret
 exact zbj HG9.out HX6.out HM8.out.fin HR9.out
end
section
variable {T:Nat}{w:World}{g:Nat}{st:Option Addr}{cap:Nat}{ts:List Tok}{p:Nat}
theorem zfd (hR:Rdr T w g st cap ts p):Calls Tryz.prog 152 #[.pointer (some ⟨g,0,none⟩)] w (PtP T w g st cap ts (va1P ts p)):=by
 have HR0:=hid hR;have hT:=hR.hT;have hgT:=hR.hg;have HG0:Hid (w.grownBy w (some g)):=zbp _ _;clear hR;obtain⟨r,hX⟩:∃ r,va1P ts p=r:=⟨_,rfl⟩;rw[hX];have HX0:=hid hX;clear hX;unfold va1P at HX0
 go_enter Tryz.func152,Tryz.ntmps152
 have HE:Hid (∀ q (s:List UInt8),((nxT ts q).text.toList == s)=isT ts q s):=fun q s=>by unfold isT;rw[ByteArray.toList_eq]
 obtain⟨-,-,htz⟩:=HR0.out.bound p
 go_wp2_with fail
 refine(zc8 HR0.out).mono ?_;rintro e W1 ⟨rfl,b1⟩;have HR1:=hid (HR0.out.low b1);have HB1:Hid (Below w.heap.size w W1):=b1;clear b1 HR0 HG0;have HSZ:Hid (w.heap.size<=W1.heap.size):=HB1.out.size
 by_cases hk2:(nxT ts p).kind=2
 ·have hk:((nxT ts p).kind == 2)=true:=by rw[hk2];rfl
  have hp:=zfl hk (by decide);have HX1:Hid _:=za8 hk HX0.out;clear HX0 HE
  go_wp2_with (refine zb0 (by rfl) (.tmp 3) (.tmp 7) (by rfl) (t:=nxT ts p) (z:=tokZ) (by rfl) (by rfl) (heap_alloc_new _ _) ?_;refine zcc (fun W=>Below W1.heap.size W1 W∧W.heap[W1.heap.size]?=some (.cells (nxT ts p).cells 38 (0,0))) ⟨zai ((Below.refl _ _).alloc (Nat.le_refl _) _) (Nat.le_refl _) _,zad (heap_alloc_new _ _)⟩ ?_;rintro W2 ⟨hB2,hz2⟩;have HB2:Hid (Below w.heap.size w W2):=HB1.out.trans (hB2.mono HB1.out.size);have HR2:Hid (Rdr T W2 g st cap ts p):=HR1.out.low hB2;have HZ2:Hid (W2.heap[W1.heap.size]?=some (.cells (nxT ts p).cells 38 (0,0))):=hz2;have k0:W2.cell? ⟨W1.heap.size,0,none⟩=some (.int .i64 (nxT ts p).kind):=(cell_of_row _ _ 0 _ _ _ hz2).trans rfl;have k1:W2.cell? ⟨W1.heap.size,1,none⟩=some (.string (nxT ts p).text):=(cell_of_row _ _ 1 _ _ _ hz2).trans rfl;clear hB2 hz2 HR1 HB1)
  refine(zef 20 HR2.out hp).mono ?_;rintro e W3 ⟨g3,b,v,rfl,hM,r3⟩;have hK:W1.heap.size<W2.heap.size:=zaa HZ2.out;have hbK:W1.heap.size≠b:=by have:=hM.hB;omega
  have hgK:g<W1.heap.size:=Nat.lt_of_lt_of_le hgT (Nat.le_trans hT HSZ.out);have HM3:Hid _:=hM.mono HB2.out.size;have HG3:=hid (zab (zae HB2.out) g3);have HZ3:Hid (W3.heap[W1.heap.size]?=some (.cells (nxT ts p).cells 38 (0,0))):=(g3.block _ hK (fun e=>by injection e with e;omega)).trans HZ2.out;have HR3:Hid (Rdr T W3 g st cap ts (p+1)):=r3;clear hM g3 r3 HB2 HZ2 HR2 k0 k1;obtain⟨hM4,b4,c1,z1⟩:=HM3.out.text ⟨#[]⟩;have HM4:Hid _:=hM4;have HB4:Hid _:=b4;have HZ4:Hid ((W3.setCell ⟨b,1,none⟩ (.string ⟨#[]⟩)).heap[W1.heap.size]?=some (.cells (nxT ts p).cells 38 (0,0))):=(heap_setCell_other _ _ _ _ hbK).trans HZ3.out;clear hM4 b4
  go_wp2_with (refine zcc (fun W=>Mk w.heap.size W b 20 ⟨#[]⟩ 0 (nxT ts p).pos (herI ts p) (behI ts (p+1)) v []∧w.grownBy W (some g)∧Rdr T W g st cap ts (p+1)∧W.heap[W1.heap.size]?=some (.cells (nxT ts p).cells 38 (0,0))) ⟨HM4.out,zav HG3.out HB4.out,HR3.out.below hT HB4.out,HZ4.out⟩ ?_;clear HM4 HB4 HZ4 HM3 HG3 HR3 HZ3 c1 z1;rintro W4 ⟨hM4,hG4,hR4,hz4⟩;have HM4:Hid _:=hM4;have HG4:Hid _:=hG4;have HR4:Hid _:=hR4;have HZ4:Hid _:=hz4;clear hM4 hG4 hR4 hz4;refine zjd (by rfl) (.tmp 3) (by rfl) (t:=nxT ts p) (by rfl) HZ4.out ?_)
  refine(zmv (nxT ts p) W4).mono ?_;rintro e W5 ⟨rfl,b5⟩;have HM5:Hid _:=HM4.out.below b5;have HG5:=hid (zab HG4.out (zae b5));have HR5:=hid (HR4.out.low b5);clear b5 HM4 HG4 HR4 HZ4;have HNT:Hid (∀ n,numT (nxT ts p)=n->Rs.ok (.mk 20 ⟨#[]⟩ n (nxT ts p).pos (herI ts p) (behI ts (p+1)) []) (p+1)=r):=fun n hn=>by rw[<-hn];exact HX1.out
  obtain⟨n,hn1,hn2⟩:∃ (n:Int) (ee:Int),numV (numO (nxT ts p)) 201=.tuple #[.int .i64 n,.int .i64 ee]∧numT (nxT ts p)=n:=by
   unfold numV numT
   cases numO (nxT ts p) with
   | none=>exact⟨_,_,rfl,rfl⟩
   | some n=>exact⟨_,_,rfl,rfl⟩
  obtain⟨hn1,hn3⟩:=hn2;rw[hn1];obtain⟨hM6,b6,c2,z2⟩:=HM5.out.nums n;have HP:Hid (PtP T w g st cap ts r (.returned (.pointer (some ⟨b,0,none⟩))) (W5.setCell ⟨b,2,none⟩ (.int .i64 n))):=zbj (zav HG5.out b6) (HNT.out n hn3) hM6.fin (HR5.out.below hT b6);clear hM6 b6 HM5 HG5 HR5 HNT HX1 hn1 hn3
  go_wp2
  go_ret
  exact HP.out
 have hk2':((nxT ts p).kind == 2)=false:=by rw[beq_eq_false_iff_ne];exact hk2
 have HX1:Hid _:=zbu hk2' HX0.out;clear HX0
 by_cases hk3:(nxT ts p).kind=3
 ·have hk:((nxT ts p).kind == 3)=true:=by rw[hk3];rfl
  have hp:=zfl hk (by decide);have HX2:Hid _:=za8 hk HX1.out;clear HX1 HE
  go_wp2_with (refine zb0 (by rfl) (.tmp 3) (.tmp 7) (by rfl) (t:=nxT ts p) (z:=tokZ) (by rfl) (by rfl) (heap_alloc_new _ _) ?_;refine zcc (fun W=>Below W1.heap.size W1 W∧W.heap[W1.heap.size]?=some (.cells (nxT ts p).cells 38 (0,0))) ⟨zai ((Below.refl _ _).alloc (Nat.le_refl _) _) (Nat.le_refl _) _,zad (heap_alloc_new _ _)⟩ ?_;rintro W2 ⟨hB2,hz2⟩;have HB2:Hid (Below w.heap.size w W2):=HB1.out.trans (hB2.mono HB1.out.size);have HR2:Hid (Rdr T W2 g st cap ts p):=HR1.out.low hB2;have HZ2:Hid (W2.heap[W1.heap.size]?=some (.cells (nxT ts p).cells 38 (0,0))):=hz2;have k0:W2.cell? ⟨W1.heap.size,0,none⟩=some (.int .i64 (nxT ts p).kind):=(cell_of_row _ _ 0 _ _ _ hz2).trans rfl;have k1:W2.cell? ⟨W1.heap.size,1,none⟩=some (.string (nxT ts p).text):=(cell_of_row _ _ 1 _ _ _ hz2).trans rfl;clear hB2 hz2 HR1 HB1)
  refine(zef 21 HR2.out hp).mono ?_;rintro e W3 ⟨g3,b,v,rfl,hM,r3⟩;have hK:W1.heap.size<W2.heap.size:=zaa HZ2.out;have hbK:W1.heap.size≠b:=by have:=hM.hB;omega
  have hgK:g<W1.heap.size:=Nat.lt_of_lt_of_le hgT (Nat.le_trans hT HSZ.out);have HM3:Hid _:=hM.mono HB2.out.size;have HG3:=hid (zab (zae HB2.out) g3);have HZ3:Hid (W3.heap[W1.heap.size]?=some (.cells (nxT ts p).cells 38 (0,0))):=(g3.block _ hK (fun e=>by injection e with e;omega)).trans HZ2.out;have HR3:Hid (Rdr T W3 g st cap ts (p+1)):=r3;clear hM g3 r3 HB2 HZ2 HR2 k0 k1
  go_wp2_with (refine zjd (by rfl) (.tmp 3) (by rfl) (t:=nxT ts p) (by rfl) HZ3.out ?_)
  refine(zkr (nxT ts p) W3 htz).mono ?_;rintro e W5 ⟨rfl,b5⟩;have HM5:Hid _:=HM3.out.below b5;have HG5:=hid (zab HG3.out (zae b5));have HR5:=hid (HR3.out.low b5);clear b5 HM3 HG3 HR3 HZ3;obtain⟨n,ee,hn1,hn3⟩:∃ (n:ByteArray) (ee:Int),strV (valO (nxT ts p)) 200=.tuple #[.string n,.int .i64 ee]∧valT (nxT ts p)=n:=by
   unfold strV valT
   cases valO (nxT ts p) with
   | none=>exact⟨_,_,rfl,rfl⟩
   | some n=>exact⟨_,_,rfl,rfl⟩
  rw[hn1];rw[hn3] at HX2;obtain⟨hM6,b6,c2,z2⟩:=HM5.out.text n;have HP:Hid (PtP T w g st cap ts r (.returned (.pointer (some ⟨b,0,none⟩))) (W5.setCell ⟨b,1,none⟩ (.string n))):=zbj (zav HG5.out b6) HX2.out hM6.fin (HR5.out.below hT b6);clear hM6 b6 HM5 HG5 HR5 HX2 hn1 hn3
  go_wp2
  go_ret
  exact HP.out
 have hk3':((nxT ts p).kind == 3)=false:=by rw[beq_eq_false_iff_ne];exact hk3
 have HX2:Hid _:=zbu hk3' HX1.out;clear HX1;have HEt:Hid _:=HE.out p [116,114,117,101];have HEf:Hid _:=HE.out p [102,97,108,115,101];obtain⟨bt,hbt⟩:∃ bt,isT ts p [116,114,117,101]=bt:=⟨_,rfl⟩;obtain⟨bf,hbf⟩:∃ bf,isT ts p [102,97,108,115,101]=bf:=⟨_,rfl⟩;rw[hbt] at HEt;rw[hbf] at HEf;rw[hbt,hbf] at HX2;clear HE
 cases bt
 ·cases bf
  ·have h1:((nxT ts p).text.toList == [116,114,117,101])=false:=HEt.out;have h2:((nxT ts p).text.toList == [102,97,108,115,101])=false:=HEf.out;have HX3:Hid _:=zbu rfl HX2.out;clear HX2 HEt HEf hbt hbf
   go_wp2_with (refine zb0 (by rfl) (.tmp 3) (.tmp 7) (by rfl) (t:=nxT ts p) (z:=tokZ) (by rfl) (by rfl) (heap_alloc_new _ _) ?_;refine zcc (fun W=>Below W1.heap.size W1 W∧W.heap[W1.heap.size]?=some (.cells (nxT ts p).cells 38 (0,0))) ⟨zai ((Below.refl _ _).alloc (Nat.le_refl _) _) (Nat.le_refl _) _,zad (heap_alloc_new _ _)⟩ ?_;rintro W2 ⟨hB2,hz2⟩;have HB2:Hid (Below w.heap.size w W2):=HB1.out.trans (hB2.mono HB1.out.size);have HR2:Hid (Rdr T W2 g st cap ts p):=HR1.out.low hB2;have HZ2:Hid (W2.heap[W1.heap.size]?=some (.cells (nxT ts p).cells 38 (0,0))):=hz2;have k0:W2.cell? ⟨W1.heap.size,0,none⟩=some (.int .i64 (nxT ts p).kind):=(cell_of_row _ _ 0 _ _ _ hz2).trans rfl;have k1:W2.cell? ⟨W1.heap.size,1,none⟩=some (.string (nxT ts p).text):=(cell_of_row _ _ 1 _ _ _ hz2).trans rfl;clear hB2 hz2 HR1 HB1)
   refine(zep HR2.out).mono ?_;rintro e W3 ⟨rfl,b3⟩;have HP:Hid (PtP T w g st cap ts r (wroE (herI ts p)) W3):=zap (zae (HB2.out.trans (b3.mono HB2.out.size))) HX3.out.symm;clear HX3 HR2 HB2 b3 HZ2
   go_wp2
   exact⟨rfl,HP.out⟩
  ·have hp:=zcg hbf (by simp);have HX3:Hid _:=za8 rfl HX2.out;have h1:((nxT ts p).text.toList == [116,114,117,101])=false:=HEt.out;have h2:((nxT ts p).text.toList == [102,97,108,115,101])=true:=HEf.out;clear HX2 HEt HEf hbt hbf
   go_wp2_with (refine zb0 (by rfl) (.tmp 3) (.tmp 7) (by rfl) (t:=nxT ts p) (z:=tokZ) (by rfl) (by rfl) (heap_alloc_new _ _) ?_;refine zcc (fun W=>Below W1.heap.size W1 W∧W.heap[W1.heap.size]?=some (.cells (nxT ts p).cells 38 (0,0))) ⟨zai ((Below.refl _ _).alloc (Nat.le_refl _) _) (Nat.le_refl _) _,zad (heap_alloc_new _ _)⟩ ?_;rintro W2 ⟨hB2,hz2⟩;have HB2:Hid (Below w.heap.size w W2):=HB1.out.trans (hB2.mono HB1.out.size);have HR2:Hid (Rdr T W2 g st cap ts p):=HR1.out.low hB2;have HZ2:Hid (W2.heap[W1.heap.size]?=some (.cells (nxT ts p).cells 38 (0,0))):=hz2;have k0:W2.cell? ⟨W1.heap.size,0,none⟩=some (.int .i64 (nxT ts p).kind):=(cell_of_row _ _ 0 _ _ _ hz2).trans rfl;have k1:W2.cell? ⟨W1.heap.size,1,none⟩=some (.string (nxT ts p).text):=(cell_of_row _ _ 1 _ _ _ hz2).trans rfl;clear hB2 hz2 HR1 HB1)
   refine(zef 22 HR2.out hp).mono ?_;rintro e W3 ⟨g3,b,v,rfl,hM,r3⟩;have HP:Hid (PtP T w g st cap ts r (.returned (.pointer (some ⟨b,0,none⟩))) W3):=zbj (zab (zae HB2.out) g3) HX3.out (hM.mono HB2.out.size).fin r3;clear HX3 HR2 HB2 hM g3 r3 HZ2
   go_wp2
   go_ret
   exact HP.out
 ·have hp:=zcg hbt (by simp);have HX3:Hid _:=za8 rfl HX2.out;have h1:((nxT ts p).text.toList == [116,114,117,101])=true:=HEt.out;clear HX2 HEt HEf hbt hbf
  go_wp2_with (refine zb0 (by rfl) (.tmp 3) (.tmp 7) (by rfl) (t:=nxT ts p) (z:=tokZ) (by rfl) (by rfl) (heap_alloc_new _ _) ?_;refine zcc (fun W=>Below W1.heap.size W1 W∧W.heap[W1.heap.size]?=some (.cells (nxT ts p).cells 38 (0,0))) ⟨zai ((Below.refl _ _).alloc (Nat.le_refl _) _) (Nat.le_refl _) _,zad (heap_alloc_new _ _)⟩ ?_;rintro W2 ⟨hB2,hz2⟩;have HB2:Hid (Below w.heap.size w W2):=HB1.out.trans (hB2.mono HB1.out.size);have HR2:Hid (Rdr T W2 g st cap ts p):=HR1.out.low hB2;have HZ2:Hid (W2.heap[W1.heap.size]?=some (.cells (nxT ts p).cells 38 (0,0))):=hz2;have k0:W2.cell? ⟨W1.heap.size,0,none⟩=some (.int .i64 (nxT ts p).kind):=(cell_of_row _ _ 0 _ _ _ hz2).trans rfl;have k1:W2.cell? ⟨W1.heap.size,1,none⟩=some (.string (nxT ts p).text):=(cell_of_row _ _ 1 _ _ _ hz2).trans rfl;clear hB2 hz2 HR1 HB1)
  refine(zef 22 HR2.out hp).mono ?_;rintro e W3 ⟨g3,b,v,rfl,hM,r3⟩;have HP:Hid (PtP T w g st cap ts r (.returned (.pointer (some ⟨b,0,none⟩))) W3):=zbj (zab (zae HB2.out) g3) HX3.out (hM.mono HB2.out.size).fin r3;clear HX3 HR2 HB2 hM g3 r3 HZ2
  go_wp2
  go_ret
  exact HP.out
theorem zl3 (hR:Rdr T w g st cap ts p):Calls Tryz.prog 132 #[.pointer (some ⟨g,0,none⟩)] w (PtP T w g st cap ts (valP ts p)):=by
 have HR0:=hid hR;have hT:=hR.hT;have hgT:=hR.hg;have HG0:Hid (w.grownBy w (some g)):=zbp _ _;clear hR;obtain⟨r,hX⟩:∃ r,valP ts p=r:=⟨_,rfl⟩;rw[hX];have HX0:=hid hX;clear hX;unfold valP at HX0
 go_enter Tryz.func132,Tryz.ntmps132
 have hfd:∀ (a b c:Value) (W:World),(Instr.field 38 (.agg #[a,b,c]) 0).run Tryz.prog W=.ok a W:=fun _ _ _ _=>rfl
 go_wp2_with fail
 refine(zd8 ⟨#[45]⟩ HR0.out).mono ?_;rintro e W1 ⟨rfl,b1⟩;have HR1:=hid (HR0.out.low b1);have HG1:Hid (w.grownBy W1 (some g)):=zae b1;clear b1 HR0 HG0;obtain⟨bb,hb⟩:∃ bb,isT ts p [45]=bb:=⟨_,rfl⟩;rw[show isT ts p (⟨#[45]⟩:ByteArray).data.toList=bb from hb];rw[hb] at HX0
 cases bb
 ·have HX1:Hid _:=zbu rfl HX0.out;clear HX0 hb
  go_wp2_with fail
  refine((zfd HR1.out).mono fun e W h=>PtP.from HG1.out h).mono ?_;rintro e W2 hP;rw[HX1.out] at hP;have HP:=hid hP;rcases r with⟨t3,q3⟩ | s3|_
  ·obtain⟨-,b3,rfl,-⟩:=hP;clear HX1 HR1 HG1
   go_wp2
   go_ret
   exact HP.out
  ·obtain⟨-,hm'⟩:=hP;have hm2:e=wroE s3:=hm';subst hm2;clear hm' HX1 HR1 HG1;unfold wroE at HP ⊢
   go_wp2
   exact⟨rfl,HP.out⟩
  ·exact hP.2.elim
 have HX1:Hid _:=za8 rfl HX0.out;have hp:=zcg hb (by simp);clear HX0 hb
 go_wp2_with fail
 refine(zbi 26 HR1.out).mono ?_;rintro e W11 ⟨bk11,rfl,hM,b1⟩;have HM11:Hid (Mk w.heap.size W11 bk11 26 ⟨#[]⟩ 0 (herI ts p) (herI ts p) 0 (.slice none 0 0) []):=hM.mono HG1.out.size;have HG11:=hid (zab HG1.out (zae b1));have HR11:=hid (HR1.out.low b1);clear hM b1 HG1 HR1
 go_wp2_with fail
 refine(zez HR11.out hp).mono ?_;rintro e W12 ⟨rfl,g1,r1⟩;have HG13:=hid (zab HG11.out g1);have HM13:=hid (HM11.out.grow (Nat.lt_of_lt_of_le hgT hT) g1);have HR12:Hid (Rdr T W12 g st cap ts (p+1)):=r1;clear g1 r1 HR11 HG11 HM11
 go_wp2_with fail
 refine(zco (nxT ts p) HM13.out).mono ?_;rintro e W14 ⟨rfl,hM,b1⟩;have HM14:=hid hM;have HG15:=hid (zav HG13.out b1);have HR15:=hid (HR12.out.below hT b1);clear hM b1 HM13 HG13 HR12
 go_wp2_with fail
 refine(zc8 HR15.out).mono ?_;rintro e Wn ⟨rfl,bn⟩;have HRn:=hid (HR15.out.low bn);have HGn:=hid (zab HG15.out (zae bn));have HMn:=hid (HM14.out.below bn);clear bn HR15 HG15 HM14;unfold Tok.cells;obtain⟨bb,hb⟩:∃ bb,((nxT ts (p+1)).kind == 2)=bb:=⟨_,rfl⟩;rw[hb] at HX1
 cases bb
 ·have hne:¬ (nxT ts (p+1)).kind=2:=by rw[beq_eq_false_iff_ne] at hb;exact hb
  have hne':((nxT ts (p+1)).kind != 2)=true:=by rw[bne,hb];rfl
  have HX2:Hid _:=zbu rfl HX1.out;clear HX1 hb
  go_wp2_with fail
  refine(zep HRn.out).mono ?_;rintro e W3 ⟨rfl,b3⟩;have HP:Hid (PtP T w g st cap ts r (wroE (herI ts (p+1))) W3):=zap (zab HGn.out (zae b3)) HX2.out.symm;clear HX2 HRn HGn b3 HMn
  go_wp2
  exact⟨rfl,HP.out⟩
 have heq:(nxT ts (p+1)).kind=2:=by rw[beq_iff_eq] at hb;exact hb
 have hne':((nxT ts (p+1)).kind != 2)=false:=by rw[bne,hb];rfl
 have HX2:Hid _:=za8 rfl HX1.out;clear HX1 hb;have HL16:Hid ((bk11<Wn.heap.size∧∀ q,((.slice none 0 0):Value).ownBlock=some q->q<Wn.heap.size)∧w.heap.size<=Wn.heap.size∧g<Wn.heap.size):=⟨HMn.out.at,HGn.out.size,HRn.out.lt⟩
 go_wp2_with fail
 refine(zfd HRn.out).mono ?_;rintro e W16 ⟨g1,hm⟩;rcases hx:va1P ts (p+1) with⟨t16,q16⟩ | s16|_
 rotate_left
 ·rw[hx] at hm;have hm':e=wroE s16:=hm;subst hm';have HP:Hid (PtP T w g st cap ts r (wroE (s16)) W16):=zap (zab HGn.out g1) (zas hx HX2.out);clear HGn HRn HX2 HMn HL16;unfold wroE
  go_wp2
  exact⟨rfl,HP.out⟩
 ·rw[hx] at hm;exact hm.elim
 rw[hx] at hm;obtain⟨bk16,rfl,hpt,r1⟩:=hm;have HX16:Hid _:=za3 hx HX2.out;have hsz16:=g1.size;have HG17:=hid (zab HGn.out g1);have HM17:=hid (HMn.out.grow (Nat.lt_of_lt_of_le hgT hT) g1);have HK16:=hid hpt;have HR16:Hid (Rdr T W16 g st cap ts q16):=r1;clear g1 r1 hpt hx HX2 HRn HGn HMn
 try clear heq hne'
 go_wp2_with fail
 refine zaf (fun W=>Below W16.heap.size W16 W∧W.heap[W16.heap.size]?=some (.cells #[.pointer (some ⟨bk16,0,none⟩)] 93 (0,0))) ⟨(Below.refl _ _).alloc (Nat.le_refl _) _,heap_alloc_new _ _⟩ ?_;rintro Wa18 ⟨ba,ra⟩;refine(za4 (bs2:=[bk16]) (l2:=[t16]) (S2:=fun j=>Wn.heap.size<=j∧j<W16.heap.size) (HR16.out.low ba) hT (HM17.out.below ba) (zau ra) (fun h=>by cases h) (PsAt.one (HK16.out.low (Nat.le_refl _) ba)) (zb7 HL16.out.1 HL16.out.2.1 ba.size) (by simp)).mono ?_;rintro e W18 ⟨rfl,⟨v18,hM⟩,b1⟩;have HM18:=hid hM;have HGa18:=hid (zab HG17.out (zae ba));have HRa18:=hid (HR16.out.low ba);have HG19:=hid (zav HGa18.out b1);have HR19:=hid (HRa18.out.below hT b1);clear hM b1 ba ra HM17 HL16 HG17 HR16 HGa18 HRa18 HK16
 go_wp2
 go_ret
 exact zbj HG19.out HX16.out HM18.out.fin HR19.out
theorem zir (hR:Rdr T w g st cap ts p):Calls Tryz.prog 107 #[.pointer (some ⟨g,0,none⟩)] w (PtP T w g st cap ts (conP ts p)):=by
 have HR0:=hid hR;have hT:=hR.hT;have hgT:=hR.hg;have HG0:Hid (w.grownBy w (some g)):=zbp _ _;clear hR;obtain⟨r,hX⟩:∃ r,conP ts p=r:=⟨_,rfl⟩;rw[hX];have HX0:=hid hX;clear hX;unfold conP at HX0
 go_enter Tryz.func107,Tryz.ntmps107
 go_wp2_with fail
 refine(zbi 3 HR0.out).mono ?_;rintro e W1 ⟨bk1,rfl,hM,b1⟩;have HM1:Hid (Mk w.heap.size W1 bk1 3 ⟨#[]⟩ 0 (herI ts p) (herI ts p) 0 (.slice none 0 0) []):=hM.mono HG0.out.size;have HG1:=hid (zab HG0.out (zae b1));have HR1:=hid (HR0.out.low b1);clear hM b1 HG0 HR0
 go_wp2_with fail
 refine(zbd ⟨#[99,111,110,115,116]⟩ (by simp) HR1.out).mono ?_;rintro e W2 ⟨g1,hm0⟩;have hm:(if isT ts p [99,111,110,115,116] then e=.returned (.tuple #[])∧Rdr T W2 g st cap ts (p+1) else e=wroE (herI ts p)):=hm0;clear hm0;obtain⟨bb,hb⟩:∃ bb,isT ts p [99,111,110,115,116]=bb:=⟨_,rfl⟩;rw[hb] at hm
 cases bb
 ·simp only[Bool.false_eq_true,if_false] at hm;subst hm;have HP:Hid (PtP T w g st cap ts r (wroE (herI ts p)) W2):=zap (zab HG1.out g1) (zda hb HX0.out);clear HG1 HR1 HX0 HM1;unfold wroE
  go_wp2
  exact⟨rfl,HP.out⟩
 simp only[if_true] at hm;obtain⟨rfl,r1⟩:=hm;have HX2:Hid _:=zcl hb HX0.out;have HG3:=hid (zab HG1.out g1);have HM3:=hid (HM1.out.grow (Nat.lt_of_lt_of_le hgT hT) g1);have HR2:Hid (Rdr T W2 g st cap ts (p+1)):=r1;clear g1 r1 hb HX0 HR1 HG1 HM1
 go_wp2_with fail
 refine(zc9 HR2.out).mono ?_;rintro e W4 ⟨g1,hm⟩;obtain⟨bb,hb⟩:∃ bb,namB ts (p+1)=bb:=⟨_,rfl⟩;rw[hb] at hm
 cases bb
 ·simp only[Bool.false_eq_true,if_false] at hm;subst hm;have HP:Hid (PtP T w g st cap ts r (wroE (herI ts (p+1))) W4):=zap (zab HG3.out g1) (zeq hb HX2.out);clear HG3 HR2 HX2 HM3;unfold wroE
  go_wp2
  exact⟨rfl,HP.out⟩
 simp only[if_true] at hm;obtain⟨rfl,r1⟩:=hm;have HX4:Hid _:=zdt hb HX2.out;have HG5:=hid (zab HG3.out g1);have HM5:=hid (HM3.out.grow (Nat.lt_of_lt_of_le hgT hT) g1);have HR4:Hid (Rdr T W4 g st cap ts ((p+1)+1)):=r1;clear g1 r1 hb HX2 HR2 HG3 HM3
 go_wp2_with fail
 refine(zco (nxT ts (p+1)) HM5.out).mono ?_;rintro e W6 ⟨rfl,hM,b1⟩;have HM6:=hid hM;have HG7:=hid (zav HG5.out b1);have HR7:=hid (HR4.out.below hT b1);clear hM b1 HM5 HG5 HR4
 go_wp2_with fail
 refine(zbd ⟨#[61]⟩ (by simp) HR7.out).mono ?_;rintro e W8 ⟨g1,hm0⟩;have hm:(if isT ts ((p+1)+1) [61] then e=.returned (.tuple #[])∧Rdr T W8 g st cap ts (((p+1)+1)+1) else e=wroE (herI ts ((p+1)+1))):=hm0;clear hm0;obtain⟨bb,hb⟩:∃ bb,isT ts ((p+1)+1) [61]=bb:=⟨_,rfl⟩;rw[hb] at hm
 cases bb
 ·simp only[Bool.false_eq_true,if_false] at hm;subst hm;have HP:Hid (PtP T w g st cap ts r (wroE (herI ts ((p+1)+1))) W8):=zap (zab HG7.out g1) (zda hb HX4.out);clear HG7 HR7 HX4 HM6;unfold wroE
  go_wp2
  exact⟨rfl,HP.out⟩
 simp only[if_true] at hm;obtain⟨rfl,r1⟩:=hm;have HX8:Hid _:=zcl hb HX4.out;have HG9:=hid (zab HG7.out g1);have HM9:=hid (HM6.out.grow (Nat.lt_of_lt_of_le hgT hT) g1);have HR8:Hid (Rdr T W8 g st cap ts (((p+1)+1)+1)):=r1;clear g1 r1 hb HX4 HR7 HG7 HM6;have HL10:Hid ((bk1<W8.heap.size∧∀ q,((.slice none 0 0):Value).ownBlock=some q->q<W8.heap.size)∧w.heap.size<=W8.heap.size∧g<W8.heap.size):=⟨HM9.out.at,HG9.out.size,HR8.out.lt⟩
 go_wp2_with fail
 refine(zl3 HR8.out).mono ?_;rintro e W10 ⟨g1,hm⟩;rcases hx:valP ts (((p+1)+1)+1) with⟨t10,q10⟩ | s10|_
 rotate_left
 ·rw[hx] at hm;have hm':e=wroE s10:=hm;subst hm';have HP:Hid (PtP T w g st cap ts r (wroE (s10)) W10):=zap (zab HG9.out g1) (zas hx HX8.out);clear HG9 HR8 HX8 HM9 HL10;unfold wroE
  go_wp2
  exact⟨rfl,HP.out⟩
 ·rw[hx] at hm;exact hm.elim
 rw[hx] at hm;obtain⟨bk10,rfl,hpt,r1⟩:=hm;have HX10:Hid _:=za3 hx HX8.out;have hsz10:=g1.size;have HG11:=hid (zab HG9.out g1);have HM11:=hid (HM9.out.grow (Nat.lt_of_lt_of_le hgT hT) g1);have HK10:=hid hpt;have HR10:Hid (Rdr T W10 g st cap ts q10):=r1;clear g1 r1 hpt hx HX8 HR8 HG9 HM9
 go_wp2_with fail
 refine zaf (fun W=>Below W10.heap.size W10 W∧W.heap[W10.heap.size]?=some (.cells #[.pointer (some ⟨bk10,0,none⟩)] 93 (0,0))) ⟨(Below.refl _ _).alloc (Nat.le_refl _) _,heap_alloc_new _ _⟩ ?_;rintro Wa12 ⟨ba,ra⟩;refine(za4 (bs2:=[bk10]) (l2:=[t10]) (S2:=fun j=>W8.heap.size<=j∧j<W10.heap.size) (HR10.out.low ba) hT (HM11.out.below ba) (zau ra) (fun h=>by cases h) (PsAt.one (HK10.out.low (Nat.le_refl _) ba)) (zb7 HL10.out.1 HL10.out.2.1 ba.size) (by simp)).mono ?_;rintro e W12 ⟨rfl,⟨v12,hM⟩,b1⟩;have HM12:=hid hM;have HGa12:=hid (zab HG11.out (zae ba));have HRa12:=hid (HR10.out.low ba);have HG13:=hid (zav HGa12.out b1);have HR13:=hid (HRa12.out.below hT b1);clear hM b1 ba ra HM11 HL10 HG11 HR10 HGa12 HRa12 HK10
 go_wp2
 go_ret
 exact zbj HG13.out HX10.out HM12.out.fin HR13.out
theorem zis (hR:Rdr T w g st cap ts p):Calls Tryz.prog 81 #[.pointer (some ⟨g,0,none⟩)] w (PtP T w g st cap ts (impP ts p)):=by
 have HR0:=hid hR;have hT:=hR.hT;have hgT:=hR.hg;have HG0:Hid (w.grownBy w (some g)):=zbp _ _;clear hR;obtain⟨r,hX⟩:∃ r,impP ts p=r:=⟨_,rfl⟩;rw[hX];have HX0:=hid hX;clear hX;unfold impP at HX0
 go_enter Tryz.func81,Tryz.ntmps81
 go_wp2_with fail
 refine(zbi 2 HR0.out).mono ?_;rintro e W1 ⟨bk1,rfl,hM,b1⟩;have HM1:Hid (Mk w.heap.size W1 bk1 2 ⟨#[]⟩ 0 (herI ts p) (herI ts p) 0 (.slice none 0 0) []):=hM.mono HG0.out.size;have HG1:=hid (zab HG0.out (zae b1));have HR1:=hid (HR0.out.low b1);clear hM b1 HG0 HR0
 go_wp2_with fail
 refine(zbd ⟨#[105,109,112,111,114,116]⟩ (by simp) HR1.out).mono ?_;rintro e W2 ⟨g1,hm0⟩;have hm:(if isT ts p [105,109,112,111,114,116] then e=.returned (.tuple #[])∧Rdr T W2 g st cap ts (p+1) else e=wroE (herI ts p)):=hm0;clear hm0;obtain⟨bb,hb⟩:∃ bb,isT ts p [105,109,112,111,114,116]=bb:=⟨_,rfl⟩;rw[hb] at hm
 cases bb
 ·simp only[Bool.false_eq_true,if_false] at hm;subst hm;have HP:Hid (PtP T w g st cap ts r (wroE (herI ts p)) W2):=zap (zab HG1.out g1) (zda hb HX0.out);clear HG1 HR1 HX0 HM1;unfold wroE
  go_wp2
  exact⟨rfl,HP.out⟩
 simp only[if_true] at hm;obtain⟨rfl,r1⟩:=hm;have HX2:Hid _:=zcl hb HX0.out;have HG3:=hid (zab HG1.out g1);have HM3:=hid (HM1.out.grow (Nat.lt_of_lt_of_le hgT hT) g1);have HR2:Hid (Rdr T W2 g st cap ts (p+1)):=r1;clear g1 r1 hb HX0 HR1 HG1 HM1
 go_wp2_with fail
 refine(zfn 3 (by decide) HR2.out).mono ?_;rintro e W4 ⟨g1,hm⟩;obtain⟨bb,hb⟩:∃ bb,((nxT ts (p+1)).kind == 3)=bb:=⟨_,rfl⟩;rw[hb] at hm
 cases bb
 ·simp only[Bool.false_eq_true,if_false] at hm;subst hm;have HP:Hid (PtP T w g st cap ts r (wroE (herI ts (p+1))) W4):=zap (zab HG3.out g1) (zjk hb HX2.out);clear HG3 HR2 HX2 HM3;unfold wroE
  go_wp2
  exact⟨rfl,HP.out⟩
 simp only[if_true] at hm;obtain⟨rfl,r1⟩:=hm;have HX4:Hid _:=zg7 hb HX2.out;have HG5:=hid (zab HG3.out g1);have HM5:=hid (HM3.out.grow (Nat.lt_of_lt_of_le hgT hT) g1);have HR4:Hid (Rdr T W4 g st cap ts ((p+1)+1)):=r1;clear g1 r1 hb HX2 HR2 HG3 HM3;obtain⟨-,-,htz⟩:=HR4.out.bound (p+1);have hbK:bk1<W4.heap.size:=HM5.out.lt;have hgK:g<W4.heap.size:=HR4.out.lt
 go_wp2_with (first
  | (refine zb0 (by rfl) (.tmp 4) (.tmp 10) (by rfl) (t:=nxT ts (p+1)) (z:=tokZ) (by rfl) (by rfl) (heap_alloc_new _ _) ?_;refine zcc (fun W=>Below W4.heap.size W4 W∧W.heap[W4.heap.size]?=some (.cells (nxT ts (p+1)).cells 38 (0,0))) ⟨zai ((Below.refl _ _).alloc (Nat.le_refl _) _) (Nat.le_refl _) _,zad (heap_alloc_new _ _)⟩ ?_;rintro Wx ⟨hBx,hzx⟩;have HRx:Hid (Rdr T Wx g st cap ts ((p+1)+1)):=HR4.out.low hBx;have HGx:Hid (w.grownBy Wx (some g)):=zab HG5.out (zae hBx);have HMx:Hid (Mk w.heap.size Wx bk1 2 ⟨#[]⟩ 0 (herI ts p) (herI ts p) 0 (.slice none 0 0) []):=HM5.out.below hBx;have HZx:Hid (Wx.heap[W4.heap.size]?=some (.cells (nxT ts (p+1)).cells 38 (0,0))):=hzx;clear hBx hzx HR4 HG5 HM5)
  | (refine zjd (by rfl) (.tmp 4) (by rfl) (t:=nxT ts (p+1)) (by rfl) HZx.out ?_))
 refine(zft (nxT ts (p+1)) HMx.out).mono ?_;rintro e W6 ⟨rfl,hM,b1,ho⟩;have HM6:=hid hM;have HG7:=hid (zav HGx.out b1);have HR7:=hid (HRx.out.below hT b1);have HZ6:Hid (W6.heap[W4.heap.size]?=some (.cells (nxT ts (p+1)).cells 38 (0,0))):=(ho _ (by omega) (zaa HZx.out)).trans HZx.out;clear hM b1 ho HMx HZx HGx HRx
 go_wp2_with (refine zjd (by rfl) (.tmp 4) (by rfl) (t:=nxT ts (p+1)) (by rfl) HZ6.out ?_)
 refine(zkr (nxT ts (p+1)) W6 htz).mono ?_;rintro e Wv ⟨rfl,bv⟩;have HMv:=hid (HM6.out.below bv);have HGv:=hid (zab HG7.out (zae bv));have HRv:=hid (HR7.out.low bv);clear bv HM6 HG7 HR7 HZ6;obtain⟨n,ee,hn1,hn3⟩:∃ (n:ByteArray) (ee:Int),strV (valO (nxT ts (p+1))) 200=.tuple #[.string n,.int .i64 ee]∧valT (nxT ts (p+1))=n:=by
  unfold strV valT
  cases valO (nxT ts (p+1)) with
  | none=>exact⟨_,_,rfl,rfl⟩
  | some n=>exact⟨_,_,rfl,rfl⟩
 rw[hn1];rw[hn3] at HX4;obtain⟨hM6,b6,c2,z2⟩:=HMv.out.text n;have HM6:Hid _:=hM6;have HB6:Hid _:=b6;clear hM6 b6 hn1 hn3
 go_wp2_with fail
 refine zaf (fun W=>Mk w.heap.size W bk1 2 n 0 (nxT ts (p+1)).pos (herI ts p) 0 (.slice none 0 0) []∧w.grownBy W (some g)∧Rdr T W g st cap ts ((p+1)+1)) ⟨HM6.out,zav HGv.out HB6.out,HRv.out.below hT HB6.out⟩ ?_;clear HM6 HB6 HMv HGv HRv c2 z2;rintro Wy ⟨hMy,hGy,hRy⟩;refine(za4 (bs2:=[]) (l2:=[]) (S2:=fun _=>False) hRy hT hMy RowsAt.none (fun _=>⟨rfl,rfl⟩) (PsAt.nil _ _) (fun _ h=>h.elim) (by simp)).mono ?_;rintro e Wz ⟨rfl,⟨vz,hMz⟩,bz⟩;have HP:Hid (PtP T w g st cap ts r (.returned (.pointer (some ⟨bk1,0,none⟩))) Wz):=zbj (zav hGy bz) HX4.out hMz.fin (hRy.below hT bz);clear hMy hGy hRy hMz bz HX4
 go_wp2
 go_ret
 exact HP.out
end
end Go.Proofs.YtmclgbkijeidaaaGreatDoor
