import Derived.Test.YtmclgbkijeidaaaGreatDoorUoG
namespace Go.Proofs.YtmclgbkijeidaaaGreatDoor
set_option maxRecDepth 100000
set_option maxHeartbeats 4000000
open Go.RowKit
section
variable {T:Nat}{w:World}{g:Nat}{st:Option Addr}{cap:Nat}{ts:List Tok}{p:Nat}
theorem zin (k:Int)(hR:Rdr T w g st cap ts p):Calls Tryz.prog 154 #[.pointer (some ⟨g,0,none⟩),.int .i64 k] w (PtP T w g st cap ts (worP ts k p)):=by
 have D:=J hR;have hT:=hR.hT;have ab:=hR.hg;have aa:Hid (w.grownBy w (some g)):=zby _ _;clear hR;obtain⟨r,E⟩:∃ r,worP ts k p=r:=⟨_,rfl⟩;rw[E];have y:=J E;clear E;unfold worP at y
 go_enter Tryz.func154,Tryz.ntmps154
 go_wp2_with fail
 refine(zg5 D).mono ?_;rintro e W1 ⟨rfl,I⟩;have C:=J (D.out.low I);have A:Hid (Below w.heap.size w W1):=I;clear I D;unfold Rs.need at y;obtain⟨F,Y⟩:∃ F,namB ts p=F:=⟨_,rfl⟩;rw[Y] at y ⊢
 cases F
 ·go_wp2_with fail
  refine(zfz C).mono ?_;rintro e K ⟨rfl,U⟩;have M:Hid (PtP T w g st cap ts r (wroE (herI ts p)) K):=zap (zae (A.out.trans (U.mono A.out.size))) y.out.symm;clear y C A U
  go_wp2
  exact⟨rfl,M.out⟩
 have Z:=zek Y
 go_wp2_with fail
 refine(zfm k C Z).mono ?_;rintro e K ⟨N,b,v,rfl,V,X⟩;have M:Hid (PtP T w g st cap ts r (.returned (.pointer (some ⟨b,0,none⟩))) K):=zbq (zab (zae A) N) y.out (V.mono A.out.size).fin X;clear y C A N V X
 go_wp2
 go_ret
 exact M
theorem zh7 (hR:Rdr T w g st cap ts p):Calls Tryz.prog 133 #[.pointer (some ⟨g,0,none⟩)] w (PtP T w g st cap ts (typP ts p)):=by
 have az:=J hR;have Y:=hR.hT;have aB:=hR.hg;have aX:Hid (w.grownBy w (some g)):=zby _ _;clear hR;obtain⟨r,hX⟩:∃ r,typP ts p=r:=⟨_,rfl⟩;rw[hX];have aa:=J hX;clear hX;unfold typP at aa
 go_enter Tryz.func133,Tryz.ntmps133
 have a5:∀ (a b c:Value) (W:World),(Instr.field 38 (.agg #[a,b,c]) 1).run Tryz.prog W=.ok b W:=fun _ _ _ _=>rfl;have N:Hid (∀ q (s:List UInt8),((nxT ts q).text.toList == s)=isT ts q s):=fun q s=>by unfold isT;rw[ByteArray.toList_eq]
 go_wp2_with fail
 refine(zdw az).mono ?_;rintro e W1 ⟨rfl,D⟩;have ae:=J (az.out.low D);have ai:Hid (w.grownBy W1 (some g)):=zae D;clear D az aX;obtain⟨F,y⟩:∃ F,(isT ts p [105,110,116] || isT ts p [98,111,111,108] || isT ts p [115,116,114,105,110,103])=F:=⟨_,rfl⟩;rw[y] at aa
 cases F
 rotate_left
 ·have hp:p<ts.length:=by
   rw[Bool.or_eq_true,Bool.or_eq_true] at y;rcases y with(y|y) | y <;> exact zcx y (by simp)
  have ax:Hid (∀ W',Below W1.heap.size W1 W'->Calls Tryz.prog 153 #[.pointer (some ⟨g,0,none⟩),.int .i64 10] W' fun e W2=>PtP T w g st cap ts r e W2∧∃ b,e=.returned (.pointer (some ⟨b,0,none⟩))):=fun W' au=>(zfm 10 (ae.out.low au) hp).mono fun e W2 ⟨g2,b,v,he,I,r2⟩=>by
   subst he;exact⟨zbq (zab (zab ai (zae au)) g2) (zbe rfl aa) (I.mono (Yo ai.out.size au.size)).fin r2,b,rfl⟩
  have aY:((nxT ts p).text.toList == [105,110,116])=true∨((nxT ts p).text.toList == [105,110,116])=false∧(((nxT ts p).text.toList == [98,111,111,108])=true∨((nxT ts p).text.toList == [98,111,111,108])=false∧((nxT ts p).text.toList == [115,116,114,105,110,103])=true):=by
   rw[N.out,N.out,N.out]
   cases h1:isT ts p [105,110,116]
   ·cases h2:isT ts p [98,111,111,108]
    ·rw[h1,h2] at y;exact .inr ⟨rfl,.inr ⟨rfl,y⟩⟩
    ·exact .inr ⟨rfl,.inl rfl⟩
   ·exact .inl rfl
  clear y aa N ae ai;unfold Tok.cells;rcases aY with h1|⟨h1,h2|⟨h2,h3⟩⟩
  ·go_wp2_with fail
   refine(ax _ (Yb _ _)).mono ?_;rintro e W2 ⟨V,b,rfl⟩;have E:Hid _:=V;clear V
   go_wp2
   go_ret
   exact E
  ·go_wp2_with fail
   refine(ax _ (Yb _ _)).mono ?_;rintro e W2 ⟨V,b,rfl⟩;have E:Hid _:=V;clear V
   go_wp2
   go_ret
   exact E
  ·go_wp2_with fail
   refine(ax _ (Yb _ _)).mono ?_;rintro e W2 ⟨V,b,rfl⟩;have E:Hid _:=V;clear V
   go_wp2
   go_ret
   exact E
 have ag:Hid _:=zb1 rfl aa;obtain⟨h1,h2,h3⟩:((nxT ts p).text.toList == [105,110,116])=false∧((nxT ts p).text.toList == [98,111,111,108])=false∧((nxT ts p).text.toList == [115,116,114,105,110,103])=false:=by
  rw[N.out,N.out,N.out];rw[Bool.or_eq_false_iff,Bool.or_eq_false_iff] at y;exact⟨y.1.1,y.1.2,y.2⟩
 clear y aa;unfold Tok.cells
 go_wp2_with fail
 clear h1 h2 h3;refine(zko 1 (Ya _) ae.out).mono ?_;rintro e W2 ⟨rfl,b2⟩;have Z:=J (ae.out.low b2);have X:=J (zab ai (zae b2));clear b2 ae ai;have an:Hid _:=N.out (p+1) [46];obtain⟨F,y⟩:∃ F,isT ts (p+1) [46]=F:=⟨_,rfl⟩;rw[y] at ag an;unfold Tok.cells
 cases F
 ·have a9:((nxT ts (p+1)).text.toList == [46])=false:=an.out;have M:Hid _:=zb1 rfl ag;clear ag y
  go_wp2_with fail
  refine(zin 11 Z).mono ?_;rintro e W3 ⟨C,A⟩;rcases hx:worP ts 11 p with⟨t3,q3⟩ | s3|_
  rotate_left
  ·rw[hx] at A;have ay:e=wroE s3:=A;subst ay;have E:Hid (PtP T w g st cap ts r (wroE s3) W3):=zap (zab X C) (M.out.symm.trans hx);clear M Z X C A;unfold wroE
   go_wp2
   exact⟨rfl,E.out⟩
  ·rw[hx] at A;exact A.elim
  rw[hx] at A;obtain⟨b3,rfl,af,r3⟩:=A;have E:Hid (PtP T w g st cap ts r (.returned (.pointer (some ⟨b3,0,none⟩))) W3):=zbq (zab X C) (hx.symm.trans M) (af.wide X.out.size (Ya _)) r3;clear M Z X C af r3 hx
  go_wp2
  go_ret
  exact E
 have aW:((nxT ts (p+1)).text.toList == [46])=true:=an.out;have M:Hid _:=zbe rfl ag;clear ag y an N
 go_wp2_with fail
 refine(zbp 12 Z).mono ?_;rintro e ac ⟨aK,rfl,I,D⟩;have am:Hid (Mk w.heap.size ac aK 12 ⟨#[]⟩ 0 (herI ts p) (herI ts p) 0 (.slice none 0 0) []):=I.mono X.out.size;have ah:=J (zab X (zae D));have ap:=J (Z.out.low D);clear I D X Z;clear aW;have ak:Hid ((aK<ac.heap.size∧∀ q,((.slice none 0 0):Value).ownBlock=some q->q<ac.heap.size)∧w.heap.size<=ac.heap.size∧g<ac.heap.size):=⟨am.out.at,ah.out.size,ap.out.lt⟩
 go_wp2_with fail
 refine(zin 23 ap).mono ?_;rintro e ab ⟨C,A⟩;rcases hx:worP ts 23 p with⟨aZ,K⟩ | s12|_
 rotate_left
 ·rw[hx] at A;have ay:e=wroE s12:=A;subst ay;have E:Hid (PtP T w g st cap ts r (wroE (s12)) ab):=zap (zab ah C) (zat hx M);clear ah ap M am ak;unfold wroE
  go_wp2
  exact⟨rfl,E.out⟩
 ·rw[hx] at A;exact A.elim
 rw[hx] at A;obtain⟨aE,rfl,af,U⟩:=A;have al:Hid _:=za7 hx M;have bc:=C.size;have aP:=J (zab ah C);have aI:=J (am.out.grow (Yg aB Y) C);have aR:=J af;have aQ:Hid (Rdr T ab g st cap ts K):=U;clear C U af hx M ap ah am
 go_wp2_with fail
 refine zag (fun W=>Below ab.heap.size ab W∧W.heap[ab.heap.size]?=some (.cells #[.pointer (some ⟨aE,0,none⟩)] 93 (0,0))) ⟨(Yb _ _).alloc (Ya _) _,Yd _ _⟩ ?_;rintro a7 ⟨ba,ra⟩;refine(zc6 (bs2:=[aE]) (l2:=[aZ]) (S2:=fun j=>ac.heap.size<=j∧j<ab.heap.size) (aI.out.below ba) (zar ra) (fun h=>by cases h) (PsAt.one (aR.out.low (Ya _) ba)) (zcn ak.out.1 ak.out.2.1 ba.size) (by simp)).mono ?_;rintro e a6 ⟨rfl,⟨a3,I⟩,D⟩;have aC:=J I;have aL:=J (zab aP (zae ba));have aJ:=J (aQ.out.low ba);have aq:=J (zaw aL D);have aA:=J (aJ.out.below Y D);clear I D ba ra aI ak aP aQ aL aJ aR
 go_wp2_with fail
 refine(zbh ⟨#[46]⟩ (by simp) aA.out).mono ?_;rintro e ar ⟨C,aT⟩;have A:(if isT ts K [46] then e=.returned (.tuple #[])∧Rdr T ar g st cap ts (K+1) else e=wroE (herI ts K)):=aT;clear aT;obtain⟨F,y⟩:∃ F,isT ts K [46]=F:=⟨_,rfl⟩;rw[y] at A
 cases F
 ·simp only[Bool.false_eq_true,if_false] at A;subst A;have E:Hid (PtP T w g st cap ts r (wroE (herI ts K)) ar):=zap (zab aq C) (zdy y al);clear aq aA al aC;unfold wroE
  go_wp2
  exact⟨rfl,E.out⟩
 simp only[if_true] at A;obtain⟨rfl,U⟩:=A;have aj:Hid _:=zc3 y al;have ao:=J (zab aq C);have av:=J (aC.out.grow (Yg aB Y) C);have aw:Hid (Rdr T ar g st cap ts (K+1)):=U;clear C U y al aA aq aC
 go_wp2_with fail
 refine(zdx aw).mono ?_;rintro e aG ⟨C,A⟩;obtain⟨F,y⟩:∃ F,namB ts (K+1)=F:=⟨_,rfl⟩;rw[y] at A
 cases F
 ·simp only[Bool.false_eq_true,if_false] at A;subst A;have E:Hid (PtP T w g st cap ts r (wroE (herI ts (K+1))) aG):=zap (zab ao C) (zf0 y aj);clear ao aw aj av;unfold wroE
  go_wp2
  exact⟨rfl,E.out⟩
 simp only[if_true] at A;obtain⟨rfl,U⟩:=A;have aV:Hid _:=zel y aj;have aM:=J (zab ao C);have aN:=J (av.out.grow (Yg aB Y) C);have aO:Hid (Rdr T aG g st cap ts ((K+1)+1)):=U;clear C U y aj aw ao av
 go_wp2_with fail
 refine(zc7 (nxT ts (K+1)) aN.out).mono ?_;rintro e a8 ⟨rfl,I,D⟩;have aH:=J I;have aF:=J (zaw aM D);have aD:=J (aO.out.below Y D);clear I D aN aM aO
 go_wp2_with fail
 refine(za9 (bs2:=[]) (l2:=[]) (S2:=fun _=>False) aD.out Y aH RowsAt.none (fun _=>⟨rfl,rfl⟩) (PsAt.nil _ _) (fun _ h=>h.elim) (by simp)).mono ?_;rintro e a4 ⟨rfl,⟨a2,I⟩,D⟩;have a0:=J I;have a1:=J (zaw aF D);have aU:=J (aD.out.below Y D);clear I D aH aF aD
 go_wp2
 go_ret
 exact zbq a1 aV a0.out.fin aU
theorem zjm (k:Int)(hR:Rdr T w g st cap ts p):Calls Tryz.prog 156 #[.pointer (some ⟨g,0,none⟩),.int .i64 k] w (PtP T w g st cap ts (tydP ts k p)):=by
 have ab:=J hR;have K:=hR.hT;have aj:=hR.hg;have af:Hid (w.grownBy w (some g)):=zby _ _;clear hR;obtain⟨r,hX⟩:∃ r,tydP ts k p=r:=⟨_,rfl⟩;rw[hX];have U:=J hX;clear hX;unfold tydP at U
 go_enter Tryz.func156,Tryz.ntmps156
 go_wp2_with fail
 refine(zbp k ab).mono ?_;rintro e W1 ⟨aq,rfl,D,A⟩;have ag:Hid (Mk w.heap.size W1 aq k ⟨#[]⟩ 0 (herI ts p) (herI ts p) 0 (.slice none 0 0) []):=D.mono af.out.size;have aa:=J (zab af (zae A));have ac:=J (ab.out.low A);clear D A af ab
 go_wp2_with fail
 refine(zdx ac).mono ?_;rintro e W2 ⟨C,y⟩;obtain⟨bb,hb⟩:∃ bb,namB ts p=bb:=⟨_,rfl⟩;rw[hb] at y
 cases bb
 ·simp only[Bool.false_eq_true,if_false] at y;subst y;have HP:Hid (PtP T w g st cap ts r (wroE (herI ts p)) W2):=zap (zab aa C) (zf0 hb U);clear aa ac U ag;unfold wroE
  go_wp2
  exact⟨rfl,HP.out⟩
 simp only[if_true] at y;obtain⟨rfl,I⟩:=y;have Y:Hid _:=zel hb U;have ai:=J (zab aa C);have ah:=J (ag.out.grow (Yg aj K) C);have ak:Hid (Rdr T W2 g st cap ts (p+1)):=I;clear C I hb U ac aa ag
 go_wp2_with fail
 refine(zc7 (nxT ts p) ah.out).mono ?_;rintro e M ⟨rfl,D,A⟩;have Z:=J D;have N:=J (zaw ai A);have V:=J (ak.out.below K A);clear D A ah ai ak;have X:Hid ((aq<M.heap.size∧∀ q,((.slice none 0 0):Value).ownBlock=some q->q<M.heap.size)∧w.heap.size<=M.heap.size∧g<M.heap.size):=⟨Z.out.at,N.out.size,V.out.lt⟩
 go_wp2_with fail
 refine(zh7 V).mono ?_;rintro e F ⟨C,y⟩;rcases hx:typP ts (p+1) with⟨t6,q6⟩ | s6|_
 rotate_left
 ·rw[hx] at y;have ax:e=wroE s6:=y;subst ax;have HP:Hid (PtP T w g st cap ts r (wroE (s6)) F):=zap (zab N C) (zat hx Y);clear N V Y Z X;unfold wroE
  go_wp2
  exact⟨rfl,HP.out⟩
 ·rw[hx] at y;exact y.elim
 rw[hx] at y;obtain⟨am,rfl,ap,I⟩:=y;have aw:Hid _:=za7 hx Y;have aB:=C.size;have au:=J (zab N C);have ao:=J (Z.out.grow (Yg aj K) C);have an:=J ap;have ae:Hid (Rdr T F g st cap ts q6):=I;clear C I ap hx Y V N Z
 go_wp2_with fail
 refine zag (fun W=>Below F.heap.size F W∧W.heap[F.heap.size]?=some (.cells #[.pointer (some ⟨am,0,none⟩)] 93 (0,0))) ⟨(Yb _ _).alloc (Ya _) _,Yd _ _⟩ ?_;rintro aA ⟨E,ra⟩;refine(za9 (bs2:=[am]) (l2:=[t6]) (S2:=fun j=>M.heap.size<=j∧j<F.heap.size) (ae.out.low E) K (ao.out.below E) (zar ra) (fun h=>by cases h) (PsAt.one (an.out.low (Ya _) E)) (zcn X.out.1 X.out.2.1 E.size) (by simp)).mono ?_;rintro e W8 ⟨rfl,⟨v8,D⟩,A⟩;have az:=J D;have al:=J (zab au (zae E));have ar:=J (ae.out.low E);have ay:=J (zaw al A);have av:=J (ar.out.below K A);clear D A E ra ao X au ae al ar an
 go_wp2
 go_ret
 exact zbq ay aw az.out.fin av
theorem zpu (hR:Rdr T w g st cap ts p):Calls Tryz.prog 137 #[.pointer (some ⟨g,0,none⟩)] w (PtP T w g st cap ts (tydP ts 6 p)):=by
 have F:=J hR;clear hR;have A:=zjm 6 F;obtain⟨r,E⟩:∃ r,tydP ts 6 p=r:=⟨_,rfl⟩;rw[E] at A ⊢
 go_enter Tryz.func137,Tryz.ntmps137
 go_wp2_with fail
 refine A.mono ?_;clear A E;rintro e W1 y;have C:=J y;rcases r with⟨K,q3⟩ | s3|_
 ·obtain⟨-,M,rfl,-⟩:=y
  go_wp2
  go_ret
  exact C
 ·obtain⟨-,D⟩:=y;have I:e=wroE s3:=D;subst I;clear D;unfold wroE at C ⊢
  go_wp2
  exact⟨rfl,C.out⟩
 ·exact y.2.elim
theorem zpv (hR:Rdr T w g st cap ts p):Calls Tryz.prog 140 #[.pointer (some ⟨g,0,none⟩)] w (PtP T w g st cap ts (tydP ts 9 p)):=by
 have F:=J hR;clear hR;have A:=zjm 9 F;obtain⟨r,E⟩:∃ r,tydP ts 9 p=r:=⟨_,rfl⟩;rw[E] at A ⊢
 go_enter Tryz.func140,Tryz.ntmps140
 go_wp2_with fail
 refine A.mono ?_;clear A E;rintro e W1 y;have C:=J y;rcases r with⟨K,q3⟩ | s3|_
 ·obtain⟨-,M,rfl,-⟩:=y
  go_wp2
  go_ret
  exact C
 ·obtain⟨-,D⟩:=y;have I:e=wroE s3:=D;subst I;clear D;unfold wroE at C ⊢
  go_wp2
  exact⟨rfl,C.out⟩
 ·exact y.2.elim
theorem zks (hR:Rdr T w g st cap ts p):Calls Tryz.prog 138 #[.pointer (some ⟨g,0,none⟩)] w (PtP T w g st cap ts (recP ts p)):=by
 have ab:=J hR;have K:=hR.hT;have aj:=hR.hg;have af:Hid (w.grownBy w (some g)):=zby _ _;clear hR;obtain⟨r,hX⟩:∃ r,recP ts p=r:=⟨_,rfl⟩;rw[hX];have U:=J hX;clear hX;unfold recP at U
 go_enter Tryz.func138,Tryz.ntmps138
 go_wp2_with fail
 refine(zbp 8 ab).mono ?_;rintro e W1 ⟨aq,rfl,D,A⟩;have ag:Hid (Mk w.heap.size W1 aq 8 ⟨#[]⟩ 0 (herI ts p) (herI ts p) 0 (.slice none 0 0) []):=D.mono af.out.size;have aa:=J (zab af (zae A));have ac:=J (ab.out.low A);clear D A af ab
 go_wp2_with fail
 refine(zdx ac).mono ?_;rintro e W2 ⟨C,y⟩;obtain⟨bb,hb⟩:∃ bb,namB ts p=bb:=⟨_,rfl⟩;rw[hb] at y
 cases bb
 ·simp only[Bool.false_eq_true,if_false] at y;subst y;have HP:Hid (PtP T w g st cap ts r (wroE (herI ts p)) W2):=zap (zab aa C) (zf0 hb U);clear aa ac U ag;unfold wroE
  go_wp2
  exact⟨rfl,HP.out⟩
 simp only[if_true] at y;obtain⟨rfl,I⟩:=y;have Y:Hid _:=zel hb U;have ai:=J (zab aa C);have ah:=J (ag.out.grow (Yg aj K) C);have ak:Hid (Rdr T W2 g st cap ts (p+1)):=I;clear C I hb U ac aa ag
 go_wp2_with fail
 refine(zc7 (nxT ts p) ah.out).mono ?_;rintro e M ⟨rfl,D,A⟩;have Z:=J D;have N:=J (zaw ai A);have V:=J (ak.out.below K A);clear D A ah ai ak;have X:Hid ((aq<M.heap.size∧∀ q,((.slice none 0 0):Value).ownBlock=some q->q<M.heap.size)∧w.heap.size<=M.heap.size∧g<M.heap.size):=⟨Z.out.at,N.out.size,V.out.lt⟩
 go_wp2_with fail
 refine(zin 11 V).mono ?_;rintro e F ⟨C,y⟩;rcases hx:worP ts 11 (p+1) with⟨t6,q6⟩ | s6|_
 rotate_left
 ·rw[hx] at y;have ax:e=wroE s6:=y;subst ax;have HP:Hid (PtP T w g st cap ts r (wroE (s6)) F):=zap (zab N C) (zat hx Y);clear N V Y Z X;unfold wroE
  go_wp2
  exact⟨rfl,HP.out⟩
 ·rw[hx] at y;exact y.elim
 rw[hx] at y;obtain⟨am,rfl,ap,I⟩:=y;have aw:Hid _:=za7 hx Y;have aB:=C.size;have au:=J (zab N C);have ao:=J (Z.out.grow (Yg aj K) C);have an:=J ap;have ae:Hid (Rdr T F g st cap ts q6):=I;clear C I ap hx Y V N Z
 go_wp2_with fail
 refine zag (fun W=>Below F.heap.size F W∧W.heap[F.heap.size]?=some (.cells #[.pointer (some ⟨am,0,none⟩)] 93 (0,0))) ⟨(Yb _ _).alloc (Ya _) _,Yd _ _⟩ ?_;rintro aA ⟨E,ra⟩;refine(za9 (bs2:=[am]) (l2:=[t6]) (S2:=fun j=>M.heap.size<=j∧j<F.heap.size) (ae.out.low E) K (ao.out.below E) (zar ra) (fun h=>by cases h) (PsAt.one (an.out.low (Ya _) E)) (zcn X.out.1 X.out.2.1 E.size) (by simp)).mono ?_;rintro e W8 ⟨rfl,⟨v8,D⟩,A⟩;have az:=J D;have al:=J (zab au (zae E));have ar:=J (ae.out.low E);have ay:=J (zaw al A);have av:=J (ar.out.below K A);clear D A E ra ao X au ae al ar an
 go_wp2
 go_ret
 exact zbq ay aw az.out.fin av
end
section
variable {T:Nat}{w:World}{g:Nat}{st:Option Addr}{cap:Nat}{ts:List Tok}{p:Nat}
theorem zgn (hR:Rdr T w g st cap ts p):Calls Tryz.prog 152 #[.pointer (some ⟨g,0,none⟩)] w (PtP T w g st cap ts (va1P ts p)):=by
 have ax:=J hR;have hT:=hR.hT;have aE:=hR.hg;have aK:Hid (w.grownBy w (some g)):=zby _ _;clear hR;obtain⟨r,hX⟩:∃ r,va1P ts p=r:=⟨_,rfl⟩;rw[hX];have am:=J hX;clear hX;unfold va1P at am
 go_enter Tryz.func152,Tryz.ntmps152
 have HE:Hid (∀ q (s:List UInt8),((nxT ts q).text.toList == s)=isT ts q s):=fun q s=>by unfold isT;rw[ByteArray.toList_eq]
 obtain⟨-,-,aM⟩:=ax.out.bound p
 go_wp2_with fail
 refine(zdw ax).mono ?_;rintro e W1 ⟨rfl,b1⟩;have X:=J (ax.out.low b1);have E:Hid (Below w.heap.size w W1):=b1;clear b1 ax aK;have aC:Hid (w.heap.size<=W1.heap.size):=E.out.size
 by_cases hk2:(nxT ts p).kind=2
 ·have hk:((nxT ts p).kind == 2)=true:=by rw[hk2];rfl
  have hp:=zg4 hk (by decide);have ab:Hid _:=zbe hk am;clear am HE
  go_wp2_with (refine zcc (by rfl) (.tmp 3) (.tmp 7) (by rfl) (t:=nxT ts p) (z:=tokZ) (by rfl) (by rfl) (Yd _ _) ?_;refine zcw (fun W=>Below W1.heap.size W1 W∧W.heap[W1.heap.size]?=some (.cells (nxT ts p).cells 38 (0,0))) ⟨zak ((Yb _ _).alloc (Ya _) _) (Ya _) _,zad (Yd _ _)⟩ ?_;rintro y ⟨D,A⟩;have C:Hid (Below w.heap.size w y):=E.out.trans (D.mono E.out.size);have F:Hid (Rdr T y g st cap ts p):=X.out.low D;have M:Hid (y.heap[W1.heap.size]?=some (.cells (nxT ts p).cells 38 (0,0))):=A;have k0:y.cell? ⟨W1.heap.size,0,none⟩=some (.int .i64 (nxT ts p).kind):=Yp 0 A rfl;have k1:y.cell? ⟨W1.heap.size,1,none⟩=some (.string (nxT ts p).text):=Yp 1 A rfl;clear D A X E)
  refine(zfm 20 F hp).mono ?_;rintro e I ⟨N,b,v,rfl,K,U⟩;have hK:W1.heap.size<y.heap.size:=zaa M;have aG:W1.heap.size≠b:=by have:=K.hB;omega
  have aJ:g<W1.heap.size:=Yg aE (Yo hT aC);have ar:Hid _:=K.mono C.out.size;have ak:=J (zab (zae C) N);have aq:Hid (I.heap[W1.heap.size]?=some (.cells (nxT ts p).cells 38 (0,0))):=(N.block _ hK (fun e=>by injection e with e;omega)).trans M;have an:Hid (Rdr T I g st cap ts (p+1)):=U;clear K N U C M F k0 k1;obtain⟨av,b4,c1,z1⟩:=ar.out.text ⟨#[]⟩;have au:Hid _:=av;have ay:Hid _:=b4;have aw:Hid ((I.setCell ⟨b,1,none⟩ (.string ⟨#[]⟩)).heap[W1.heap.size]?=some (.cells (nxT ts p).cells 38 (0,0))):=(Ye _ _ _ _ aG).trans aq;clear av b4
  go_wp2_with (refine zcw (fun W=>Mk w.heap.size W b 20 ⟨#[]⟩ 0 (nxT ts p).pos (herI ts p) (behI ts (p+1)) v []∧w.grownBy W (some g)∧Rdr T W g st cap ts (p+1)∧W.heap[W1.heap.size]?=some (.cells (nxT ts p).cells 38 (0,0))) ⟨au.out,zaw ak.out ay.out,an.out.below hT ay.out,aw.out⟩ ?_;clear au ay aw ar ak an aq c1 z1;rintro W4 ⟨av,aD,aB,aF⟩;have au:Hid _:=av;have az:Hid _:=aD;have aA:Hid _:=aB;have aw:Hid _:=aF;clear av aD aB aF;refine zlt (by rfl) (.tmp 3) (by rfl) (t:=nxT ts p) (by rfl) aw.out ?_)
  refine(zrn (nxT ts p) W4).mono ?_;rintro e W5 ⟨rfl,Y⟩;have aj:Hid _:=au.out.below Y;have al:=J (zab az (zae Y));have ai:=J (aA.out.low Y);clear Y au az aA aw;have aH:Hid (∀ n,numT (nxT ts p)=n->Rs.ok (.mk 20 ⟨#[]⟩ n (nxT ts p).pos (herI ts p) (behI ts (p+1)) []) (p+1)=r):=fun n hn=>by rw[<-hn];exact ab
  obtain⟨n,ag,aN⟩:∃ (n:Int) (ee:Int),numV (numO (nxT ts p)) 201=.tuple #[.int .i64 n,.int .i64 ee]∧numT (nxT ts p)=n:=by
   unfold numV numT
   cases numO (nxT ts p) with
   | none=>exact⟨_,_,rfl,rfl⟩
   | some n=>exact⟨_,_,rfl,rfl⟩
  obtain⟨ag,ao⟩:=aN;rw[ag];obtain⟨ap,b6,c2,z2⟩:=aj.out.nums n;have Z:Hid (PtP T w g st cap ts r (.returned (.pointer (some ⟨b,0,none⟩))) (W5.setCell ⟨b,2,none⟩ (.int .i64 n))):=zbq (zaw al b6) (aH n ao) ap.fin (ai.out.below hT b6);clear ap b6 aj al ai aH ab ag ao
  go_wp2
  go_ret
  exact Z
 have aL:((nxT ts p).kind == 2)=false:=by rw[beq_eq_false_iff_ne];exact hk2
 have ab:Hid _:=zb1 aL am;clear am
 by_cases hk3:(nxT ts p).kind=3
 ·have hk:((nxT ts p).kind == 3)=true:=by rw[hk3];rfl
  have hp:=zg4 hk (by decide);have V:Hid _:=zbe hk ab;clear ab HE
  go_wp2_with (refine zcc (by rfl) (.tmp 3) (.tmp 7) (by rfl) (t:=nxT ts p) (z:=tokZ) (by rfl) (by rfl) (Yd _ _) ?_;refine zcw (fun W=>Below W1.heap.size W1 W∧W.heap[W1.heap.size]?=some (.cells (nxT ts p).cells 38 (0,0))) ⟨zak ((Yb _ _).alloc (Ya _) _) (Ya _) _,zad (Yd _ _)⟩ ?_;rintro y ⟨D,A⟩;have C:Hid (Below w.heap.size w y):=E.out.trans (D.mono E.out.size);have F:Hid (Rdr T y g st cap ts p):=X.out.low D;have M:Hid (y.heap[W1.heap.size]?=some (.cells (nxT ts p).cells 38 (0,0))):=A;have k0:y.cell? ⟨W1.heap.size,0,none⟩=some (.int .i64 (nxT ts p).kind):=Yp 0 A rfl;have k1:y.cell? ⟨W1.heap.size,1,none⟩=some (.string (nxT ts p).text):=Yp 1 A rfl;clear D A X E)
  refine(zfm 21 F hp).mono ?_;rintro e I ⟨N,b,v,rfl,K,U⟩;have hK:W1.heap.size<y.heap.size:=zaa M;have aG:W1.heap.size≠b:=by have:=K.hB;omega
  have aJ:g<W1.heap.size:=Yg aE (Yo hT aC);have ar:Hid _:=K.mono C.out.size;have ak:=J (zab (zae C) N);have aq:Hid (I.heap[W1.heap.size]?=some (.cells (nxT ts p).cells 38 (0,0))):=(N.block _ hK (fun e=>by injection e with e;omega)).trans M;have an:Hid (Rdr T I g st cap ts (p+1)):=U;clear K N U C M F k0 k1
  go_wp2_with (refine zlt (by rfl) (.tmp 3) (by rfl) (t:=nxT ts p) (by rfl) aq.out ?_)
  refine(zog (nxT ts p) I aM).mono ?_;rintro e W5 ⟨rfl,Y⟩;have aj:Hid _:=ar.out.below Y;have al:=J (zab ak (zae Y));have ai:=J (an.out.low Y);clear Y ar ak an aq;obtain⟨n,ee,ag,ao⟩:∃ (n:ByteArray) (ee:Int),strV (valO (nxT ts p)) 200=.tuple #[.string n,.int .i64 ee]∧valT (nxT ts p)=n:=by
   unfold strV valT
   cases valO (nxT ts p) with
   | none=>exact⟨_,_,rfl,rfl⟩
   | some n=>exact⟨_,_,rfl,rfl⟩
  rw[ag];rw[ao] at V;obtain⟨ap,b6,c2,z2⟩:=aj.out.text n;have Z:Hid (PtP T w g st cap ts r (.returned (.pointer (some ⟨b,0,none⟩))) (W5.setCell ⟨b,1,none⟩ (.string n))):=zbq (zaw al b6) V.out ap.fin (ai.out.below hT b6);clear ap b6 aj al ai V ag ao
  go_wp2
  go_ret
  exact Z
 have aI:((nxT ts p).kind == 3)=false:=by rw[beq_eq_false_iff_ne];exact hk3
 have V:Hid _:=zb1 aI ab;clear ab;have ac:Hid _:=HE.out p [116,114,117,101];have af:Hid _:=HE.out p [102,97,108,115,101];obtain⟨bt,ae⟩:∃ bt,isT ts p [116,114,117,101]=bt:=⟨_,rfl⟩;obtain⟨bf,ah⟩:∃ bf,isT ts p [102,97,108,115,101]=bf:=⟨_,rfl⟩;rw[ae] at ac;rw[ah] at af;rw[ae,ah] at V;clear HE
 cases bt
 ·cases bf
  ·have h1:((nxT ts p).text.toList == [116,114,117,101])=false:=ac.out;have h2:((nxT ts p).text.toList == [102,97,108,115,101])=false:=af.out;have aa:Hid _:=zb1 rfl V;clear V ac af ae ah
   go_wp2_with (refine zcc (by rfl) (.tmp 3) (.tmp 7) (by rfl) (t:=nxT ts p) (z:=tokZ) (by rfl) (by rfl) (Yd _ _) ?_;refine zcw (fun W=>Below W1.heap.size W1 W∧W.heap[W1.heap.size]?=some (.cells (nxT ts p).cells 38 (0,0))) ⟨zak ((Yb _ _).alloc (Ya _) _) (Ya _) _,zad (Yd _ _)⟩ ?_;rintro y ⟨D,A⟩;have C:Hid (Below w.heap.size w y):=E.out.trans (D.mono E.out.size);have F:Hid (Rdr T y g st cap ts p):=X.out.low D;have M:Hid (y.heap[W1.heap.size]?=some (.cells (nxT ts p).cells 38 (0,0))):=A;have k0:y.cell? ⟨W1.heap.size,0,none⟩=some (.int .i64 (nxT ts p).kind):=Yp 0 A rfl;have k1:y.cell? ⟨W1.heap.size,1,none⟩=some (.string (nxT ts p).text):=Yp 1 A rfl;clear D A X E)
   refine(zfz F).mono ?_;rintro e I ⟨rfl,b3⟩;have Z:Hid (PtP T w g st cap ts r (wroE (herI ts p)) I):=zap (zae (C.out.trans (b3.mono C.out.size))) aa.out.symm;clear aa F C b3 M
   go_wp2
   exact⟨rfl,Z.out⟩
  ·have hp:=zcx ah (by simp);have aa:Hid _:=zbe rfl V;have h1:((nxT ts p).text.toList == [116,114,117,101])=false:=ac.out;have h2:((nxT ts p).text.toList == [102,97,108,115,101])=true:=af.out;clear V ac af ae ah
   go_wp2_with (refine zcc (by rfl) (.tmp 3) (.tmp 7) (by rfl) (t:=nxT ts p) (z:=tokZ) (by rfl) (by rfl) (Yd _ _) ?_;refine zcw (fun W=>Below W1.heap.size W1 W∧W.heap[W1.heap.size]?=some (.cells (nxT ts p).cells 38 (0,0))) ⟨zak ((Yb _ _).alloc (Ya _) _) (Ya _) _,zad (Yd _ _)⟩ ?_;rintro y ⟨D,A⟩;have C:Hid (Below w.heap.size w y):=E.out.trans (D.mono E.out.size);have F:Hid (Rdr T y g st cap ts p):=X.out.low D;have M:Hid (y.heap[W1.heap.size]?=some (.cells (nxT ts p).cells 38 (0,0))):=A;have k0:y.cell? ⟨W1.heap.size,0,none⟩=some (.int .i64 (nxT ts p).kind):=Yp 0 A rfl;have k1:y.cell? ⟨W1.heap.size,1,none⟩=some (.string (nxT ts p).text):=Yp 1 A rfl;clear D A X E)
   refine(zfm 22 F hp).mono ?_;rintro e I ⟨N,b,v,rfl,K,U⟩;have Z:Hid (PtP T w g st cap ts r (.returned (.pointer (some ⟨b,0,none⟩))) I):=zbq (zab (zae C) N) aa.out (K.mono C.out.size).fin U;clear aa F C K N U M
   go_wp2
   go_ret
   exact Z
 ·have hp:=zcx ae (by simp);have aa:Hid _:=zbe rfl V;have h1:((nxT ts p).text.toList == [116,114,117,101])=true:=ac.out;clear V ac af ae ah
  go_wp2_with (refine zcc (by rfl) (.tmp 3) (.tmp 7) (by rfl) (t:=nxT ts p) (z:=tokZ) (by rfl) (by rfl) (Yd _ _) ?_;refine zcw (fun W=>Below W1.heap.size W1 W∧W.heap[W1.heap.size]?=some (.cells (nxT ts p).cells 38 (0,0))) ⟨zak ((Yb _ _).alloc (Ya _) _) (Ya _) _,zad (Yd _ _)⟩ ?_;rintro y ⟨D,A⟩;have C:Hid (Below w.heap.size w y):=E.out.trans (D.mono E.out.size);have F:Hid (Rdr T y g st cap ts p):=X.out.low D;have M:Hid (y.heap[W1.heap.size]?=some (.cells (nxT ts p).cells 38 (0,0))):=A;have k0:y.cell? ⟨W1.heap.size,0,none⟩=some (.int .i64 (nxT ts p).kind):=Yp 0 A rfl;have k1:y.cell? ⟨W1.heap.size,1,none⟩=some (.string (nxT ts p).text):=Yp 1 A rfl;clear D A X E)
  refine(zfm 22 F hp).mono ?_;rintro e I ⟨N,b,v,rfl,K,U⟩;have Z:Hid (PtP T w g st cap ts r (.returned (.pointer (some ⟨b,0,none⟩))) I):=zbq (zab (zae C) N) aa.out (K.mono C.out.size).fin U;clear aa F C K N U M
  go_wp2
  go_ret
  exact Z
theorem zpw (hR:Rdr T w g st cap ts p):Calls Tryz.prog 132 #[.pointer (some ⟨g,0,none⟩)] w (PtP T w g st cap ts (valP ts p)):=by
 have ag:=J hR;have hT:=hR.hT;have au:=hR.hg;have aG:Hid (w.grownBy w (some g)):=zby _ _;clear hR;obtain⟨r,hX⟩:∃ r,valP ts p=r:=⟨_,rfl⟩;rw[hX];have Y:=J hX;clear hX;unfold valP at Y
 go_enter Tryz.func132,Tryz.ntmps132
 have aP:∀ (a b c:Value) (W:World),(Instr.field 38 (.agg #[a,b,c]) 0).run Tryz.prog W=.ok a W:=fun _ _ _ _=>rfl
 go_wp2_with fail
 refine(ze9 ⟨#[45]⟩ ag.out).mono ?_;rintro e W1 ⟨rfl,y⟩;have V:=J (ag.out.low y);have aa:Hid (w.grownBy W1 (some g)):=zae y;clear y ag aG;obtain⟨E,A⟩:∃ E,isT ts p [45]=E:=⟨_,rfl⟩;rw[show isT ts p (⟨#[45]⟩:ByteArray).data.toList=E from A];rw[A] at Y
 cases E
 ·have C:Hid _:=zb1 rfl Y;clear Y A
  go_wp2_with fail
  refine((zgn V).mono fun e W h=>PtP.from aa h).mono ?_;rintro e W2 hP;rw[C.out] at hP;have K:=J hP;rcases r with⟨t3,q3⟩ | s3|_
  ·obtain⟨-,b3,rfl,-⟩:=hP;clear C V aa
   go_wp2
   go_ret
   exact K
  ·obtain⟨-,ac⟩:=hP;have aM:e=wroE s3:=ac;subst aM;clear ac C V aa;unfold wroE at K ⊢
   go_wp2
   exact⟨rfl,K.out⟩
  ·exact hP.2.elim
 have C:Hid _:=zbe rfl Y;have hp:=zcx A (by simp);clear Y A
 go_wp2_with fail
 refine(zbp 26 V).mono ?_;rintro e aK ⟨an,rfl,F,y⟩;have ap:Hid (Mk w.heap.size aK an 26 ⟨#[]⟩ 0 (herI ts p) (herI ts p) 0 (.slice none 0 0) []):=F.mono aa.out.size;have av:=J (zab aa (zae y));have ax:=J (V.out.low y);clear F y aa V
 go_wp2_with fail
 refine(zf9 ax hp).mono ?_;rintro e aJ ⟨rfl,D,r1⟩;have ay:=J (zab av D);have al:=J (ap.out.grow (Yg au hT) D);have az:Hid (Rdr T aJ g st cap ts (p+1)):=r1;clear D r1 ax av ap
 go_wp2_with fail
 refine(zc7 (nxT ts p) al.out).mono ?_;rintro e aQ ⟨rfl,F,y⟩;have aB:=J F;have aA:=J (zaw ay y);have ah:=J (az.out.below hT y);clear F y al ay az
 go_wp2_with fail
 refine(zdw ah).mono ?_;rintro e Wn ⟨rfl,bn⟩;have Z:=J (ah.out.low bn);have I:=J (zab aA (zae bn));have ab:=J (aB.out.below bn);clear bn ah aA aB;unfold Tok.cells;obtain⟨E,A⟩:∃ E,((nxT ts (p+1)).kind == 2)=E:=⟨_,rfl⟩;rw[A] at C
 cases E
 ·have aU:¬ (nxT ts (p+1)).kind=2:=by rw[beq_eq_false_iff_ne] at A;exact A
  have aq:((nxT ts (p+1)).kind != 2)=true:=by rw[bne,A];rfl
  have M:Hid _:=zb1 rfl C;clear C A
  go_wp2_with fail
  refine(zfz Z).mono ?_;rintro e W3 ⟨rfl,b3⟩;have K:Hid (PtP T w g st cap ts r (wroE (herI ts (p+1))) W3):=zap (zab I (zae b3)) M.out.symm;clear M Z I b3 ab
  go_wp2
  exact⟨rfl,K.out⟩
 have aC:(nxT ts (p+1)).kind=2:=by rw[beq_iff_eq] at A;exact A
 have aq:((nxT ts (p+1)).kind != 2)=false:=by rw[bne,A];rfl
 have M:Hid _:=zbe rfl C;clear C A;have ae:Hid ((an<Wn.heap.size∧∀ q,((.slice none 0 0):Value).ownBlock=some q->q<Wn.heap.size)∧w.heap.size<=Wn.heap.size∧g<Wn.heap.size):=⟨ab.out.at,I.out.size,Z.out.lt⟩
 go_wp2_with fail
 refine(zgn Z).mono ?_;rintro e U ⟨D,X⟩;rcases hx:va1P ts (p+1) with⟨aD,aL⟩ | s16|_
 rotate_left
 ·rw[hx] at X;have ac:e=wroE s16:=X;subst ac;have K:Hid (PtP T w g st cap ts r (wroE (s16)) U):=zap (zab I D) (zat hx M);clear I Z M ab ae;unfold wroE
  go_wp2
  exact⟨rfl,K.out⟩
 ·rw[hx] at X;exact X.elim
 rw[hx] at X;obtain⟨aw,rfl,am,r1⟩:=X;have aF:Hid _:=za7 hx M;have aT:=D.size;have ar:=J (zab I D);have aj:=J (ab.out.grow (Yg au hT) D);have ao:=J am;have af:Hid (Rdr T U g st cap ts aL):=r1;clear D r1 am hx M Z I ab
 try clear aC aq
 go_wp2_with fail
 refine zag (fun W=>Below U.heap.size U W∧W.heap[U.heap.size]?=some (.cells #[.pointer (some ⟨aw,0,none⟩)] 93 (0,0))) ⟨(Yb _ _).alloc (Ya _) _,Yd _ _⟩ ?_;rintro aR ⟨N,ra⟩;refine(za9 (bs2:=[aw]) (l2:=[aD]) (S2:=fun j=>Wn.heap.size<=j∧j<U.heap.size) (af.out.low N) hT (aj.out.below N) (zar ra) (fun h=>by cases h) (PsAt.one (ao.out.low (Ya _) N)) (zcn ae.out.1 ae.out.2.1 N.size) (by simp)).mono ?_;rintro e aN ⟨rfl,⟨aO,F⟩,y⟩;have aI:=J F;have ai:=J (zab ar (zae N));have ak:=J (af.out.low N);have aH:=J (zaw ai y);have aE:=J (ak.out.below hT y);clear F y N ra aj ae ar af ai ak ao
 go_wp2
 go_ret
 exact zbq aH aF aI.out.fin aE
theorem zkt (hR:Rdr T w g st cap ts p):Calls Tryz.prog 107 #[.pointer (some ⟨g,0,none⟩)] w (PtP T w g st cap ts (conP ts p)):=by
 have al:=J hR;have N:=hR.hT;have af:=hR.hg;have ar:Hid (w.grownBy w (some g)):=zby _ _;clear hR;obtain⟨r,hX⟩:∃ r,conP ts p=r:=⟨_,rfl⟩;rw[hX];have X:=J hX;clear hX;unfold conP at X
 go_enter Tryz.func107,Tryz.ntmps107
 go_wp2_with fail
 refine(zbp 3 al).mono ?_;rintro e W1 ⟨aG,rfl,I,F⟩;have av:Hid (Mk w.heap.size W1 aG 3 ⟨#[]⟩ 0 (herI ts p) (herI ts p) 0 (.slice none 0 0) []):=I.mono ar.out.size;have ai:=J (zab ar (zae F));have ap:=J (al.out.low F);clear I F ar al
 go_wp2_with fail
 refine(zbh ⟨#[99,111,110,115,116]⟩ (by simp) ap.out).mono ?_;rintro e W2 ⟨A,Z⟩;have y:(if isT ts p [99,111,110,115,116] then e=.returned (.tuple #[])∧Rdr T W2 g st cap ts (p+1) else e=wroE (herI ts p)):=Z;clear Z;obtain⟨E,C⟩:∃ E,isT ts p [99,111,110,115,116]=E:=⟨_,rfl⟩;rw[C] at y
 cases E
 ·simp only[Bool.false_eq_true,if_false] at y;subst y;have U:Hid (PtP T w g st cap ts r (wroE (herI ts p)) W2):=zap (zab ai A) (zdy C X);clear ai ap X av;unfold wroE
  go_wp2
  exact⟨rfl,U.out⟩
 simp only[if_true] at y;obtain⟨rfl,D⟩:=y;have ab:Hid _:=zc3 C X;have ac:=J (zab ai A);have an:=J (av.out.grow (Yg af N) A);have ao:Hid (Rdr T W2 g st cap ts (p+1)):=D;clear A D C X ap ai av
 go_wp2_with fail
 refine(zdx ao).mono ?_;rintro e W4 ⟨A,y⟩;obtain⟨E,C⟩:∃ E,namB ts (p+1)=E:=⟨_,rfl⟩;rw[C] at y
 cases E
 ·simp only[Bool.false_eq_true,if_false] at y;subst y;have U:Hid (PtP T w g st cap ts r (wroE (herI ts (p+1))) W4):=zap (zab ac A) (zf0 C ab);clear ac ao ab an;unfold wroE
  go_wp2
  exact⟨rfl,U.out⟩
 simp only[if_true] at y;obtain⟨rfl,D⟩:=y;have aj:Hid _:=zel C ab;have aB:=J (zab ac A);have ax:=J (an.out.grow (Yg af N) A);have aD:Hid (Rdr T W4 g st cap ts ((p+1)+1)):=D;clear A D C ab ao ac an
 go_wp2_with fail
 refine(zc7 (nxT ts (p+1)) ax.out).mono ?_;rintro e W6 ⟨rfl,I,F⟩;have aq:=J I;have ak:=J (zaw aB F);have am:=J (aD.out.below N F);clear I F ax aB aD
 go_wp2_with fail
 refine(zbh ⟨#[61]⟩ (by simp) am.out).mono ?_;rintro e K ⟨A,Z⟩;have y:(if isT ts ((p+1)+1) [61] then e=.returned (.tuple #[])∧Rdr T K g st cap ts (((p+1)+1)+1) else e=wroE (herI ts ((p+1)+1))):=Z;clear Z;obtain⟨E,C⟩:∃ E,isT ts ((p+1)+1) [61]=E:=⟨_,rfl⟩;rw[C] at y
 cases E
 ·simp only[Bool.false_eq_true,if_false] at y;subst y;have U:Hid (PtP T w g st cap ts r (wroE (herI ts ((p+1)+1))) K):=zap (zab ak A) (zdy C aj);clear ak am aj aq;unfold wroE
  go_wp2
  exact⟨rfl,U.out⟩
 simp only[if_true] at y;obtain⟨rfl,D⟩:=y;have ah:Hid _:=zc3 C aj;have Y:=J (zab ak A);have aa:=J (aq.out.grow (Yg af N) A);have ag:Hid (Rdr T K g st cap ts (((p+1)+1)+1)):=D;clear A D C aj am ak aq;have ae:Hid ((aG<K.heap.size∧∀ q,((.slice none 0 0):Value).ownBlock=some q->q<K.heap.size)∧w.heap.size<=K.heap.size∧g<K.heap.size):=⟨aa.out.at,Y.out.size,ag.out.lt⟩
 go_wp2_with fail
 refine(zpw ag).mono ?_;rintro e V ⟨A,y⟩;rcases hx:valP ts (((p+1)+1)+1) with⟨aM,aJ⟩ | s10|_
 rotate_left
 ·rw[hx] at y;have aI:e=wroE s10:=y;subst aI;have U:Hid (PtP T w g st cap ts r (wroE (s10)) V):=zap (zab Y A) (zat hx ah);clear Y ag ah aa ae;unfold wroE
  go_wp2
  exact⟨rfl,U.out⟩
 ·rw[hx] at y;exact y.elim
 rw[hx] at y;obtain⟨ay,rfl,aF,D⟩:=y;have aN:Hid _:=za7 hx ah;have aR:=A.size;have aA:=J (zab Y A);have aw:=J (aa.out.grow (Yg af N) A);have aC:=J aF;have au:Hid (Rdr T V g st cap ts aJ):=D;clear A D aF hx ah ag Y aa
 go_wp2_with fail
 refine zag (fun W=>Below V.heap.size V W∧W.heap[V.heap.size]?=some (.cells #[.pointer (some ⟨ay,0,none⟩)] 93 (0,0))) ⟨(Yb _ _).alloc (Ya _) _,Yd _ _⟩ ?_;rintro aQ ⟨M,ra⟩;refine(za9 (bs2:=[ay]) (l2:=[aM]) (S2:=fun j=>K.heap.size<=j∧j<V.heap.size) (au.out.low M) N (aw.out.below M) (zar ra) (fun h=>by cases h) (PsAt.one (aC.out.low (Ya _) M)) (zcn ae.out.1 ae.out.2.1 M.size) (by simp)).mono ?_;rintro e aO ⟨rfl,⟨aP,I⟩,F⟩;have aL:=J I;have az:=J (zab aA (zae M));have aE:=J (au.out.low M);have aK:=J (zaw az F);have aH:=J (aE.out.below N F);clear I F M ra aw ae aA au az aE aC
 go_wp2
 go_ret
 exact zbq aK aN aL.out.fin aH
theorem zku (hR:Rdr T w g st cap ts p):Calls Tryz.prog 81 #[.pointer (some ⟨g,0,none⟩)] w (PtP T w g st cap ts (impP ts p)):=by
 have ag:=J hR;have I:=hR.hT;have az:=hR.hg;have al:Hid (w.grownBy w (some g)):=zby _ _;clear hR;obtain⟨r,hX⟩:∃ r,impP ts p=r:=⟨_,rfl⟩;rw[hX];have U:=J hX;clear hX;unfold impP at U
 go_enter Tryz.func81,Tryz.ntmps81
 go_wp2_with fail
 refine(zbp 2 ag).mono ?_;rintro e W1 ⟨V,rfl,M,F⟩;have ap:Hid (Mk w.heap.size W1 V 2 ⟨#[]⟩ 0 (herI ts p) (herI ts p) 0 (.slice none 0 0) []):=M.mono al.out.size;have af:=J (zab al (zae F));have ak:=J (ag.out.low F);clear M F al ag
 go_wp2_with fail
 refine(zbh ⟨#[105,109,112,111,114,116]⟩ (by simp) ak.out).mono ?_;rintro e W2 ⟨D,aF⟩;have y:(if isT ts p [105,109,112,111,114,116] then e=.returned (.tuple #[])∧Rdr T W2 g st cap ts (p+1) else e=wroE (herI ts p)):=aF;clear aF;obtain⟨E,C⟩:∃ E,isT ts p [105,109,112,111,114,116]=E:=⟨_,rfl⟩;rw[C] at y
 cases E
 ·simp only[Bool.false_eq_true,if_false] at y;subst y;have X:Hid (PtP T w g st cap ts r (wroE (herI ts p)) W2):=zap (zab af D) (zdy C U);clear af ak U ap;unfold wroE
  go_wp2
  exact⟨rfl,X.out⟩
 simp only[if_true] at y;obtain⟨rfl,K⟩:=y;have Z:Hid _:=zc3 C U;have aa:=J (zab af D);have ai:=J (ap.out.grow (Yg az I) D);have aj:Hid (Rdr T W2 g st cap ts (p+1)):=K;clear D K C U ak af ap
 go_wp2_with fail
 refine(zg6 3 (by decide) aj.out).mono ?_;rintro e A ⟨D,y⟩;obtain⟨E,C⟩:∃ E,((nxT ts (p+1)).kind == 3)=E:=⟨_,rfl⟩;rw[C] at y
 cases E
 ·simp only[Bool.false_eq_true,if_false] at y;subst y;have X:Hid (PtP T w g st cap ts r (wroE (herI ts (p+1))) A):=zap (zab aa D) (zlv C Z);clear aa aj Z ai;unfold wroE
  go_wp2
  exact⟨rfl,X.out⟩
 simp only[if_true] at y;obtain⟨rfl,K⟩:=y;have am:Hid _:=zim C Z;have aC:=J (zab aa D);have ah:=J (ai.out.grow (Yg az I) D);have ae:Hid (Rdr T A g st cap ts ((p+1)+1)):=K;clear D K C Z aj aa ai;obtain⟨-,-,aL⟩:=ae.out.bound (p+1);have aN:V<A.heap.size:=ah.out.lt;have aM:g<A.heap.size:=ae.out.lt
 go_wp2_with (first
  | (refine zcc (by rfl) (.tmp 4) (.tmp 10) (by rfl) (t:=nxT ts (p+1)) (z:=tokZ) (by rfl) (by rfl) (Yd _ _) ?_;refine zcw (fun W=>Below A.heap.size A W∧W.heap[A.heap.size]?=some (.cells (nxT ts (p+1)).cells 38 (0,0))) ⟨zak ((Yb _ _).alloc (Ya _) _) (Ya _) _,zad (Yd _ _)⟩ ?_;rintro Wx ⟨ab,ax⟩;have aq:Hid (Rdr T Wx g st cap ts ((p+1)+1)):=ae.out.low ab;have ay:Hid (w.grownBy Wx (some g)):=zab aC (zae ab);have av:Hid (Mk w.heap.size Wx V 2 ⟨#[]⟩ 0 (herI ts p) (herI ts p) 0 (.slice none 0 0) []):=ah.out.below ab;have ac:Hid (Wx.heap[A.heap.size]?=some (.cells (nxT ts (p+1)).cells 38 (0,0))):=ax;clear ab ax ae aC ah)
  | (refine zlt (by rfl) (.tmp 4) (by rfl) (t:=nxT ts (p+1)) (by rfl) ac.out ?_))
 refine(zg8 (nxT ts (p+1)) av.out).mono ?_;rintro e W6 ⟨rfl,M,F,ho⟩;have N:=J M;have aK:=J (zaw ay F);have aw:=J (aq.out.below I F);have aA:Hid (W6.heap[A.heap.size]?=some (.cells (nxT ts (p+1)).cells 38 (0,0))):=(ho _ (by omega) (zaa ac)).trans ac;clear M F ho av ac ay aq
 go_wp2_with (refine zlt (by rfl) (.tmp 4) (by rfl) (t:=nxT ts (p+1)) (by rfl) aA.out ?_)
 refine(zog (nxT ts (p+1)) W6 aL).mono ?_;rintro e Wv ⟨rfl,Y⟩;have aH:=J (N.out.below Y);have au:=J (zab aK (zae Y));have aE:=J (aw.out.low Y);clear Y N aK aw aA;obtain⟨n,ee,aG,aJ⟩:∃ (n:ByteArray) (ee:Int),strV (valO (nxT ts (p+1))) 200=.tuple #[.string n,.int .i64 ee]∧valT (nxT ts (p+1))=n:=by
  unfold strV valT
  cases valO (nxT ts (p+1)) with
  | none=>exact⟨_,_,rfl,rfl⟩
  | some n=>exact⟨_,_,rfl,rfl⟩
 rw[aG];rw[aJ] at am;obtain⟨ar,b6,c2,z2⟩:=aH.out.text n;have N:Hid _:=ar;have ao:Hid _:=b6;clear ar b6 aG aJ
 go_wp2_with fail
 refine zag (fun W=>Mk w.heap.size W V 2 n 0 (nxT ts (p+1)).pos (herI ts p) 0 (.slice none 0 0) []∧w.grownBy W (some g)∧Rdr T W g st cap ts ((p+1)+1)) ⟨N.out,zaw au.out ao.out,aE.out.below I ao.out⟩ ?_;clear N ao aH au aE c2 z2;rintro Wy ⟨aB,aD,an⟩;refine(za9 (bs2:=[]) (l2:=[]) (S2:=fun _=>False) an I aB RowsAt.none (fun _=>⟨rfl,rfl⟩) (PsAt.nil _ _) (fun _ h=>h.elim) (by simp)).mono ?_;rintro e Wz ⟨rfl,⟨vz,aI⟩,bz⟩;have X:Hid (PtP T w g st cap ts r (.returned (.pointer (some ⟨V,0,none⟩))) Wz):=zbq (zaw aD bz) am.out aI.fin (an.below I bz);clear aB aD an aI bz am
 go_wp2
 go_ret
 exact X
end
end Go.Proofs.YtmclgbkijeidaaaGreatDoor
