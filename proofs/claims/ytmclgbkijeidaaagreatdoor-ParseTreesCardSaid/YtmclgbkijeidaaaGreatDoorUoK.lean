import Derived.Test.YtmclgbkijeidaaaGreatDoorUoPaO
namespace Go.Proofs.YtmclgbkijeidaaaGreatDoor
set_option maxRecDepth 100000
set_option maxHeartbeats 4000000
open Go.RowKit
section
variable {T:Nat}{w:World}{g:Nat}{st:Option Addr}{cap:Nat}{ts:List Tok}{p:Nat}
theorem zlx (n:Nat):Rnd ts T g st cap 140 (fun _ q=>tydP ts 9 q) n 0 :=
 ⟨fun m C W q hR A=>zpv hR,fun m p t q y=>by
  have:=zjl (ts:=ts) 9 p;rw[y] at this;have D:p+2<=q:=this;omega⟩
theorem zr6 (n:Nat):Rnd ts T g st cap 137 (fun _ q=>tydP ts 6 q) n 1 :=
 ⟨fun m C W q hR A=>zpu hR,fun m p t q y=>by
  have:=zjl (ts:=ts) 6 p;rw[y] at this;have D:p+2<=q:=this;omega⟩
theorem zio (args:Array Value) (W:World):(callFunc 140 args).run Tryz.prog W=.ok (.enter 140 args) W:=by rfl
theorem zm7 (args:Array Value) (W:World):(callFunc 137 args).run Tryz.prog W=.ok (.enter 137 args) W:=by rfl
theorem zkw (n:Nat)(hR:Rdr T w g st cap ts p)(ho:strP ts (fns ts n) p≠.out):Calls Tryz.prog 109 #[.pointer (some ⟨g,0,none⟩)] w (PtP T w g st cap ts (strP ts (fns ts n) p)):=by
 have ai:=J hR;have U:=hR.hT;have ae:=hR.hg;have aq:Hid (w.grownBy w (some g)):=zby _ _;clear hR;obtain⟨r,hX⟩:∃ r,strP ts (fns ts n) p=r:=⟨_,rfl⟩;rw[hX] at ho ⊢;have X:=J hX;have HO:=J ho;clear hX ho;unfold strP at X;have aR:∀ (fn:Fn) (first cap:Array Value) (w:World),(Instr.makeFunc fn first cap).run Tryz.prog w=.ok (.func fn first cap) w:=fun _ _ _ _=>rfl
 go_enter Tryz.func109,Tryz.ntmps109
 go_wp2_with fail
 refine(zbp 5 ai).mono ?_;rintro e W1 ⟨aD,rfl,I,F⟩;have au:Hid (Mk w.heap.size W1 aD 5 ⟨#[]⟩ 0 (herI ts p) (herI ts p) 0 (.slice none 0 0) []):=I.mono aq.out.size;have af:=J (zab aq (zae F));have ao:=J (ai.out.low F);clear I F aq ai
 go_wp2_with fail
 refine(zbh ⟨#[116,121,112,101]⟩ (by simp) ao.out).mono ?_;rintro e W2 ⟨A,M⟩;have y:(if isT ts p [116,121,112,101] then e=.returned (.tuple #[])∧Rdr T W2 g st cap ts (p+1) else e=wroE (herI ts p)):=M;clear M;obtain⟨E,C⟩:∃ E,isT ts p [116,121,112,101]=E:=⟨_,rfl⟩;rw[C] at y
 cases E
 ·simp only[Bool.false_eq_true,if_false] at y;subst y;have V:Hid (PtP T w g st cap ts r (wroE (herI ts p)) W2):=zap (zab af A) (zdy C X);clear af ao X au;unfold wroE
  go_wp2
  exact⟨rfl,V.out⟩
 simp only[if_true] at y;obtain⟨rfl,D⟩:=y;have ab:Hid _:=zc3 C X;have ac:=J (zab af A);have ak:=J (au.out.grow (Yg ae U) A);have am:Hid (Rdr T W2 g st cap ts (p+1)):=D;clear A D C X ao af au
 go_wp2_with fail
 refine(zdx am).mono ?_;rintro e W4 ⟨A,y⟩;obtain⟨E,C⟩:∃ E,namB ts (p+1)=E:=⟨_,rfl⟩;rw[C] at y
 cases E
 ·simp only[Bool.false_eq_true,if_false] at y;subst y;have V:Hid (PtP T w g st cap ts r (wroE (herI ts (p+1))) W4):=zap (zab ac A) (zf0 C ab);clear ac am ab ak;unfold wroE
  go_wp2
  exact⟨rfl,V.out⟩
 simp only[if_true] at y;obtain⟨rfl,D⟩:=y;have ag:Hid _:=zel C ab;have aA:=J (zab ac A);have aw:=J (ak.out.grow (Yg ae U) A);have aB:Hid (Rdr T W4 g st cap ts ((p+1)+1)):=D;clear A D C ab am ac ak
 go_wp2_with fail
 refine(zc7 (nxT ts (p+1)) aw.out).mono ?_;rintro e W6 ⟨rfl,I,F⟩;have ap:=J I;have ah:=J (zaw aA F);have aj:=J (aB.out.below U F);clear I F aw aA aB
 go_wp2_with fail
 refine(zbh ⟨#[115,116,114,117,99,116]⟩ (by simp) aj.out).mono ?_;rintro e K ⟨A,M⟩;have y:(if isT ts ((p+1)+1) [115,116,114,117,99,116] then e=.returned (.tuple #[])∧Rdr T K g st cap ts (((p+1)+1)+1) else e=wroE (herI ts ((p+1)+1))):=M;clear M;obtain⟨E,C⟩:∃ E,isT ts ((p+1)+1) [115,116,114,117,99,116]=E:=⟨_,rfl⟩;rw[C] at y
 cases E
 ·simp only[Bool.false_eq_true,if_false] at y;subst y;have V:Hid (PtP T w g st cap ts r (wroE (herI ts ((p+1)+1))) K):=zap (zab ah A) (zdy C ag);clear ah aj ag ap;unfold wroE
  go_wp2
  exact⟨rfl,V.out⟩
 simp only[if_true] at y;obtain⟨rfl,D⟩:=y;have Y:Hid _:=zc3 C ag;have Z:=J (zab ah A);have aa:=J (ap.out.grow (Yg ae U) A);have an:Hid (Rdr T K g st cap ts (((p+1)+1)+1)):=D;clear A D C ag aj ah ap;have al:Hid ((aD<K.heap.size∧∀ q,((.slice none 0 0):Value).ownBlock=some q->q<K.heap.size)∧w.heap.size<=K.heap.size):=⟨aa.out.at,Z.out.size⟩
 go_wp2_with fail
 refine(zlw 137 (fun _ q=>tydP ts 6 q) (fun m=>(fns ts m).fieL) n (fun _ _=>rfl) (fun _ _ _=>rfl) (zr6 n) zm7 an (za1 Y HO)).mono ?_;rintro e N ⟨A,M⟩;have y:match linP ts (fns ts n).fieL (((p+1)+1)+1) with
  | .ok l q=>∃ bs sp cp,e=.returned (.slice sp bs.length cp)∧RowsP N sp bs∧(sp=none->bs.length=0∧cp=0)∧PsAt N (fun j=>K.heap.size<=j∧j<N.heap.size) bs l∧l.length<=q∧Rdr T N g st cap ts q
  | .bad s=>e=wroE s
  | .out=>False:=M
 clear M;rcases hx:linP ts (fns ts n).fieL (((p+1)+1)+1) with⟨aP,aJ⟩ | s10|_
 rotate_left
 ·rw[hx] at y;have aI:e=wroE s10:=y;subst aI;have V:Hid (PtP T w g st cap ts r (wroE (s10)) N):=zap (zab Z A) (zat hx Y);clear Z an Y aa;unfold wroE
  go_wp2
  exact⟨rfl,V.out⟩
 ·rw[hx] at y;exact y.elim
 rw[hx] at y;obtain⟨aN,aO,aV,rfl,aF,ay,aG,aX,D⟩:=y;have aW:=D.le;have aT:=D.few;have aM:Hid _:=za7 hx Y;have az:=J (zab Z A);have av:=J (aa.out.grow (Yg ae U) A);have ar:Hid (Rdr T N g st cap ts aJ):=D;have aC:=J aF;have ax:=J ay;have aE:=J aG;clear A D hx aF ay aG Y an Z aa
 go_wp2_with fail
 refine(za9 (S2:=fun j=>K.heap.size<=j∧j<N.heap.size) ar.out U av aC ax aE (zcn al.out.1 al.out.2 (Ya _)) (by simp;omega)).mono ?_;rintro e aQ ⟨rfl,⟨aU,I⟩,F⟩;have aL:=J I;have aK:=J (zaw az F);have aH:=J (ar.out.below U F);clear I F av al aC ax aE az ar
 go_wp2
 go_ret
 exact zbq aK aM aL.out.fin aH
set_option maxHeartbeats 8000000 in
theorem zly (n:Nat)(hR:Rdr T w g st cap ts p)(ho:funP ts (fns ts n) p≠.out):Calls Tryz.prog 110 #[.pointer (some ⟨g,0,none⟩)] w (PtP T w g st cap ts (funP ts (fns ts n) p)):=by
 have bi:=J hR;have I:=hR.hT;have Y:=hR.hg;have bv:Hid (w.grownBy w (some g)):=zby _ _;clear hR;obtain⟨r,hX⟩:∃ r,funP ts (fns ts n) p=r:=⟨_,rfl⟩;rw[hX] at ho ⊢;have aK:=J hX;have HO:=J ho;clear hX ho;unfold funP at aK;have d5:∀ (fn:Fn) (first cap:Array Value) (w:World),(Instr.makeFunc fn first cap).run Tryz.prog w=.ok (.func fn first cap) w:=fun _ _ _ _=>rfl
 go_enter Tryz.func110,Tryz.ntmps110
 go_wp2_with fail
 refine(zbp 7 bi).mono ?_;rintro e W1 ⟨ah,rfl,F,C⟩;have bA:Hid (Mk w.heap.size W1 ah 7 ⟨#[]⟩ 0 (herI ts p) (herI ts p) 0 (.slice none 0 0) []):=F.mono bv.out.size;have a9:=J (zab bv (zae C));have bt:=J (bi.out.low C);clear F C bv bi
 go_wp2_with fail
 refine(zbh ⟨#[102,117,110,99]⟩ (by simp) bt.out).mono ?_;rintro e W2 ⟨A,ac⟩;have y:(if isT ts p [102,117,110,99] then e=.returned (.tuple #[])∧Rdr T W2 g st cap ts (p+1) else e=wroE (herI ts p)):=ac;clear ac;obtain⟨M,K⟩:∃ M,isT ts p [102,117,110,99]=M:=⟨_,rfl⟩;rw[K] at y
 cases M
 ·simp only[Bool.false_eq_true,if_false] at y;subst y;have N:Hid (PtP T w g st cap ts r (wroE (herI ts p)) W2):=zap (zab a9 A) (zdy K aK);clear a9 bt aK bA;unfold wroE
  go_wp2
  exact⟨rfl,N.out⟩
 simp only[if_true] at y;obtain⟨rfl,E⟩:=y;have aL:Hid _:=zc3 K aK;have bE:=J (zab a9 A);have bY:=J (bA.out.grow (Yg Y I) A);have bG:Hid (Rdr T W2 g st cap ts (p+1)):=E;clear A E K aK bt a9 bA
 go_wp2_with fail
 refine(zew ⟨#[40]⟩ (by simp) bG.out).mono ?_;rintro e W4 ⟨he,A,E⟩;obtain⟨M,K⟩:∃ M,isT ts (p+1) [40]=M:=⟨_,rfl⟩;rw[show isT ts (p+1) (⟨#[40]⟩:ByteArray).data.toList=M from K] at he E;subst he;rw[K] at aL;have ak:=J (zab bE A);have ar:=J (bY.out.grow (Yg Y I) A);clear A K bG bE bY
 cases M
 rotate_left
 ·skip
  have ae:Hid _:=zbe rfl aL;have am:Hid (Rdr T W4 g st cap ts ((p+1)+1)):=E;clear E aL;have aW:Hid ((ah<W4.heap.size∧∀ q,((.slice none 0 0):Value).ownBlock=some q->q<W4.heap.size)∧w.heap.size<=W4.heap.size∧g<W4.heap.size):=⟨ar.out.at,ak.out.size,am.out.lt⟩
  go_wp2_with fail
  refine(zks am).mono ?_;rintro e W6 ⟨A,y⟩;rcases hx:recP ts ((p+1)+1) with⟨t6,Z⟩ | s6|_
  rotate_left
  ·rw[hx] at y;have X:e=wroE s6:=y;subst X;have N:Hid (PtP T w g st cap ts r (wroE (s6)) W6):=zap (zab ak A) (zat hx ae);clear ak am ae ar aW;unfold wroE
   go_wp2
   exact⟨rfl,N.out⟩
  ·rw[hx] at y;exact y.elim
  rw[hx] at y;obtain⟨bK,rfl,U,E⟩:=y;have aV:Hid _:=za7 hx ae;have dM:=A.size;have cC:=J (zab ak A);have b9:=J (ar.out.grow (Yg Y I) A);have cR:=J U;have ca:Hid (Rdr T W6 g st cap ts Z):=E;clear A E U hx ae am ak ar
  go_wp2_with fail
  refine zag (fun W=>Below W6.heap.size W6 W∧W.heap[W6.heap.size]?=some (.cells #[.pointer (some ⟨bK,0,none⟩)] 93 (0,0))) ⟨(Yb _ _).alloc (Ya _) _,Yd _ _⟩ ?_;rintro dR ⟨D,V⟩;refine(zc6 (bs2:=[bK]) (l2:=[t6]) (S2:=fun j=>W4.heap.size<=j∧j<W6.heap.size) (b9.out.below D) (zar V) (fun h=>by cases h) (PsAt.one (cR.out.low (Ya _) D)) (zcn aW.out.1 aW.out.2.1 D.size) (by simp)).mono ?_;rintro e W8 ⟨rfl,⟨v8,F⟩,C⟩;have bn:=J F;have cO:=J (zab cC (zae D));have cY:=J (ca.out.low D);have a8:=J (zaw cO C);have br:=J (cY.out.below I C);clear F C D V b9 aW cC ca cO cY cR
  go_wp2_with fail
  refine(zbh ⟨#[41]⟩ (by simp) br.out).mono ?_;rintro e bf ⟨A,ac⟩;have y:(if isT ts Z [41] then e=.returned (.tuple #[])∧Rdr T bf g st cap ts (Z+1) else e=wroE (herI ts Z)):=ac;clear ac;obtain⟨M,K⟩:∃ M,isT ts Z [41]=M:=⟨_,rfl⟩;rw[K] at y
  cases M
  ·simp only[Bool.false_eq_true,if_false] at y;subst y;have N:Hid (PtP T w g st cap ts r (wroE (herI ts Z)) bf):=zap (zab a8 A) (zdy K aV);clear a8 br aV bn;unfold wroE
   go_wp2
   exact⟨rfl,N.out⟩
  simp only[if_true] at y;obtain⟨rfl,E⟩:=y;have aU:Hid _:=zc3 K aV;have aZ:=J (zab a8 A);have bj:=J (bn.out.grow (Yg Y I) A);have bh:Hid (Rdr T bf g st cap ts (Z+1)):=E;clear A E K aV br a8 bn;unfold funR at aU
  go_wp2_with fail
  refine(zdx bh).mono ?_;rintro e cG ⟨A,y⟩;obtain⟨M,K⟩:∃ M,namB ts (Z+1)=M:=⟨_,rfl⟩;rw[K] at y
  cases M
  ·simp only[Bool.false_eq_true,if_false] at y;subst y;have N:Hid (PtP T w g st cap ts r (wroE (herI ts (Z+1))) cG):=zap (zab aZ A) (zf0 K aU);clear aZ bh aU bj;unfold wroE
   go_wp2
   exact⟨rfl,N.out⟩
  simp only[if_true] at y;obtain⟨rfl,E⟩:=y;have aE:Hid _:=zel K aU;have cb:=J (zab aZ A);have cq:=J (bj.out.grow (Yg Y I) A);have cT:Hid (Rdr T cG g st cap ts ((Z+1)+1)):=E;clear A E K aU bh aZ bj
  go_wp2_with fail
  refine(zc7 (nxT ts (Z+1)) cq.out).mono ?_;rintro e aM ⟨rfl,F,C⟩;have bc:=J F;have aR:=J (zaw cb C);have bl:=J (cT.out.below I C);clear F C cq cb cT;have bk:Hid ((ah<aM.heap.size∧∀ q,(v8:Value).ownBlock=some q->q<aM.heap.size)∧w.heap.size<=aM.heap.size):=⟨bc.out.at,aR.out.size⟩
  go_wp2_with fail
  refine(zkv 140 (fun _ q=>tydP ts 9 q) (fun m=>(fns ts m).parL) n (fun _ _=>rfl) (fun _ _ _=>rfl) (zlx n) zio bl (za1 aE HO)).mono ?_;rintro e aq ⟨A,ac⟩;have y:match lisP ts (tydP ts 9) (fns ts n).parL ((Z+1)+1) with
   | .ok l q=>∃ bs sp cp,e=.returned (.slice sp bs.length cp)∧RowsP aq sp bs∧(sp=none->bs.length=0∧cp=0)∧PsAt aq (fun j=>aM.heap.size<=j∧j<aq.heap.size) bs l∧l.length<=q∧Rdr T aq g st cap ts q
   | .bad s=>e=wroE s
   | .out=>False:=ac
  clear ac;rcases hx:lisP ts (tydP ts 9) (fns ts n).parL ((Z+1)+1) with⟨d2,aN⟩ | s16|_
  rotate_left
  ·rw[hx] at y;have X:e=wroE s16:=y;subst X;have N:Hid (PtP T w g st cap ts r (wroE (s16)) aq):=zap (zab aR A) (zat hx aE);clear aR bl aE bc;unfold wroE
   go_wp2
   exact⟨rfl,N.out⟩
  ·rw[hx] at y;exact y.elim
  rw[hx] at y;obtain⟨dS,dI,dC,rfl,bF,cn,bJ,dO,E⟩:=y;have d1:=E.le;have dP:=E.few;have aC:Hid _:=za7 hx aE;have cJ:=J (zab aR A);have ck:=J (bc.out.grow (Yg Y I) A);have cl:Hid (Rdr T aq g st cap ts aN):=E;have bM:=J bF;have cy:=J cn;have cj:=J bJ;clear A E hx bF cn bJ aE bl aR bc
  go_wp2_with fail
  refine(zc6 (S2:=fun j=>aM.heap.size<=j∧j<aq.heap.size) ck.out bM cy cj (zcn bk.out.1 bk.out.2 (Ya _)) (by simp;omega)).mono ?_;rintro e c8 ⟨rfl,⟨cx,F⟩,C⟩;have bS:=J F;have bR:=J (zaw cJ C);have bu:=J (cl.out.below I C);clear F C ck bk bM cy cj cJ cl
  go_wp2_with fail
  refine(ze9 ⟨#[123]⟩ bu.out).mono ?_;rintro e aa ⟨he,C⟩;obtain⟨M,K⟩:∃ M,isT ts aN [123]=M:=⟨_,rfl⟩;rw[show isT ts aN (⟨#[123]⟩:ByteArray).data.toList=M from K] at he;subst he;rw[K] at aC;have A:c8.grownBy aa (some g):=zae C;have ao:=J (bu.out.low C);have ai:=J (zab bR A);have ap:=J (bS.out.grow (Yg Y I) A);clear A C K bu bR bS
  cases M
  rotate_left
  ·skip
   have af:Hid _:=zbe rfl aC;clear aC;have be:Hid ((ah<aa.heap.size∧∀ q,(cx:Value).ownBlock=some q->q<aa.heap.size)∧w.heap.size<=aa.heap.size∧g<aa.heap.size):=⟨ap.out.at,ai.out.size,ao.out.lt⟩
   go_wp2_with fail
   refine(zd8 (fun m _=>zk2 m) ao.out (za1 af HO)).mono ?_;rintro e az ⟨A,y⟩;rcases hx:bloP ts (fns ts n) aN with⟨dn,cZ⟩ | s22|_
   rotate_left
   ·rw[hx] at y;have X:e=wroE s22:=y;subst X;have N:Hid (PtP T w g st cap ts r (wroE (s22)) az):=zap (zab ai A) (zat hx af);clear ai ao af ap be;unfold wroE
    go_wp2
    exact⟨rfl,N.out⟩
   ·rw[hx] at y;exact y.elim
   rw[hx] at y;obtain⟨cI,rfl,U,E⟩:=y;have c5:Hid _:=za7 hx af;have dW:=A.size;have cX:=J (zab ai A);have bI:=J (ap.out.grow (Yg Y I) A);have bX:=J U;have bw:Hid (Rdr T az g st cap ts cZ):=E;clear A E U hx af ao ai ap
   go_wp2_with fail
   refine zag (fun W=>Below az.heap.size az W∧W.heap[az.heap.size]?=some (.cells #[.pointer (some ⟨cI,0,none⟩)] 93 (0,0))) ⟨(Yb _ _).alloc (Ya _) _,Yd _ _⟩ ?_;rintro dE ⟨D,V⟩;refine(za9 (bs2:=[cI]) (l2:=[dn]) (S2:=fun j=>aa.heap.size<=j∧j<az.heap.size) (bw.out.low D) I (bI.out.below D) (zar V) (fun h=>by cases h) (PsAt.one (bX.out.low (Ya _) D)) (zcn be.out.1 be.out.2.1 D.size) (by simp;omega)).mono ?_;rintro e dB ⟨rfl,⟨d3,F⟩,C⟩;have dy:=J F;have cD:=J (zab cX (zae D));have cL:=J (bw.out.low D);have dk:=J (zaw cD C);have c4:=J (cL.out.below I C);clear F C D V bI be cX bw cD cL bX
   go_wp2
   go_ret
   exact zbq dk c5 dy.out.fin c4
  have af:Hid _:=zb1 rfl aC;clear aC;have a1:Hid ((ah<aa.heap.size∧∀ q,(cx:Value).ownBlock=some q->q<aa.heap.size)∧w.heap.size<=aa.heap.size∧g<aa.heap.size):=⟨ap.out.at,ai.out.size,ao.out.lt⟩
  go_wp2_with fail
  refine(zh7 ao).mono ?_;rintro e aw ⟨A,y⟩;rcases hx:typP ts aN with⟨c3,cQ⟩ | s26|_
  rotate_left
  ·rw[hx] at y;have X:e=wroE s26:=y;subst X;have N:Hid (PtP T w g st cap ts r (wroE (s26)) aw):=zap (zab ai A) (zat hx af);clear ai ao af ap a1;unfold wroE
   go_wp2
   exact⟨rfl,N.out⟩
  ·rw[hx] at y;exact y.elim
  rw[hx] at y;obtain⟨cE,rfl,U,E⟩:=y;have aP:Hid _:=za7 hx af;have dU:=A.size;have bP:=J (zab ai A);have b3:=J (ap.out.grow (Yg Y I) A);have cU:=J U;have bN:Hid (Rdr T aw g st cap ts cQ):=E;clear A E U hx af ao ai ap
  go_wp2_with fail
  refine zag (fun W=>Below aw.heap.size aw W∧W.heap[aw.heap.size]?=some (.cells #[.pointer (some ⟨cE,0,none⟩)] 93 (0,0))) ⟨(Yb _ _).alloc (Ya _) _,Yd _ _⟩ ?_;rintro dQ ⟨D,V⟩;refine(zc6 (bs2:=[cE]) (l2:=[c3]) (S2:=fun j=>aa.heap.size<=j∧j<aw.heap.size) (b3.out.below D) (zar V) (fun h=>by cases h) (PsAt.one (cU.out.low (Ya _) D)) (zcn a1.out.1 a1.out.2.1 D.size) (by simp;omega)).mono ?_;rintro e aQ ⟨rfl,⟨dt,F⟩,C⟩;have aY:=J F;have cg:=J (zab bP (zae D));have cc:=J (bN.out.low D);have aO:=J (zaw cg C);have a0:=J (cc.out.below I C);clear F C D V b3 a1 bP bN cg cc cU;have aX:Hid ((ah<aQ.heap.size∧∀ q,(dt:Value).ownBlock=some q->q<aQ.heap.size)∧w.heap.size<=aQ.heap.size∧g<aQ.heap.size):=⟨aY.out.at,aO.out.size,a0.out.lt⟩
  go_wp2_with fail
  refine(zd8 (fun m _=>zk2 m) a0.out (za1 aP HO)).mono ?_;rintro e ax ⟨A,y⟩;rcases hx:bloP ts (fns ts n) cQ with⟨dv,dc⟩ | s30|_
  rotate_left
  ·rw[hx] at y;have X:e=wroE s30:=y;subst X;have N:Hid (PtP T w g st cap ts r (wroE (s30)) ax):=zap (zab aO A) (zat hx aP);clear aO a0 aP aY aX;unfold wroE
   go_wp2
   exact⟨rfl,N.out⟩
  ·rw[hx] at y;exact y.elim
  rw[hx] at y;obtain⟨b2,rfl,U,E⟩:=y;have di:Hid _:=za7 hx aP;have dA:=A.size;have cz:=J (zab aO A);have bQ:=J (aY.out.grow (Yg Y I) A);have b4:=J U;have bx:Hid (Rdr T ax g st cap ts dc):=E;clear A E U hx aP a0 aO aY
  go_wp2_with fail
  refine zag (fun W=>Below ax.heap.size ax W∧W.heap[ax.heap.size]?=some (.cells #[.pointer (some ⟨b2,0,none⟩)] 93 (0,0))) ⟨(Yb _ _).alloc (Ya _) _,Yd _ _⟩ ?_;rintro d7 ⟨D,V⟩;refine(za9 (bs2:=[b2]) (l2:=[dv]) (S2:=fun j=>aQ.heap.size<=j∧j<ax.heap.size) (bx.out.low D) I (bQ.out.below D) (zar V) (fun h=>by cases h) (PsAt.one (b4.out.low (Ya _) D)) (zcn aX.out.1 aX.out.2.1 D.size) (by simp;omega)).mono ?_;rintro e d0 ⟨rfl,⟨dV,F⟩,C⟩;have de:=J F;have cW:=J (zab cz (zae D));have cS:=J (bx.out.low D);have dh:=J (zaw cW C);have dp:=J (cS.out.below I C);clear F C D V bQ aX cz bx cW cS b4
  go_wp2
  go_ret
  exact zbq dh di de.out.fin dp
 have ae:Hid _:=zb1 rfl aL;have am:Hid (Rdr T W4 g st cap ts (p+1)):=E;clear E aL;unfold funR at ae
 go_wp2_with fail
 refine(zdx am).mono ?_;rintro e cH ⟨A,y⟩;obtain⟨M,K⟩:∃ M,namB ts (p+1)=M:=⟨_,rfl⟩;rw[K] at y
 cases M
 ·simp only[Bool.false_eq_true,if_false] at y;subst y;have N:Hid (PtP T w g st cap ts r (wroE (herI ts (p+1))) cH):=zap (zab ak A) (zf0 K ae);clear ak am ae ar;unfold wroE
  go_wp2
  exact⟨rfl,N.out⟩
 simp only[if_true] at y;obtain⟨rfl,E⟩:=y;have aF:Hid _:=zel K ae;have cr:=J (zab ak A);have cK:=J (ar.out.grow (Yg Y I) A);have bB:Hid (Rdr T cH g st cap ts ((p+1)+1)):=E;clear A E K ae am ak ar
 go_wp2_with fail
 refine(zc7 (nxT ts (p+1)) cK.out).mono ?_;rintro e aJ ⟨rfl,F,C⟩;have a2:=J F;have aG:=J (zaw cr C);have bz:=J (bB.out.below I C);clear F C cK cr bB;have bo:Hid ((ah<aJ.heap.size∧∀ q,((.slice none 0 0):Value).ownBlock=some q->q<aJ.heap.size)∧w.heap.size<=aJ.heap.size):=⟨a2.out.at,aG.out.size⟩
 go_wp2_with fail
 refine(zkv 140 (fun _ q=>tydP ts 9 q) (fun m=>(fns ts m).parL) n (fun _ _=>rfl) (fun _ _ _=>rfl) (zlx n) zio bz (za1 aF HO)).mono ?_;rintro e au ⟨A,ac⟩;have y:match lisP ts (tydP ts 9) (fns ts n).parL ((p+1)+1) with
  | .ok l q=>∃ bs sp cp,e=.returned (.slice sp bs.length cp)∧RowsP au sp bs∧(sp=none->bs.length=0∧cp=0)∧PsAt au (fun j=>aJ.heap.size<=j∧j<au.heap.size) bs l∧l.length<=q∧Rdr T au g st cap ts q
  | .bad s=>e=wroE s
  | .out=>False:=ac
 clear ac;rcases hx:lisP ts (tydP ts 9) (fns ts n).parL ((p+1)+1) with⟨dz,aT⟩ | s38|_
 rotate_left
 ·rw[hx] at y;have X:e=wroE s38:=y;subst X;have N:Hid (PtP T w g st cap ts r (wroE (s38)) au):=zap (zab aG A) (zat hx aF);clear aG bz aF a2;unfold wroE
  go_wp2
  exact⟨rfl,N.out⟩
 ·rw[hx] at y;exact y.elim
 rw[hx] at y;obtain⟨dH,dL,dT,rfl,bV,bC,cV,dG,E⟩:=y;have dJ:=E.le;have d4:=E.few;have aD:Hid _:=za7 hx aF;have bD:=J (zab aG A);have cd:=J (a2.out.grow (Yg Y I) A);have ci:Hid (Rdr T au g st cap ts aT):=E;have cf:=J bV;have ct:=J bC;have bU:=J cV;clear A E hx bV bC cV aF bz aG a2
 go_wp2_with fail
 refine(zc6 (S2:=fun j=>aJ.heap.size<=j∧j<au.heap.size) cd.out cf ct bU (zcn bo.out.1 bo.out.2 (Ya _)) (by simp;omega)).mono ?_;rintro e c7 ⟨rfl,⟨cu,F⟩,C⟩;have bT:=J F;have co:=J (zaw bD C);have bm:=J (ci.out.below I C);clear F C cd bo cf ct bU bD ci
 go_wp2_with fail
 refine(ze9 ⟨#[123]⟩ bm.out).mono ?_;rintro e ab ⟨he,C⟩;obtain⟨M,K⟩:∃ M,isT ts aT [123]=M:=⟨_,rfl⟩;rw[show isT ts aT (⟨#[123]⟩:ByteArray).data.toList=M from K] at he;subst he;rw[K] at aD;have A:c7.grownBy ab (some g):=zae C;have an:=J (bm.out.low C);have aj:=J (zab co A);have al:=J (bT.out.grow (Yg Y I) A);clear A C K bm co bT
 cases M
 rotate_left
 ·skip
  have ag:Hid _:=zbe rfl aD;clear aD;have a7:Hid ((ah<ab.heap.size∧∀ q,(cu:Value).ownBlock=some q->q<ab.heap.size)∧w.heap.size<=ab.heap.size∧g<ab.heap.size):=⟨al.out.at,aj.out.size,an.out.lt⟩
  go_wp2_with fail
  refine(zd8 (fun m _=>zk2 m) an.out (za1 ag HO)).mono ?_;rintro e av ⟨A,y⟩;rcases hx:bloP ts (fns ts n) aT with⟨dx,dg⟩ | s44|_
  rotate_left
  ·rw[hx] at y;have X:e=wroE s44:=y;subst X;have N:Hid (PtP T w g st cap ts r (wroE (s44)) av):=zap (zab aj A) (zat hx ag);clear aj an ag al a7;unfold wroE
   go_wp2
   exact⟨rfl,N.out⟩
  ·rw[hx] at y;exact y.elim
  rw[hx] at y;obtain⟨cB,rfl,U,E⟩:=y;have ds:Hid _:=za7 hx ag;have dN:=A.size;have bZ:=J (zab aj A);have b5:=J (al.out.grow (Yg Y I) A);have b7:=J U;have bp:Hid (Rdr T av g st cap ts dg):=E;clear A E U hx ag an aj al
  go_wp2_with fail
  refine zag (fun W=>Below av.heap.size av W∧W.heap[av.heap.size]?=some (.cells #[.pointer (some ⟨cB,0,none⟩)] 93 (0,0))) ⟨(Yb _ _).alloc (Ya _) _,Yd _ _⟩ ?_;rintro dF ⟨D,V⟩;refine(za9 (bs2:=[cB]) (l2:=[dx]) (S2:=fun j=>ab.heap.size<=j∧j<av.heap.size) (bp.out.low D) I (b5.out.below D) (zar V) (fun h=>by cases h) (PsAt.one (b7.out.low (Ya _) D)) (zcn a7.out.1 a7.out.2.1 D.size) (by simp;omega)).mono ?_;rintro e dY ⟨rfl,⟨dK,F⟩,C⟩;have du:=J F;have cN:=J (zab bZ (zae D));have bL:=J (bp.out.low D);have c9:=J (zaw cN C);have dl:=J (bL.out.below I C);clear F C D V b5 a7 bZ bp cN bL b7
  go_wp2
  go_ret
  exact zbq c9 ds du.out.fin dl
 have ag:Hid _:=zb1 rfl aD;clear aD;have a3:Hid ((ah<ab.heap.size∧∀ q,(cu:Value).ownBlock=some q->q<ab.heap.size)∧w.heap.size<=ab.heap.size∧g<ab.heap.size):=⟨al.out.at,aj.out.size,an.out.lt⟩
 go_wp2_with fail
 refine(zh7 an).mono ?_;rintro e aA ⟨A,y⟩;rcases hx:typP ts aT with⟨dd,cP⟩ | s48|_
 rotate_left
 ·rw[hx] at y;have X:e=wroE s48:=y;subst X;have N:Hid (PtP T w g st cap ts r (wroE (s48)) aA):=zap (zab aj A) (zat hx ag);clear aj an ag al a3;unfold wroE
  go_wp2
  exact⟨rfl,N.out⟩
 ·rw[hx] at y;exact y.elim
 rw[hx] at y;obtain⟨bO,rfl,U,E⟩:=y;have aI:Hid _:=za7 hx ag;have dX:=A.size;have b8:=J (zab aj A);have cv:=J (al.out.grow (Yg Y I) A);have bH:=J U;have cM:Hid (Rdr T aA g st cap ts cP):=E;clear A E U hx ag an aj al
 go_wp2_with fail
 refine zag (fun W=>Below aA.heap.size aA W∧W.heap[aA.heap.size]?=some (.cells #[.pointer (some ⟨bO,0,none⟩)] 93 (0,0))) ⟨(Yb _ _).alloc (Ya _) _,Yd _ _⟩ ?_;rintro d9 ⟨D,V⟩;refine(zc6 (bs2:=[bO]) (l2:=[dd]) (S2:=fun j=>ab.heap.size<=j∧j<aA.heap.size) (cv.out.below D) (zar V) (fun h=>by cases h) (PsAt.one (bH.out.low (Ya _) D)) (zcn a3.out.1 a3.out.2.1 D.size) (by simp;omega)).mono ?_;rintro e aB ⟨rfl,⟨dr,F⟩,C⟩;have a5:=J F;have cA:=J (zab b8 (zae D));have ch:=J (cM.out.low D);have aH:=J (zaw cA C);have a4:=J (ch.out.below I C);clear F C D V cv a3 b8 cM cA ch bH;have a6:Hid ((ah<aB.heap.size∧∀ q,(dr:Value).ownBlock=some q->q<aB.heap.size)∧w.heap.size<=aB.heap.size∧g<aB.heap.size):=⟨a5.out.at,aH.out.size,a4.out.lt⟩
 go_wp2_with fail
 refine(zd8 (fun m _=>zk2 m) a4.out (za1 aI HO)).mono ?_;rintro e ay ⟨A,y⟩;rcases hx:bloP ts (fns ts n) cP with⟨dw,db⟩ | s52|_
 rotate_left
 ·rw[hx] at y;have X:e=wroE s52:=y;subst X;have N:Hid (PtP T w g st cap ts r (wroE (s52)) ay):=zap (zab aH A) (zat hx aI);clear aH a4 aI a5 a6;unfold wroE
  go_wp2
  exact⟨rfl,N.out⟩
 ·rw[hx] at y;exact y.elim
 rw[hx] at y;obtain⟨ce,rfl,U,E⟩:=y;have dj:Hid _:=za7 hx aI;have d6:=A.size;have b0:=J (zab aH A);have cF:=J (a5.out.grow (Yg Y I) A);have b6:=J U;have bq:Hid (Rdr T ay g st cap ts db):=E;clear A E U hx aI a4 aH a5
 go_wp2_with fail
 refine zag (fun W=>Below ay.heap.size ay W∧W.heap[ay.heap.size]?=some (.cells #[.pointer (some ⟨ce,0,none⟩)] 93 (0,0))) ⟨(Yb _ _).alloc (Ya _) _,Yd _ _⟩ ?_;rintro dD ⟨D,V⟩;refine(za9 (bs2:=[ce]) (l2:=[dw]) (S2:=fun j=>aB.heap.size<=j∧j<ay.heap.size) (bq.out.low D) I (cF.out.below D) (zar V) (fun h=>by cases h) (PsAt.one (b6.out.low (Ya _) D)) (zcn a6.out.1 a6.out.2.1 D.size) (by simp;omega)).mono ?_;rintro e dZ ⟨rfl,⟨d8,F⟩,C⟩;have dq:=J F;have cw:=J (zab b0 (zae D));have bW:=J (bq.out.low D);have da:=J (zaw cw C);have c6:=J (bW.out.below I C);clear F C D V cF a6 b0 bq cw bW b6
 go_wp2
 go_ret
 exact zbq da dj dq.out.fin c6
theorem zvw (n:Nat)(hR:Rdr T w g st cap ts p)(ho:decP ts (fns ts n) p≠.out):Calls Tryz.prog 82 #[.pointer (some ⟨g,0,none⟩)] w (PtP T w g st cap ts (decP ts (fns ts n) p)):=by
 have af:=J hR;have hT:=hR.hT;have an:=hR.hg;have al:Hid (w.grownBy w (some g)):=zby _ _;clear hR;obtain⟨r,hX⟩:∃ r,decP ts (fns ts n) p=r:=⟨_,rfl⟩;rw[hX] at ho ⊢;have V:=J hX;have N:=J ho;clear hX ho;unfold decP at V
 go_enter Tryz.func82,Tryz.ntmps82
 have am:∀ (a b c:Value) (W:World),(Instr.field 38 (.agg #[a,b,c]) 1).run Tryz.prog W=.ok b W:=fun _ _ _ _=>rfl;have M:Hid (∀ q (s:List UInt8),((nxT ts q).text.toList == s)=isT ts q s):=fun q s=>by unfold isT;rw[ByteArray.toList_eq]
 go_wp2_with fail
 refine(zdw af).mono ?_;rintro e W1 ⟨rfl,b1⟩;have I:=J (af.out.low b1);have K:Hid (w.grownBy W1 (some g)):=zae b1;clear b1 af al;have Z:Hid _:=M.out p [99,111,110,115,116];obtain⟨C,D⟩:∃ C,isT ts p [99,111,110,115,116]=C:=⟨_,rfl⟩;rw[D] at Z V
 cases C
 rotate_left
 ·have aj:((nxT ts p).text.toList == [99,111,110,115,116])=true:=Z.out;have E:Hid _:=zbe rfl V;clear D Z V M;unfold Tok.cells
  go_wp2_with fail
  refine((zkt I).mono fun e W h=>PtP.from K h).mono ?_;rintro e W2 y;rw[E.out] at y;have A:=J y;clear E K I N;rcases r with⟨t9,q9⟩ | s9|_
  ·obtain⟨-,b9,rfl,-⟩:=y
   go_wp2
   go_ret
   exact A
  ·obtain⟨-,F⟩:=y;have U:e=wroE s9:=F;subst U;clear F;unfold wroE at A ⊢
   go_wp2
   exact⟨rfl,A.out⟩
  ·exact y.2.elim
 have aj:((nxT ts p).text.toList == [99,111,110,115,116])=false:=Z.out;have ac:Hid _:=zb1 rfl V;clear D Z V;have X:Hid _:=M.out p [118,97,114];obtain⟨C,D⟩:∃ C,isT ts p [118,97,114]=C:=⟨_,rfl⟩;rw[D] at X ac
 cases C
 rotate_left
 ·have ah:((nxT ts p).text.toList == [118,97,114])=true:=X.out;have E:Hid _:=zbe rfl ac;clear D X ac M;unfold Tok.cells
  go_wp2_with fail
  refine((zhw n I (by rw[E.out];exact N)).mono fun e W h=>PtP.from K h).mono ?_;rintro e W2 y;rw[E.out] at y;have A:=J y;clear E K I N;rcases r with⟨t9,q9⟩ | s9|_
  ·obtain⟨-,b9,rfl,-⟩:=y
   go_wp2
   go_ret
   exact A
  ·obtain⟨-,F⟩:=y;have U:e=wroE s9:=F;subst U;clear F;unfold wroE at A ⊢
   go_wp2
   exact⟨rfl,A.out⟩
  ·exact y.2.elim
 have ah:((nxT ts p).text.toList == [118,97,114])=false:=X.out;have ab:Hid _:=zb1 rfl ac;clear D X ac;have aa:Hid _:=M.out p [116,121,112,101];obtain⟨C,D⟩:∃ C,isT ts p [116,121,112,101]=C:=⟨_,rfl⟩;rw[D] at aa ab
 cases C
 rotate_left
 ·have ag:((nxT ts p).text.toList == [116,121,112,101])=true:=aa.out;have E:Hid _:=zbe rfl ab;clear D aa ab M;unfold Tok.cells
  go_wp2_with fail
  refine((zkw n I (by rw[E.out];exact N)).mono fun e W h=>PtP.from K h).mono ?_;rintro e W2 y;rw[E.out] at y;have A:=J y;clear E K I N;rcases r with⟨t9,q9⟩ | s9|_
  ·obtain⟨-,b9,rfl,-⟩:=y
   go_wp2
   go_ret
   exact A
  ·obtain⟨-,F⟩:=y;have U:e=wroE s9:=F;subst U;clear F;unfold wroE at A ⊢
   go_wp2
   exact⟨rfl,A.out⟩
  ·exact y.2.elim
 have ag:((nxT ts p).text.toList == [116,121,112,101])=false:=aa.out;have ae:Hid _:=zb1 rfl ab;clear D aa ab;have Y:Hid _:=M.out p [102,117,110,99];obtain⟨C,D⟩:∃ C,isT ts p [102,117,110,99]=C:=⟨_,rfl⟩;rw[D] at Y ae
 cases C
 rotate_left
 ·have ak:((nxT ts p).text.toList == [102,117,110,99])=true:=Y.out;have E:Hid _:=zbe rfl ae;clear D Y ae M;unfold Tok.cells
  go_wp2_with fail
  refine((zly n I (by rw[E.out];exact N)).mono fun e W h=>PtP.from K h).mono ?_;rintro e W2 y;rw[E.out] at y;have A:=J y;clear E K I N;rcases r with⟨t9,q9⟩ | s9|_
  ·obtain⟨-,b9,rfl,-⟩:=y
   go_wp2
   go_ret
   exact A
  ·obtain⟨-,F⟩:=y;have U:e=wroE s9:=F;subst U;clear F;unfold wroE at A ⊢
   go_wp2
   exact⟨rfl,A.out⟩
  ·exact y.2.elim
 have ak:((nxT ts p).text.toList == [102,117,110,99])=false:=Y.out;have ai:Hid _:=zb1 rfl ae;clear D Y ae;unfold Tok.cells
 go_wp2_with fail
 refine(zfz I).mono ?_;rintro e W2 ⟨rfl,b2⟩;have A:Hid (PtP T w g st cap ts r (wroE (herI ts p)) W2):=zap (zab K (zae b2)) ai.out.symm;clear ai I K N M b2 aj ah ag ak
 go_wp2
 exact⟨rfl,A.out⟩
end
section
variable {T:Nat}{w:World}{g:Nat}{st:Option Addr}{cap:Nat}{ts:List Tok}{p:Nat}
theorem zr7 (m:Nat)(l:List Pt)(q:Nat):(fns ts (m+1)).impL l q=(if isT ts q [105,109,112,111,114,116] then(impP ts q).bind fun t q=>kinP ts 5 q fun _ q=>(fns ts m).impL (l++[t]) q else .ok l q):=rfl
theorem zr8 (m:Nat)(l:List Pt)(q:Nat):(fns ts (m+1)).decL l q=(if q<ts.length then(decP ts (fns ts m) q).bind fun t q=>kinP ts 5 q fun _ q=>(fns ts m).decL (l++[t]) q else .ok l q):=rfl
set_option maxHeartbeats 8000000 in
theorem zvx (n:Nat)(hR:Rdr T w g st cap ts p)(ho:filP ts n p≠.out):Calls Tryz.prog 54 #[.pointer (some ⟨g,0,none⟩)] w (PtP T w g st cap ts (filP ts n p)):=by
 have aO:=J hR;have N:=hR.hT;have Z:=hR.hg;have a1:Hid (w.grownBy w (some g)):=zby _ _;clear hR;obtain⟨r,hX⟩:∃ r,filP ts n p=r:=⟨_,rfl⟩;rw[hX] at ho ⊢;have av:=J hX;have HO:=J ho;clear hX ho;unfold filP at av
 go_enter Tryz.func54,Tryz.ntmps54
 go_wp2_with fail
 refine(zbp 1 aO).mono ?_;rintro e W1 ⟨an,rfl,I,F⟩;have ap:Hid (Mk w.heap.size W1 an 1 ⟨#[]⟩ 0 (herI ts p) (herI ts p) 0 (.slice none 0 0) []):=I.mono a1.out.size;have ah:=J (zab a1 (zae F));have af:=J (aO.out.low F);clear I F a1 aO
 go_wp2_with fail
 refine(zbh ⟨#[112,97,99,107,97,103,101]⟩ (by simp) af.out).mono ?_;rintro e W2 ⟨A,bE⟩;have y:(if isT ts p [112,97,99,107,97,103,101] then e=.returned (.tuple #[])∧Rdr T W2 g st cap ts (p+1) else e=wroE (herI ts p)):=bE;clear bE;obtain⟨D,C⟩:∃ D,isT ts p [112,97,99,107,97,103,101]=D:=⟨_,rfl⟩;rw[C] at y
 cases D
 ·simp only[Bool.false_eq_true,if_false] at y;subst y;have M:Hid (PtP T w g st cap ts r (wroE (herI ts p)) W2):=zap (zab ah A) (zdy C av);clear ah af av ap;unfold wroE
  go_wp2
  exact⟨rfl,M.out⟩
 simp only[if_true] at y;obtain⟨rfl,E⟩:=y;have X:Hid _:=zc3 C av;have az:=J (zab ah A);have aR:=J (ap.out.grow (Yg Z N) A);have V:Hid (Rdr T W2 g st cap ts (p+1)):=E;clear A E C av af ah ap
 go_wp2_with fail
 refine(zdx V).mono ?_;rintro e W4 ⟨A,y⟩;obtain⟨D,C⟩:∃ D,namB ts (p+1)=D:=⟨_,rfl⟩;rw[C] at y
 cases D
 ·simp only[Bool.false_eq_true,if_false] at y;subst y;have M:Hid (PtP T w g st cap ts r (wroE (herI ts (p+1))) W4):=zap (zab az A) (zf0 C X);clear az V X aR;unfold wroE
  go_wp2
  exact⟨rfl,M.out⟩
 simp only[if_true] at y;obtain⟨rfl,E⟩:=y;have aa:Hid _:=zel C X;have bu:=J (zab az A);have a7:=J (aR.out.grow (Yg Z N) A);have bh:Hid (Rdr T W4 g st cap ts ((p+1)+1)):=E;clear A E C X V az aR
 go_wp2_with fail
 refine(zc7 (nxT ts (p+1)) a7.out).mono ?_;rintro e W6 ⟨rfl,I,F⟩;have a5:=J I;have aG:=J (zaw bu F);have aP:=J (bh.out.below N F);clear I F a7 bu bh
 go_wp2_with fail
 refine(zg6 5 (by decide) aP.out).mono ?_;rintro e W8 ⟨A,y⟩;obtain⟨D,C⟩:∃ D,((nxT ts ((p+1)+1)).kind == 5)=D:=⟨_,rfl⟩;rw[C] at y
 cases D
 ·simp only[Bool.false_eq_true,if_false] at y;subst y;have M:Hid (PtP T w g st cap ts r (wroE (herI ts ((p+1)+1))) W8):=zap (zab aG A) (zlv C aa);clear aG aP aa a5;unfold wroE
  go_wp2
  exact⟨rfl,M.out⟩
 simp only[if_true] at y;obtain⟨rfl,E⟩:=y;have bq:Hid _:=zim C aa;have bC:=J (zab aG A);have bs:=J (a5.out.grow (Yg Z N) A);have aY:Hid (Rdr T W8 g st cap ts (((p+1)+1)+1)):=E;clear A E C aa aP aG a5;obtain⟨rm,a2⟩:∃ rm,(fns ts n).impL [] (((p+1)+1)+1)=rm:=⟨_,rfl⟩;obtain⟨K,hK⟩:∃ K:List Pt->Nat->Rs Pt,(fun l q=>((fns ts n).decL l q).bind fun l q=>.ok (.mk 1 (nxT ts (p+1)).text 0 (nxT ts (p+1)).pos (herI ts p) (behI ts q) l) q)=K:=⟨_,rfl⟩;have HK:=J hK;have ax:Hid (rm.bind K=r):=by show _=_;rw[<-a2,<-hK];exact bq
 have bl:=J a2;have bv:Hid (rm≠.out):=za1 ax HO;have bP:=aY.out.few;clear a2 hK bq
 go_wp2
 go_loopw [] (fun wr=>∃ (l:List Pt) (q m:Nat) (v:Value),Mk w.heap.size wr an 1 (nxT ts (p+1)).text 0 (nxT ts (p+1)).pos (herI ts p) 0 v l∧w.grownBy wr (some g)∧Rdr T wr g st cap ts q∧(fns ts m).impL l q=rm∧m<=n∧l.length<=q) (fun wr=>ts.length - posW g wr)
 case atStart=>exact⟨[],_,n,_,bs.out,bC.out,aY.out,bl.out,Ya _,by simp⟩
 case round=>
  obtain⟨l,q,m,v,I,hG,hR,y,bB,aU⟩:=hrel;have ap:=J I;have ah:=J hG;have af:=J hR;have bi:=hR.le;have aE:Hid (posW g wr=q):=hR.pos;clear bs bC aY bl
  cases m with
  | zero=>exact(bv y.symm).elim
  | succ m=>
  have ar:Hid _:=(zr7 m l q).symm.trans y;clear I hG hR y
  go_wp2_with fail
  refine(ze9 ⟨#[105,109,112,111,114,116]⟩ af.out).mono ?_;rintro e aj ⟨he,F⟩;obtain⟨D,C⟩:∃ D,isT ts q [105,109,112,111,114,116]=D:=⟨_,rfl⟩;rw[show isT ts q (⟨#[105,109,112,111,114,116]⟩:ByteArray).data.toList=D from C] at he;subst he;rw[C] at ar;have A:wr.grownBy aj (some g):=zae F;have ak:=J (af.out.low F);have ab:=J (zab ah A);have al:=J (ap.out.grow (Yg Z N) A);clear A F C af ah ap
  cases D
  rotate_left
  ·skip
   have ai:Hid _:=zbe rfl ar;clear ar HK;have aK:Hid ((an<aj.heap.size∧∀ q,(v:Value).ownBlock=some q->q<aj.heap.size)∧w.heap.size<=aj.heap.size∧g<aj.heap.size):=⟨al.out.at,ab.out.size,ak.out.lt⟩
   go_wp2_with fail
   refine(zku ak).mono ?_;rintro e ao ⟨A,y⟩;have ac:=zxi (ts:=ts) q;rcases hx:impP ts q with⟨bm,ae⟩ | s13|_
   rotate_left
   ·rw[hx] at y;have a3:e=wroE s13:=y;subst a3;have M:Hid (PtP T w g st cap ts r (wroE (s13)) ao):=zap (zab ab A) (zat (zat hx ai) ax.out);clear ab ak ai al aK;unfold wroE
    go_wp2
    exact⟨rfl,M.out⟩
   ·rw[hx] at y;exact y.elim
   rw[hx] at y;obtain⟨bp,rfl,aq,E⟩:=y;have aC:Hid _:=za7 hx ai;rw[hx] at ac;have bH:q+1<=ae:=by have h:_<=ae:=ac;omega
   clear ac;have bT:=A.size;have bo:=J (zab ab A);have bD:=J (al.out.grow (Yg Z N) A);have bx:=J aq;have aW:Hid (Rdr T ao g st cap ts ae):=E;clear A E aq hx ai ak ab al;have bO:=aW.out.le
   go_wp2_with fail
   refine zag (fun W=>Below ao.heap.size ao W∧W.heap[ao.heap.size]?=some (.cells #[.pointer (some ⟨bp,0,none⟩)] 93 (0,0))) ⟨(Yb _ _).alloc (Ya _) _,Yd _ _⟩ ?_;rintro bN ⟨U,ra⟩;refine(zc6 (bs2:=[bp]) (l2:=[bm]) (S2:=fun j=>aj.heap.size<=j∧j<ao.heap.size) (bD.out.below U) (zar ra) (fun h=>by cases h) (PsAt.one (bx.out.low (Ya _) U)) (zcn aK.out.1 aK.out.2.1 U.size) (by simp;omega)).mono ?_;rintro e bU ⟨rfl,⟨bW,I⟩,F⟩;have aQ:=J I;have bt:=J (zab bo (zae U));have bz:=J (aW.out.low U);have aI:=J (zaw bt F);have aZ:=J (bz.out.below N F);clear I F U ra bD aK bo aW bt bz bx
   go_wp2_with fail
   refine(zg6 5 (by decide) aZ.out).mono ?_;rintro e bf ⟨A,y⟩;obtain⟨D,C⟩:∃ D,((nxT ts ae).kind == 5)=D:=⟨_,rfl⟩;rw[C] at y
   cases D
   ·simp only[Bool.false_eq_true,if_false] at y;subst y;have M:Hid (PtP T w g st cap ts r (wroE (herI ts ae)) bf):=zap (zab aI A) (zat (zlv C aC) ax.out);clear aI aZ aC aQ;unfold wroE
    go_wp2
    exact⟨rfl,M.out⟩
   simp only[if_true] at y;obtain⟨rfl,E⟩:=y;have bF:Hid _:=zim C aC;have bJ:=J (zab aI A);have bG:=J (aQ.out.grow (Yg Z N) A);have aV:Hid (Rdr T bf g st cap ts (ae+1)):=E;clear A E C aC aZ aI aQ;have bM:=aV.out.le
   go_wp2
   exact⟨⟨l++[bm],(ae+1),m,_,bG.out,bJ.out,aV.out,bF.out,by omega,by simp;omega⟩,by rw[aV.out.pos,aE.out];omega⟩
  have ai:Hid _:=zb1 rfl ar;clear ar;have aT:Hid (K l q=r):=by
   show _=_;have h:=ax.out;rw[<-ai.out] at h;exact h
  clear ai ax bv;rw[<-HK.out] at aT;obtain⟨rd,aM⟩:∃ rd,(fns ts n).decL l q=rd:=⟨_,rfl⟩;have aw:Hid ((rd.bind fun l q=>.ok (.mk 1 (nxT ts (p+1)).text 0 (nxT ts (p+1)).pos (herI ts p) (behI ts q) l) q)=r):=by show _=_;rw[<-aM];exact aT
  have bn:=J aM;have aN:Hid (rd≠.out):=za1 aw HO;clear aM aT HK
  go_wp2
  go_loopw [] (fun wr=>∃ (l:List Pt) (q m:Nat) (v:Value),Mk w.heap.size wr an 1 (nxT ts (p+1)).text 0 (nxT ts (p+1)).pos (herI ts p) 0 v l∧w.grownBy wr (some g)∧Rdr T wr g st cap ts q∧(fns ts m).decL l q=rd∧m<=n∧l.length<=q) (fun wr=>ts.length - posW g wr)
  case atStart=>exact⟨l,q,n,v,al.out,ab.out,ak.out,bn.out,Ya _,aU⟩
  case round=>
   clear al ab ak bn aU bi aE bB;obtain⟨l,q,m,v,I,hG,hR,y,bB,aU⟩:=hrel;have aH:=J I;have aD:=J hG;have V:=J hR;have bi:=hR.le;have aE:Hid (posW g wr=q):=hR.pos
   cases m with
   | zero=>exact(aN y.symm).elim
   | succ m=>
   have X:Hid _:=(zr8 m l q).symm.trans y;clear I hG hR y;have c0:=V.out.c0;have c1:=V.out.c1
   by_cases hql:q<ts.length
   rotate_left
   ·have hd:decide ((q:Int)<ts.length)=false:=by simp;omega
    have Y:Hid _:=(if_neg hql).symm.trans X;have aa:Hid (Rs.ok (.mk 1 (nxT ts (p+1)).text 0 (nxT ts (p+1)).pos (herI ts p) (behI ts q) l) q=r):=by
     show _=_;have h:=aw.out;rw[<-Y.out] at h;exact h
    clear X Y aw aN
    go_wp2
    go_region
    go_wp2_with fail
    refine zag (fun W=>Below wr.heap.size wr W) (Yb _ _).drew ?_;intro Wd bd;clear c0 c1;refine(za9 (bs2:=[]) (l2:=[]) (S2:=fun _=>False) (V.out.low bd) N (aH.out.below bd) RowsAt.none (fun _=>⟨rfl,rfl⟩) (PsAt.nil _ _) (fun _ h=>h.elim) (by simp;omega)).mono ?_;rintro e We ⟨rfl,⟨ve,bk⟩,be⟩;have M:Hid (PtP T w g st cap ts r (.returned (.pointer (some ⟨an,0,none⟩))) We):=zbq (zaw (zab aD (zae bd)) be) aa.out (by have h:=bk.fin;rw[List.append_nil] at h;exact h) ((V.out.low bd).below N be);clear aa aH aD V bk be bd HO
    go_wp2
    go_ret
    exact M
   have hd:decide ((q:Int)<ts.length)=true:=by simp;omega
   have Y:Hid _:=(if_pos hql).symm.trans X;clear X
   go_wp2
   go_region
   go_wp2_with fail
   refine zag (fun W=>Below wr.heap.size wr W) (Yb _ _).drew ?_;intro Wd bd;have ay:=J (aH.out.below bd);have au:=J (zab aD (zae bd));have aF:=J (V.out.low bd);clear c0 c1 bd aH aD V hd;have aA:Hid ((an<Wd.heap.size∧∀ q,(v:Value).ownBlock=some q->q<Wd.heap.size)∧w.heap.size<=Wd.heap.size∧g<Wd.heap.size):=⟨ay.out.at,au.out.size,aF.out.lt⟩;refine(zvw m aF (za1 Y aN)).mono ?_;rintro e am ⟨A,y⟩;have ac:=zyu (ts:=ts) m q;rcases hx:decP ts (fns ts m) q with⟨bc,ag⟩ | s20|_
   rotate_left
   ·rw[hx] at y;have a3:e=wroE s20:=y;subst a3;have M:Hid (PtP T w g st cap ts r (wroE (s20)) am):=zap (zab au A) (zat (zat hx Y) aw.out);clear au aF Y ay aA;unfold wroE
    go_wp2
    exact⟨rfl,M.out⟩
   ·rw[hx] at y;exact y.elim
   rw[hx] at y;obtain⟨a6,rfl,aq,E⟩:=y;have aB:Hid _:=za7 hx Y;rw[hx] at ac;have bH:q+1<=ag:=by have h:_<=ag:=ac;omega
   clear ac;have bX:=A.size;have br:=J (zab au A);have bA:=J (ay.out.grow (Yg Z N) A);have bj:=J aq;have a0:Hid (Rdr T am g st cap ts ag):=E;clear A E aq hx Y aF au ay;have bV:=a0.out.le
   go_wp2_with fail
   refine zag (fun W=>Below am.heap.size am W∧W.heap[am.heap.size]?=some (.cells #[.pointer (some ⟨a6,0,none⟩)] 93 (0,0))) ⟨(Yb _ _).alloc (Ya _) _,Yd _ _⟩ ?_;rintro bR ⟨U,ra⟩;refine(zc6 (bs2:=[a6]) (l2:=[bc]) (S2:=fun j=>Wd.heap.size<=j∧j<am.heap.size) (bA.out.below U) (zar ra) (fun h=>by cases h) (PsAt.one (bj.out.low (Ya _) U)) (zcn aA.out.1 aA.out.2.1 U.size) (by simp;omega)).mono ?_;rintro e bS ⟨rfl,⟨bQ,I⟩,F⟩;have a4:=J I;have a9:=J (zab br (zae U));have bw:=J (a0.out.low U);have aJ:=J (zaw a9 F);have aX:=J (bw.out.below N F);clear I F U ra bA aA br a0 a9 bw bj
   go_wp2_with fail
   refine(zg6 5 (by decide) aX.out).mono ?_;rintro e a8 ⟨A,y⟩;obtain⟨D,C⟩:∃ D,((nxT ts ag).kind == 5)=D:=⟨_,rfl⟩;rw[C] at y
   cases D
   ·simp only[Bool.false_eq_true,if_false] at y;subst y;have M:Hid (PtP T w g st cap ts r (wroE (herI ts ag)) a8):=zap (zab aJ A) (zat (zlv C aB) aw.out);clear aJ aX aB a4;unfold wroE
    go_wp2
    exact⟨rfl,M.out⟩
   simp only[if_true] at y;obtain⟨rfl,E⟩:=y;have bK:Hid _:=zim C aB;have bI:=J (zab aJ A);have bL:=J (a4.out.grow (Yg Z N) A);have aL:Hid (Rdr T a8 g st cap ts (ag+1)):=E;clear A E C aB aX aJ a4;have bM:=aL.out.le
   go_wp2
   exact⟨⟨l++[bc],(ag+1),m,_,bL.out,bI.out,aL.out,bK.out,by omega,by simp;omega⟩,by rw[aL.out.pos,aE.out];omega⟩
end
end Go.Proofs.YtmclgbkijeidaaaGreatDoor
