import Derived.Test.YtmclgbkijeidaaaGreatDoorUoJ
namespace Go.Proofs.YtmclgbkijeidaaaGreatDoor
set_option maxRecDepth 100000
set_option maxHeartbeats 4000000
open Go.RowKit
structure StmC (ts:List Tok) (T g:Nat) (st:Option Addr) (cap:Nat) (n:Nat):Prop where
 stmt:∀ (w:World) (p:Nat),Rdr T w g st cap ts p->(fns ts n).stmt p≠.out->Calls Tryz.prog 157 #[.pointer (some ⟨g,0,none⟩)] w (PtP T w g st cap ts ((fns ts n).stmt p))
 bran:∀ (w:World) (p:Nat),Rdr T w g st cap ts p->(fns ts n).bran p≠.out->Calls Tryz.prog 168 #[.pointer (some ⟨g,0,none⟩)] w (PtP T w g st cap ts ((fns ts n).bran p))
section
variable {T:Nat}{w:World}{g:Nat}{st:Option Addr}{cap:Nat}{ts:List Tok}{p:Nat}
theorem zwc {n:Nat}(h:∀ m,m<=n->StmC ts T g st cap m):Rnd ts T g st cap 157 (fun m q=>(fns ts m).stmt q) n 1 :=
 ⟨fun m A W q hR y=>(h m A).stmt W q hR y,fun m p t q C=>by
  have:=(adA (ts:=ts) m).stmt p;rw[C] at this;exact this⟩
theorem zqb (args:Array Value) (W:World):(callFunc 157 args).run Tryz.prog W=.ok (.enter 157 args) W:=by rfl
theorem zd8 {n:Nat}(h:∀ m,m<=n->StmC ts T g st cap m)(hR:Rdr T w g st cap ts p)(ho:bloP ts (fns ts n) p≠.out):Calls Tryz.prog 141 #[.pointer (some ⟨g,0,none⟩)] w (PtP T w g st cap ts (bloP ts (fns ts n) p)):=by
 have N:=J hR;have U:=hR.hT;have aq:=hR.hg;have aa:Hid (w.grownBy w (some g)):=zby _ _;clear hR;obtain⟨r,Z⟩:∃ r,bloP ts (fns ts n) p=r:=⟨_,rfl⟩;rw[Z] at ho ⊢;have D:=J Z;have HO:=J ho;clear Z ho;unfold bloP at D;have HH:=J h;clear h;have av:∀ (fn:Fn) (first cap:Array Value) (w:World),(Instr.makeFunc fn first cap).run Tryz.prog w=.ok (.func fn first cap) w:=fun _ _ _ _=>rfl
 go_enter Tryz.func141,Tryz.ntmps141
 go_wp2_with fail
 refine(zbp 13 N).mono ?_;rintro e W1 ⟨ah,rfl,E,y⟩;have M:Hid (Mk w.heap.size W1 ah 13 ⟨#[]⟩ 0 (herI ts p) (herI ts p) 0 (.slice none 0 0) []):=E.mono aa.out.size;have F:=J (zab aa (zae y));have X:=J (N.out.low y);clear E y aa N;have Y:Hid ((ah<W1.heap.size∧∀ q,((.slice none 0 0):Value).ownBlock=some q->q<W1.heap.size)∧w.heap.size<=W1.heap.size):=⟨M.out.at,F.out.size⟩
 go_wp2_with fail
 refine(zlw 157 (fun m q=>(fns ts m).stmt q) (fun m=>(fns ts m).stmL) n (fun _ _=>rfl) (fun _ _ _=>rfl) (zwc HH) zqb X (za1 D HO)).mono ?_;rintro e A ⟨K,ai⟩;have C:match linP ts (fns ts n).stmL p with
  | .ok l q=>∃ bs sp cp,e=.returned (.slice sp bs.length cp)∧RowsP A sp bs∧(sp=none->bs.length=0∧cp=0)∧PsAt A (fun j=>W1.heap.size<=j∧j<A.heap.size) bs l∧l.length<=q∧Rdr T A g st cap ts q
  | .bad s=>e=wroE s
  | .out=>False:=ai
 clear ai;rcases hx:linP ts (fns ts n).stmL p with⟨l2,q2⟩ | s2|_
 rotate_left
 ·rw[hx] at C;have am:e=wroE s2:=C;subst am;have HP:Hid (PtP T w g st cap ts r (wroE (s2)) A):=zap (zab F K) (zat hx D);clear F X D M;unfold wroE
  go_wp2
  exact⟨rfl,HP.out⟩
 ·rw[hx] at C;exact C.elim
 rw[hx] at C;obtain⟨bs2,ay,ax,rfl,ag,al,ae,az,I⟩:=C;have aw:=I.le;have au:=I.few;have ao:Hid _:=za7 hx D;have ac:=J (zab F K);have ab:=J (M.out.grow (Yg aq U) K);have V:Hid (Rdr T A g st cap ts q2):=I;have af:=J ag;have ak:=J al;have aj:=J ae;clear K I hx ag al ae D X F M
 go_wp2_with fail
 refine(za9 (S2:=fun j=>W1.heap.size<=j∧j<A.heap.size) V.out U ab af ak aj (zcn Y.out.1 Y.out.2 (Ya _)) (by simp;omega)).mono ?_;rintro e W4 ⟨rfl,⟨v4,E⟩,y⟩;have ap:=J E;have ar:=J (zaw ac y);have an:=J (V.out.below U y);clear E y ab Y af ak aj ac V
 go_wp2
 go_ret
 exact zbq ar ao ap.out.fin an
theorem zwd {n:Nat}(h:∀ m,m<=n->StmC ts T g st cap m)(hR:Rdr T w g st cap ts p)(ho:looP ts (fns ts n) p≠.out):Calls Tryz.prog 169 #[.pointer (some ⟨g,0,none⟩)] w (PtP T w g st cap ts (looP ts (fns ts n) p)):=by
 have ag:=J hR;have U:=hR.hT;have ai:=hR.hg;have am:Hid (w.grownBy w (some g)):=zby _ _;clear hR;obtain⟨r,hX⟩:∃ r,looP ts (fns ts n) p=r:=⟨_,rfl⟩;rw[hX] at ho ⊢;have Y:=J hX;have HO:=J ho;clear hX ho;unfold looP at Y;have HH:=J h;clear h;have aG:∀ (fn:Fn) (first cap:Array Value) (w:World),(Instr.makeFunc fn first cap).run Tryz.prog w=.ok (.func fn first cap) w:=fun _ _ _ _=>rfl
 go_enter Tryz.func169,Tryz.ntmps169
 go_wp2_with fail
 refine(zbp 15 ag).mono ?_;rintro e W1 ⟨ax,rfl,V,F⟩;have ao:Hid (Mk w.heap.size W1 ax 15 ⟨#[]⟩ 0 (herI ts p) (herI ts p) 0 (.slice none 0 0) []):=V.mono am.out.size;have ae:=J (zab am (zae F));have aj:=J (ag.out.low F);clear V F am ag
 go_wp2_with fail
 refine(zbh ⟨#[102,111,114]⟩ (by simp) aj.out).mono ?_;rintro e E ⟨A,ay⟩;have y:(if isT ts p [102,111,114] then e=.returned (.tuple #[])∧Rdr T E g st cap ts (p+1) else e=wroE (herI ts p)):=ay;clear ay;obtain⟨bb,hb⟩:∃ bb,isT ts p [102,111,114]=bb:=⟨_,rfl⟩;rw[hb] at y
 cases bb
 ·simp only[Bool.false_eq_true,if_false] at y;subst y;have HP:Hid (PtP T w g st cap ts r (wroE (herI ts p)) E):=zap (zab ae A) (zdy hb Y);clear ae aj Y ao;unfold wroE
  go_wp2
  exact⟨rfl,HP.out⟩
 simp only[if_true] at y;obtain⟨rfl,C⟩:=y;have M:Hid _:=zc3 hb Y;have N:=J (zab ae A);have aa:=J (ao.out.grow (Yg ai U) A);have ab:Hid (Rdr T E g st cap ts (p+1)):=C;clear A C hb Y aj ae ao;have I:Hid ((ax<E.heap.size∧∀ q,((.slice none 0 0):Value).ownBlock=some q->q<E.heap.size)∧w.heap.size<=E.heap.size∧g<E.heap.size):=⟨aa.out.at,N.out.size,ab.out.lt⟩
 go_wp2_with fail
 refine(zfn (zgo n) ab.out (za1 M HO)).mono ?_;rintro e W4 ⟨A,y⟩;rcases hx:(fns ts n).bin 0 (p+1) with⟨t4,q4⟩ | s4|_
 rotate_left
 ·rw[hx] at y;have af:e=wroE s4:=y;subst af;have HP:Hid (PtP T w g st cap ts r (wroE (s4)) W4):=zap (zab N A) (zat hx M);clear N ab M aa I;unfold wroE
  go_wp2
  exact⟨rfl,HP.out⟩
 ·rw[hx] at y;exact y.elim
 rw[hx] at y;obtain⟨ap,rfl,X,C⟩:=y;have Z:Hid _:=za7 hx M;have aI:=A.size;have ac:=J (zab N A);have ah:=J (aa.out.grow (Yg ai U) A);have an:=J X;have ak:Hid (Rdr T W4 g st cap ts q4):=C;clear A C X hx M ab N aa
 go_wp2_with fail
 refine(zd8 HH ak (za1 Z HO)).mono ?_;rintro e K ⟨A,y⟩;rcases hx:bloP ts (fns ts n) q4 with⟨t6,q6⟩ | s6|_
 rotate_left
 ·rw[hx] at y;have af:e=wroE s6:=y;subst af;have HP:Hid (PtP T w g st cap ts r (wroE (s6)) K):=zap (zab ac A) (zat hx Z);clear ac ak Z ah I an;unfold wroE
  go_wp2
  exact⟨rfl,HP.out⟩
 ·rw[hx] at y;exact y.elim
 rw[hx] at y;obtain⟨au,rfl,X,C⟩:=y;have aC:Hid _:=za7 hx Z;have aH:=A.size;have aA:=J (zab ac A);have aw:=J (ah.out.grow (Yg ai U) A);have aq:=J (an.out.grow I.out.2.2 (by omega) A);have av:=J X;have al:Hid (Rdr T K g st cap ts q6):=C;clear A C X hx Z ak ac ah an
 go_wp2_with fail
 refine zag (fun W=>Below K.heap.size K W∧W.heap[K.heap.size]?=some (.cells #[.pointer (some ⟨ap,0,none⟩),.pointer (some ⟨au,0,none⟩)] 93 (0,0))) ⟨(Yb _ _).alloc (Ya _) _,Yd _ _⟩ ?_;rintro aF ⟨D,ra⟩;refine(za9 (bs2:=[ap,au]) (l2:=[t4,t6]) (S2:=fun j=>E.heap.size<=j∧j<K.heap.size) (al.out.low D) U (aw.out.below D) (zkr ra) (fun h=>by cases h) (PsAt.two ((aq.out.low (by omega) D).wide (Ya _) (by omega)) ((av.out.low (Ya _) D).wide (by omega) (Ya _))) (zcn I.out.1 I.out.2.1 D.size) (by simp)).mono ?_;rintro e W8 ⟨rfl,⟨v8,V⟩,F⟩;have aE:=J V;have ar:=J (zab aA (zae D));have az:=J (al.out.low D);have aD:=J (zaw ar F);have aB:=J (az.out.below U F);clear V F D ra aw I aA al ar az aq av
 go_wp2
 go_ret
 exact zbq aD aC aE.out.fin aB
theorem zsq {n:Nat}(h:∀ m,m<=n->StmC ts T g st cap m)(hR:Rdr T w g st cap ts p)(ho:(fns ts (n+1)).bran p≠.out):Calls Tryz.prog 168 #[.pointer (some ⟨g,0,none⟩)] w (PtP T w g st cap ts ((fns ts (n+1)).bran p)):=by
 have aC:=J hR;have I:=hR.hT;have af:=hR.hg;have aG:Hid (w.grownBy w (some g)):=zby _ _;clear hR;obtain⟨r,hX⟩:∃ r,(fns ts (n+1)).bran p=r:=⟨_,rfl⟩;rw[hX] at ho ⊢;have bv:=J hX;have HO:=J ho;have aq:Hid ((expP ts [105,102] p fun q=>((fns ts n).bin 0 q).bind fun x q=>(bloP ts (fns ts n) q).bind fun b q=>
    if isT ts q [101,108,115,101] then
     (if isT ts (q+1) [105,102] then(fns ts n).bran (q+1) else bloP ts (fns ts n) (q+1)).bind fun c q=>.ok (.mk 14 ⟨#[]⟩ 0 (herI ts p) (herI ts p) (behI ts q) [x,b,c]) q
    else .ok (.mk 14 ⟨#[]⟩ 0 (herI ts p) (herI ts p) (behI ts q) [x,b]) q)=r):=hX
 clear hX ho bv;have HH:=J h;clear h;have bP:∀ (fn:Fn) (first cap:Array Value) (w:World),(Instr.makeFunc fn first cap).run Tryz.prog w=.ok (.func fn first cap) w:=fun _ _ _ _=>rfl
 go_enter Tryz.func168,Tryz.ntmps168
 go_wp2_with fail
 refine(zbp 14 aC).mono ?_;rintro e W1 ⟨aw,rfl,F,C⟩;have aI:Hid (Mk w.heap.size W1 aw 14 ⟨#[]⟩ 0 (herI ts p) (herI ts p) 0 (.slice none 0 0) []):=F.mono aG.out.size;have ay:=J (zab aG (zae C));have aF:=J (aC.out.low C);clear F C aG aC
 go_wp2_with fail
 refine(zbh ⟨#[105,102]⟩ (by simp) aF.out).mono ?_;rintro e W2 ⟨y,be⟩;have A:(if isT ts p [105,102] then e=.returned (.tuple #[])∧Rdr T W2 g st cap ts (p+1) else e=wroE (herI ts p)):=be;clear be;obtain⟨M,N⟩:∃ M,isT ts p [105,102]=M:=⟨_,rfl⟩;rw[N] at A
 cases M
 ·simp only[Bool.false_eq_true,if_false] at A;subst A;have Y:Hid (PtP T w g st cap ts r (wroE (herI ts p)) W2):=zap (zab ay y) (zdy N aq);clear ay aF aq aI;unfold wroE
  go_wp2
  exact⟨rfl,Y.out⟩
 simp only[if_true] at A;obtain⟨rfl,E⟩:=A;have am:Hid _:=zc3 N aq;have ak:=J (zab ay y);have ar:=J (aI.out.grow (Yg af I) y);have ao:Hid (Rdr T W2 g st cap ts (p+1)):=E;clear y E N aq aF ay aI;have ag:Hid ((aw<W2.heap.size∧∀ q,((.slice none 0 0):Value).ownBlock=some q->q<W2.heap.size)∧w.heap.size<=W2.heap.size∧g<W2.heap.size):=⟨ar.out.at,ak.out.size,ao.out.lt⟩
 go_wp2_with fail
 refine(zfn (zgo n) ao.out (za1 am HO)).mono ?_;rintro e W4 ⟨y,A⟩;rcases hx:(fns ts n).bin 0 (p+1) with⟨t4,q4⟩ | s4|_
 rotate_left
 ·rw[hx] at A;have ae:e=wroE s4:=A;subst ae;have Y:Hid (PtP T w g st cap ts r (wroE (s4)) W4):=zap (zab ak y) (zat hx am);clear ak ao am ar ag;unfold wroE
  go_wp2
  exact⟨rfl,Y.out⟩
 ·rw[hx] at A;exact A.elim
 rw[hx] at A;obtain⟨aY,rfl,U,E⟩:=A;have al:Hid _:=za7 hx am;have bL:=y.size;have ax:=J (zab ak y);have aA:=J (ar.out.grow (Yg af I) y);have aH:=J U;have aB:Hid (Rdr T W4 g st cap ts q4):=E;clear y E U hx am ao ak ar
 go_wp2_with fail
 refine(zd8 HH aB (za1 al HO)).mono ?_;rintro e W6 ⟨y,A⟩;rcases hx:bloP ts (fns ts n) q4 with⟨t6,Z⟩ | s6|_
 rotate_left
 ·rw[hx] at A;have ae:e=wroE s6:=A;subst ae;have Y:Hid (PtP T w g st cap ts r (wroE (s6)) W6):=zap (zab ax y) (zat hx al);clear ax aB al aA ag aH;unfold wroE
  go_wp2
  exact⟨rfl,Y.out⟩
 ·rw[hx] at A;exact A.elim
 rw[hx] at A;obtain⟨aL,rfl,U,E⟩:=A;have aj:Hid _:=za7 hx al;have bG:=y.size;have a0:=J (zab ax y);have aR:=J (aA.out.grow (Yg af I) y);have aO:=J (aH.out.grow ag.out.2.2 (by omega) y);have a7:=J U;have aT:Hid (Rdr T W6 g st cap ts Z):=E;clear y E U hx al aB ax aA aH
 go_wp2_with fail
 refine zag (fun W=>Below W6.heap.size W6 W∧W.heap[W6.heap.size]?=some (.cells #[.pointer (some ⟨aY,0,none⟩),.pointer (some ⟨aL,0,none⟩)] 93 (0,0))) ⟨(Yb _ _).alloc (Ya _) _,Yd _ _⟩ ?_;rintro bI ⟨D,ra⟩;refine(zc6 (bs2:=[aY,aL]) (l2:=[t4,t6]) (S2:=fun j=>W2.heap.size<=j∧j<W6.heap.size) (aR.out.below D) (zkr ra) (fun h=>by cases h) (PsAt.two ((aO.out.low (by omega) D).wide (Ya _) (by omega)) ((a7.out.low (Ya _) D).wide (by omega) (Ya _))) (zcn ag.out.1 ag.out.2.1 D.size) (by simp)).mono ?_;rintro e W8 ⟨rfl,⟨v8,F⟩,C⟩;have aU:=J F;have a6:=J (zab a0 (zae D));have bi:=J (aT.out.low D);have bc:=J (zaw a6 C);have aX:=J (bi.out.below I C);clear F C D ra aR ag a0 aT a6 bi aO a7
 go_wp2_with fail
 refine(zew ⟨#[101,108,115,101]⟩ (by simp) aX.out).mono ?_;rintro e az ⟨he,y,E⟩;obtain⟨M,N⟩:∃ M,isT ts Z [101,108,115,101]=M:=⟨_,rfl⟩;rw[show isT ts Z (⟨#[101,108,115,101]⟩:ByteArray).data.toList=M from N] at he E;subst he;rw[N] at aj;have au:=J (zab bc y);have ap:=J (aU.out.grow (Yg af I) y);clear y N aX bc aU
 cases M
 rotate_left
 ·skip
  have K:Hid _:=zbe rfl aj;have ac:Hid (Rdr T az g st cap ts (Z+1)):=E;clear E aj
  go_wp2_with fail
  refine(ze9 ⟨#[105,102]⟩ ac.out).mono ?_;rintro e V ⟨he,C⟩;obtain⟨M,N⟩:∃ M,isT ts (Z+1) [105,102]=M:=⟨_,rfl⟩;rw[show isT ts (Z+1) (⟨#[105,102]⟩:ByteArray).data.toList=M from N] at he;subst he;rw[N] at K;have y:az.grownBy V (some g):=zae C;have ab:=J (ac.out.low C);have X:=J (zab au y);have aa:=J (ap.out.grow (Yg af I) y);clear y C N ac au ap
  cases M
  rotate_left
  ·skip
   rw[if_pos rfl] at K;have av:Hid ((aw<V.heap.size∧∀ q,(v8:Value).ownBlock=some q->q<V.heap.size)∧w.heap.size<=V.heap.size∧g<V.heap.size):=⟨aa.out.at,X.out.size,ab.out.lt⟩
   go_wp2_with fail
   refine((HH n (Ya _)).bran _ _ ab (za1 K HO)).mono ?_;rintro e ai ⟨y,A⟩;rcases hx:(fns ts n).bran (Z+1) with⟨bl,bk⟩ | s14|_
   rotate_left
   ·rw[hx] at A;have ae:e=wroE s14:=A;subst ae;have Y:Hid (PtP T w g st cap ts r (wroE (s14)) ai):=zap (zab X y) (zat hx K);clear X ab K aa av;unfold wroE
    go_wp2
    exact⟨rfl,Y.out⟩
   ·rw[hx] at A;exact A.elim
   rw[hx] at A;obtain⟨bf,rfl,U,E⟩:=A;have bw:Hid _:=za7 hx K;have bA:=y.size;have a8:=J (zab X y);have aP:=J (aa.out.grow (Yg af I) y);have a5:=J U;have a4:Hid (Rdr T ai g st cap ts bk):=E;clear y E U hx K ab X aa
   go_wp2_with fail
   refine zag (fun W=>Below ai.heap.size ai W∧W.heap[ai.heap.size]?=some (.cells #[.pointer (some ⟨bf,0,none⟩)] 93 (0,0))) ⟨(Yb _ _).alloc (Ya _) _,Yd _ _⟩ ?_;rintro bQ ⟨D,ra⟩;refine(zc6 (bs2:=[bf]) (l2:=[bl]) (S2:=fun j=>V.heap.size<=j∧j<ai.heap.size) (aP.out.below D) (zar ra) (fun h=>by cases h) (PsAt.one (a5.out.low (Ya _) D)) (zcn av.out.1 av.out.2.1 D.size) (by simp)).mono ?_;rintro e bB ⟨rfl,⟨bF,F⟩,C⟩;have aV:=J F;have aQ:=J (zab a8 (zae D));have aM:=J (a4.out.low D);have a2:=J (zaw aQ C);have aD:=J (aM.out.below I C);clear F C D ra aP av a8 a4 aQ aM a5
   go_wp2_with fail
   refine(za9 (bs2:=[]) (l2:=[]) (S2:=fun _=>False) aD.out I aV RowsAt.none (fun _=>⟨rfl,rfl⟩) (PsAt.nil _ _) (fun _ h=>h.elim) (by simp)).mono ?_;rintro e bD ⟨rfl,⟨bM,F⟩,C⟩;have bp:=J F;have bo:=J (zaw a2 C);have bu:=J (aD.out.below I C);clear F C aV a2 aD
   go_wp2
   go_ret
   exact zbq bo bw bp.out.fin bu
  rw[if_neg (by decide)] at K;have an:Hid ((aw<V.heap.size∧∀ q,(v8:Value).ownBlock=some q->q<V.heap.size)∧w.heap.size<=V.heap.size∧g<V.heap.size):=⟨aa.out.at,X.out.size,ab.out.lt⟩
  go_wp2_with fail
  refine(zd8 HH ab (za1 K HO)).mono ?_;rintro e ah ⟨y,A⟩;rcases hx:bloP ts (fns ts n) (Z+1) with⟨bm,bx⟩ | s20|_
  rotate_left
  ·rw[hx] at A;have ae:e=wroE s20:=A;subst ae;have Y:Hid (PtP T w g st cap ts r (wroE (s20)) ah):=zap (zab X y) (zat hx K);clear X ab K aa an;unfold wroE
   go_wp2
   exact⟨rfl,Y.out⟩
  ·rw[hx] at A;exact A.elim
  rw[hx] at A;obtain⟨aJ,rfl,U,E⟩:=A;have bq:Hid _:=za7 hx K;have bR:=y.size;have aW:=J (zab X y);have a9:=J (aa.out.grow (Yg af I) y);have aN:=J U;have aZ:Hid (Rdr T ah g st cap ts bx):=E;clear y E U hx K ab X aa
  go_wp2_with fail
  refine zag (fun W=>Below ah.heap.size ah W∧W.heap[ah.heap.size]?=some (.cells #[.pointer (some ⟨aJ,0,none⟩)] 93 (0,0))) ⟨(Yb _ _).alloc (Ya _) _,Yd _ _⟩ ?_;rintro bK ⟨D,ra⟩;refine(zc6 (bs2:=[aJ]) (l2:=[bm]) (S2:=fun j=>V.heap.size<=j∧j<ah.heap.size) (a9.out.below D) (zar ra) (fun h=>by cases h) (PsAt.one (aN.out.low (Ya _) D)) (zcn an.out.1 an.out.2.1 D.size) (by simp)).mono ?_;rintro e bO ⟨rfl,⟨bJ,F⟩,C⟩;have a3:=J F;have aK:=J (zab aW (zae D));have a1:=J (aZ.out.low D);have bh:=J (zaw aK C);have aE:=J (a1.out.below I C);clear F C D ra a9 an aW aZ aK a1 aN
  go_wp2_with fail
  refine(za9 (bs2:=[]) (l2:=[]) (S2:=fun _=>False) aE.out I a3 RowsAt.none (fun _=>⟨rfl,rfl⟩) (PsAt.nil _ _) (fun _ h=>h.elim) (by simp)).mono ?_;rintro e bC ⟨rfl,⟨bN,F⟩,C⟩;have bz:=J F;have bs:=J (zaw bh C);have bj:=J (aE.out.below I C);clear F C a3 bh aE
  go_wp2
  go_ret
  exact zbq bs bq bz.out.fin bj
 have K:Hid _:=zb1 rfl aj;have ac:Hid (Rdr T az g st cap ts Z):=E;clear E aj
 go_wp2_with fail
 refine(za9 (bs2:=[]) (l2:=[]) (S2:=fun _=>False) ac.out I ap RowsAt.none (fun _=>⟨rfl,rfl⟩) (PsAt.nil _ _) (fun _ h=>h.elim) (by simp)).mono ?_;rintro e bH ⟨rfl,⟨bE,F⟩,C⟩;have br:=J F;have bn:=J (zaw au C);have bt:=J (ac.out.below I C);clear F C ap au ac
 go_wp2
 go_ret
 exact zbq bn K br.out.fin bt
theorem zsr {n:Nat}(h:∀ m,m<=n->StmC ts T g st cap m)(hR:Rdr T w g st cap ts p)(ho:(fns ts (n+1)).stmt p≠.out):Calls Tryz.prog 157 #[.pointer (some ⟨g,0,none⟩)] w (PtP T w g st cap ts ((fns ts (n+1)).stmt p)):=by
 have ao:=J hR;have hT:=hR.hT;have aC:=hR.hg;have ay:Hid (w.grownBy w (some g)):=zby _ _;clear hR;obtain⟨r,hX⟩:∃ r,(fns ts (n+1)).stmt p=r:=⟨_,rfl⟩;rw[hX] at ho ⊢;have az:=J hX;have I:=J ho;have aa:Hid ((if isT ts p [123] then bloP ts (fns ts n) p else if isT ts p [118,97,114] then varP ts (fns ts n) p else if isT ts p [105,102] then(fns ts n).bran p
   else if isT ts p [102,111,114] then looP ts (fns ts n) p else if isT ts p [114,101,116,117,114,110] then resP ts (fns ts n) p
   else if namB ts p && isT ts (p+1) [58,61] then shoP ts (fns ts n) p else simP ts (fns ts n) p)=r):=hX
 clear hX ho az;have V:=J h;clear h;have aB:∀ (fn:Fn) (first cap:Array Value) (w:World),(Instr.makeFunc fn first cap).run Tryz.prog w=.ok (.func fn first cap) w:=fun _ _ _ _=>rfl
 go_enter Tryz.func157,Tryz.ntmps157
 have aA:∀ (a b c:Value) (W:World),(Instr.field 38 (.agg #[a,b,c]) 1).run Tryz.prog W=.ok b W:=fun _ _ _ _=>rfl;have M:Hid (∀ q (s:List UInt8),((nxT ts q).text.toList == s)=isT ts q s):=fun q s=>by unfold isT;rw[ByteArray.toList_eq]
 go_wp2_with fail
 refine(zdw ao).mono ?_;rintro e W1 ⟨rfl,b1⟩;have N:=J (ao.out.low b1);have U:Hid (w.grownBy W1 (some g)):=zae b1;clear b1 ao ay;have ac:Hid _:=M.out p [123];obtain⟨E,F⟩:∃ E,isT ts p [123]=E:=⟨_,rfl⟩;rw[F] at ac aa
 cases E
 rotate_left
 ·have au:((nxT ts p).text.toList == [123])=true:=ac.out;have A:Hid _:=zbe rfl aa;clear F ac aa M;unfold Tok.cells
  go_wp2_with fail
  refine((zd8 V N (by rw[A.out];exact I)).mono fun e W h=>PtP.from U h).mono ?_;rintro e W2 y;rw[A.out] at y;have C:=J y;clear A U N I V;rcases r with⟨t9,Z⟩ | s9|_
  ·obtain⟨-,b9,rfl,-⟩:=y
   go_wp2
   go_ret
   exact C
  ·obtain⟨-,D⟩:=y;have K:e=wroE s9:=D;subst K;clear D;unfold wroE at C ⊢
   go_wp2
   exact⟨rfl,C.out⟩
  ·exact y.2.elim
 have au:((nxT ts p).text.toList == [123])=false:=ac.out;have aj:Hid _:=zb1 rfl aa;clear F ac aa;have X:Hid _:=M.out p [118,97,114];obtain⟨E,F⟩:∃ E,isT ts p [118,97,114]=E:=⟨_,rfl⟩;rw[F] at X aj
 cases E
 rotate_left
 ·have aq:((nxT ts p).text.toList == [118,97,114])=true:=X.out;have A:Hid _:=zbe rfl aj;clear F X aj M;unfold Tok.cells
  go_wp2_with fail
  refine((zhw n N (by rw[A.out];exact I)).mono fun e W h=>PtP.from U h).mono ?_;rintro e W2 y;rw[A.out] at y;have C:=J y;clear A U N I V;rcases r with⟨t9,Z⟩ | s9|_
  ·obtain⟨-,b9,rfl,-⟩:=y
   go_wp2
   go_ret
   exact C
  ·obtain⟨-,D⟩:=y;have K:e=wroE s9:=D;subst K;clear D;unfold wroE at C ⊢
   go_wp2
   exact⟨rfl,C.out⟩
  ·exact y.2.elim
 have aq:((nxT ts p).text.toList == [118,97,114])=false:=X.out;have ah:Hid _:=zb1 rfl aj;clear F X aj;have af:Hid _:=M.out p [105,102];obtain⟨E,F⟩:∃ E,isT ts p [105,102]=E:=⟨_,rfl⟩;rw[F] at af ah
 cases E
 rotate_left
 ·have ap:((nxT ts p).text.toList == [105,102])=true:=af.out;have A:Hid _:=zbe rfl ah;clear F af ah M;unfold Tok.cells
  go_wp2_with fail
  refine(((V n (Ya _)).bran _ _ N (by rw[A.out];exact I)).mono fun e W h=>PtP.from U h).mono ?_;rintro e W2 y;rw[A.out] at y;have C:=J y;clear A U N I V;rcases r with⟨t9,Z⟩ | s9|_
  ·obtain⟨-,b9,rfl,-⟩:=y
   go_wp2
   go_ret
   exact C
  ·obtain⟨-,D⟩:=y;have K:e=wroE s9:=D;subst K;clear D;unfold wroE at C ⊢
   go_wp2
   exact⟨rfl,C.out⟩
  ·exact y.2.elim
 have ap:((nxT ts p).text.toList == [105,102])=false:=af.out;have ak:Hid _:=zb1 rfl ah;clear F af ah;have ab:Hid _:=M.out p [102,111,114];obtain⟨E,F⟩:∃ E,isT ts p [102,111,114]=E:=⟨_,rfl⟩;rw[F] at ab ak
 cases E
 rotate_left
 ·have av:((nxT ts p).text.toList == [102,111,114])=true:=ab.out;have A:Hid _:=zbe rfl ak;clear F ab ak M;unfold Tok.cells
  go_wp2_with fail
  refine((zwd V N (by rw[A.out];exact I)).mono fun e W h=>PtP.from U h).mono ?_;rintro e W2 y;rw[A.out] at y;have C:=J y;clear A U N I V;rcases r with⟨t9,Z⟩ | s9|_
  ·obtain⟨-,b9,rfl,-⟩:=y
   go_wp2
   go_ret
   exact C
  ·obtain⟨-,D⟩:=y;have K:e=wroE s9:=D;subst K;clear D;unfold wroE at C ⊢
   go_wp2
   exact⟨rfl,C.out⟩
  ·exact y.2.elim
 have av:((nxT ts p).text.toList == [102,111,114])=false:=ab.out;have ag:Hid _:=zb1 rfl ak;clear F ab ak;have ai:Hid _:=M.out p [114,101,116,117,114,110];obtain⟨E,F⟩:∃ E,isT ts p [114,101,116,117,114,110]=E:=⟨_,rfl⟩;rw[F] at ai ag
 cases E
 rotate_left
 ·have aw:((nxT ts p).text.toList == [114,101,116,117,114,110])=true:=ai.out;have A:Hid _:=zbe rfl ag;clear F ai ag M;unfold Tok.cells
  go_wp2_with fail
  refine((zpy n N (by rw[A.out];exact I)).mono fun e W h=>PtP.from U h).mono ?_;rintro e W2 y;rw[A.out] at y;have C:=J y;clear A U N I V;rcases r with⟨t9,Z⟩ | s9|_
  ·obtain⟨-,b9,rfl,-⟩:=y
   go_wp2
   go_ret
   exact C
  ·obtain⟨-,D⟩:=y;have K:e=wroE s9:=D;subst K;clear D;unfold wroE at C ⊢
   go_wp2
   exact⟨rfl,C.out⟩
  ·exact y.2.elim
 have aw:((nxT ts p).text.toList == [114,101,116,117,114,110])=false:=ai.out;have Y:Hid _:=zb1 rfl ag;clear F ai ag;unfold Tok.cells
 go_wp2_with fail
 clear au aq ap av aw;refine(zg5 N).mono ?_;rintro e W2 ⟨rfl,b2⟩;have ae:=J (N.out.low b2);have an:=J (zab U (zae b2));clear b2 N U;obtain⟨bn,ar⟩:∃ bn,namB ts p=bn:=⟨_,rfl⟩;rw[ar] at Y ⊢;clear ar
 cases bn
 ·have A:Hid _:=zb1 (by rfl) Y.out;clear Y M
  go_wp2_with fail
  refine((zjn n ae (by rw[A.out];exact I)).mono fun e W h=>PtP.from an h).mono ?_;rintro e W3 y;rw[A.out] at y;have C:=J y;clear A an ae I V;rcases r with⟨t9,Z⟩ | s9|_
  ·obtain⟨-,b9,rfl,-⟩:=y
   go_wp2
   go_ret
   exact C
  ·obtain⟨-,D⟩:=y;have K:e=wroE s9:=D;subst K;clear D;unfold wroE at C ⊢
   go_wp2
   exact⟨rfl,C.out⟩
  ·exact y.2.elim
 go_wp2_with fail
 refine(zko 1 (Ya _) ae.out).mono ?_;rintro e W3 ⟨rfl,b3⟩;have am:=J (ae.out.low b3);have al:=J (zab an (zae b3));have X:Hid _:=M.out (p+1) [58,61];clear b3 ae an M;obtain⟨E,F⟩:∃ E,isT ts (p+1) [58,61]=E:=⟨_,rfl⟩;rw[F] at Y X;unfold Tok.cells
 cases E
 ·have ax:((nxT ts (p+1)).text.toList == [58,61])=false:=X.out;have A:Hid _:=zb1 (by rfl) Y.out;clear Y F
  go_wp2_with fail
  refine((zjn n am (by rw[A.out];exact I)).mono fun e W h=>PtP.from al h).mono ?_;rintro e W4 y;rw[A.out] at y;have C:=J y;clear A al am I V;rcases r with⟨t9,Z⟩ | s9|_
  ·obtain⟨-,b9,rfl,-⟩:=y
   go_wp2
   go_ret
   exact C
  ·obtain⟨-,D⟩:=y;have K:e=wroE s9:=D;subst K;clear D;unfold wroE at C ⊢
   go_wp2
   exact⟨rfl,C.out⟩
  ·exact y.2.elim
 have ax:((nxT ts (p+1)).text.toList == [58,61])=true:=X.out;have A:Hid _:=zbe (by rfl) Y.out;clear Y F
 go_wp2_with fail
 refine((zr5 n am (by rw[A.out];exact I)).mono fun e W h=>PtP.from al h).mono ?_;rintro e W4 y;rw[A.out] at y;have C:=J y;clear A al am I V;rcases r with⟨t9,Z⟩ | s9|_
 ·obtain⟨-,b9,rfl,-⟩:=y
  go_wp2
  go_ret
  exact C
 ·obtain⟨-,D⟩:=y;have K:e=wroE s9:=D;subst K;clear D;unfold wroE at C ⊢
  go_wp2
  exact⟨rfl,C.out⟩
 ·exact y.2.elim
theorem zk2 (n:Nat):StmC ts T g st cap n:=by
 induction n using Nat.strongRecOn with
 | ind n ih=>
  cases n with
  | zero=>exact⟨fun _ _ _ h=>absurd rfl h,fun _ _ _ h=>absurd rfl h⟩
  | succ n=>
   have h:∀ m,m<=n->StmC ts T g st cap m:=fun m A=>ih m (by omega);exact⟨fun w p hR y=>zsr h hR y,fun w p hR y=>zsq h hR y⟩
end
end Go.Proofs.YtmclgbkijeidaaaGreatDoor
