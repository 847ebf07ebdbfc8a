import Derived.Test.YtmclgbkijeidaaaGreatDoorUoI
namespace Go.Proofs.YtmclgbkijeidaaaGreatDoor
set_option maxRecDepth 100000
set_option maxHeartbeats 4000000
open Go.RowKit
theorem zr1 {B b lo hi:Nat}{W:World}(hb:hi<=b)(hB:B<=lo)(hh:hi<=W.heap.size):∀ j,(lo<=j∧j<hi)->B<=j∧j<W.heap.size∧j≠b∧(Value.slice none 0 0).ownBlock≠some j:=fun j hj=>
 ⟨by omega,by omega,by omega,fun e=>by cases e⟩
section
variable {T:Nat}{w:World}{g:Nat}{st:Option Addr}{cap:Nat}{ts:List Tok}{p:Nat}
theorem zvu {n:Nat}(h:∀ m,m<=n->ExpC ts T g st cap m):Rnd ts T g st cap 135 (fun m q=>(fns ts m).bin 0 q) n 0 :=
 ⟨fun m A W q hR y=>zfn (h m A) hR y,fun m p t q C=>by
  have:=(adA (ts:=ts) m).bin 0 p;rw[C] at this;have D:p+1<=q:=this;omega⟩
theorem zpx (args:Array Value) (W:World):(callFunc 135 args).run Tryz.prog W=.ok (.enter 135 args) W:=by rfl
theorem zr2 (m:Nat)(fr:Int)(t:Pt)(q:Nat):(fns ts (m+1)).posL fr t q=(if isT ts q [46] then namP ts (q+1) fun x q=>(fns ts m).posL fr (.mk 24 x.text 0 x.pos fr (behI ts q) [t]) q
   else if isT ts q [40] then(lisP ts ((fns ts m).bin 0) (fns ts m).argL q).bind fun l q=>(fns ts m).posL fr (.mk 25 ⟨#[]⟩ 0 fr fr (behI ts q) ([t]++l)) q
   else .ok t q):=rfl
set_option maxHeartbeats 8000000 in
theorem zr3 {n:Nat}(h:∀ m,m<=n->ExpC ts T g st cap m)(hR:Rdr T w g st cap ts p)(ho:(fns ts (n+1)).post p≠.out):Calls Tryz.prog 177 #[.pointer (some ⟨g,0,none⟩)] w (PtP T w g st cap ts ((fns ts (n+1)).post p)):=by
 have ay:=J hR;have K:=hR.hT;have ap:=hR.hg;have bk:=hR.few;obtain⟨r,hX⟩:∃ r,(fns ts (n+1)).post p=r:=⟨_,rfl⟩;rw[hX] at ho ⊢;have Z:=J ho;have ac:Hid ((((fns ts n).prim p).bind fun t q=>(fns ts n).posL (herI ts p) t q)=r):=hX;have HH:=J h;clear hR hX ho h;have bf:∀ (fn:Fn) (first cap:Array Value) (w:World),(Instr.makeFunc fn first cap).run Tryz.prog w=.ok (.func fn first cap) w:=fun _ _ _ _=>rfl;obtain⟨fr,aB⟩:∃ fr,herI ts p=fr:=⟨_,rfl⟩;rw[aB] at ac
 go_enter Tryz.func177,Tryz.ntmps177
 go_wp2_with fail
 refine(zh6 ay).mono ?_;rintro e W1 ⟨rfl,b1⟩;rw[aB];have ax:=J (ay.out.low b1);have aj:Hid (w.grownBy W1 (some g)):=zae b1;clear b1 ay aB
 go_wp2_with fail
 refine((HH n (Ya _)).prim W1 p ax (za1 ac Z)).mono ?_;rintro e W2 ⟨g1,y⟩;rcases hx:(fns ts n).prim p with⟨t2,q2⟩ | s2|_
 rotate_left
 ·rw[hx] at y;have ao:e=wroE s2:=y;subst ao;have HP:Hid (PtP T w g st cap ts r (wroE s2) W2):=zap (zab aj g1) (zat hx ac);clear ac ax aj Z HH;unfold wroE
  go_wp2
  exact⟨rfl,HP.out⟩
 ·rw[hx] at y;exact y.elim
 rw[hx] at y;obtain⟨b2,rfl,aJ,r2⟩:=y;have aQ:Hid _:=za7 hx ac;have aX:=J (zab aj g1);have aE:Hid (PtAt W2 (fun j=>w.heap.size<=j∧j<W2.heap.size) b2 t2):=aJ.wide aj.out.size (Ya _);have aF:Hid (Rdr T W2 g st cap ts q2):=r2;clear g1 aJ r2 hx ac ax aj
 go_wp2
 go_loopw [4] (fun v wr=>∃ (b:Nat) (t:Pt) (q m:Nat),v=.pointer (some ⟨b,0,none⟩)∧PtAt wr (fun j=>w.heap.size<=j∧j<wr.heap.size) b t∧w.grownBy wr (some g)∧Rdr T wr g st cap ts q∧(fns ts m).posL fr t q=r∧m<=n) (fun _ wr=>ts.length - posW g wr)
 case atStart=>exact⟨b2,t2,q2,n,rfl,aE.out,aX.out,aF.out,aQ.out,Ya _⟩
 case round=>
  obtain⟨bp,t,q,m,rfl,hK,hG,hR,y,bj⟩:=hrel;have HK:=J hK;have HG:=J hG;have HR:=J hR;have ba:=hR.le;have aD:Hid (posW g wr=q):=hR.pos;have be:=hG.size
  cases m with
  | zero=>exact(Z y.symm).elim
  | succ m=>
  have ak:Hid _:=(zr2 m fr t q).symm.trans y;clear hK hG hR y aE aX aF aQ
  go_wp2_with fail
  refine(zew ⟨#[46]⟩ (by simp) HR.out).mono ?_;rintro e W4 ⟨he,g4,r4⟩;obtain⟨D,A⟩:∃ D,isT ts q [46]=D:=⟨_,rfl⟩;rw[show isT ts q (⟨#[46]⟩:ByteArray).data.toList=D from A] at he r4;subst he;rw[A] at ak;have aw:=g4.size;have an:=J (zab HG g4);have aq:=J (HK.out.grow (Yg ap K) (Ya _) g4);clear g4 HG HR HK A
  cases D
  rotate_left
  ·have M:Hid _:=zbe rfl ak;have ab:Hid (Rdr T W4 g st cap ts (q+1)):=r4;clear ak r4 HH
   go_wp2_with fail
   refine(zg7 24 fr W4).mono ?_;rintro e W5 ⟨rfl,hM,F⟩;have a3:=F.size;have au:Hid _:=hM.mono (C:=w.heap.size) (by omega);have U:=J (zab an (zae F));have X:=J (aq.out.low aw F);have V:=J (ab.out.low F);clear hM F an aq ab
   go_wp2_with fail
   refine(zdx V).mono ?_;rintro e W6 ⟨g6,y⟩;obtain⟨D,A⟩:∃ D,namB ts (q+1)=D:=⟨_,rfl⟩;rw[A] at y
   cases D
   ·simp only[Bool.false_eq_true,if_false] at y;subst y;have HP:Hid (PtP T w g st cap ts r (wroE (herI ts (q+1))) W6):=zap (zab U g6) (zf0 A M);clear M V U X au Z;unfold wroE
    go_wp2
    exact⟨rfl,HP.out⟩
   simp only[if_true] at y;obtain⟨rfl,r6⟩:=y;have a0:=g6.size;have Y:Hid _:=zel A M;have al:=J (zab U g6);have ai:Hid _:=au.out.grow (Yg ap K) g6;have ah:=J (X.out.grow (Yg ap K) (by omega) g6);have af:Hid (Rdr T W6 g st cap ts (q+1+1)):=r6;clear g6 r6 A M U au X V
   go_wp2_with fail
   refine(zg8 (nxT ts (q+1)) ai.out).mono ?_;rintro e W7 ⟨rfl,aP,E,aT⟩;have a1:=E.size;have aV:Hid _:=aP;have aN:=J (zaw al E);have aK:Hid (PtAt W7 (fun j=>w.heap.size<=j∧j<wr.heap.size) bp t):=ah.out.keep (fun _ h=>h) fun j hj=>aT j (by omega) (by omega);have az:=J (af.out.below K E);have a7:=af.out.le;clear aP E aT ai al ah af
   go_wp2_with fail
   refine zag (fun W=>Below W7.heap.size W7 W∧W.heap[W7.heap.size]?=some (.cells #[.pointer (some ⟨bp,0,none⟩)] 93 (0,0))) ⟨(Yb _ _).alloc (Ya _) _,Yd _ _⟩ ?_;rintro W8 ⟨I,r8⟩;have bc:=I.size;refine(za9 (bs2:=[bp]) (l2:=[t]) (S2:=fun j=>w.heap.size<=j∧j<wr.heap.size) (az.out.low I) K (aV.out.below I) (zar r8) (fun h=>by cases h) (PsAt.one (aK.out.low (by omega) I)) (zr1 aw (Ya _) (by omega)) (by simp)).mono ?_;rintro e N ⟨rfl,⟨v9,aH⟩,b9⟩;have am:Hid _:=aH;have ar:=J (zaw (zab aN (zae I)) b9);have aa:Hid (Rdr T N g st cap ts (q+1+1)):=(az.out.low I).below K b9;clear aH b9 I r8 aV aN aK az
   go_wp2
   exact⟨⟨W4.heap.size,_,q+1+1,m,rfl,am.out.fin,ar.out,aa.out,Y.out,by omega⟩,by rw[aa.out.pos,aD.out];omega⟩
  have M:Hid _:=zb1 rfl ak;have ab:Hid (Rdr T W4 g st cap ts q):=r4;clear ak r4
  go_wp2_with fail
  refine(ze9 ⟨#[40]⟩ ab.out).mono ?_;rintro e W5 ⟨he,F⟩;obtain⟨D,A⟩:∃ D,isT ts q [40]=D:=⟨_,rfl⟩;rw[show isT ts q (⟨#[40]⟩:ByteArray).data.toList=D from A] at he;subst he;rw[A] at M;have a3:=F.size;have U:=J (zab an (zae F));have X:=J (aq.out.low aw F);have V:=J (ab.out.low F);clear F an aq ab
  cases D
  ·have HP:Hid (PtP T w g st cap ts r (.returned (.pointer (some ⟨bp,0,none⟩))) W5):=zbq U (zb1 rfl M) (X.out.wide (Ya _) (by omega)) V.out;clear M U X V Z HH A
   go_wp2
   go_ret
   exact HP
  have Y:Hid _:=zbe rfl M;clear M A
  go_wp2_with fail
  refine(zg7 25 fr W5).mono ?_;rintro e W6 ⟨rfl,hM,b6⟩;have a0:=b6.size;have ai:Hid _:=hM.mono (C:=w.heap.size) (by omega);have al:=J (zab U (zae b6));have ah:=J (X.out.low (by omega) b6);have af:=J (V.out.low b6);clear hM b6 U X V
  go_wp2_with fail
  refine zag (fun W=>Below W6.heap.size W6 W∧W.heap[W6.heap.size]?=some (.cells #[.pointer (some ⟨bp,0,none⟩)] 93 (0,0))) ⟨(Yb _ _).alloc (Ya _) _,Yd _ _⟩ ?_;rintro W7 ⟨E,r7⟩;have a1:=E.size;refine(zc6 (bs2:=[bp]) (l2:=[t]) (S2:=fun j=>w.heap.size<=j∧j<wr.heap.size) (ai.out.below E) (zar r7) (fun h=>by cases h) (PsAt.one (ah.out.low (by omega) E)) (zr1 (by omega) (Ya _) (by omega)) (by simp)).mono ?_;rintro e W8 ⟨rfl,⟨v8,aA⟩,I⟩;have aC:Hid _:=aA;have ag:=J (zaw (zab al (zae E)) I);have av:Hid (Rdr T W8 g st cap ts q):=(af.out.low E).below K I;have aG:Hid _:=aA.at;have a2:=ag.out.size;clear aA I E r7 ai al ah af
  go_wp2_with fail
  refine(zkv 135 (fun m q=>(fns ts m).bin 0 q) (fun m=>(fns ts m).argL) m (fun _ _=>rfl) (fun _ _ _=>rfl) (zvu fun m' ao=>HH.out m' (by omega)) zpx av (za1 Y Z)).mono ?_;rintro e N ⟨g9,y⟩;have ae:match lisP ts ((fns ts m).bin 0) (fns ts m).argL q with
   | .ok l q=>∃ bs sp cp,e=.returned (.slice sp bs.length cp)∧RowsP N sp bs∧(sp=none->bs.length=0∧cp=0)∧PsAt N (fun j=>W8.heap.size<=j∧j<N.heap.size) bs l∧l.length<=q∧Rdr T N g st cap ts q
   | .bad s=>e=wroE s
   | .out=>False:=y
  clear y;rcases hx:lisP ts ((fns ts m).bin 0) (fns ts m).argL q with⟨l9,q9⟩ | s9|_
  rotate_left
  ·rw[hx] at ae;have ao:e=wroE s9:=ae;subst ao;have HP:Hid (PtP T w g st cap ts r (wroE s9) N):=zap (zab ag g9) (zat hx Y);clear Y av ag aC aG Z HH;unfold wroE
   go_wp2
   exact⟨rfl,HP.out⟩
  ·rw[hx] at ae;exact ae.elim
  rw[hx] at ae;obtain⟨bs,sp,cp,rfl,aM,aW,aU,a9,r9⟩:=ae;have bh:=r9.le;have bi:q+1<=q9:=by
   have:=zoj (ts:=ts) (one:=(fns ts m).bin 0) (more:=(fns ts m).argL) (p:=q) (fun _=>zb5 ((adA (ts:=ts) m).bin 0 (q+1)) (by omega)) fun l q _ _=>(adA (ts:=ts) m).argL l q;rw[hx] at this;exact this
  have aZ:Hid _:=za7 hx Y;have ar:=J (zab ag g9);have am:Hid _:=aC.out.grow (Yg ap K) g9;have aa:Hid (Rdr T N g st cap ts q9):=r9;have aL:=J aM;have aY:=J aW;have aR:=J aU;clear g9 r9 aM aW aU hx Y ag aC av HH
  go_wp2_with fail
  refine(za9 (S2:=fun j=>W8.heap.size<=j∧j<N.heap.size) aa.out K am aL aY aR (zcn aG a2 (Ya _)) (by simp;omega)).mono ?_;rintro e a6 ⟨rfl,⟨a8,aO⟩,b10⟩;have a5:Hid _:=aO;have a4:=J (zaw ar b10);have aI:=J (aa.out.below K b10);clear aO b10 am ar aa aL aY aR
  go_wp2
  exact⟨⟨W5.heap.size,_,q9,m,rfl,a5.out.fin,a4.out,aI.out,aZ.out,by omega⟩,by rw[aI.out.pos,aD.out];omega⟩
end
section
variable {T:Nat}{w:World}{g:Nat}{st:Option Addr}{cap:Nat}{ts:List Tok}{p:Nat}
theorem zr4 (m l:Nat)(fr:Int)(t:Pt)(q:Nat):(fns ts (m+1)).binL l fr t q=(if rowI (nxT ts q).text=l then
    ((fns ts m).bin (l+1) (q+1)).bind fun u q'=>
     if l=2 then .ok (.mk 27 (nxT ts q).text 0 (nxT ts q).pos fr (behI ts q') [t,u]) q'
     else(fns ts m).binL l fr (.mk 27 (nxT ts q).text 0 (nxT ts q).pos fr (behI ts q') [t,u]) q'
   else .ok t q):=rfl
set_option maxHeartbeats 8000000 in
theorem zvv {n:Nat}(h:∀ m,m<=n->ExpC ts T g st cap m)(l:Nat)(hl:l<=5)(hR:Rdr T w g st cap ts p)(ho:(fns ts (n+1)).bin l p≠.out):Calls Tryz.prog 155 #[.pointer (some ⟨g,0,none⟩),.int .i64 l] w (PtP T w g st cap ts ((fns ts (n+1)).bin l p)):=by
 have ab:=J hR;have M:=hR.hT;have al:=hR.hg;have bk:=hR.few;obtain⟨r,hX⟩:∃ r,(fns ts (n+1)).bin l p=r:=⟨_,rfl⟩;rw[hX] at ho ⊢;have F:=J ho;have ak:Hid ((if l=5 then(fns ts n).una p else((fns ts n).bin (l+1) p).bind fun t q=>(fns ts n).binL l (herI ts p) t q)=r):=hX;have K:=J h;have aH:Hid (w.grownBy w (some g)):=zby _ _;clear hR hX ho h;have bb:∀ (a b c:Value) (W:World),(Instr.field 38 (.agg #[a,b,c]) 1).run Tryz.prog W=.ok b W:=fun _ _ _ _=>rfl
 by_cases h5:l=5
 ·have D:Hid ((fns ts n).una p=r):=by
   show _=_;rw[<-ak.out,if_pos h5]
  have hC:=(K n (Ya _)).una w p ab (by rw[D.out];exact F);rw[D.out] at hC;subst h5;clear ak D K F
  go_enter Tryz.func155,Tryz.ntmps155
  go_wp2_with fail
  refine hC.mono ?_;rintro e W1 hP;have A:=J hP;clear hC ab aH;rcases r with⟨t9,q9⟩ | s9|_
  ·obtain⟨-,E,rfl,-⟩:=hP
   go_wp2
   go_ret
   exact A
  ·obtain⟨-,N⟩:=hP;have a0:e=wroE s9:=N;subst a0;clear N;unfold wroE at A ⊢
   go_wp2
   exact⟨rfl,A.out⟩
  ·exact hP.2.elim
 have be:((l:Int) == 5)=false:=by rw[beq_eq_false_iff_ne];omega
 have aX:l+1<=5:=by omega
 have D:Hid ((((fns ts n).bin (l+1) p).bind fun t q=>(fns ts n).binL l (herI ts p) t q)=r):=by
  show _=_;rw[<-ak.out,if_neg h5]
 clear ak;obtain⟨Y,ay⟩:∃ Y,herI ts p=Y:=⟨_,rfl⟩;rw[ay] at D
 go_enter Tryz.func155,Tryz.ntmps155
 go_wp2_with fail
 refine(zh6 ab).mono ?_;rintro e W1 ⟨rfl,b1⟩;rw[ay];have ao:=J (ab.out.low b1);have ac:Hid (w.grownBy W1 (some g)):=zae b1;clear b1 ab ay aH
 go_wp2_with fail
 refine((K n (Ya _)).bin W1 (l+1) p aX ao (za1 D F)).mono ?_;rintro e W2 ⟨g1,y⟩;rcases hx:(fns ts n).bin (l+1) p with⟨t2,q2⟩ | s2|_
 rotate_left
 ·rw[hx] at y;have N:e=wroE s2:=y;subst N;have A:Hid (PtP T w g st cap ts r (wroE s2) W2):=zap (zab ac g1) (zat hx D);clear D ao ac F K;unfold wroE
  go_wp2
  exact⟨rfl,A.out⟩
 ·rw[hx] at y;exact y.elim
 rw[hx] at y;obtain⟨b2,rfl,aa,r2⟩:=y;have aU:Hid _:=za7 hx D;have aW:=J (zab ac g1);have aE:Hid (PtAt W2 (fun j=>w.heap.size<=j∧j<W2.heap.size) b2 t2):=aa.wide ac.out.size (Ya _);have aF:Hid (Rdr T W2 g st cap ts q2):=r2;clear g1 aa r2 hx D ao ac
 go_wp2
 go_loopw [6] (fun v wr=>∃ (b:Nat) (t:Pt) (q m:Nat),v=.pointer (some ⟨b,0,none⟩)∧PtAt wr (fun j=>w.heap.size<=j∧j<wr.heap.size) b t∧w.grownBy wr (some g)∧Rdr T wr g st cap ts q∧(fns ts m).binL l Y t q=r∧m<=n) (fun _ wr=>ts.length - posW g wr)
 case atStart=>exact⟨b2,t2,q2,n,rfl,aE.out,aW.out,aF.out,aU.out,Ya _⟩
 case round=>
  obtain⟨bp,t,q,m,rfl,hK,hG,hR,y,bj⟩:=hrel;have HK:=J hK;have HG:=J hG;have HR:=J hR;have a5:=hR.le;have aY:Hid (posW g wr=q):=hR.pos;have a8:=hG.size
  cases m with
  | zero=>exact(F y.symm).elim
  | succ m=>
  have ai:Hid _:=(zr4 m l Y t q).symm.trans y;clear hK hG hR y aE aW aF aU
  go_wp2_with fail
  refine(zdw HR).mono ?_;rintro e W3 ⟨rfl,b3⟩;have bc:=b3.size;have aD:=J (zab HG (zae b3));have aA:=J (HK.out.low (Ya _) b3);have ap:=J (HR.out.low b3);clear b3 HG HK HR;unfold Tok.cells
  go_wp2_with fail
  refine(zm6 (nxT ts q).text W3 (ap.out.env W3 fun _ _ _=>rfl).2).mono ?_;rintro e W4 ⟨rfl,b4⟩;have a4:=b4.size;have af:=J (zab aD (zae b4));have am:=J (aA.out.low (by omega) b4);have ag:=J (ap.out.low b4);clear b4 aD aA ap
  by_cases hrow:rowI (nxT ts q).text=l
  rotate_left
  ·have aM:(rowI (nxT ts q).text == (l:Int))=false:=by rw[beq_eq_false_iff_ne];exact hrow
   have A:Hid (PtP T w g st cap ts r (.returned (.pointer (some ⟨bp,0,none⟩))) W4):=zbq af (by rw[<-ai.out,if_neg hrow]) (am.out.wide (Ya _) (by omega)) ag.out;clear ai af am ag F K
   go_wp2
   go_ret
   exact A
  have aM:(rowI (nxT ts q).text == (l:Int))=true:=by rw[hrow];exact beq_self_eq_true _
  have X:Hid _:=(if_pos hrow).symm.trans ai;have hq:=zoh hrow;clear ai hrow
  go_wp2_with fail
  refine(zg7 27 Y W4).mono ?_;rintro e W5 ⟨rfl,hM,Z⟩;have bh:=Z.size;have aC:Hid _:=hM.mono (C:=w.heap.size) (by omega);have aG:=J (zab af (zae Z));have aO:=J (am.out.low (by omega) Z);have aB:=J (ag.out.low Z);clear hM Z af am ag aM
  go_wp2_with fail
  refine(zf9 aB hq).mono ?_;rintro e W6 ⟨rfl,g6,r6⟩;have a9:=g6.size;have aV:=J (zab aG g6);have aR:Hid _:=aC.out.grow (Yg al M) g6;have aN:=J (aO.out.grow (Yg al M) (by omega) g6);have aP:Hid (Rdr T W6 g st cap ts (q+1)):=r6;clear g6 r6 aG aC aO aB
  go_wp2_with fail
  refine(zg8 (nxT ts q) aR.out).mono ?_;rintro e W7 ⟨rfl,ar,b7,aL⟩;have ba:=b7.size;have av:Hid _:=ar;have aj:=J (zaw aV b7);have aq:Hid (PtAt W7 (fun j=>w.heap.size<=j∧j<wr.heap.size) bp t):=aN.out.keep (fun _ h=>h) fun j I=>aL j (by omega) (by omega);have au:=J (aP.out.below M b7);have a3:=ar.lt;clear ar b7 aL aR aV aN aP
  go_wp2_with fail
  refine((K m (by omega)).bin W7 (l+1) (q+1) aX au (za1 X F)).mono ?_;rintro e U ⟨V,y⟩;rcases hx:(fns ts m).bin (l+1) (q+1) with⟨t8,q8⟩ | s8|_
  rotate_left
  ·rw[hx] at y;have N:e=wroE s8:=y;subst N;have A:Hid (PtP T w g st cap ts r (wroE s8) U):=zap (zab aj V) (zat hx X);clear X au aj av aq F K;unfold wroE
   go_wp2
   exact⟨rfl,A.out⟩
  ·rw[hx] at y;exact y.elim
  rw[hx] at y;obtain⟨b8,rfl,aa,r8⟩:=y;have bi:q+1+1<=q8:=by
   have:=(adA (ts:=ts) m).bin (l+1) (q+1);rw[hx] at this;exact this
  have a6:=V.size;have bf:=r8.le;have ae:Hid _:=za7 hx X;have aJ:=J (zab aj V);have aT:Hid _:=av.out.grow (Yg al M) V;have aI:=J (aq.out.grow (Yg al M) (by omega) V);have aQ:=J aa;have an:Hid (Rdr T U g st cap ts q8):=r8;clear V aa r8 hx X aj av aq au
  go_wp2_with fail
  refine zag (fun W=>Below U.heap.size U W∧W.heap[U.heap.size]?=some (.cells #[.pointer (some ⟨bp,0,none⟩),.pointer (some ⟨b8,0,none⟩)] 93 (0,0))) ⟨(Yb _ _).alloc (Ya _) _,Yd _ _⟩ ?_;rintro W9 ⟨E,r9⟩;have a7:=E.size;refine(za9 (bs2:=[bp,b8]) (l2:=[t,t8]) (S2:=fun j=>(w.heap.size<=j∧j<wr.heap.size)∨(W7.heap.size<=j∧j<U.heap.size)) (an.out.low E) M (aT.out.below E) (zkr r9) (fun h=>by cases h) (PsAt.two (aI.out.keep (fun _ h=>.inl h) fun j I=>E.block j (by omega)) (aQ.out.keep (fun _ h=>.inr h) fun j I=>E.block j I.2)) (fun j I=>by
   rcases I with I|I
   ·exact⟨I.1,by omega,by omega,fun e=>by cases e⟩
   ·exact⟨by omega,by omega,by omega,fun e=>by cases e⟩) (by simp)).mono ?_
  rintro e az ⟨rfl,⟨a2,aK⟩,b10⟩;have ax:Hid _:=aK;have aw:=J (zaw (zab aJ (zae E)) b10);have ah:Hid (Rdr T az g st cap ts q8):=(an.out.low E).below M b10;clear aK b10 E r9 aT aJ aI aQ an
  by_cases h2:l=2
  ·have a1:((l:Int) == 2)=true:=by rw[h2];rfl
   have A:Hid (PtP T w g st cap ts r (.returned (.pointer (some ⟨W4.heap.size,0,none⟩))) az):=zbq aw ((if_pos h2).symm.trans ae) ax.out.fin ah;clear ae ax aw ah F K;subst h2
   go_wp2
   go_ret
   exact A
  have a1:((l:Int) == 2)=false:=by rw[beq_eq_false_iff_ne];omega
  have aZ:Hid _:=(if_neg h2).symm.trans ae;clear ae
  go_wp2
  exact⟨⟨W4.heap.size,_,q8,m,rfl,ax.out.fin,aw.out,ah.out,aZ.out,by omega⟩,by rw[ah.out.pos,aY.out];omega⟩
theorem zgo (n:Nat):ExpC ts T g st cap n:=by
 induction n using Nat.strongRecOn with
 | ind n ih=>
  cases n with
  | zero=>exact⟨fun _ _ _ _ _ h=>absurd rfl h,fun _ _ _ h=>absurd rfl h,fun _ _ _ h=>absurd rfl h,fun _ _ _ h=>absurd rfl h⟩
  | succ n=>
   have h:∀ m,m<=n->ExpC ts T g st cap m:=fun m C=>ih m (by omega);exact⟨fun w l p A hR y=>zvv h l A hR y,fun w p hR y=>zvt (h n (Ya _)) hR y,fun w p hR y=>zr3 h hR y,fun w p hR y=>zr0 (h n (Ya _)) hR y⟩
end
section
variable {T:Nat}{w:World}{g:Nat}{st:Option Addr}{cap:Nat}{ts:List Tok}{p:Nat}
theorem zhw (n:Nat)(hR:Rdr T w g st cap ts p)(ho:varP ts (fns ts n) p≠.out):Calls Tryz.prog 108 #[.pointer (some ⟨g,0,none⟩)] w (PtP T w g st cap ts (varP ts (fns ts n) p)):=by
 have av:=J hR;have K:=hR.hT;have af:=hR.hg;have ar:Hid (w.grownBy w (some g)):=zby _ _;clear hR;obtain⟨r,hX⟩:∃ r,varP ts (fns ts n) p=r:=⟨_,rfl⟩;rw[hX] at ho ⊢;have ac:=J hX;have HO:=J ho;clear hX ho;unfold varP at ac
 go_enter Tryz.func108,Tryz.ntmps108
 go_wp2_with fail
 refine(zbp 4 av).mono ?_;rintro e W1 ⟨ay,rfl,E,C⟩;have az:Hid (Mk w.heap.size W1 ay 4 ⟨#[]⟩ 0 (herI ts p) (herI ts p) 0 (.slice none 0 0) []):=E.mono ar.out.size;have ao:=J (zab ar (zae C));have aq:=J (av.out.low C);clear E C ar av
 go_wp2_with fail
 refine(zbh ⟨#[118,97,114]⟩ (by simp) aq.out).mono ?_;rintro e W2 ⟨A,aW⟩;have y:(if isT ts p [118,97,114] then e=.returned (.tuple #[])∧Rdr T W2 g st cap ts (p+1) else e=wroE (herI ts p)):=aW;clear aW;obtain⟨M,F⟩:∃ M,isT ts p [118,97,114]=M:=⟨_,rfl⟩;rw[F] at y
 cases M
 ·simp only[Bool.false_eq_true,if_false] at y;subst y;have V:Hid (PtP T w g st cap ts r (wroE (herI ts p)) W2):=zap (zab ao A) (zdy F ac);clear ao aq ac az;unfold wroE
  go_wp2
  exact⟨rfl,V.out⟩
 simp only[if_true] at y;obtain⟨rfl,D⟩:=y;have ak:Hid _:=zc3 F ac;have ah:=J (zab ao A);have aw:=J (az.out.grow (Yg af K) A);have ap:Hid (Rdr T W2 g st cap ts (p+1)):=D;clear A D F ac aq ao az
 go_wp2_with fail
 refine(zdx ap).mono ?_;rintro e W4 ⟨A,y⟩;obtain⟨M,F⟩:∃ M,namB ts (p+1)=M:=⟨_,rfl⟩;rw[F] at y
 cases M
 ·simp only[Bool.false_eq_true,if_false] at y;subst y;have V:Hid (PtP T w g st cap ts r (wroE (herI ts (p+1))) W4):=zap (zab ah A) (zf0 F ak);clear ah ap ak aw;unfold wroE
  go_wp2
  exact⟨rfl,V.out⟩
 simp only[if_true] at y;obtain⟨rfl,D⟩:=y;have aj:Hid _:=zel F ak;have aD:=J (zab ah A);have aB:=J (aw.out.grow (Yg af K) A);have aE:Hid (Rdr T W4 g st cap ts ((p+1)+1)):=D;clear A D F ak ap ah aw
 go_wp2_with fail
 refine(zc7 (nxT ts (p+1)) aB.out).mono ?_;rintro e W6 ⟨rfl,E,C⟩;have an:=J E;have ae:=J (zaw aD C);have al:=J (aE.out.below K C);clear E C aB aD aE;have ai:Hid ((ay<W6.heap.size∧∀ q,((.slice none 0 0):Value).ownBlock=some q->q<W6.heap.size)∧w.heap.size<=W6.heap.size∧g<W6.heap.size):=⟨an.out.at,ae.out.size,al.out.lt⟩
 go_wp2_with fail
 refine(zh7 al).mono ?_;rintro e W8 ⟨A,y⟩;rcases hx:typP ts ((p+1)+1) with⟨t8,q8⟩ | s8|_
 rotate_left
 ·rw[hx] at y;have au:e=wroE s8:=y;subst au;have V:Hid (PtP T w g st cap ts r (wroE (s8)) W8):=zap (zab ae A) (zat hx aj);clear ae al aj an ai;unfold wroE
  go_wp2
  exact⟨rfl,V.out⟩
 ·rw[hx] at y;exact y.elim
 rw[hx] at y;obtain⟨aI,rfl,ab,D⟩:=y;have ag:Hid _:=za7 hx aj;have bm:=A.size;have aU:=J (zab ae A);have aA:=J (an.out.grow (Yg af K) A);have aG:=J ab;have aC:Hid (Rdr T W8 g st cap ts q8):=D;clear A D ab hx aj al ae an
 go_wp2_with fail
 refine zag (fun W=>Below W8.heap.size W8 W∧W.heap[W8.heap.size]?=some (.cells #[.pointer (some ⟨aI,0,none⟩)] 93 (0,0))) ⟨(Yb _ _).alloc (Ya _) _,Yd _ _⟩ ?_;rintro bi ⟨I,ra⟩;refine(zc6 (bs2:=[aI]) (l2:=[t8]) (S2:=fun j=>W6.heap.size<=j∧j<W8.heap.size) (aA.out.below I) (zar ra) (fun h=>by cases h) (PsAt.one (aG.out.low (Ya _) I)) (zcn ai.out.1 ai.out.2.1 I.size) (by simp)).mono ?_;rintro e a8 ⟨rfl,⟨aY,E⟩,C⟩;have aT:=J E;have aP:=J (zab aU (zae I));have aN:=J (aC.out.low I);have aO:=J (zaw aP C);have aQ:=J (aN.out.below K C);clear E C I ra aA ai aU aC aP aN aG
 go_wp2_with fail
 refine(zew ⟨#[61]⟩ (by simp) aQ.out).mono ?_;rintro e X ⟨he,A,D⟩;obtain⟨M,F⟩:∃ M,isT ts q8 [61]=M:=⟨_,rfl⟩;rw[show isT ts q8 (⟨#[61]⟩:ByteArray).data.toList=M from F] at he D;subst he;rw[F] at ag;have Y:=J (zab aO A);have Z:=J (aT.out.grow (Yg af K) A);clear A F aQ aO aT
 cases M
 rotate_left
 ·skip
  have U:Hid _:=zbe rfl ag;have N:Hid (Rdr T X g st cap ts (q8+1)):=D;clear D ag;have am:Hid ((ay<X.heap.size∧∀ q,(aY:Value).ownBlock=some q->q<X.heap.size)∧w.heap.size<=X.heap.size∧g<X.heap.size):=⟨Z.out.at,Y.out.size,N.out.lt⟩
  go_wp2_with fail
  refine(zfn (zgo n) N.out (za1 U HO)).mono ?_;rintro e aa ⟨A,y⟩;rcases hx:(fns ts n).bin 0 (q8+1) with⟨a0,aZ⟩ | s14|_
  rotate_left
  ·rw[hx] at y;have au:e=wroE s14:=y;subst au;have V:Hid (PtP T w g st cap ts r (wroE (s14)) aa):=zap (zab Y A) (zat hx U);clear Y N U Z am;unfold wroE
   go_wp2
   exact⟨rfl,V.out⟩
  ·rw[hx] at y;exact y.elim
  rw[hx] at y;obtain⟨aX,rfl,ab,D⟩:=y;have a5:Hid _:=za7 hx U;have a9:=A.size;have aR:=J (zab Y A);have aH:=J (Z.out.grow (Yg af K) A);have aM:=J ab;have aK:Hid (Rdr T aa g st cap ts aZ):=D;clear A D ab hx U N Y Z
  go_wp2_with fail
  refine zag (fun W=>Below aa.heap.size aa W∧W.heap[aa.heap.size]?=some (.cells #[.pointer (some ⟨aX,0,none⟩)] 93 (0,0))) ⟨(Yb _ _).alloc (Ya _) _,Yd _ _⟩ ?_;rintro bj ⟨I,ra⟩;refine(zc6 (bs2:=[aX]) (l2:=[a0]) (S2:=fun j=>X.heap.size<=j∧j<aa.heap.size) (aH.out.below I) (zar ra) (fun h=>by cases h) (PsAt.one (aM.out.low (Ya _) I)) (zcn am.out.1 am.out.2.1 I.size) (by simp)).mono ?_;rintro e bc ⟨rfl,⟨bf,E⟩,C⟩;have aV:=J E;have aL:=J (zab aR (zae I));have aF:=J (aK.out.low I);have aJ:=J (zaw aL C);have ax:=J (aF.out.below K C);clear E C I ra aH am aR aK aL aF aM
  go_wp2_with fail
  refine(za9 (bs2:=[]) (l2:=[]) (S2:=fun _=>False) ax.out K aV RowsAt.none (fun _=>⟨rfl,rfl⟩) (PsAt.nil _ _) (fun _ h=>h.elim) (by simp)).mono ?_;rintro e be ⟨rfl,⟨bh,E⟩,C⟩;have a4:=J E;have a3:=J (zaw aJ C);have a2:=J (ax.out.below K C);clear E C aV aJ ax
  go_wp2
  go_ret
  exact zbq a3 a5 a4.out.fin a2
 have U:Hid _:=zb1 rfl ag;have N:Hid (Rdr T X g st cap ts q8):=D;clear D ag
 go_wp2_with fail
 refine(za9 (bs2:=[]) (l2:=[]) (S2:=fun _=>False) N.out K Z RowsAt.none (fun _=>⟨rfl,rfl⟩) (PsAt.nil _ _) (fun _ h=>h.elim) (by simp)).mono ?_;rintro e bk ⟨rfl,⟨bl,E⟩,C⟩;have a1:=J E;have a7:=J (zaw Y C);have a6:=J (N.out.below K C);clear E C Z Y N
 go_wp2
 go_ret
 exact zbq a7 U a1.out.fin a6
theorem zr5 (n:Nat)(hR:Rdr T w g st cap ts p)(ho:shoP ts (fns ts n) p≠.out):Calls Tryz.prog 171 #[.pointer (some ⟨g,0,none⟩)] w (PtP T w g st cap ts (shoP ts (fns ts n) p)):=by
 have ah:=J hR;have N:=hR.hT;have ak:=hR.hg;have an:Hid (w.grownBy w (some g)):=zby _ _;clear hR;obtain⟨r,hX⟩:∃ r,shoP ts (fns ts n) p=r:=⟨_,rfl⟩;rw[hX] at ho ⊢;have X:=J hX;have HO:=J ho;clear hX ho;unfold shoP at X
 go_enter Tryz.func171,Tryz.ntmps171
 go_wp2_with fail
 refine(zbp 17 ah).mono ?_;rintro e W1 ⟨aB,rfl,F,C⟩;have ao:Hid (Mk w.heap.size W1 aB 17 ⟨#[]⟩ 0 (herI ts p) (herI ts p) 0 (.slice none 0 0) []):=F.mono an.out.size;have ag:=J (zab an (zae C));have am:=J (ah.out.low C);clear F C an ah
 go_wp2_with fail
 refine(zdx am).mono ?_;rintro e W2 ⟨A,y⟩;obtain⟨M,D⟩:∃ M,namB ts p=M:=⟨_,rfl⟩;rw[D] at y
 cases M
 ·simp only[Bool.false_eq_true,if_false] at y;subst y;have Y:Hid (PtP T w g st cap ts r (wroE (herI ts p)) W2):=zap (zab ag A) (zf0 D X);clear ag am X ao;unfold wroE
  go_wp2
  exact⟨rfl,Y.out⟩
 simp only[if_true] at y;obtain⟨rfl,E⟩:=y;have aa:Hid _:=zel D X;have au:=J (zab ag A);have ar:=J (ao.out.grow (Yg ak N) A);have aw:Hid (Rdr T W2 g st cap ts (p+1)):=E;clear A E D X am ag ao
 go_wp2_with fail
 refine(zc7 (nxT ts p) ar.out).mono ?_;rintro e W4 ⟨rfl,F,C⟩;have aj:=J F;have ac:=J (zaw au C);have ai:=J (aw.out.below N C);clear F C ar au aw
 go_wp2_with fail
 refine(zbh ⟨#[58,61]⟩ (by simp) ai.out).mono ?_;rintro e I ⟨A,aC⟩;have y:(if isT ts (p+1) [58,61] then e=.returned (.tuple #[])∧Rdr T I g st cap ts ((p+1)+1) else e=wroE (herI ts (p+1))):=aC;clear aC;obtain⟨M,D⟩:∃ M,isT ts (p+1) [58,61]=M:=⟨_,rfl⟩;rw[D] at y
 cases M
 ·simp only[Bool.false_eq_true,if_false] at y;subst y;have Y:Hid (PtP T w g st cap ts r (wroE (herI ts (p+1))) I):=zap (zab ac A) (zdy D aa);clear ac ai aa aj;unfold wroE
  go_wp2
  exact⟨rfl,Y.out⟩
 simp only[if_true] at y;obtain⟨rfl,E⟩:=y;have V:Hid _:=zc3 D aa;have Z:=J (zab ac A);have ae:=J (aj.out.grow (Yg ak N) A);have af:Hid (Rdr T I g st cap ts ((p+1)+1)):=E;clear A E D aa ai ac aj;have ab:Hid ((aB<I.heap.size∧∀ q,((.slice none 0 0):Value).ownBlock=some q->q<I.heap.size)∧w.heap.size<=I.heap.size∧g<I.heap.size):=⟨ae.out.at,Z.out.size,af.out.lt⟩
 go_wp2_with fail
 refine(zfn (zgo n) af.out (za1 V HO)).mono ?_;rintro e U ⟨A,y⟩;rcases hx:(fns ts n).bin 0 ((p+1)+1) with⟨t8,q8⟩ | s8|_
 rotate_left
 ·rw[hx] at y;have aD:e=wroE s8:=y;subst aD;have Y:Hid (PtP T w g st cap ts r (wroE (s8)) U):=zap (zab Z A) (zat hx V);clear Z af V ae ab;unfold wroE
  go_wp2
  exact⟨rfl,Y.out⟩
 ·rw[hx] at y;exact y.elim
 rw[hx] at y;obtain⟨av,rfl,az,E⟩:=y;have aH:Hid _:=za7 hx V;have aK:=A.size;have aA:=J (zab Z A);have aq:=J (ae.out.grow (Yg ak N) A);have ap:=J az;have al:Hid (Rdr T U g st cap ts q8):=E;clear A E az hx V af Z ae
 go_wp2_with fail
 refine zag (fun W=>Below U.heap.size U W∧W.heap[U.heap.size]?=some (.cells #[.pointer (some ⟨av,0,none⟩)] 93 (0,0))) ⟨(Yb _ _).alloc (Ya _) _,Yd _ _⟩ ?_;rintro aL ⟨K,ra⟩;refine(za9 (bs2:=[av]) (l2:=[t8]) (S2:=fun j=>I.heap.size<=j∧j<U.heap.size) (al.out.low K) N (aq.out.below K) (zar ra) (fun h=>by cases h) (PsAt.one (ap.out.low (Ya _) K)) (zcn ab.out.1 ab.out.2.1 K.size) (by simp)).mono ?_;rintro e aI ⟨rfl,⟨aJ,F⟩,C⟩;have aG:=J F;have ay:=J (zab aA (zae K));have ax:=J (al.out.low K);have aE:=J (zaw ay C);have aF:=J (ax.out.below N C);clear F C K ra aq ab aA al ay ax ap
 go_wp2
 go_ret
 exact zbq aE aH aG.out.fin aF
theorem zjn (n:Nat)(hR:Rdr T w g st cap ts p)(ho:simP ts (fns ts n) p≠.out):Calls Tryz.prog 172 #[.pointer (some ⟨g,0,none⟩)] w (PtP T w g st cap ts (simP ts (fns ts n) p)):=by
 have ar:=J hR;have I:=hR.hT;have au:=hR.hg;have ao:Hid (w.grownBy w (some g)):=zby _ _;clear hR;obtain⟨r,hX⟩:∃ r,simP ts (fns ts n) p=r:=⟨_,rfl⟩;rw[hX] at ho ⊢;have U:=J hX;have HO:=J ho;clear hX ho;unfold simP at U
 go_enter Tryz.func172,Tryz.ntmps172
 go_wp2_with fail
 refine(zbp 19 ar).mono ?_;rintro e W1 ⟨am,rfl,C,y⟩;have an:Hid (Mk w.heap.size W1 am 19 ⟨#[]⟩ 0 (herI ts p) (herI ts p) 0 (.slice none 0 0) []):=C.mono ao.out.size;have ae:=J (zab ao (zae y));have ag:=J (ar.out.low y);clear C y ao ar;have aj:Hid ((am<W1.heap.size∧∀ q,((.slice none 0 0):Value).ownBlock=some q->q<W1.heap.size)∧w.heap.size<=W1.heap.size∧g<W1.heap.size):=⟨an.out.at,ae.out.size,ag.out.lt⟩
 go_wp2_with fail
 refine(zfn (zgo n) ag.out (za1 U HO)).mono ?_;rintro e V ⟨A,D⟩;rcases hx:(fns ts n).bin 0 p with⟨t2,M⟩ | s2|_
 rotate_left
 ·rw[hx] at D;have aq:e=wroE s2:=D;subst aq;have HP:Hid (PtP T w g st cap ts r (wroE (s2)) V):=zap (zab ae A) (zat hx U);clear ae ag U an aj;unfold wroE
  go_wp2
  exact⟨rfl,HP.out⟩
 ·rw[hx] at D;exact D.elim
 rw[hx] at D;obtain⟨aD,rfl,Z,F⟩:=D;have ab:Hid _:=za7 hx U;have a3:=A.size;have az:=J (zab ae A);have aH:=J (an.out.grow (Yg au I) A);have aA:=J Z;have aB:Hid (Rdr T V g st cap ts M):=F;clear A F Z hx U ag ae an
 go_wp2_with fail
 refine zag (fun W=>Below V.heap.size V W∧W.heap[V.heap.size]?=some (.cells #[.pointer (some ⟨aD,0,none⟩)] 93 (0,0))) ⟨(Yb _ _).alloc (Ya _) _,Yd _ _⟩ ?_;rintro a1 ⟨E,Y⟩;refine(zc6 (bs2:=[aD]) (l2:=[t2]) (S2:=fun j=>W1.heap.size<=j∧j<V.heap.size) (aH.out.below E) (zar Y) (fun h=>by cases h) (PsAt.one (aA.out.low (Ya _) E)) (zcn aj.out.1 aj.out.2.1 E.size) (by simp)).mono ?_;rintro e W4 ⟨rfl,⟨v4,C⟩,y⟩;have aI:=J C;have aE:=J (zab az (zae E));have aR:=J (aB.out.low E);have aC:=J (zaw aE y);have ax:=J (aR.out.below I y);clear C y E Y aH aj az aB aE aR aA
 go_wp2_with fail
 refine(zew ⟨#[61]⟩ (by simp) ax.out).mono ?_;rintro e W6 ⟨he,A,F⟩;obtain⟨bb,hb⟩:∃ bb,isT ts M [61]=bb:=⟨_,rfl⟩;rw[show isT ts M (⟨#[61]⟩:ByteArray).data.toList=bb from hb] at he F;subst he;rw[hb] at ab;have ah:=J (zab aC A);have ak:=J (aI.out.grow (Yg au I) A);clear A hb ax aC aI
 cases bb
 rotate_left
 ·skip
  have K:Hid _:=zbe rfl ab;have X:Hid (Rdr T W6 g st cap ts (M+1)):=F;clear F ab;obtain⟨ac,b0,c0,z0⟩:=ak.out.kind 18;have ay:Hid _:=ac;have ap:Hid _:=b0;clear ac b0
  go_wp2_with fail
  refine zag (fun W=>(Mk w.heap.size W am 18 ⟨#[]⟩ 0 (herI ts p) (herI ts p) 0 v4 ([]++[t2]))∧w.grownBy W (some g)∧Rdr T W g st cap ts (M+1)) ⟨ay.out,zaw ah.out ap.out,X.out.below I ap.out⟩ ?_;clear ay ap c0 z0 ak ah X;rintro W8 ⟨ac,aO,aK⟩;have al:=J ac;have aa:=J aO;have af:=J aK;clear ac aO aK;have ai:Hid ((am<W8.heap.size∧∀ q,(v4:Value).ownBlock=some q->q<W8.heap.size)∧w.heap.size<=W8.heap.size∧g<W8.heap.size):=⟨al.out.at,aa.out.size,af.out.lt⟩;refine(zfn (zgo n) af.out (za1 K HO)).mono ?_;rintro e N ⟨A,D⟩;rcases hx:(fns ts n).bin 0 (M+1) with⟨t9,q9⟩ | s9|_
  rotate_left
  ·rw[hx] at D;have aq:e=wroE s9:=D;subst aq;have HP:Hid (PtP T w g st cap ts r (wroE (s9)) N):=zap (zab aa A) (zat hx K);clear aa af K al ai;unfold wroE
   go_wp2
   exact⟨rfl,HP.out⟩
  ·rw[hx] at D;exact D.elim
  rw[hx] at D;obtain⟨aJ,rfl,Z,F⟩:=D;have aX:Hid _:=za7 hx K;have a6:=A.size;have aN:=J (zab aa A);have aP:=J (al.out.grow (Yg au I) A);have aF:=J Z;have aw:Hid (Rdr T N g st cap ts q9):=F;clear A F Z hx K af aa al
  go_wp2_with fail
  refine zag (fun W=>Below N.heap.size N W∧W.heap[N.heap.size]?=some (.cells #[.pointer (some ⟨aJ,0,none⟩)] 93 (0,0))) ⟨(Yb _ _).alloc (Ya _) _,Yd _ _⟩ ?_;rintro a9 ⟨E,Y⟩;refine(zc6 (bs2:=[aJ]) (l2:=[t9]) (S2:=fun j=>W8.heap.size<=j∧j<N.heap.size) (aP.out.below E) (zar Y) (fun h=>by cases h) (PsAt.one (aF.out.low (Ya _) E)) (zcn ai.out.1 ai.out.2.1 E.size) (by simp)).mono ?_;rintro e a2 ⟨rfl,⟨a0,C⟩,y⟩;have aG:=J C;have aM:=J (zab aN (zae E));have aQ:=J (aw.out.low E);have aL:=J (zaw aM y);have av:=J (aQ.out.below I y);clear C y E Y aP ai aN aw aM aQ aF
  go_wp2_with fail
  refine(za9 (bs2:=[]) (l2:=[]) (S2:=fun _=>False) av.out I aG RowsAt.none (fun _=>⟨rfl,rfl⟩) (PsAt.nil _ _) (fun _ h=>h.elim) (by simp)).mono ?_;rintro e a7 ⟨rfl,⟨a5,C⟩,y⟩;have aU:=J C;have aY:=J (zaw aL y);have aW:=J (av.out.below I y);clear C y aG aL av
  go_wp2
  go_ret
  exact zbq aY aX aU.out.fin aW
 have K:Hid _:=zb1 rfl ab;have X:Hid (Rdr T W6 g st cap ts M):=F;clear F ab
 go_wp2_with fail
 refine(za9 (bs2:=[]) (l2:=[]) (S2:=fun _=>False) X.out I ak RowsAt.none (fun _=>⟨rfl,rfl⟩) (PsAt.nil _ _) (fun _ h=>h.elim) (by simp)).mono ?_;rintro e a4 ⟨rfl,⟨a8,C⟩,y⟩;have aV:=J C;have aZ:=J (zaw ah y);have aT:=J (X.out.below I y);clear C y ak ah X
 go_wp2
 go_ret
 exact zbq aZ K aV.out.fin aT
theorem zpy (n:Nat)(hR:Rdr T w g st cap ts p)(ho:resP ts (fns ts n) p≠.out):Calls Tryz.prog 170 #[.pointer (some ⟨g,0,none⟩)] w (PtP T w g st cap ts (resP ts (fns ts n) p)):=by
 have am:=J hR;have E:=hR.hT;have ag:=hR.hg;have al:Hid (w.grownBy w (some g)):=zby _ _;clear hR;obtain⟨r,hX⟩:∃ r,resP ts (fns ts n) p=r:=⟨_,rfl⟩;rw[hX] at ho ⊢;have ab:=J hX;have HO:=J ho;clear hX ho;unfold resP at ab
 go_enter Tryz.func170,Tryz.ntmps170
 have aZ:∀ (a b c:Value) (W:World),(Instr.field 38 (.agg #[a,b,c]) 0).run Tryz.prog W=.ok a W:=fun _ _ _ _=>rfl
 go_wp2_with fail
 refine(zbp 16 am).mono ?_;rintro e W1 ⟨aC,rfl,C,y⟩;have an:Hid (Mk w.heap.size W1 aC 16 ⟨#[]⟩ 0 (herI ts p) (herI ts p) 0 (.slice none 0 0) []):=C.mono al.out.size;have ah:=J (zab al (zae y));have ak:=J (am.out.low y);clear C y al am
 go_wp2_with fail
 refine(zbh ⟨#[114,101,116,117,114,110]⟩ (by simp) ak.out).mono ?_;rintro e W2 ⟨A,aD⟩;have D:(if isT ts p [114,101,116,117,114,110] then e=.returned (.tuple #[])∧Rdr T W2 g st cap ts (p+1) else e=wroE (herI ts p)):=aD;clear aD;obtain⟨K,I⟩:∃ K,isT ts p [114,101,116,117,114,110]=K:=⟨_,rfl⟩;rw[I] at D
 cases K
 ·simp only[Bool.false_eq_true,if_false] at D;subst D;have HP:Hid (PtP T w g st cap ts r (wroE (herI ts p)) W2):=zap (zab ah A) (zdy I ab);clear ah ak ab an;unfold wroE
  go_wp2
  exact⟨rfl,HP.out⟩
 simp only[if_true] at D;obtain⟨rfl,r1⟩:=D;have F:Hid _:=zc3 I ab;have ao:=J (zab ah A);have aw:=J (an.out.grow (Yg ag E) A);have aj:Hid (Rdr T W2 g st cap ts (p+1)):=r1;clear A r1 I ab ak ah an
 go_wp2_with fail
 refine(zdw aj).mono ?_;rintro e W4 ⟨rfl,y⟩;have A:W2.grownBy W4 (some g):=zae y;have Y:=J (aj.out.low y);have ae:=J (zab ao A);have ac:=J (aw.out.grow (Yg ag E) A);clear A y aj ao aw;unfold Tok.cells
 by_cases hk5:(nxT ts (p+1)).kind=5
 ·have aF:((nxT ts (p+1)).kind != 5)=false:=by rw[hk5];rfl
  have aa:((nxT ts (p+1)).kind == 5)=true:=by rw[hk5];rfl
  rw[aa] at F;have aG:Hid _:=zb1 (by rfl) F.out;clear F aa
  go_wp2_with fail
  refine(za9 (bs2:=[]) (l2:=[]) (S2:=fun _=>False) Y.out E ac RowsAt.none (fun _=>⟨rfl,rfl⟩) (PsAt.nil _ _) (fun _ h=>h.elim) (by simp)).mono ?_;rintro e W6 ⟨rfl,⟨v6,C⟩,y⟩;have aN:=J C;have aI:=J (zaw ae y);have aK:=J (Y.out.below E y);clear C y ac ae Y
  go_wp2
  go_ret
  exact zbq aI aG aN.out.fin aK
 have aF:((nxT ts (p+1)).kind != 5)=true:=by rw[bne,beq_eq_false_iff_ne.2 hk5];rfl
 have aa:((nxT ts (p+1)).kind == 5)=false:=by rw[beq_eq_false_iff_ne];exact hk5
 rw[aa] at F;clear aa
 go_wp2_with fail
 refine(ze9 ⟨#[125]⟩ Y.out).mono ?_;rintro e W8 ⟨he,y⟩;obtain⟨K,I⟩:∃ K,isT ts (p+1) [125]=K:=⟨_,rfl⟩;rw[show isT ts (p+1) (⟨#[125]⟩:ByteArray).data.toList=K from I] at he;subst he;rw[I] at F;have A:W4.grownBy W8 (some g):=zae y;have M:=J (Y.out.low y);have N:=J (zab ae A);have X:=J (ac.out.grow (Yg ag E) A);clear A y I Y ae ac
 cases K
 ·have U:Hid _:=zbe (by rfl) F.out;clear F;have af:Hid ((aC<W8.heap.size∧∀ q,((.slice none 0 0):Value).ownBlock=some q->q<W8.heap.size)∧w.heap.size<=W8.heap.size∧g<W8.heap.size):=⟨X.out.at,N.out.size,M.out.lt⟩
  go_wp2_with fail
  refine(zfn (zgo n) M.out (za1 U HO)).mono ?_;rintro e V ⟨A,D⟩;rcases hx:(fns ts n).bin 0 (p+1) with⟨aH,aE⟩ | s10|_
  rotate_left
  ·rw[hx] at D;have aJ:e=wroE s10:=D;subst aJ;have HP:Hid (PtP T w g st cap ts r (wroE (s10)) V):=zap (zab N A) (zat hx U);clear N M U X af;unfold wroE
   go_wp2
   exact⟨rfl,HP.out⟩
  ·rw[hx] at D;exact D.elim
  rw[hx] at D;obtain⟨ax,rfl,au,r1⟩:=D;have aT:Hid _:=za7 hx U;have aY:=A.size;have az:=J (zab N A);have av:=J (X.out.grow (Yg ag E) A);have ap:=J au;have ar:Hid (Rdr T V g st cap ts aE):=r1;clear A r1 au hx U M N X
  go_wp2_with fail
  refine zag (fun W=>Below V.heap.size V W∧W.heap[V.heap.size]?=some (.cells #[.pointer (some ⟨ax,0,none⟩)] 93 (0,0))) ⟨(Yb _ _).alloc (Ya _) _,Yd _ _⟩ ?_;rintro aX ⟨Z,ra⟩;refine(zc6 (bs2:=[ax]) (l2:=[aH]) (S2:=fun j=>W8.heap.size<=j∧j<V.heap.size) (av.out.below Z) (zar ra) (fun h=>by cases h) (PsAt.one (ap.out.low (Ya _) Z)) (zcn af.out.1 af.out.2.1 Z.size) (by simp)).mono ?_;rintro e a0 ⟨rfl,⟨aV,C⟩,y⟩;have aB:=J C;have ay:=J (zab az (zae Z));have aq:=J (ar.out.low Z);have aA:=J (zaw ay y);have ai:=J (aq.out.below E y);clear C y Z ra av af az ar ay aq ap
  go_wp2_with fail
  refine(za9 (bs2:=[]) (l2:=[]) (S2:=fun _=>False) ai.out E aB RowsAt.none (fun _=>⟨rfl,rfl⟩) (PsAt.nil _ _) (fun _ h=>h.elim) (by simp)).mono ?_;rintro e a1 ⟨rfl,⟨a2,C⟩,y⟩;have aQ:=J C;have aO:=J (zaw aA y);have aM:=J (ai.out.below E y);clear C y aB aA ai
  go_wp2
  go_ret
  exact zbq aO aT aQ.out.fin aM
 have U:Hid _:=zb1 (by rfl) F.out;clear F
 go_wp2_with fail
 refine(za9 (bs2:=[]) (l2:=[]) (S2:=fun _=>False) M.out E X RowsAt.none (fun _=>⟨rfl,rfl⟩) (PsAt.nil _ _) (fun _ h=>h.elim) (by simp)).mono ?_;rintro e aU ⟨rfl,⟨aW,C⟩,y⟩;have aR:=J C;have aL:=J (zaw N y);have aP:=J (M.out.below E y);clear C y X N M
 go_wp2
 go_ret
 exact zbq aL U aR.out.fin aP
end
end Go.Proofs.YtmclgbkijeidaaaGreatDoor
