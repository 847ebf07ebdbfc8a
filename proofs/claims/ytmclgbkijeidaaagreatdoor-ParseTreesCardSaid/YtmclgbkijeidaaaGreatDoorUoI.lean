import Derived.Test.YtmclgbkijeidaaaGreatDoorUoH
import Derived.Test.YtmclgbkijeidaaaGreatDoorUoF
import Derived.Test.YtmclgbkijeidaaaGreatDoorUoC
namespace Go.Proofs.YtmclgbkijeidaaaGreatDoor
set_option maxRecDepth 100000
set_option maxHeartbeats 4000000
open Go.RowKit
structure Gth (w W:World) (v:Value) (l:List Pt):Prop where
 ex:∃ (bs:List Nat) (S:Nat->Prop),OwnP w.heap.size W v bs∧PsAt W S bs l∧∀ j,S j->w.heap.size<=j∧j<W.heap.size∧v.ownBlock≠some j
section
variable {w W W':World}{v:Value}{l:List Pt}{g:Nat}
theorem Gth.none (w W:World):Gth w W (.slice none 0 0) []:=⟨[],fun _=>False,zcz _ _,PsAt.nil _ _,fun _ h=>h.elim⟩
theorem Gth.grow (h:Gth w W v l)(hg:g<w.heap.size)(hw:W.grownBy W' (some g)):Gth w W' v l:=by
 obtain⟨E,S,A,F,C⟩:=h.ex;refine⟨E,S,A.keep fun q D=>hw.block q (A.lt D).2 (fun e=>by injection e with e;have:=(A.lt D).1;omega),F.keep (fun _ h=>h) fun j y=>hw.block j (C j y).2.1 (fun e=>by injection e with e;have:=(C j y).1;omega),fun j y=>?_⟩;obtain⟨a,b,c⟩:=C j y;exact⟨a,Yg b hw.size,c⟩
theorem Gth.own (h:Gth w W v l){q:Nat}(hq:v.ownBlock=some q):q<W.heap.size:=by
 obtain⟨A,S,y,-⟩:=h.ex;exact(y.lt hq).2
theorem Gth.first {b lo:Nat}{t:Pt}(h:PtAt W (fun j=>lo<=j∧j<W.heap.size) b t)(hlo:w.heap.size<=lo)(hw:w.heap.size<=W.heap.size):Gth w (W.alloc (.cells #[.pointer (some ⟨b,0,Option.none⟩)] 93)) (.slice (some ⟨W.heap.size,0,Option.none⟩) 1 1) [t]:=by
 refine⟨[b],fun j=>lo<=j∧j<W.heap.size,⟨rfl,.inr ⟨W.heap.size,1,_,rfl,hw,Yd _ _,Ya _,by decide,rfl,rfl⟩⟩,PsAt.one (h.keep (fun _ h=>h) fun j y=>Yn _ _ _ y.2),fun j y=>⟨by omega,by simp;omega,fun e=>?_⟩⟩;have A:W.heap.size=j:=by injection e
 omega
theorem Gth.add {b lo:Nat}{t:Pt}(h:Gth w W v l)(hk:PtAt W (fun j=>lo<=j∧j<W.heap.size) b t)(hlo:w.heap.size<=lo)(hv:∀ q,v.ownBlock=some q->q<lo)(hw:w.heap.size<=W.heap.size)(hl:l.length+1<=1000000) :
  ∃ s0 n0 c0 s1 n1 c1 W2,v=.slice s0 n0 c0∧(Builtin.append_ #[111,111] 111 #[v,.slice (some ⟨W.heap.size,0,Option.none⟩) 1 1]).run Tryz.prog (W.alloc (.cells #[.pointer (some ⟨b,0,Option.none⟩)] 93))=.ok (.slice s1 n1 c1) W2 ∧
   Gth w W2 (.slice s1 n1 c1) (l++[t])∧Below w.heap.size W W2:=by
 obtain⟨A,S,F,U,M⟩:=h.ex;obtain⟨s0,c0,rfl⟩:=OwnG.shape F;have C:Below W.heap.size W (W.alloc (.cells #[.pointer (some ⟨b,0,Option.none⟩)] 93)):=(Yb _ _).alloc (Ya _) _;have V:=Yd W (.cells #[.pointer (some ⟨b,0,Option.none⟩)] 93);have aa:(W.alloc (.cells #[.pointer (some ⟨b,0,Option.none⟩)] 93)).heap.size=W.heap.size+1:=by simp
 generalize W.alloc (.cells #[.pointer (some ⟨b,0,Option.none⟩)] 93)=X at C V aa ⊢;have k1:OwnP w.heap.size X (.slice s0 A.length c0) A:=F.below C;obtain⟨v',W2,ab,Y,E,D⟩:=zdn (ys:=[b]) (cap:=1) elP 111 k1 (fun e=>by cases e) (zar V) (by rw[U.1];exact hl) (by omega);obtain⟨s1,c1,rfl⟩:=OwnG.shape Y;have I:∀ j,j<W.heap.size->(Value.slice s0 A.length c0).ownBlock≠some j->W2.heap[j]?=W.heap[j]?:=fun j y K=>(E.block j (by omega) fun e=>K e.symm).trans (C.block j y);have Z:∀ j,j<W.heap.size->(Value.slice s0 A.length c0).ownBlock≠some j->(Value.slice s1 (A++[b]).length c1).ownBlock≠some j:=fun j y K e=>by
  rcases D with D|D
  ·exact K (D.symm.trans e)
  ·rw[D] at e;injection e with e;omega
 have N:∀ j,(lo<=j∧j<W.heap.size)->(Value.slice s0 A.length c0).ownBlock≠some j:=fun j y e=>by have:=hv j e;omega
 have ac:=E.size;refine⟨s0,_,c0,s1,_,c1,W2,rfl,ab,⟨A++[b],fun j=>S j∨(lo<=j∧j<W.heap.size),Y,PsAt.app (U.keep (fun _ h=>.inl h) fun j y=>I j (M j y).2.1 (M j y).2.2) (PsAt.one (hk.keep (fun _ h=>.inr h) fun j y=>I j y.2 (N j y))),?_⟩,?_⟩
 ·rintro j (y|y)
  ·obtain⟨q1,q2,q3⟩:=M j y;exact⟨q1,by omega,Z j q2 q3⟩
  ·exact⟨by omega,by omega,Z j y.2 (N j y)⟩
 ·exact⟨E.os.trans C.os,E.tape.trans C.tape,E.output.trans C.output,by omega,fun j y=>I j (by omega) fun e=>by have:=(F.lt e).1;omega⟩
theorem Gth.rows (h:Gth w W v l):∃ bs sp cp,v=.slice sp bs.length cp∧RowsP W sp bs∧(sp=Option.none->bs.length=0∧cp=0)∧PsAt W (fun j=>w.heap.size<=j∧j<W.heap.size) bs l:=by
 obtain⟨bs,S,E,F,A⟩:=h.ex;obtain⟨sp,cp,rfl,D,C,-⟩:=OwnG.rows elP E;exact⟨bs,sp,cp,rfl,D,C,F.keep (fun j y=>⟨(A j y).1,(A j y).2.1⟩) fun _ _=>rfl⟩
end
def LsP (T:Nat) (w:World) (g:Nat) (st:Option Addr) (cap:Nat) (ts:List Tok) (r:Rs (List Pt)) (e:Ending) (w':World):Prop :=
 w.grownBy w' (some g)∧match r with
 | .ok l q=>∃ bs sp cp,e=.returned (.slice sp bs.length cp)∧RowsP w' sp bs∧(sp=none->bs.length=0∧cp=0)∧PsAt w' (fun j=>w.heap.size<=j∧j<w'.heap.size) bs l∧l.length<=q∧Rdr T w' g st cap ts q
 | .bad s=>e=wroE s
 | .out=>False
theorem zf1 {T:Nat}{w W:World}{g:Nat}{st:Option Addr}{cap:Nat}{ts:List Tok}{r:Rs (List Pt)}{s:Int}(hG:w.grownBy W (some g))(hr:r=.bad s):LsP T w g st cap ts r (wroE s) W:=by subst hr;exact⟨hG,rfl⟩
theorem zrz {T:Nat}{w W:World}{g:Nat}{st:Option Addr}{cap:Nat}{ts:List Tok}{r:Rs (List Pt)}{l:List Pt}{q:Nat}{v:Value}(hG:w.grownBy W (some g))(hr:Rs.ok l q=r)(h:Gth w W v l)(hl:l.length<=q)(hR:Rdr T W g st cap ts q):LsP T w g st cap ts r (.returned v) W:=by
 subst hr;obtain⟨A,sp,C,rfl,y,E,D⟩:=h.rows;exact⟨hG,A,sp,C,rfl,y,E,D,hl,hR⟩
def posW (g:Nat) (w:World):Nat:=match w.cell? ⟨g,1,none⟩ with
 | some (.int _ n)=>n.toNat
 | _=>0
theorem Rdr.pos {T:Nat}{w:World}{g:Nat}{st:Option Addr}{cap:Nat}{ts:List Tok}{p:Nat}(h:Rdr T w g st cap ts p):posW g w=p:=by unfold posW;rw[h.c1];rfl
structure Rnd (ts:List Tok) (T:Nat) (g:Nat) (st:Option Addr) (cap:Nat) (F:Nat) (on:Nat->Nat->Rs Pt) (n k:Nat):Prop where
 call:∀ m,m<=n->∀ (W:World) (q:Nat),Rdr T W g st cap ts q->on m q≠.out->Calls Tryz.prog F #[.pointer (some ⟨g,0,none⟩)] W (PtP T W g st cap ts (on m q))
 adv:∀ m p t q,on m p=.ok t q->p+k<=q
theorem zkv {T:Nat}{w:World}{g:Nat}{st:Option Addr}{cap:Nat}{ts:List Tok}{p:Nat}(F:Nat)(on:Nat->Nat->Rs Pt)(mor:Nat->List Pt->Nat->Rs (List Pt))(n:Nat)
  (h0:∀ l q,mor 0 l q=.out) (h1:∀ m l q,mor (m+1) l q=if isT ts q [44] then(on m (q+1)).bind fun t q=>mor m (l++[t]) q else .ok l q) (hF:Rnd ts T g st cap F on n 0) (hcf:∀ args W,(callFunc F args).run Tryz.prog W=.ok (.enter F args) W)
  (hR:Rdr T w g st cap ts p) (ho:lisP ts (on n) (mor n) p≠.out):Calls Tryz.prog 139 #[.pointer (some ⟨g,0,none⟩),.func (Fn.func F) #[.pointer (some ⟨g,0,none⟩)] #[]] w (LsP T w g st cap ts (lisP ts (on n) (mor n) p)):=by
 have K:=J hF;have aa:=J h0;have ab:=J h1;have ar:=J hR;have hT:=hR.hT;have av:=hR.hg;have aQ:=hR.few;obtain⟨r,hX⟩:∃ r,lisP ts (on n) (mor n) p=r:=⟨_,rfl⟩;rw[hX] at ho ⊢;have ae:=J hX;have Z:=J ho;clear hX hR h0 h1 hF ho;unfold lisP at ae
 go_enter Tryz.func139,Tryz.ntmps139
 go_wp2_with fail
 refine(zbh ⟨#[40]⟩ (by simp) ar.out).mono ?_;rintro e W1 ⟨g1,ah⟩;have y:(if isT ts p [40] then e=.returned (.tuple #[])∧Rdr T W1 g st cap ts (p+1) else e=wroE (herI ts p)):=ah;clear ah;obtain⟨C,A⟩:∃ C,isT ts p [40]=C:=⟨_,rfl⟩;rw[A] at y
 cases C
 ·simp only[Bool.false_eq_true,if_false] at y;subst y;have D:Hid (LsP T w g st cap ts r (wroE (herI ts p)) W1):=zf1 g1 (zdy A ae);clear ae ar K aa ab Z;unfold wroE
  go_wp2
  exact⟨rfl,D.out⟩
 simp only[if_true] at y;obtain⟨rfl,r1⟩:=y;have ag:Hid _:=zc3 A ae;have aw:Hid (w.grownBy W1 (some g)):=g1;have ao:Hid (Rdr T W1 g st cap ts (p+1)):=r1;clear A g1 r1 ae ar
 go_wp2_with fail
 refine(zew ⟨#[41]⟩ (by simp) ao.out).mono ?_;rintro e W2 ⟨he,g2,r2⟩;obtain⟨C,A⟩:∃ C,isT ts (p+1) [41]=C:=⟨_,rfl⟩;rw[show isT ts (p+1) (⟨#[41]⟩:ByteArray).data.toList=C from A] at he r2;subst he;have Y:=J (zab aw g2);rw[A] at ag
 cases C
 rotate_left
 ·have D:Hid (LsP T w g st cap ts r (.returned (.slice none 0 0)) W2):=zrz Y (zbe rfl ag) (Gth.none w W2) (Yk _) r2;clear ag aw ao K aa ab Z g2 r2 Y
  go_wp2
  go_ret
  exact D
 have af:Hid _:=zb1 rfl ag;have am:Hid (Rdr T W2 g st cap ts (p+1)):=r2;clear ag aw ao g2 r2 A
 go_wp2_with fail
 refine(K.out.call n (Ya _) W2 _ am (za1 af Z)).mono ?_;rintro e W3 ⟨g3,y⟩;rcases hx:on n (p+1) with⟨t3,q3⟩ | s3|_
 rotate_left
 ·rw[hx] at y;have aq:e=wroE s3:=y;subst aq;have D:Hid (LsP T w g st cap ts r (wroE s3) W3):=zf1 (zab Y g3) (zat hx af);clear af am K aa ab Z Y;unfold wroE
  go_wp2
  exact⟨rfl,D.out⟩
 ·rw[hx] at y;exact y.elim
 rw[hx] at y;obtain⟨b3,rfl,ac,r3⟩:=y;have aI:=K.out.adv _ _ _ _ hx;have aE:Hid _:=za7 hx af;have al:=J (zab Y g3);have az:Hid (Gth w (W3.alloc (.cells #[.pointer (some ⟨b3,0,none⟩)] 93)) (.slice (some ⟨W3.heap.size,0,none⟩) 1 1) [t3]):=Gth.first ac Y.out.size al.out.size;have aA:Hid (Rdr T W3 g st cap ts q3):=r3;clear g3 ac r3 af am Y hx;obtain⟨X,ap⟩:∃ X,mor n [t3] q3=X:=⟨_,rfl⟩;have ak:Hid ((X.bind fun l q=>expP ts [41] q fun q=>.ok l q)=r):=by show _=_;rw[<-ap];exact aE
 have aC:=J ap;have aj:Hid (X≠.out):=za1 ak Z;clear ap aE Z
 go_wp2
 go_loopw [5] (fun v wr=>∃ (l:List Pt) (q m:Nat),Gth w wr v l∧w.grownBy wr (some g)∧Rdr T wr g st cap ts q∧mor m l q=X∧m<=n∧l.length<=q) (fun _ wr=>ts.length - posW g wr)
 case atStart=>exact⟨[t3],q3,n,az.out,zab al.out (zae ((Yb _ _).alloc (Ya _) _)),aA.out.low ((Yb _ _).alloc (Ya _) _),aC.out,Ya _,by simp;omega⟩
 case round=>
  obtain⟨l,q,m,ax,hG,hR,y,aP,aN⟩:=hrel;have ay:=J ax;have HG:=J hG;have HR:=J hR;have au:=J y;have aL:=hR.le;clear ax hG hR y az aA aC al aI
  cases m with
  | zero=>exact(aj (by rw[<-au.out,aa.out])).elim
  | succ m=>
  have aG:Hid (posW g wr=q):=HR.out.pos
  go_wp2_with fail
  refine(zew ⟨#[44]⟩ (by simp) HR.out).mono ?_;rintro e W4 ⟨he,g4,r4⟩;obtain⟨C,A⟩:∃ C,isT ts q [44]=C:=⟨_,rfl⟩;rw[show isT ts q (⟨#[44]⟩:ByteArray).data.toList=C from A] at he r4;subst he;have I:=J (zab HG g4);have V:=J (ay.out.grow (Yg av hT) g4);have ai:Hid ((if C then(on m (q+1)).bind fun t q=>mor m (l++[t]) q else .ok l q)=X):=by show _=_;rw[<-A,<-ab.out];exact au
  clear ay HG HR au g4
  cases C
  ·have E:Hid (expP ts [41] q (fun q=>Rs.ok l q)=r):=by
    show _=_;have h:=ak.out;rw[<-(zb1 rfl ai.out:Rs.ok l q=X)] at h;exact h
   have U:Hid (Rdr T W4 g st cap ts q):=r4;clear ai r4 A ak aj ab aa K
   go_wp2_with fail
   refine(zbh ⟨#[41]⟩ (by simp) U.out).mono ?_;rintro e W5 ⟨M,ah⟩;have y:(if isT ts q [41] then e=.returned (.tuple #[])∧Rdr T W5 g st cap ts (q+1) else e=wroE (herI ts q)):=ah;clear ah;obtain⟨C,A⟩:∃ C,isT ts q [41]=C:=⟨_,rfl⟩;rw[A] at y
   cases C
   ·simp only[Bool.false_eq_true,if_false] at y;subst y;have D:Hid (LsP T w g st cap ts r (wroE (herI ts q)) W5):=zf1 (zab I M) (zdy A E);clear E U I V;unfold wroE
    go_wp2
    exact⟨rfl,D.out⟩
   simp only[if_true] at y;obtain⟨rfl,N⟩:=y;have D:Hid (LsP T w g st cap ts r (.returned u5) W5):=zrz (zab I M) (zc3 A E) (V.out.grow (Yg av hT) M) (by omega) N;clear E U I V M N A
   go_wp2
   go_ret
   exact D
  have E:Hid _:=zbe rfl ai;have U:Hid (Rdr T W4 g st cap ts (q+1)):=r4;clear ai r4 A ab aa
  go_wp2_with fail
  refine(K.out.call m (by omega) W4 _ U (za1 E aj)).mono ?_;rintro e W5 ⟨M,y⟩;rcases hx:on m (q+1) with⟨t5,q5⟩ | s5|_
  rotate_left
  ·rw[hx] at y;have aq:e=wroE s5:=y;subst aq;have D:Hid (LsP T w g st cap ts r (wroE s5) W5):=zf1 (zab I M) (zat (zat hx E) ak.out);clear E U K aj I V;unfold wroE
   go_wp2
   exact⟨rfl,D.out⟩
  ·rw[hx] at y;exact y.elim
  rw[hx] at y;obtain⟨b5,rfl,ac,N⟩:=y;have aO:=K.out.adv _ _ _ _ hx;have aF:Hid _:=za7 hx E;have an:=J (zab I M);obtain⟨s0,n0,c0,s1,n1,c1,W6,rfl,aH,aB,b6⟩:=(V.out.grow (Yg av hT) M).add ac I.out.size (fun _ h=>V.out.own h) an.out.size (by have:=N.le;omega);have aJ:Hid _:=aB;have aK:=J (zaw an b6);have aD:Hid (Rdr T W6 g st cap ts q5):=N.below hT b6;have aM:=N.le;clear M ac N hx E aB b6 an U V I
  go_wp2_with (refine za8 (.tmp 15) (.tmp 18) 111 (by rfl) (by rfl) (by rfl) (by rfl) aH ?_)
  exact⟨⟨l++[t5],q5,m,aJ.out,aK.out,aD.out,aF.out,by omega,by simp;omega⟩,by rw[aD.out.pos,aG.out];omega⟩
theorem zlw {T:Nat}{w:World}{g:Nat}{st:Option Addr}{cap:Nat}{ts:List Tok}{p:Nat}(F:Nat)(on:Nat->Nat->Rs Pt)(mor:Nat->List Pt->Nat->Rs (List Pt))(n:Nat)
  (h0:∀ l q,mor 0 l q=.out) (h1:∀ m l q,mor (m+1) l q=if isT ts q [125] then .ok l q else(on m q).bind fun t q=>if isT ts q [125] then mor m (l++[t]) q else kinP ts 5 q fun _ q=>mor m (l++[t]) q) (hF:Rnd ts T g st cap F on n 1) (hcf:∀ args W,(callFunc F args).run Tryz.prog W=.ok (.enter F args) W)
  (hR:Rdr T w g st cap ts p) (ho:linP ts (mor n) p≠.out):Calls Tryz.prog 136 #[.pointer (some ⟨g,0,none⟩),.func (Fn.func F) #[.pointer (some ⟨g,0,none⟩)] #[]] w (LsP T w g st cap ts (linP ts (mor n) p)):=by
 have Z:=J hF;have ar:=J h0;have au:=J h1;have ao:=J hR;have X:=hR.hT;have ah:=hR.hg;have aT:=hR.few;obtain⟨r,hX⟩:∃ r,linP ts (mor n) p=r:=⟨_,rfl⟩;rw[hX] at ho ⊢;have ac:=J hX;have HO:=J ho;clear hX hR h0 h1 hF ho;unfold linP at ac
 go_enter Tryz.func136,Tryz.ntmps136
 go_wp2_with fail
 refine(zbh ⟨#[123]⟩ (by simp) ao.out).mono ?_;rintro e W1 ⟨g1,aj⟩;have y:(if isT ts p [123] then e=.returned (.tuple #[])∧Rdr T W1 g st cap ts (p+1) else e=wroE (herI ts p)):=aj;clear aj;obtain⟨C,A⟩:∃ C,isT ts p [123]=C:=⟨_,rfl⟩;rw[A] at y
 cases C
 ·simp only[Bool.false_eq_true,if_false] at y;subst y;have I:Hid (LsP T w g st cap ts r (wroE (herI ts p)) W1):=zf1 g1 (zdy A ac);clear ac ao Z ar au HO;unfold wroE
  go_wp2
  exact⟨rfl,I.out⟩
 simp only[if_true] at y;obtain⟨rfl,r1⟩:=y;have aE:Hid _:=zc3 A ac;have aG:Hid (w.grownBy W1 (some g)):=g1;have aA:Hid (Rdr T W1 g st cap ts (p+1)):=r1;clear A g1 r1 ac ao;obtain⟨V,an⟩:∃ V,mor n [] (p+1)=V:=⟨_,rfl⟩;have ai:Hid ((V.bind fun l q=>expP ts [125] q fun q=>.ok l q)=r):=by show _=_;rw[<-an];exact aE
 have aD:=J an;have ae:Hid (V≠.out):=za1 ai HO;clear an aE HO
 go_wp2
 go_loopw [5] (fun v wr=>∃ (l:List Pt) (q m:Nat),Gth w wr v l∧w.grownBy wr (some g)∧Rdr T wr g st cap ts q∧mor m l q=V∧m<=n∧l.length<=q) (fun _ wr=>ts.length - posW g wr)
 case atStart=>exact⟨[],p+1,n,Gth.none _ _,aG.out,aA.out,aD.out,Ya _,by simp⟩
 case round=>
  obtain⟨l,q,m,ax,hG,hR,y,aR,aP⟩:=hrel;have az:=J ax;have HG:=J hG;have HR:=J hR;have ap:=J y;have aM:=hR.le;clear ax hG hR y aA aD aG
  cases m with
  | zero=>exact(ae (by rw[<-ap.out,ar.out])).elim
  | succ m=>
  have av:Hid (posW g wr=q):=HR.out.pos
  go_wp2_with fail
  refine(ze9 ⟨#[125]⟩ HR.out).mono ?_;rintro e W4 ⟨he,b4⟩;obtain⟨C,A⟩:∃ C,isT ts q [125]=C:=⟨_,rfl⟩;rw[show isT ts q (⟨#[125]⟩:ByteArray).data.toList=C from A] at he;subst he;have E:=J (zab HG (zae b4));have U:=J (az.out.grow (Yg ah X) (zae b4));have Y:=J (HR.out.low b4);have ak:Hid ((if C then .ok l q else(on m q).bind fun t q=>if isT ts q [125] then mor m (l++[t]) q else kinP ts 5 q fun _ q=>mor m (l++[t]) q)=V):=by show _=_;rw[<-A,<-au.out];exact ap
  clear az HG HR ap b4 A au ar
  cases C
  rotate_left
  ·have D:Hid (expP ts [125] q (fun q=>Rs.ok l q)=r):=by
    show _=_;have h:=ai.out;rw[<-(zbe rfl ak.out:Rs.ok l q=V)] at h;exact h
   clear ak ai ae Z
   go_wp2_with fail
   refine(zbh ⟨#[125]⟩ (by simp) Y.out).mono ?_;rintro e W5 ⟨K,aj⟩;have y:(if isT ts q [125] then e=.returned (.tuple #[])∧Rdr T W5 g st cap ts (q+1) else e=wroE (herI ts q)):=aj;clear aj;obtain⟨C,A⟩:∃ C,isT ts q [125]=C:=⟨_,rfl⟩;rw[A] at y
   cases C
   ·simp only[Bool.false_eq_true,if_false] at y;subst y;have I:Hid (LsP T w g st cap ts r (wroE (herI ts q)) W5):=zf1 (zab E K) (zdy A D);clear D Y E U;unfold wroE
    go_wp2
    exact⟨rfl,I.out⟩
   simp only[if_true] at y;obtain⟨rfl,N⟩:=y;have I:Hid (LsP T w g st cap ts r (.returned u5) W5):=zrz (zab E K) (zc3 A D) (U.out.grow (Yg ah X) K) (by omega) N;clear D Y E U K N A
   go_wp2
   go_ret
   exact I
  have D:Hid _:=zb1 rfl ak;clear ak
  go_wp2_with fail
  refine(Z.out.call m (by omega) W4 _ Y (za1 D ae)).mono ?_;rintro e W5 ⟨K,y⟩;rcases hx:on m q with⟨t5,M⟩ | s5|_
  rotate_left
  ·rw[hx] at y;have aJ:e=wroE s5:=y;subst aJ;have I:Hid (LsP T w g st cap ts r (wroE s5) W5):=zf1 (zab E K) (zat (zat hx D) ai.out);clear D Y Z ae E U;unfold wroE
   go_wp2
   exact⟨rfl,I.out⟩
  ·rw[hx] at y;exact y.elim
  rw[hx] at y;obtain⟨b5,rfl,aB,N⟩:=y;have aQ:=Z.out.adv _ _ _ _ hx;have ab:Hid _:=za7 hx D;have am:=J (zab E K);obtain⟨s0,n0,c0,s1,n1,c1,W6,rfl,aw,aC,b6⟩:=(U.out.grow (Yg ah X) K).add aB E.out.size (fun _ h=>U.out.own h) am.out.size (by have:=N.le;omega);have aF:Hid _:=aC;have aH:=J (zaw am b6);have aq:Hid (Rdr T W6 g st cap ts M):=N.below X b6;have aN:=N.le;clear K aB N hx D aC b6 am Y U E
  go_wp2_with (refine za8 (.tmp 11) (.tmp 14) 111 (by rfl) (by rfl) (by rfl) (by rfl) aw ?_)
  refine(ze9 ⟨#[125]⟩ aq.out).mono ?_;rintro e W7 ⟨he,b7⟩;obtain⟨C,A⟩:∃ C,isT ts M [125]=C:=⟨_,rfl⟩;rw[show isT ts M (⟨#[125]⟩:ByteArray).data.toList=C from A] at he;subst he;rw[A] at ab;have af:=J (zab aH (zae b7));have al:=J (aF.out.grow (Yg ah X) (zae b7));have ag:=J (aq.out.low b7);clear aH aF aq b7 A aw
  cases C
  rotate_left
  ·have aa:Hid _:=zbe rfl ab;clear ab
   go_wp2
   exact⟨⟨l++[t5],M,m,al.out,af.out,ag.out,aa.out,by omega,by simp;omega⟩,by rw[ag.out.pos,av.out];omega⟩
  have aa:Hid _:=zb1 rfl ab;clear ab
  go_wp2_with fail
  refine(zg6 5 (by decide) ag.out).mono ?_;rintro e W8 ⟨g8,y⟩;obtain⟨C,A⟩:∃ C,((nxT ts M).kind == 5)=C:=⟨_,rfl⟩;rw[A] at y
  cases C
  ·simp only[Bool.false_eq_true,if_false] at y;subst y;have I:Hid (LsP T w g st cap ts r (wroE (herI ts M)) W8):=zf1 (zab af g8) (zat (zlv A aa) ai.out);clear aa ag Z ae af al;unfold wroE
   go_wp2
   exact⟨rfl,I.out⟩
  simp only[if_true] at y;obtain⟨rfl,r8⟩:=y;have aL:Hid _:=zim A aa;have aK:=J (zab af g8);have aI:=J (al.out.grow (Yg ah X) g8);have ay:Hid (Rdr T W8 g st cap ts (M+1)):=r8;have aO:=r8.le;clear aa af al ag g8 r8 A
  go_wp2
  exact⟨⟨l++[t5],M+1,m,aI.out,aK.out,ay.out,aL.out,by omega,by simp;omega⟩,by rw[ay.out.pos,av.out];omega⟩
theorem zg9 {s:ByteArray}{i:Nat}{l:List (List UInt8)}{x:List UInt8}(hi:rowsL[i]?=some l)(hx:x ∈ l)(h:(x == s.data.toList)=true):rowI s=i:=by
 have e:=eq_of_beq h;have A:∀ y:List UInt8,(s.data.toList == y)=(x == y):=fun y=>by rw[e]
 unfold rowI;simp only[A];clear h A
 match i,hi with
 | 0,hi=>cases hi;simp at hx;subst hx;rfl
 | 1,hi=>cases hi;simp at hx;subst hx;rfl
 | 2,hi=>cases hi;simp at hx;rcases hx with rfl | rfl | rfl | rfl | rfl | rfl <;> rfl
 | 3,hi=>cases hi;simp at hx;rcases hx with rfl | rfl <;> rfl
 | 4,hi=>cases hi;simp at hx;rcases hx with rfl | rfl | rfl <;> rfl
theorem zvs {s:ByteArray}(h:∀ (i:Nat)(l:List (List UInt8))(x:List UInt8),rowsL[i]?=some l->x ∈ l->(x == s.data.toList)=false):rowI s = -1:=by
 have y:∀ (i:Nat) (l:List (List UInt8)) (x:List UInt8),rowsL[i]?=some l->x ∈ l->(s.data.toList == x)=false:=fun i l x A C=>by
  have:=h i l x A C;rw[beq_eq_false_iff_ne] at this ⊢;exact fun e=>this e.symm
 unfold rowI;rw[y 0 _ [124,124] rfl (by simp),y 1 _ [38,38] rfl (by simp),y 2 _ [61,61] rfl (by simp),y 2 _ [33,61] rfl (by simp),y 2 _ [60] rfl (by simp),y 2 _ [60,61] rfl (by simp),y 2 _ [62] rfl (by simp),y 2 _ [62,61] rfl (by simp),
  y 3 _ [43] rfl (by simp),y 3 _ [45] rfl (by simp),y 4 _ [42] rfl (by simp),y 4 _ [47] rfl (by simp),y 4 _ [37] rfl (by simp)]
 rfl
theorem zm6 (s:ByteArray)(w:World)(hT:Tabl w):Calls Tryz.prog 167 #[.string s] w fun e w'=>e=.returned (.int .i64 (rowI s))∧Below w.heap.size w w':=by
 obtain⟨F,hF⟩:=hT;obtain⟨r0,q0⟩:=hF 0 _ rfl;obtain⟨r1,q1⟩:=hF 1 _ rfl;obtain⟨r2,q2⟩:=hF 2 _ rfl;obtain⟨r3,q3⟩:=hF 3 _ rfl;obtain⟨r4,q4⟩:=hF 4 _ rfl;have HT:Hid (∀ (i:Nat) (l:List (List UInt8)),rowsL[i]?=some l->∀ W,Below w.heap.size w W->∃ b o,(F i).1=some ⟨b,o,none⟩∧∀ u x,l[u]?=some x->∀ W,Below w.heap.size w W->W.cell? ⟨b,o+u,none⟩=some (.string (strU x))):=fun i l U W _=>by
  obtain⟨-,C⟩:=hF i l U;have ah:0<(l.map strU).length:=by
   match i,U with
   | 0,U=>cases U;decide
   | 1,U=>cases U;decide
   | 2,U=>cases U;decide
   | 3,U=>cases U;decide
   | 4,U=>cases U;decide
  obtain⟨b,o,e,hc⟩:=C ah;refine⟨b,o,e,fun u x A W' hb=>?_⟩;have h1:=hc u (strU x) (by rw[List.getElem?_map,A];rfl) 0 (.string (strU x)) rfl;rw[Nat.mul_one,Nat.add_zero] at h1;exact(hb.cell (block_lt_of_cell h1)).trans h1
 clear hF q0 q1 q2 q3 q4
 go_enter Tryz.func167,Tryz.ntmps167
 go_wp2
 go_loopw [8] (fun i wr=>∃ t:Nat,t<=5∧i=.int .i64 t∧Below w.heap.size w wr∧∀ (i:Nat) (l:List (List UInt8)) (x:List UInt8),i<t->rowsL[i]?=some l->x ∈ l->(x == s.data.toList)=false) (fun i _=>5 - (intOf i).toNat)
 case atStart=>exact⟨0,by omega,rfl,Yb _ _,fun i l x h=>by omega⟩
 case round=>
  obtain⟨t,ht,rfl,hB,ag⟩:=hrel;have HB:=J hB;have HN:=J ag;clear hB ag
  by_cases h5:t=5
  ·subst h5;have HR:Hid (rowI s = -1):=zvs fun i l x U A=>HN.out i l x (List.getElem?_eq_some_iff.1 U).1 U A;clear HN
   go_wp2
   go_ret
   exact⟨by rw[HR.out];rfl,HB.out⟩
  obtain rfl|rfl|rfl|rfl|rfl:t=0∨t=1∨t=2∨t=3∨t=4:=by omega
  ·obtain⟨b,o,ab,Z⟩:=HT.out 0 [[124,124]] rfl wr HB;have aa:∀ W,(Instr.index 172 (.agg #[.slice (F 0).1 1 (F 0).2,.slice (F 1).1 1 (F 1).2,.slice (F 2).1 6 (F 2).2,.slice (F 3).1 2 (F 3).2,.slice (F 4).1 3 (F 4).2]) (.int .i64 0)).run Tryz.prog W=.ok (.slice (F 0).1 1 (F 0).2) W:=fun _=>rfl;have ae:=J Z;rw[ab] at aa ⊢;clear Z
   go_wp2
   go_loopw [14] (fun i wr=>∃ u:Nat,u<=1∧i=.int .i64 u∧Below w.heap.size w wr∧∀ (k:Nat) (x:List UInt8),k<u->([[124,124]]:List (List UInt8))[k]?=some x->(x == s.data.toList)=false) (fun i _=>1 - (intOf i).toNat)
   case atStart=>exact⟨0,by omega,rfl,HB.out,fun k x h=>by omega⟩
   case round=>
    obtain⟨u,hu,rfl,Y,V⟩:=hrel;have M:=J Y;have E:=J V;clear Y V
    by_cases K:u<1
    ·have hd:decide ((u:Int)<1)=true:=by simp;omega
     obtain⟨x,A⟩:∃ x,([[124,124]]:List (List UInt8))[u]?=some x:=⟨_,Yh (by simpa using K)⟩;have c:=ae.out u x A wr M;have D:Hid (((strU x).toList == s.toList)=(x == s.data.toList)):=by show _=_;rw[zdv,ByteArray.toList_eq]
     cases C:(x == s.data.toList)
     ·rw[C] at D;have af:((strU x).toList == s.toList)=false:=D.out;have N:Hid (∀ (k:Nat) (y:List UInt8),k<u+1->([[124,124]]:List (List UInt8))[k]?=some y->(y == s.data.toList)=false):=fun k y hk I=>by
       by_cases hku:k<u
       ·exact E k y hku I
       ·obtain rfl:k=u:=by omega
        rw[A] at I;injection I with I;rw[<-I,C]
      clear A C D E
      go_wp2
      exact⟨⟨u+1,by omega,by go_num,M.out,N.out⟩,by simp[intOf];omega⟩
     ·rw[C] at D;have af:((strU x).toList == s.toList)=true:=D.out;have HR:Hid (rowI s=0):=zg9 (i:=0) (l:=[[124,124]]) rfl (Ym A) C;clear A C D E
      go_wp2
      go_ret
      exact⟨by rw[HR.out];rfl,M.out⟩
    ·have hd:decide ((u:Int)<1)=false:=by simp;omega
     have N:Hid (∀ (i:Nat) (l:List (List UInt8)) (x:List UInt8),i<0+1->rowsL[i]?=some l->x ∈ l->(x == s.data.toList)=false):=fun k l x hk K A=>by
      by_cases hki:k<0
      ·exact HN k l x hki K A
      ·obtain rfl:k=0:=by omega
       obtain rfl:[[124,124]]=l:=by injection K
       obtain⟨j,X,ac⟩:=List.getElem_of_mem A;exact E j x (by have:j<1:=X;omega) (by rw[Yh X,ac])
     clear HN E
     go_wp2
     exact⟨⟨0+1,by omega,by go_num,M.out,N.out⟩,by simp[intOf]⟩
  ·obtain⟨b,o,ab,Z⟩:=HT.out 1 [[38,38]] rfl wr HB;have aa:∀ W,(Instr.index 172 (.agg #[.slice (F 0).1 1 (F 0).2,.slice (F 1).1 1 (F 1).2,.slice (F 2).1 6 (F 2).2,.slice (F 3).1 2 (F 3).2,.slice (F 4).1 3 (F 4).2]) (.int .i64 1)).run Tryz.prog W=.ok (.slice (F 1).1 1 (F 1).2) W:=fun _=>rfl;have ae:=J Z;rw[ab] at aa ⊢;clear Z
   go_wp2
   go_loopw [14] (fun i wr=>∃ u:Nat,u<=1∧i=.int .i64 u∧Below w.heap.size w wr∧∀ (k:Nat) (x:List UInt8),k<u->([[38,38]]:List (List UInt8))[k]?=some x->(x == s.data.toList)=false) (fun i _=>1 - (intOf i).toNat)
   case atStart=>exact⟨0,by omega,rfl,HB.out,fun k x h=>by omega⟩
   case round=>
    obtain⟨u,hu,rfl,Y,V⟩:=hrel;have M:=J Y;have E:=J V;clear Y V
    by_cases K:u<1
    ·have hd:decide ((u:Int)<1)=true:=by simp;omega
     obtain⟨x,A⟩:∃ x,([[38,38]]:List (List UInt8))[u]?=some x:=⟨_,Yh (by simpa using K)⟩;have c:=ae.out u x A wr M;have D:Hid (((strU x).toList == s.toList)=(x == s.data.toList)):=by show _=_;rw[zdv,ByteArray.toList_eq]
     cases C:(x == s.data.toList)
     ·rw[C] at D;have af:((strU x).toList == s.toList)=false:=D.out;have N:Hid (∀ (k:Nat) (y:List UInt8),k<u+1->([[38,38]]:List (List UInt8))[k]?=some y->(y == s.data.toList)=false):=fun k y hk I=>by
       by_cases hku:k<u
       ·exact E k y hku I
       ·obtain rfl:k=u:=by omega
        rw[A] at I;injection I with I;rw[<-I,C]
      clear A C D E
      go_wp2
      exact⟨⟨u+1,by omega,by go_num,M.out,N.out⟩,by simp[intOf];omega⟩
     ·rw[C] at D;have af:((strU x).toList == s.toList)=true:=D.out;have HR:Hid (rowI s=1):=zg9 (i:=1) (l:=[[38,38]]) rfl (Ym A) C;clear A C D E
      go_wp2
      go_ret
      exact⟨by rw[HR.out];rfl,M.out⟩
    ·have hd:decide ((u:Int)<1)=false:=by simp;omega
     have N:Hid (∀ (i:Nat) (l:List (List UInt8)) (x:List UInt8),i<1+1->rowsL[i]?=some l->x ∈ l->(x == s.data.toList)=false):=fun k l x hk K A=>by
      by_cases hki:k<1
      ·exact HN k l x hki K A
      ·obtain rfl:k=1:=by omega
       obtain rfl:[[38,38]]=l:=by injection K
       obtain⟨j,X,ac⟩:=List.getElem_of_mem A;exact E j x (by have:j<1:=X;omega) (by rw[Yh X,ac])
     clear HN E
     go_wp2
     exact⟨⟨1+1,by omega,by go_num,M.out,N.out⟩,by simp[intOf]⟩
  ·obtain⟨b,o,ab,Z⟩:=HT.out 2 [[61,61],[33,61],[60],[60,61],[62],[62,61]] rfl wr HB;have aa:∀ W,(Instr.index 172 (.agg #[.slice (F 0).1 1 (F 0).2,.slice (F 1).1 1 (F 1).2,.slice (F 2).1 6 (F 2).2,.slice (F 3).1 2 (F 3).2,.slice (F 4).1 3 (F 4).2]) (.int .i64 2)).run Tryz.prog W=.ok (.slice (F 2).1 6 (F 2).2) W:=fun _=>rfl;have ae:=J Z;rw[ab] at aa ⊢;clear Z
   go_wp2
   go_loopw [14] (fun i wr=>∃ u:Nat,u<=6∧i=.int .i64 u∧Below w.heap.size w wr∧∀ (k:Nat) (x:List UInt8),k<u->([[61,61],[33,61],[60],[60,61],[62],[62,61]]:List (List UInt8))[k]?=some x->(x == s.data.toList)=false) (fun i _=>6 - (intOf i).toNat)
   case atStart=>exact⟨0,by omega,rfl,HB.out,fun k x h=>by omega⟩
   case round=>
    obtain⟨u,hu,rfl,Y,V⟩:=hrel;have M:=J Y;have E:=J V;clear Y V
    by_cases K:u<6
    ·have hd:decide ((u:Int)<6)=true:=by simp;omega
     obtain⟨x,A⟩:∃ x,([[61,61],[33,61],[60],[60,61],[62],[62,61]]:List (List UInt8))[u]?=some x:=⟨_,Yh (by simpa using K)⟩;have c:=ae.out u x A wr M;have D:Hid (((strU x).toList == s.toList)=(x == s.data.toList)):=by show _=_;rw[zdv,ByteArray.toList_eq]
     cases C:(x == s.data.toList)
     ·rw[C] at D;have af:((strU x).toList == s.toList)=false:=D.out;have N:Hid (∀ (k:Nat) (y:List UInt8),k<u+1->([[61,61],[33,61],[60],[60,61],[62],[62,61]]:List (List UInt8))[k]?=some y->(y == s.data.toList)=false):=fun k y hk I=>by
       by_cases hku:k<u
       ·exact E k y hku I
       ·obtain rfl:k=u:=by omega
        rw[A] at I;injection I with I;rw[<-I,C]
      clear A C D E
      go_wp2
      exact⟨⟨u+1,by omega,by go_num,M.out,N.out⟩,by simp[intOf];omega⟩
     ·rw[C] at D;have af:((strU x).toList == s.toList)=true:=D.out;have HR:Hid (rowI s=2):=zg9 (i:=2) (l:=[[61,61],[33,61],[60],[60,61],[62],[62,61]]) rfl (Ym A) C;clear A C D E
      go_wp2
      go_ret
      exact⟨by rw[HR.out];rfl,M.out⟩
    ·have hd:decide ((u:Int)<6)=false:=by simp;omega
     have N:Hid (∀ (i:Nat) (l:List (List UInt8)) (x:List UInt8),i<2+1->rowsL[i]?=some l->x ∈ l->(x == s.data.toList)=false):=fun k l x hk K A=>by
      by_cases hki:k<2
      ·exact HN k l x hki K A
      ·obtain rfl:k=2:=by omega
       obtain rfl:[[61,61],[33,61],[60],[60,61],[62],[62,61]]=l:=by injection K
       obtain⟨j,X,ac⟩:=List.getElem_of_mem A;exact E j x (by have:j<6:=X;omega) (by rw[Yh X,ac])
     clear HN E
     go_wp2
     exact⟨⟨2+1,by omega,by go_num,M.out,N.out⟩,by simp[intOf]⟩
  ·obtain⟨b,o,ab,Z⟩:=HT.out 3 [[43],[45]] rfl wr HB;have aa:∀ W,(Instr.index 172 (.agg #[.slice (F 0).1 1 (F 0).2,.slice (F 1).1 1 (F 1).2,.slice (F 2).1 6 (F 2).2,.slice (F 3).1 2 (F 3).2,.slice (F 4).1 3 (F 4).2]) (.int .i64 3)).run Tryz.prog W=.ok (.slice (F 3).1 2 (F 3).2) W:=fun _=>rfl;have ae:=J Z;rw[ab] at aa ⊢;clear Z
   go_wp2
   go_loopw [14] (fun i wr=>∃ u:Nat,u<=2∧i=.int .i64 u∧Below w.heap.size w wr∧∀ (k:Nat) (x:List UInt8),k<u->([[43],[45]]:List (List UInt8))[k]?=some x->(x == s.data.toList)=false) (fun i _=>2 - (intOf i).toNat)
   case atStart=>exact⟨0,by omega,rfl,HB.out,fun k x h=>by omega⟩
   case round=>
    obtain⟨u,hu,rfl,Y,V⟩:=hrel;have M:=J Y;have E:=J V;clear Y V
    by_cases K:u<2
    ·have hd:decide ((u:Int)<2)=true:=by simp;omega
     obtain⟨x,A⟩:∃ x,([[43],[45]]:List (List UInt8))[u]?=some x:=⟨_,Yh (by simpa using K)⟩;have c:=ae.out u x A wr M;have D:Hid (((strU x).toList == s.toList)=(x == s.data.toList)):=by show _=_;rw[zdv,ByteArray.toList_eq]
     cases C:(x == s.data.toList)
     ·rw[C] at D;have af:((strU x).toList == s.toList)=false:=D.out;have N:Hid (∀ (k:Nat) (y:List UInt8),k<u+1->([[43],[45]]:List (List UInt8))[k]?=some y->(y == s.data.toList)=false):=fun k y hk I=>by
       by_cases hku:k<u
       ·exact E k y hku I
       ·obtain rfl:k=u:=by omega
        rw[A] at I;injection I with I;rw[<-I,C]
      clear A C D E
      go_wp2
      exact⟨⟨u+1,by omega,by go_num,M.out,N.out⟩,by simp[intOf];omega⟩
     ·rw[C] at D;have af:((strU x).toList == s.toList)=true:=D.out;have HR:Hid (rowI s=3):=zg9 (i:=3) (l:=[[43],[45]]) rfl (Ym A) C;clear A C D E
      go_wp2
      go_ret
      exact⟨by rw[HR.out];rfl,M.out⟩
    ·have hd:decide ((u:Int)<2)=false:=by simp;omega
     have N:Hid (∀ (i:Nat) (l:List (List UInt8)) (x:List UInt8),i<3+1->rowsL[i]?=some l->x ∈ l->(x == s.data.toList)=false):=fun k l x hk K A=>by
      by_cases hki:k<3
      ·exact HN k l x hki K A
      ·obtain rfl:k=3:=by omega
       obtain rfl:[[43],[45]]=l:=by injection K
       obtain⟨j,X,ac⟩:=List.getElem_of_mem A;exact E j x (by have:j<2:=X;omega) (by rw[Yh X,ac])
     clear HN E
     go_wp2
     exact⟨⟨3+1,by omega,by go_num,M.out,N.out⟩,by simp[intOf]⟩
  ·obtain⟨b,o,ab,Z⟩:=HT.out 4 [[42],[47],[37]] rfl wr HB;have aa:∀ W,(Instr.index 172 (.agg #[.slice (F 0).1 1 (F 0).2,.slice (F 1).1 1 (F 1).2,.slice (F 2).1 6 (F 2).2,.slice (F 3).1 2 (F 3).2,.slice (F 4).1 3 (F 4).2]) (.int .i64 4)).run Tryz.prog W=.ok (.slice (F 4).1 3 (F 4).2) W:=fun _=>rfl;have ae:=J Z;rw[ab] at aa ⊢;clear Z
   go_wp2
   go_loopw [14] (fun i wr=>∃ u:Nat,u<=3∧i=.int .i64 u∧Below w.heap.size w wr∧∀ (k:Nat) (x:List UInt8),k<u->([[42],[47],[37]]:List (List UInt8))[k]?=some x->(x == s.data.toList)=false) (fun i _=>3 - (intOf i).toNat)
   case atStart=>exact⟨0,by omega,rfl,HB.out,fun k x h=>by omega⟩
   case round=>
    obtain⟨u,hu,rfl,Y,V⟩:=hrel;have M:=J Y;have E:=J V;clear Y V
    by_cases K:u<3
    ·have hd:decide ((u:Int)<3)=true:=by simp;omega
     obtain⟨x,A⟩:∃ x,([[42],[47],[37]]:List (List UInt8))[u]?=some x:=⟨_,Yh (by simpa using K)⟩;have c:=ae.out u x A wr M;have D:Hid (((strU x).toList == s.toList)=(x == s.data.toList)):=by show _=_;rw[zdv,ByteArray.toList_eq]
     cases C:(x == s.data.toList)
     ·rw[C] at D;have af:((strU x).toList == s.toList)=false:=D.out;have N:Hid (∀ (k:Nat) (y:List UInt8),k<u+1->([[42],[47],[37]]:List (List UInt8))[k]?=some y->(y == s.data.toList)=false):=fun k y hk I=>by
       by_cases hku:k<u
       ·exact E k y hku I
       ·obtain rfl:k=u:=by omega
        rw[A] at I;injection I with I;rw[<-I,C]
      clear A C D E
      go_wp2
      exact⟨⟨u+1,by omega,by go_num,M.out,N.out⟩,by simp[intOf];omega⟩
     ·rw[C] at D;have af:((strU x).toList == s.toList)=true:=D.out;have HR:Hid (rowI s=4):=zg9 (i:=4) (l:=[[42],[47],[37]]) rfl (Ym A) C;clear A C D E
      go_wp2
      go_ret
      exact⟨by rw[HR.out];rfl,M.out⟩
    ·have hd:decide ((u:Int)<3)=false:=by simp;omega
     have N:Hid (∀ (i:Nat) (l:List (List UInt8)) (x:List UInt8),i<4+1->rowsL[i]?=some l->x ∈ l->(x == s.data.toList)=false):=fun k l x hk K A=>by
      by_cases hki:k<4
      ·exact HN k l x hki K A
      ·obtain rfl:k=4:=by omega
       obtain rfl:[[42],[47],[37]]=l:=by injection K
       obtain⟨j,X,ac⟩:=List.getElem_of_mem A;exact E j x (by have:j<3:=X;omega) (by rw[Yh X,ac])
     clear HN E
     go_wp2
     exact⟨⟨4+1,by omega,by go_num,M.out,N.out⟩,by simp[intOf]⟩
structure ExpC (ts:List Tok) (T g:Nat) (st:Option Addr) (cap:Nat) (n:Nat):Prop where
 bin:∀ (w:World) (l p:Nat),l<=5->Rdr T w g st cap ts p->(fns ts n).bin l p≠.out->Calls Tryz.prog 155 #[.pointer (some ⟨g,0,none⟩),.int .i64 l] w (PtP T w g st cap ts ((fns ts n).bin l p))
 una:∀ (w:World) (p:Nat),Rdr T w g st cap ts p->(fns ts n).una p≠.out->Calls Tryz.prog 166 #[.pointer (some ⟨g,0,none⟩)] w (PtP T w g st cap ts ((fns ts n).una p))
 post:∀ (w:World) (p:Nat),Rdr T w g st cap ts p->(fns ts n).post p≠.out->Calls Tryz.prog 177 #[.pointer (some ⟨g,0,none⟩)] w (PtP T w g st cap ts ((fns ts n).post p))
 prim:∀ (w:World) (p:Nat),Rdr T w g st cap ts p->(fns ts n).prim p≠.out->Calls Tryz.prog 184 #[.pointer (some ⟨g,0,none⟩)] w (PtP T w g st cap ts ((fns ts n).prim p))
section
variable {T:Nat}{w:World}{g:Nat}{st:Option Addr}{cap:Nat}{ts:List Tok}{p:Nat}
theorem zfn {n:Nat}(h:ExpC ts T g st cap n)(hR:Rdr T w g st cap ts p)(ho:(fns ts n).bin 0 p≠.out):Calls Tryz.prog 135 #[.pointer (some ⟨g,0,none⟩)] w (PtP T w g st cap ts ((fns ts n).bin 0 p)):=by
 have K:=J hR;have N:=hR.hT;have U:=hR.hg;have F:Hid (w.grownBy w (some g)):=zby _ _;have I:=hR;clear hR;obtain⟨r,C⟩:∃ r,(fns ts n).bin 0 p=r:=⟨_,rfl⟩;have A:=h.bin w 0 p (by omega) I ho;rw[C] at A ⊢;have X:Hid ((fns ts n).bin 0 p=r):=C;clear C ho I K N U
 go_enter Tryz.func135,Tryz.ntmps135
 go_wp2_with fail
 refine((A).mono fun e W h=>PtP.from F h).mono ?_;rintro e W1 y;have D:=J y;clear F A;rcases r with⟨Z,V⟩ | s9|_
 ·obtain⟨-,Y,rfl,-⟩:=y
  go_wp2
  go_ret
  exact D
 ·obtain⟨-,E⟩:=y;have M:e=wroE s9:=E;subst M;clear E;unfold wroE at D ⊢
  go_wp2
  exact⟨rfl,D.out⟩
 ·exact y.2.elim
theorem zr0 {n:Nat}(h:ExpC ts T g st cap n)(hR:Rdr T w g st cap ts p)(ho:(fns ts (n+1)).prim p≠.out):Calls Tryz.prog 184 #[.pointer (some ⟨g,0,none⟩)] w (PtP T w g st cap ts ((fns ts (n+1)).prim p)):=by
 have ae:=J hR;have hT:=hR.hT;have ah:=hR.hg;have ak:Hid (w.grownBy w (some g)):=zby _ _;clear hR;obtain⟨r,hX⟩:∃ r,(fns ts (n+1)).prim p=r:=⟨_,rfl⟩;rw[hX] at ho ⊢;have al:Hid ((fns ts (n+1)).prim p=r):=hX;have X:=J ho;have aa:Hid ((if isT ts p [40] then((fns ts n).bin 0 (p+1)).bind fun t q=>expP ts [41] q fun q=>.ok t q else if namB ts p then leaP ts 23 p else va1P ts p)=r):=hX;clear hX ho al
 go_enter Tryz.func184,Tryz.ntmps184
 go_wp2_with fail
 refine(zew ⟨#[40]⟩ (by simp) ae.out).mono ?_;rintro e W1 ⟨he,D,r1⟩;obtain⟨A,y⟩:∃ A,isT ts p [40]=A:=⟨_,rfl⟩;rw[show isT ts p (⟨#[40]⟩:ByteArray).data.toList=A from y] at he r1;subst he;rw[y] at aa;have U:Hid (w.grownBy W1 (some g)):=D;clear D ak ae y
 cases A
 rotate_left
 ·have E:Hid _:=zbe rfl aa;have N:Hid (Rdr T W1 g st cap ts (p+1)):=r1;clear aa r1
  go_wp2_with fail
  refine(zfn h N (za1 E X)).mono ?_;rintro e W2 ⟨D,C⟩;rcases hx:(fns ts n).bin 0 (p+1) with⟨t2,Z⟩ | s2|_
  rotate_left
  ·rw[hx] at C;have ab:e=wroE s2:=C;subst ab;have F:Hid (PtP T w g st cap ts r (wroE s2) W2):=zap (zab U D) (zat hx E);clear E N U X;unfold wroE
   go_wp2
   exact⟨rfl,F.out⟩
  ·rw[hx] at C;exact C.elim
  rw[hx] at C;obtain⟨Y,rfl,af,r2⟩:=C;have I:Hid _:=za7 hx E;have K:=J (zab U D);have ac:Hid (PtAt W2 (fun j=>w.heap.size<=j∧j<W2.heap.size) Y t2):=af.wide U.out.size (Ya _);have M:Hid (Rdr T W2 g st cap ts Z):=r2;clear D af r2 hx E N U
  go_wp2_with fail
  refine(zbh ⟨#[41]⟩ (by simp) M.out).mono ?_;rintro e V ⟨D,ag⟩;have C:(if isT ts Z [41] then e=.returned (.tuple #[])∧Rdr T V g st cap ts (Z+1) else e=wroE (herI ts Z)):=ag;clear ag;obtain⟨A,y⟩:∃ A,isT ts Z [41]=A:=⟨_,rfl⟩;rw[y] at C
  cases A
  ·simp only[Bool.false_eq_true,if_false] at C;subst C;have F:Hid (PtP T w g st cap ts r (wroE (herI ts Z)) V):=zap (zab K D) (zdy y I);clear I M K X ac;unfold wroE
   go_wp2
   exact⟨rfl,F.out⟩
  simp only[if_true] at C;obtain⟨rfl,r3⟩:=C;have aj:=D.size;have F:Hid (PtP T w g st cap ts r (.returned (.pointer (some ⟨Y,0,none⟩))) V):=zbq (zab K D) (zc3 y I) ((ac.out.grow (Yg ah hT) (Ya _) D).wide (Ya _) aj) r3;clear I M K X ac D r3 y
  go_wp2
  go_ret
  exact F
 have E:Hid _:=zb1 rfl aa;have N:Hid (Rdr T W1 g st cap ts p):=r1;clear aa r1
 go_wp2_with fail
 refine(zg5 N).mono ?_;rintro e W2 ⟨rfl,Y⟩;have M:=J (N.out.low Y);have K:=J (zab U (zae Y));clear Y N U;obtain⟨A,y⟩:∃ A,namB ts p=A:=⟨_,rfl⟩;rw[y] at E ⊢
 cases A
 rotate_left
 ·have I:Hid _:=zbe rfl E;have hp:=zek y;clear E y
  go_wp2_with fail
  refine(zfm 23 M hp).mono ?_;rintro e V ⟨g3,b,v,rfl,hM,r3⟩;have F:Hid (PtP T w g st cap ts r (.returned (.pointer (some ⟨b,0,none⟩))) V):=zbq (zab K g3) I.out (hM.mono K.out.size).fin r3;clear I M K X hM g3 r3
  go_wp2
  go_ret
  exact F
 have I:Hid _:=zb1 rfl E;clear E y
 go_wp2_with fail
 refine((zgn M).mono fun e W h=>PtP.from K h).mono ?_;rintro e V hP;rw[I.out] at hP;have F:=J hP;clear I K M X;rcases r with⟨t9,q9⟩ | s9|_
 ·obtain⟨-,b9,rfl,-⟩:=hP
  go_wp2
  go_ret
  exact F
 ·obtain⟨-,ab⟩:=hP;have ai:e=wroE s9:=ab;subst ai;clear ab;unfold wroE at F ⊢
  go_wp2
  exact⟨rfl,F.out⟩
 ·exact hP.2.elim
theorem zvt {n:Nat}(h:ExpC ts T g st cap n)(hR:Rdr T w g st cap ts p)(ho:(fns ts (n+1)).una p≠.out):Calls Tryz.prog 166 #[.pointer (some ⟨g,0,none⟩)] w (PtP T w g st cap ts ((fns ts (n+1)).una p)):=by
 have aA:=J hR;have U:=hR.hT;have az:=hR.hg;have aJ:Hid (w.grownBy w (some g)):=zby _ _;clear hR;obtain⟨r,hX⟩:∃ r,(fns ts (n+1)).una p=r:=⟨_,rfl⟩;rw[hX] at ho ⊢;have aO:Hid ((fns ts (n+1)).una p=r):=hX;have HO:=J ho;have ab:Hid ((if isT ts p [45] || isT ts p [33] then((fns ts n).una (p+1)).bind fun u q=>.ok (.mk 26 (nxT ts p).text 0 (nxT ts p).pos (herI ts p) (behI ts q) [u]) q else(fns ts n).post p)=r):=hX;clear hX ho aO
 go_enter Tryz.func166,Tryz.ntmps166
 go_wp2_with fail
 refine(ze9 ⟨#[45]⟩ aA.out).mono ?_;rintro e W1 ⟨he,y⟩;obtain⟨Y,V⟩:∃ Y,isT ts p [45]=Y:=⟨_,rfl⟩;rw[show isT ts p (⟨#[45]⟩:ByteArray).data.toList=Y from V] at he;subst he;have af:=J (aA.out.low y);have ar:=J (zab aJ (zae y));clear y aA aJ;rw[V] at ab
 cases Y
 ·skip
  go_wp2_with fail
  refine(ze9 ⟨#[33]⟩ af.out).mono ?_;rintro e W2 ⟨he,y⟩;obtain⟨Y,V⟩:∃ Y,isT ts p [33]=Y:=⟨_,rfl⟩;rw[show isT ts p (⟨#[33]⟩:ByteArray).data.toList=Y from V] at he;subst he;have al:=J (af.out.low y);have aw:=J (zab ar (zae y));clear y af ar;rw[V] at ab
  cases Y
  ·have D:Hid _:=zb1 rfl ab;clear ab V
   go_wp2_with fail
   refine((h.post _ _ al (by rw[D.out];exact HO)).mono fun e W h=>PtP.from aw h).mono ?_;rintro e W3 hP;rw[D.out] at hP;have HP:=J hP;clear D aw al HO;rcases r with⟨t9,q9⟩ | s9|_
   ·obtain⟨-,b9,rfl,-⟩:=hP
    go_wp2
    go_ret
    exact HP
   ·obtain⟨-,ae⟩:=hP;have aM:e=wroE s9:=ae;subst aM;clear ae;unfold wroE at HP ⊢
    go_wp2
    exact⟨rfl,HP.out⟩
   ·exact hP.2.elim
  have D:Hid _:=zbe rfl ab;have hp:=zcx V (by simp);clear ab V
  go_wp2_with fail
  refine(zbp 26 al).mono ?_;rintro e aH ⟨ai,rfl,C,y⟩;have ap:Hid (Mk w.heap.size aH ai 26 ⟨#[]⟩ 0 (herI ts p) (herI ts p) 0 (.slice none 0 0) []):=C.mono aw.out.size;have ay:=J (zab aw (zae y));have av:=J (al.out.low y);clear C y aw al
  go_wp2_with fail
  refine(zf9 av hp).mono ?_;rintro e aB ⟨rfl,A,K⟩;have ax:=J (zab ay A);have am:=J (ap.out.grow (Yg az U) A);have ag:Hid (Rdr T aB g st cap ts (p+1)):=K;clear A K av ay ap
  go_wp2_with fail
  refine(zc7 (nxT ts p) am.out).mono ?_;rintro e M ⟨rfl,C,y⟩;have aa:=J C;have N:=J (zaw ax y);have X:=J (ag.out.below U y);clear C y am ax ag;have Z:Hid ((ai<M.heap.size∧∀ q,((.slice none 0 0):Value).ownBlock=some q->q<M.heap.size)∧w.heap.size<=M.heap.size∧g<M.heap.size):=⟨aa.out.at,N.out.size,X.out.lt⟩
  go_wp2_with fail
  refine(h.una _ _ X (za1 D HO)).mono ?_;rintro e I ⟨A,F⟩;rcases hx:(fns ts n).una (p+1) with⟨aC,aF⟩ | s26|_
  rotate_left
  ·rw[hx] at F;have ae:e=wroE s26:=F;subst ae;have HP:Hid (PtP T w g st cap ts r (wroE (s26)) I):=zap (zab N A) (zat hx D);clear N X D aa Z;unfold wroE
   go_wp2
   exact⟨rfl,HP.out⟩
  ·rw[hx] at F;exact F.elim
  rw[hx] at F;obtain⟨ah,rfl,an,K⟩:=F;have aG:Hid _:=za7 hx D;have aK:=A.size;have au:=J (zab N A);have ak:=J (aa.out.grow (Yg az U) A);have aq:=J an;have ac:Hid (Rdr T I g st cap ts aF):=K;clear A K an hx D X N aa
  go_wp2_with fail
  refine zag (fun W=>Below I.heap.size I W∧W.heap[I.heap.size]?=some (.cells #[.pointer (some ⟨ah,0,none⟩)] 93 (0,0))) ⟨(Yb _ _).alloc (Ya _) _,Yd _ _⟩ ?_;rintro aP ⟨E,ra⟩;refine(za9 (bs2:=[ah]) (l2:=[aC]) (S2:=fun j=>M.heap.size<=j∧j<I.heap.size) (ac.out.low E) U (ak.out.below E) (zar ra) (fun h=>by cases h) (PsAt.one (aq.out.low (Ya _) E)) (zcn Z.out.1 Z.out.2.1 E.size) (by simp)).mono ?_;rintro e aN ⟨rfl,⟨aL,C⟩,y⟩;have aI:=J C;have aj:=J (zab au (zae E));have ao:=J (ac.out.low E);have aD:=J (zaw aj y);have aE:=J (ao.out.below U y);clear C y E ra ak Z au ac aj ao aq
  go_wp2
  go_ret
  exact zbq aD aG aI.out.fin aE
 have D:Hid _:=zbe rfl ab;have hp:=zcx V (by simp);clear ab V
 go_wp2_with fail
 refine(zbp 26 af).mono ?_;rintro e aH ⟨ai,rfl,C,y⟩;have ap:Hid (Mk w.heap.size aH ai 26 ⟨#[]⟩ 0 (herI ts p) (herI ts p) 0 (.slice none 0 0) []):=C.mono ar.out.size;have ay:=J (zab ar (zae y));have av:=J (af.out.low y);clear C y ar af
 go_wp2_with fail
 refine(zf9 av hp).mono ?_;rintro e aB ⟨rfl,A,K⟩;have ax:=J (zab ay A);have am:=J (ap.out.grow (Yg az U) A);have ag:Hid (Rdr T aB g st cap ts (p+1)):=K;clear A K av ay ap
 go_wp2_with fail
 refine(zc7 (nxT ts p) am.out).mono ?_;rintro e M ⟨rfl,C,y⟩;have aa:=J C;have N:=J (zaw ax y);have X:=J (ag.out.below U y);clear C y am ax ag;have Z:Hid ((ai<M.heap.size∧∀ q,((.slice none 0 0):Value).ownBlock=some q->q<M.heap.size)∧w.heap.size<=M.heap.size∧g<M.heap.size):=⟨aa.out.at,N.out.size,X.out.lt⟩
 go_wp2_with fail
 refine(h.una _ _ X (za1 D HO)).mono ?_;rintro e I ⟨A,F⟩;rcases hx:(fns ts n).una (p+1) with⟨aC,aF⟩ | s26|_
 rotate_left
 ·rw[hx] at F;have ae:e=wroE s26:=F;subst ae;have HP:Hid (PtP T w g st cap ts r (wroE (s26)) I):=zap (zab N A) (zat hx D);clear N X D aa Z;unfold wroE
  go_wp2
  exact⟨rfl,HP.out⟩
 ·rw[hx] at F;exact F.elim
 rw[hx] at F;obtain⟨ah,rfl,an,K⟩:=F;have aG:Hid _:=za7 hx D;have aK:=A.size;have au:=J (zab N A);have ak:=J (aa.out.grow (Yg az U) A);have aq:=J an;have ac:Hid (Rdr T I g st cap ts aF):=K;clear A K an hx D X N aa
 go_wp2_with fail
 refine zag (fun W=>Below I.heap.size I W∧W.heap[I.heap.size]?=some (.cells #[.pointer (some ⟨ah,0,none⟩)] 93 (0,0))) ⟨(Yb _ _).alloc (Ya _) _,Yd _ _⟩ ?_;rintro aP ⟨E,ra⟩;refine(za9 (bs2:=[ah]) (l2:=[aC]) (S2:=fun j=>M.heap.size<=j∧j<I.heap.size) (ac.out.low E) U (ak.out.below E) (zar ra) (fun h=>by cases h) (PsAt.one (aq.out.low (Ya _) E)) (zcn Z.out.1 Z.out.2.1 E.size) (by simp)).mono ?_;rintro e aN ⟨rfl,⟨aL,C⟩,y⟩;have aI:=J C;have aj:=J (zab au (zae E));have ao:=J (ac.out.low E);have aD:=J (zaw aj y);have aE:=J (ao.out.below U y);clear C y E ra ak Z au ac aj ao aq
 go_wp2
 go_ret
 exact zbq aD aG aI.out.fin aE
end
end Go.Proofs.YtmclgbkijeidaaaGreatDoor
